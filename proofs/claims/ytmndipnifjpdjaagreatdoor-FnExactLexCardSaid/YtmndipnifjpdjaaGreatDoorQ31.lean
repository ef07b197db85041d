import Derived.BigRegion
import Derived.Test.YtmndipnifjpdjaaGreatDoorQ30
namespace Go.Proofs.YtmndipnifjpdjaaGreatDoor
open Go Go.RowKit
set_option linter.unusedVariables false
theorem DecAt.setNeg {w : World} {g : Nat} {D : Nat → Int} {nd dp : Int} {tr : Bool} (h : DecAt w g D nd dp tr) : DecAt (w.setCell ⟨g, 802, none⟩ (.bool false)) g D nd dp tr := {
  lt := by simpa using h.lt
  fr := fun k => by simpa using h.fr k
  dig := fun k hk => (World.cell?_setCell_other _ _ _ _ (addr_ne (by omega))).trans (h.dig k hk)
  nd := (World.cell?_setCell_other _ _ _ _ (addr_ne (by omega))).trans h.nd
  dp := (World.cell?_setCell_other _ _ _ _ (addr_ne (by omega))).trans h.dp
  neg := World.cell?_setCell_same _ _ _ h.neg
  tr := (World.cell?_setCell_other _ _ _ _ (addr_ne (by omega))).trans h.tr }
theorem DecAt.drew {w : World} {g : Nat} {D : Nat → Int} {nd dp : Int} {tr : Bool} (h : DecAt w g D nd dp tr) : DecAt w.drew g D nd dp tr :=
  ⟨h.lt, h.fr, h.dig, h.nd, h.dp, h.neg, h.tr⟩
def SetR (N b : Nat) (x : Int) (g : Nat) (w : World) (e : Ending) (w' : World) : Prop :=
  e = .returned (.bool true) ∧ ∃ D nd dp, DecAt w' g D (nd : Nat) dp false ∧ (dv D nd = N ∧ nd = size10 N ∧ OkDig D nd ∧ (nd ≠ 0 → D 0 ≠ 48) ∧ dp = (nd : Int) - b + x) ∧ Below g w w'
theorem Txt.k0 {s : ByteArray} {k b p : Nat} {ds : List Int} {x : Int} (h : Txt s k ds b p x) : 1 ≤ k := by
  rcases Nat.eq_zero_or_pos k with e | e
  · have h1 := h.scan
    rw [e] at h1
    have : ds = [] := by simp [dscan] at h1; exact h1.1
    exact absurd this h.ne
  · exact e
theorem isDP_cases {c : Int} (h : isDP c = true) : c = 46 ∨ (48 ≤ c ∧ c ≤ 57) := by
  unfold isDP isDigI at h
  rw [Bool.or_eq_true, decide_eq_true_eq, beq_iff_eq] at h
  rcases h with h | h
  · exact .inr h
  · exact .inl h
theorem dp_at {s : ByteArray} {k b p i : Nat} {ds : List Int} {x : Int} (h : Txt s k ds b p x) (hi : i < k) (hs : i < s.size) : ((s[i].toNat : Nat) : Int) = 46 ∨ (48 ≤ ((s[i].toNat : Nat) : Int) ∧ ((s[i].toNat : Nat) : Int) ≤ 57) := by
  have := h.dp i hi
  rw [bs_getD hs] at this
  exact isDP_cases this
theorem bq {x y : Int} (h : x ≠ y) : (x == y) = false := beq_eq_false_iff_ne.2 h
theorem eVal_next {s : ByteArray} {t q y : Nat} {e : Nat} (hy : y = t + q) (hlt : y < s.size) (he : e = eVal s t q) (hd : 48 ≤ ((s[y].toNat : Nat) : Int)) : (e : Int) * 10 + ((s[y].toNat : Nat) : Int) - 48 = ((eVal s t (q + 1) : Nat) : Int) := by
  subst hy
  rw [eVal_step hlt, he]
  omega
set_option maxHeartbeats 4000000 in
set_option maxRecDepth 100000 in
theorem set_any (s : ByteArray) (k b p g : Nat) (ds : List Int) (x : Int) (D0 : Nat → Int) (w : World) (hT : Txt s k ds b p x) (h : DecAt w g D0 ((0 : Nat) : Int) 0 false) :
    Calls Tryz.prog 280 #[.pointer (some ⟨g, 0, none⟩), .string s] w fun e w' => SetR (dval ds) b x g w e w' := by
  have HT := hide hT
  have hk0 := hT.k0
  have hk := hT.hk
  have hs := hT.hs
  have h0 : 0 < s.size := by omega
  have hc := dp_at hT (i := 0) (by omega) h0
  have e43 : (((s[0].toNat : Nat) : Int) == 43) = false := bq (by omega)
  have e45 : (((s[0].toNat : Nat) : Int) == 45) = false := bq (by omega)
  have Hc := hide hc
  have H := hide h
  have f0 := h.fr
  have c802 := h.neg
  have c803 := h.tr
  clear h hT hc
  have h0a : (0 : Int) < (s.size : Int) := by omega
  have h0b : ¬ s.size = 0 := by omega
  go_enter Tryz.func280, Tryz.ntmps280
  go_wp2
  clear e43 e45 h0b
  go_loopw [5, 6, 7] (fun iv dv' gv wr => ∃ (i b' p' nd : Nat) (ds' : List Int) (D : Nat → Int) (dp : Int), i ≤ k ∧ iv = .int .i64 i ∧ dv' = .bool (decide (p' = 1)) ∧ gv = .bool (decide (ds' ≠ [])) ∧ Hid (dscan ((bs s).take i) = (ds', b', p')) ∧ Hid (SetS (dval ds') b' p' i D nd dp) ∧ DecAt wr g D nd dp false ∧ Below g w wr) (fun iv _ _ _ => s.size - (intOf iv).toNat)
  case atStart => exact ⟨0, 0, 0, 0, [], D0, 0, Nat.zero_le _, rfl, rfl, rfl, hide rfl, hide (SetS.start _), (H.out.setNeg).setTr false, ((Below.refl g w).setCell (Nat.le_refl _) _).setCell (Nat.le_refl _) _⟩
  case round =>
    clear f0 c802 c803 H Hc
    obtain ⟨i, b', p', nd, ds', D, dp, hi, rfl, rfl, rfl, Hsc, HS, hd, hbw⟩ := hrel
    have Hd := hide hd
    have Hbw := hide hbw
    clear hd hbw
    have c0 := Hd.out.nd
    have c9 := Hd.out.dp
    have f0 := Hd.out.fr
    have hpi := HT.out.pi hi Hsc.out
    have hlo := HS.out.lo
    have hhi := HS.out.hi
    have hle := HS.out.le
    by_cases hik : i < k
    · have his : i < s.size := by omega
      have hisI : (i : Int) < (s.size : Int) := by omega
      have hc := dp_at HT.out hik his
      have e95 : (((s[i].toNat : Nat) : Int) == 95) = false := bq (by omega)
      by_cases hpt : ((s[i].toNat : Nat) : Int) = 46
      · have e46 : (((s[i].toNat : Nat) : Int) == 46) = true := by rw [hpt]; rfl
        have hsc := scan_point his Hsc.out hpt
        have hp0 := (HT.out.pi (i := i + 1) (by omega) hsc).1
        have hp' : p' = 0 := by omega
        have hb' : b' = 0 := hpi.2 hp'
        subst hp' hb'
        have HS' := hide HS.out.point
        have Hsc' := hide hsc
        clear hsc hpt hc
        go_wp2
        go_roundw
        case rel => exact ⟨i + 1, 0, 1, nd, ds', D, nd, by omega, by go_num, rfl, rfl, Hsc', HS', Hd.out.setDp nd, Hbw.out.setCell (Nat.le_refl _) _⟩
        case measure => simp [intOf]; omega
      · have e46 : (((s[i].toNat : Nat) : Int) == 46) = false := bq hpt
        obtain ⟨hx1, hx2⟩ : 48 ≤ ((s[i].toNat : Nat) : Int) ∧ ((s[i].toNat : Nat) : Int) ≤ 57 := by omega
        have hsc := scan_dig his Hsc.out (by show isDigI _ = true; unfold isDigI; rw [decide_eq_true_eq]; exact ⟨hx1, hx2⟩)
        have Hsc' := hide hsc
        have Hv := hide (dval_snoc ds' ((s[i].toNat : Nat) : Int))
        have hne : decide (ds' ++ [((s[i].toNat : Nat) : Int)] ≠ []) = true := by simp
        have Hne := hide hne
        clear hsc hc hpt hne
        by_cases hz : nd = 0 ∧ ((s[i].toNat : Nat) : Int) = 48
        · obtain ⟨hz1, hz2⟩ := hz
          subst hz1
          have e48 : (((s[i].toNat : Nat) : Int) == 48) = true := by rw [hz2]; rfl
          have HS' : Hid (SetS (dval (ds' ++ [((s[i].toNat : Nat) : Int)])) (b' + p') p' (i + 1) D 0 (dp - 1)) := hide (by
            rw [Hv.out, hz2]; exact HS.out.zero hpi.1)
          clear hz2
          go_wp2
          go_roundw
          case rel => exact ⟨i + 1, b' + p', p', 0, _, D, dp - 1, by omega, by go_num, rfl, by rw [Hne.out], Hsc', HS', Hd.out.setDp (dp - 1), Hbw.out.setCell (Nat.le_refl _) _⟩
          case measure => simp [intOf]; omega
        · have HS' : Hid (SetS (dval (ds' ++ [((s[i].toNat : Nat) : Int)])) (b' + p') p' (i + 1) (updD D nd ((s[i].toNat : Nat) : Int)) (nd + 1) dp) := hide (by
            rw [Hv.out]; exact HS.out.put hpi.1 hx1 hx2 (by omega))
          have hn8 : (nd : Int) < 800 := by omega
          have cW := Hd.out.dig nd (by omega)
          by_cases e48' : ((s[i].toNat : Nat) : Int) = 48
          · have e48 : (((s[i].toNat : Nat) : Int) == 48) = true := by rw [e48']; rfl
            have en : ((nd : Int) == 0) = false := bq (by omega)
            clear hz e48'
            go_wp2
            go_region
            have hd3 := (Hd.out.setDig (k := nd) (by omega) ((s[i].toNat : Nat) : Int)).drew
            have hb3 : Below g w ((wr.setCell ⟨g, nd, none⟩ (.int .u8 ((s[i].toNat : Nat) : Int))).drew) := (Hbw.out.setCell (Nat.le_refl _) _).drew
            generalize ((wr.setCell ⟨g, nd, none⟩ (.int .u8 ((s[i].toNat : Nat) : Int))).drew) = w3 at *
            clear c0 c9 f0 cW
            have c0 := hd3.nd
            have f0 := hd3.fr
            have Hd3 := hide hd3
            have Hb3 := hide hb3
            clear hd3 hb3
            go_wp2
            go_roundw
            case rel => exact ⟨i + 1, b' + p', p', nd + 1, _, _, dp, by omega, by go_num, rfl, by rw [Hne.out], Hsc', HS', Hd3.out.setNd ((nd : Int) + 1), Hb3.out.setCell (Nat.le_refl _) _⟩
            case measure => simp [intOf]; omega
          · have e48 : (((s[i].toNat : Nat) : Int) == 48) = false := bq e48'
            clear hz e48'
            go_wp2
            go_region
            have hd3 := (Hd.out.setDig (k := nd) (by omega) ((s[i].toNat : Nat) : Int)).drew
            have hb3 : Below g w ((wr.setCell ⟨g, nd, none⟩ (.int .u8 ((s[i].toNat : Nat) : Int))).drew) := (Hbw.out.setCell (Nat.le_refl _) _).drew
            generalize ((wr.setCell ⟨g, nd, none⟩ (.int .u8 ((s[i].toNat : Nat) : Int))).drew) = w3 at *
            clear c0 c9 f0 cW
            have c0 := hd3.nd
            have f0 := hd3.fr
            have Hd3 := hide hd3
            have Hb3 := hide hb3
            clear hd3 hb3
            go_wp2
            go_roundw
            case rel => exact ⟨i + 1, b' + p', p', nd + 1, _, _, dp, by omega, by go_num, rfl, by rw [Hne.out], Hsc', HS', Hd3.out.setNd ((nd : Int) + 1), Hb3.out.setCell (Nat.le_refl _) _⟩
            case measure => simp [intOf]; omega
    · have hik' : i = k := by omega
      subst hik'
      have hsc := Hsc.out
      rw [HT.out.scan] at hsc
      obtain ⟨rfl, rfl, rfl⟩ : ds = ds' ∧ b = b' ∧ p = p' := by
        have h1 := congrArg Prod.fst hsc
        have h2 := congrArg Prod.snd hsc
        exact ⟨h1, congrArg Prod.fst h2, congrArg Prod.snd h2⟩
      have hg : decide (ds ≠ []) = true := by simp [HT.out.ne]
      have Hpi := hide hpi
      have hex := HT.out.ex
      clear hsc Hsc hpi
      rcases hex with ⟨hex, hx0⟩ | ⟨hex, hx0⟩
      · have HexI : (i : Int) = (s.size : Int) := by omega
        by_cases hp0 : p = 0
        · have hpd : decide (p = 1) = false := by simp; omega
          have Hp0 := hide hp0
          clear hp0 hik
          go_wp2
          go_ret
          refine ⟨rfl, D, nd, nd, Hd.out.setDp nd, ⟨HS.out.v, HS.out.n, HS.out.ok, HS.out.head, ?_⟩, Hbw.out.setCell (Nat.le_refl _) _⟩
          have := Hpi.out.2 Hp0.out
          omega
        · have hp1 : p = 1 := by have := Hpi.out.1; omega
          have hpd : decide (p = 1) = true := by simp; omega
          have Hp1 := hide hp1
          clear hp0 hik hp1
          go_wp2
          go_ret
          refine ⟨rfl, D, nd, dp, Hd.out, ⟨HS.out.v, HS.out.n, HS.out.ok, HS.out.head, ?_⟩, Hbw.out⟩
          have := HS.out.dpp Hp1.out
          omega
      · obtain ⟨hce, v, hcase⟩ := exp_cases hx0
        rw [bs_getD hex] at hce
        have HexI : (i : Int) < (s.size : Int) := by omega
        have e95 : (((s[i].toNat : Nat) : Int) == 95) = false := bq (by omega)
        have e46 : (((s[i].toNat : Nat) : Int) == 46) = false := bq (by omega)
        have e57 : (57 : Int) < ((s[i].toNat : Nat) : Int) := by omega
        have eE : bits .or .u8 ((s[i].toNat : Nat) : Int) 32 = 101 := by
          rcases hce with h | h
          · rw [h]; decide
          · rw [h]; decide
        clear hce hx0 hik
        rcases hcase with ⟨q1, q2, q3⟩ | ⟨q1, q2, q3⟩ | ⟨q1, q1', q2, q3⟩
        · have ht := q3.lt
          have hts := q3.le
          have ht1 : i + 1 < s.size := by omega
          rw [bs_getD ht1] at q1
          have s45 : (((s[i + 1].toNat : Nat) : Int) == 45) = true := by rw [q1]; rfl
          have s43 : (((s[i + 1].toNat : Nat) : Int) == 43) = false := bq (by omega)
          have hd0 := q3.dig (i + 2) (Nat.le_refl _) ht
          rw [bs_getD ht] at hd0
          obtain ⟨d1, d2⟩ := hd0
          have htI : (i : Int) + 1 < (s.size : Int) := by omega
          have hti : ((i : Int) + 1).toNat = i + 1 := by omega
          have htI2 : (i : Int) + 1 + 1 < (s.size : Int) := by omega
          have hti2 : ((i : Int) + 1 + 1).toNat = i + 2 := by omega
          have htI3 : (i : Int) + 2 < (s.size : Int) := by omega
          have hti3 : ((i : Int) + 2).toNat = i + 2 := by omega
          have Q3 := hide q3
          clear q1 q3
          by_cases hp0 : p = 0
          · have hpd : decide (p = 1) = false := by simp; omega
            have Hp0 := hide hp0
            clear hp0
            have Hc1 := hide (World.cell?_setCell_same wr ⟨g, 801, none⟩ (.int .i64 (nd : Int)) c9)
            go_wp2
            go_loop [5, 9] (fun iv ev => ∃ (y q e : Nat), iv = .int .i64 y ∧ ev = .int .i64 e ∧ Hid (y = i + 2 + q) ∧ y ≤ s.size ∧ Hid (e = eVal s (i + 2) q)) (fun iv _ => s.size - (intOf iv).toNat)
            case atStart => exact ⟨i + 2, 0, 0, by go_num, rfl, hide (by omega), by omega, hide rfl⟩
            case round =>
              obtain ⟨y, q, e, rfl, rfl, Hy, hys, He⟩ := hrel
              have hes : e < 1000 := by rw [He.out]; exact eVal_small Q3.out (by have := Hy.out; omega)
              by_cases hlt : y < s.size
              · have hltI : (y : Int) < (s.size : Int) := by omega
                have hdy := Q3.out.dig y (by have := Hy.out; omega) hlt
                rw [bs_getD hlt] at hdy
                obtain ⟨y1, y2⟩ := hdy
                have y95 : (((s[y].toNat : Nat) : Int) == 95) = false := bq (by omega)
                have hne := eVal_next Hy.out hlt He.out y1
                have Hne := hide hne
                clear hne
                go_wp2
                go_round
                case rel => exact ⟨y + 1, q + 1, eVal s (i + 2) (q + 1), by go_num, by rw [← Hne.out], hide (by have := Hy.out; omega), by omega, hide rfl⟩
                case measure => simp [intOf]; omega
              · have hyE : (y : Int) = (s.size : Int) := by omega
                have HeV : Hid (e = v) := hide (by rw [He.out]; exact eVal_end Q3.out (by have := Hy.out; omega))
                go_wp2
                go_ret
                refine ⟨rfl, D, nd, (nd : Int) - e, (Hd.out.setDp nd).setDp ((nd : Int) - e), ⟨HS.out.v, HS.out.n, HS.out.ok, HS.out.head, ?_⟩, (Hbw.out.setCell (Nat.le_refl _) _).setCell (Nat.le_refl _) _⟩
                have := Hpi.out.2 Hp0.out
                have := HeV.out
                omega
          · have hp1 : p = 1 := by have := Hpi.out.1; omega
            have hpd : decide (p = 1) = true := by simp; omega
            have Hp1 := hide hp1
            clear hp0 hp1
            go_wp2
            go_loop [5, 9] (fun iv ev => ∃ (y q e : Nat), iv = .int .i64 y ∧ ev = .int .i64 e ∧ Hid (y = i + 2 + q) ∧ y ≤ s.size ∧ Hid (e = eVal s (i + 2) q)) (fun iv _ => s.size - (intOf iv).toNat)
            case atStart => exact ⟨i + 2, 0, 0, by go_num, rfl, hide (by omega), by omega, hide rfl⟩
            case round =>
              obtain ⟨y, q, e, rfl, rfl, Hy, hys, He⟩ := hrel
              have hes : e < 1000 := by rw [He.out]; exact eVal_small Q3.out (by have := Hy.out; omega)
              by_cases hlt : y < s.size
              · have hltI : (y : Int) < (s.size : Int) := by omega
                have hdy := Q3.out.dig y (by have := Hy.out; omega) hlt
                rw [bs_getD hlt] at hdy
                obtain ⟨y1, y2⟩ := hdy
                have y95 : (((s[y].toNat : Nat) : Int) == 95) = false := bq (by omega)
                have hne := eVal_next Hy.out hlt He.out y1
                have Hne := hide hne
                clear hne
                go_wp2
                go_round
                case rel => exact ⟨y + 1, q + 1, eVal s (i + 2) (q + 1), by go_num, by rw [← Hne.out], hide (by have := Hy.out; omega), by omega, hide rfl⟩
                case measure => simp [intOf]; omega
              · have hyE : (y : Int) = (s.size : Int) := by omega
                have HeV : Hid (e = v) := hide (by rw [He.out]; exact eVal_end Q3.out (by have := Hy.out; omega))
                go_wp2
                go_ret
                refine ⟨rfl, D, nd, dp - e, Hd.out.setDp (dp - e), ⟨HS.out.v, HS.out.n, HS.out.ok, HS.out.head, ?_⟩, Hbw.out.setCell (Nat.le_refl _) _⟩
                have := HS.out.dpp Hp1.out
                have := HeV.out
                omega
        · have ht := q3.lt
          have hts := q3.le
          have ht1 : i + 1 < s.size := by omega
          rw [bs_getD ht1] at q1
          have s43 : (((s[i + 1].toNat : Nat) : Int) == 43) = true := by rw [q1]; rfl
          have hd0 := q3.dig (i + 2) (Nat.le_refl _) ht
          rw [bs_getD ht] at hd0
          obtain ⟨d1, d2⟩ := hd0
          have htI : (i : Int) + 1 < (s.size : Int) := by omega
          have hti : ((i : Int) + 1).toNat = i + 1 := by omega
          have htI2 : (i : Int) + 1 + 1 < (s.size : Int) := by omega
          have hti2 : ((i : Int) + 1 + 1).toNat = i + 2 := by omega
          have htI3 : (i : Int) + 2 < (s.size : Int) := by omega
          have hti3 : ((i : Int) + 2).toNat = i + 2 := by omega
          have Q3 := hide q3
          clear q1 q3
          by_cases hp0 : p = 0
          · have hpd : decide (p = 1) = false := by simp; omega
            have Hp0 := hide hp0
            clear hp0
            have Hc1 := hide (World.cell?_setCell_same wr ⟨g, 801, none⟩ (.int .i64 (nd : Int)) c9)
            go_wp2
            go_loop [5, 9] (fun iv ev => ∃ (y q e : Nat), iv = .int .i64 y ∧ ev = .int .i64 e ∧ Hid (y = i + 2 + q) ∧ y ≤ s.size ∧ Hid (e = eVal s (i + 2) q)) (fun iv _ => s.size - (intOf iv).toNat)
            case atStart => exact ⟨i + 2, 0, 0, by go_num, rfl, hide (by omega), by omega, hide rfl⟩
            case round =>
              obtain ⟨y, q, e, rfl, rfl, Hy, hys, He⟩ := hrel
              have hes : e < 1000 := by rw [He.out]; exact eVal_small Q3.out (by have := Hy.out; omega)
              by_cases hlt : y < s.size
              · have hltI : (y : Int) < (s.size : Int) := by omega
                have hdy := Q3.out.dig y (by have := Hy.out; omega) hlt
                rw [bs_getD hlt] at hdy
                obtain ⟨y1, y2⟩ := hdy
                have y95 : (((s[y].toNat : Nat) : Int) == 95) = false := bq (by omega)
                have hne := eVal_next Hy.out hlt He.out y1
                have Hne := hide hne
                clear hne
                go_wp2
                go_round
                case rel => exact ⟨y + 1, q + 1, eVal s (i + 2) (q + 1), by go_num, by rw [← Hne.out], hide (by have := Hy.out; omega), by omega, hide rfl⟩
                case measure => simp [intOf]; omega
              · have hyE : (y : Int) = (s.size : Int) := by omega
                have HeV : Hid (e = v) := hide (by rw [He.out]; exact eVal_end Q3.out (by have := Hy.out; omega))
                go_wp2
                go_ret
                refine ⟨rfl, D, nd, (nd : Int) + e, (Hd.out.setDp nd).setDp ((nd : Int) + e), ⟨HS.out.v, HS.out.n, HS.out.ok, HS.out.head, ?_⟩, (Hbw.out.setCell (Nat.le_refl _) _).setCell (Nat.le_refl _) _⟩
                have := Hpi.out.2 Hp0.out
                have := HeV.out
                omega
          · have hp1 : p = 1 := by have := Hpi.out.1; omega
            have hpd : decide (p = 1) = true := by simp; omega
            have Hp1 := hide hp1
            clear hp0 hp1
            go_wp2
            go_loop [5, 9] (fun iv ev => ∃ (y q e : Nat), iv = .int .i64 y ∧ ev = .int .i64 e ∧ Hid (y = i + 2 + q) ∧ y ≤ s.size ∧ Hid (e = eVal s (i + 2) q)) (fun iv _ => s.size - (intOf iv).toNat)
            case atStart => exact ⟨i + 2, 0, 0, by go_num, rfl, hide (by omega), by omega, hide rfl⟩
            case round =>
              obtain ⟨y, q, e, rfl, rfl, Hy, hys, He⟩ := hrel
              have hes : e < 1000 := by rw [He.out]; exact eVal_small Q3.out (by have := Hy.out; omega)
              by_cases hlt : y < s.size
              · have hltI : (y : Int) < (s.size : Int) := by omega
                have hdy := Q3.out.dig y (by have := Hy.out; omega) hlt
                rw [bs_getD hlt] at hdy
                obtain ⟨y1, y2⟩ := hdy
                have y95 : (((s[y].toNat : Nat) : Int) == 95) = false := bq (by omega)
                have hne := eVal_next Hy.out hlt He.out y1
                have Hne := hide hne
                clear hne
                go_wp2
                go_round
                case rel => exact ⟨y + 1, q + 1, eVal s (i + 2) (q + 1), by go_num, by rw [← Hne.out], hide (by have := Hy.out; omega), by omega, hide rfl⟩
                case measure => simp [intOf]; omega
              · have hyE : (y : Int) = (s.size : Int) := by omega
                have HeV : Hid (e = v) := hide (by rw [He.out]; exact eVal_end Q3.out (by have := Hy.out; omega))
                go_wp2
                go_ret
                refine ⟨rfl, D, nd, dp + e, Hd.out.setDp (dp + e), ⟨HS.out.v, HS.out.n, HS.out.ok, HS.out.head, ?_⟩, Hbw.out.setCell (Nat.le_refl _) _⟩
                have := HS.out.dpp Hp1.out
                have := HeV.out
                omega
        · have ht := q3.lt
          have hts := q3.le
          rw [bs_getD ht] at q1 q1'
          have s45 : (((s[i + 1].toNat : Nat) : Int) == 45) = false := bq q1
          have s43 : (((s[i + 1].toNat : Nat) : Int) == 43) = false := bq q1'
          have hd0 := q3.dig (i + 1) (Nat.le_refl _) ht
          rw [bs_getD ht] at hd0
          obtain ⟨d1, d2⟩ := hd0
          have htI : (i : Int) + 1 < (s.size : Int) := by omega
          have hti : ((i : Int) + 1).toNat = i + 1 := by omega
          have Q3 := hide q3
          clear q1 q1' q3
          by_cases hp0 : p = 0
          · have hpd : decide (p = 1) = false := by simp; omega
            have Hp0 := hide hp0
            clear hp0
            have Hc1 := hide (World.cell?_setCell_same wr ⟨g, 801, none⟩ (.int .i64 (nd : Int)) c9)
            go_wp2
            go_loop [5, 9] (fun iv ev => ∃ (y q e : Nat), iv = .int .i64 y ∧ ev = .int .i64 e ∧ Hid (y = i + 1 + q) ∧ y ≤ s.size ∧ Hid (e = eVal s (i + 1) q)) (fun iv _ => s.size - (intOf iv).toNat)
            case atStart => exact ⟨i + 1, 0, 0, by go_num, rfl, hide (by omega), by omega, hide rfl⟩
            case round =>
              obtain ⟨y, q, e, rfl, rfl, Hy, hys, He⟩ := hrel
              have hes : e < 1000 := by rw [He.out]; exact eVal_small Q3.out (by have := Hy.out; omega)
              by_cases hlt : y < s.size
              · have hltI : (y : Int) < (s.size : Int) := by omega
                have hdy := Q3.out.dig y (by have := Hy.out; omega) hlt
                rw [bs_getD hlt] at hdy
                obtain ⟨y1, y2⟩ := hdy
                have y95 : (((s[y].toNat : Nat) : Int) == 95) = false := bq (by omega)
                have hne := eVal_next Hy.out hlt He.out y1
                have Hne := hide hne
                clear hne
                go_wp2
                go_round
                case rel => exact ⟨y + 1, q + 1, eVal s (i + 1) (q + 1), by go_num, by rw [← Hne.out], hide (by have := Hy.out; omega), by omega, hide rfl⟩
                case measure => simp [intOf]; omega
              · have hyE : (y : Int) = (s.size : Int) := by omega
                have HeV : Hid (e = v) := hide (by rw [He.out]; exact eVal_end Q3.out (by have := Hy.out; omega))
                go_wp2
                go_ret
                refine ⟨rfl, D, nd, (nd : Int) + e, (Hd.out.setDp nd).setDp ((nd : Int) + e), ⟨HS.out.v, HS.out.n, HS.out.ok, HS.out.head, ?_⟩, (Hbw.out.setCell (Nat.le_refl _) _).setCell (Nat.le_refl _) _⟩
                have := Hpi.out.2 Hp0.out
                have := HeV.out
                omega
          · have hp1 : p = 1 := by have := Hpi.out.1; omega
            have hpd : decide (p = 1) = true := by simp; omega
            have Hp1 := hide hp1
            clear hp0 hp1
            go_wp2
            go_loop [5, 9] (fun iv ev => ∃ (y q e : Nat), iv = .int .i64 y ∧ ev = .int .i64 e ∧ Hid (y = i + 1 + q) ∧ y ≤ s.size ∧ Hid (e = eVal s (i + 1) q)) (fun iv _ => s.size - (intOf iv).toNat)
            case atStart => exact ⟨i + 1, 0, 0, by go_num, rfl, hide (by omega), by omega, hide rfl⟩
            case round =>
              obtain ⟨y, q, e, rfl, rfl, Hy, hys, He⟩ := hrel
              have hes : e < 1000 := by rw [He.out]; exact eVal_small Q3.out (by have := Hy.out; omega)
              by_cases hlt : y < s.size
              · have hltI : (y : Int) < (s.size : Int) := by omega
                have hdy := Q3.out.dig y (by have := Hy.out; omega) hlt
                rw [bs_getD hlt] at hdy
                obtain ⟨y1, y2⟩ := hdy
                have y95 : (((s[y].toNat : Nat) : Int) == 95) = false := bq (by omega)
                have hne := eVal_next Hy.out hlt He.out y1
                have Hne := hide hne
                clear hne
                go_wp2
                go_round
                case rel => exact ⟨y + 1, q + 1, eVal s (i + 1) (q + 1), by go_num, by rw [← Hne.out], hide (by have := Hy.out; omega), by omega, hide rfl⟩
                case measure => simp [intOf]; omega
              · have hyE : (y : Int) = (s.size : Int) := by omega
                have HeV : Hid (e = v) := hide (by rw [He.out]; exact eVal_end Q3.out (by have := Hy.out; omega))
                go_wp2
                go_ret
                refine ⟨rfl, D, nd, dp + e, Hd.out.setDp (dp + e), ⟨HS.out.v, HS.out.n, HS.out.ok, HS.out.head, ?_⟩, Hbw.out.setCell (Nat.le_refl _) _⟩
                have := HS.out.dpp Hp1.out
                have := HeV.out
                omega
end Go.Proofs.YtmndipnifjpdjaaGreatDoor
