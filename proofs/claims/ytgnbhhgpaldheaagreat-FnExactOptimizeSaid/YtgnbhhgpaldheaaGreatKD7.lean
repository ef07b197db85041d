import Derived.Test.YtgnbhhgpaldheaaGreatKD4
import Derived.Deep.RegionLaw
namespace Go.Proofs.YtgnbhhgpaldheaaGreat
open Go Go.RowKit
set_option linter.unusedVariables false
theorem awy_cases (o : Int) : (awy o = true ∧ ((o != 25) = false ∨ ((o != 25) = true ∧ (o != 30) = false) ∨ ((o != 25) = true ∧ (o != 30) = true ∧ (o != 29) = false))) ∨ (awy o = false ∧ (o != 25) = true ∧ (o != 30) = true ∧ (o != 29) = true) := by
  unfold awy
  by_cases h1 : o = 25
  · subst h1; left; exact ⟨rfl, .inl rfl⟩
  by_cases h2 : o = 30
  · subst h2; left; exact ⟨rfl, .inr (.inl ⟨rfl, rfl⟩)⟩
  by_cases h3 : o = 29
  · subst h3; left; exact ⟨rfl, .inr (.inr ⟨rfl, rfl, rfl⟩)⟩
  right
  simp [h1, h2, h3]
set_option maxHeartbeats 3200000 in
set_option maxRecDepth 100000 in
theorem reached_any (v : Value) (n : Nat) (i0 i1 i2 i3 : Nat → Int) (w : World) (hn : n ≤ 1048576) (h : InsA w v n i0 i1 i2 i3) (hok : (cfI n i0 i1 i2).Ok) (hpos : ∀ k, k < n → jmp (i0 k) = true → 0 ≤ i2 k) :
    Calls Tryz.prog 32 #[v] w fun e w' => ∃ (g : Nat) (s : Nat → Bool), e = .returned (.slice (some ⟨g, 0, none⟩) n n) ∧ w.heap.size ≤ g ∧ (∀ k, s k = true ↔ (cfI n i0 i1 i2).R k) ∧ BoolO w' g n s ∧ Below w.heap.size w w' := by
  obtain ⟨c, hc⟩ : ∃ c, cfI n i0 i1 i2 = c := ⟨_, rfl⟩
  have hop : c.op = i0 := by rw [← hc]; rfl
  have hbb : c.b = fun k => (i2 k).toNat := by rw [← hc]; rfl
  have hcn : c.n = n := by rw [← hc]; rfl
  have hlf : ∀ z, z < c.n → c.lf z = true := fun z _ => by rw [← hc]; rfl
  rw [hc] at hok ⊢
  have HSb := hide (And.intro hop (And.intro hbb (And.intro hcn hlf)))
  have HOk := hide hok
  have HPos := hide hpos
  have HA := hide h
  obtain ⟨a, cap, rfl⟩ := h.val
  clear hop hbb hcn hlf hok hpos h hc
  obtain ⟨i9, hi0, hz0, hz1, hz2⟩ := info_parts Tryz.info4
  go_enter Tryz.func32, Tryz.ntmps32
  go_wp2_with (first
      | (at_make; refine wpList_make_full _ rfl _ _ 49 rfl w.heap.size 4 i9 (.bool false) 1 Tryz.underlying49 hi0 hz0 hz1 _ _ _ _ n rfl rfl rfl rfl (by rw [hz2]; omega) (by unfold maxLen; omega) (Nat.le_refl _) ?_; intro w1 hown hgrow)
      | go_in)
  have HB1 := hide ((Below.refl _ _).grown hgrow (Nat.le_refl _) (fun _ h => by cases h) : Below w.heap.size w w1)
  have HS0 : Hid (BoolO w1 w.heap.size n (fun _ => false)) := hide ((rowF_owns hown).congr (fun j hj => by
    rw [Nat.mul_one] at hj ⊢
    exact made_bool n hj))
  have HL1 := hide (HS0.out.lt)
  have HS1 := hide (show BoolO (w1.alloc (.cells #[.int .i64 0] 3)) w.heap.size n (fun _ => false) from HS0.out.low (b_1 _ _) HL1.out)
  have HT1 : Hid ((w1.alloc (.cells #[.int .i64 0] 3)).ownsRow w.heap.size 3 1 (.slice (some ⟨w1.heap.size, 0, none⟩) 1 1) 1 (natC [0])) := hide ⟨by simp [natC], .inr ⟨w1.heap.size, 1, #[.int .i64 0], rfl, HB1.out.size, heap_alloc_new w1 _, Nat.le_refl _, by unfold maxLen; omega, by simp, by simp [natC]⟩⟩
  have HB2 := hide (HB1.out.alloc HB1.out.size (.cells #[.int .i64 0] 3))
  have HR0 : Hid (RcS c (fun _ => false) [0]) := hide (by
    have := RcS.start c
    have e : c.nf 0 = 0 := Cf.nf_self (by
      have h1 := (Cf.nf_L HOk.out.e).1.1
      exact ⟨by omega, HSb.out.2.2.2 0 (by omega)⟩)
    rw [e] at this
    exact this)
  clear hgrow hown HS0 HB1
  generalize w1.alloc (.cells #[.int .i64 0] 3) = w2 at *
  go_loopg [4] (1 + 2 * n) (fun m tv wr => ∃ (s : Nat → Bool) (td : List Nat), Hid (td.length + 2 * unS s n = m) ∧ Hid (m ≤ 1 + 2 * n) ∧ Hid (wr.ownsRow w.heap.size 3 1 tv td.length (natC td)) ∧ Hid (BoolO wr w.heap.size n s) ∧ Hid (RcS c s td) ∧ Hid (Below w.heap.size w wr))
  case atStart => exact ⟨fun _ => false, [0], hide (by
      have h1 : ∀ n, unS (fun _ => false) n = n := fun n => by
        induction n with
        | zero => rfl
        | succ n ih => rw [unS_on, ih]; simp
      rw [h1]; simp), hide (by omega), HT1, HS1, HR0, HB2⟩
  case round =>
    clear HS1 HT1 HR0 HB2 HL1
    obtain ⟨s, td, HM, HM2, HT, HS, HR, HB⟩ := hrel
    obtain ⟨ta, tc, rfl⟩ := owns_val HT.out
    rcases List.eq_nil_or_concat td with rfl | ⟨td0, k, rfl⟩
    · go_wp2
      go_ret
      exact ⟨w.heap.size, s, rfl, Nat.le_refl _, HR.out.done, HS.out, HB.out⟩
    · have hT := HT.out
      have hlen : (td0.concat k).length = td0.length + 1 := by simp
      rw [hlen] at hT
      rw [hlen]
      rcases hT.2 with ⟨_, h9⟩ | ⟨G, cap', cur, hv2, hGb, hGh, hGc, hG2⟩
      · omega
      simp only [Value.slice.injEq, true_and] at hv2
      obtain ⟨rfl, rfl⟩ := hv2
      have hrow := owns_rowF hT (g := G) rfl
      have hpre := owns_pre hT (m := td0.length) (by omega)
      have HPre : Hid (wr.ownsRow w.heap.size 3 1 (.slice (some ⟨G, 0, none⟩) td0.length tc) td0.length (natC td0)) := hide (by
        have : (natC (td0.concat k)).take (td0.length * 1) = natC td0 := by
          unfold natC
          rw [List.concat_eq_append, List.map_append, Nat.mul_one, List.take_append_of_le_length (by simp), List.take_of_length_le (by simp)]
        rw [this] at hpre
        exact hpre)
      have hk : wr.cell? ⟨G, td0.length, none⟩ = some (.int .i64 (k : Int)) := by
        rw [hrow.cell (j := td0.length) (by omega)]
        simp [natC, List.getD_eq_getElem?_getD]
      have HRk := hide (HR.out.t k (by simp))
      have hkn : k < n := by have := (HOk.out.RL HRk.out).1; rw [HSb.out.2.2.1] at this; exact this
      have HGb := hide hGb
      obtain ⟨L, hL⟩ : ∃ L, td0.length = L := ⟨_, rfl⟩
      have hLb : L ≤ 2200000 := by
        have h1 := HM.out
        have h2 := HM2.out
        rw [hlen] at h1
        omega
      rw [hL] at HPre hk hlen hGc ⊢
      have HL := hide hL
      have HLen := hide hlen
      clear hpre hrow hT hGh hG2 hGb hL hlen
      have hsk : wr.cell? ⟨w.heap.size, k, none⟩ = some (.bool (s k)) := HS.out.cell (j := k) (by omega)
      cases hs : s k with
      | true =>
        rw [hs] at hsk
        have HSk := hide hs
        clear hs
        go_wp2_with fail
        go_roundg (L + 2 * unS s n)
        case rel => exact ⟨s, td0, hide (by rw [HL.out]), hide (by have h1 := HM.out; have h2 := HM2.out; rw [HLen.out] at h1; omega), by rw [HL.out]; exact HPre, HS, hide ((by have := HR.out; rw [List.concat_eq_append] at this; exact this : RcS c s (td0 ++ [k])).old HSk.out), HB⟩
        case measure => have h1 := HM.out; rw [HLen.out] at h1; omega
      | false =>
        rw [hs] at hsk
        have HSk := hide hs
        clear hs
        have hsf : wr.frozen? ⟨w.heap.size, k, none⟩ = false := RowF.frz HS.out k
        obtain ⟨b, o, cp, hve, hb, c0, c1, c2, c3⟩ := ins_at HA.out hkn
        cases hve
        have hkp : Keeps wr (wr.setCell ⟨w.heap.size, k, none⟩ (.bool true)) (fun b => b = w.heap.size) := (Keeps.refl wr (fun b => b = w.heap.size)).setCell (j := k) rfl (.bool true)
        have hBk : Below w.heap.size w (wr.setCell ⟨w.heap.size, k, none⟩ (.bool true)) := HB.out.setCell (Nat.le_refl _) _
        have HS2 := hide (BoolO.set HS.out hkn true)
        have HP2 := hide (owns_past HPre.out hkp (fun g e hg => by
          have := owns_apart HPre.out (RowF.keep HS.out (Keeps.refl wr (fun _ => False)) (fun x => x)) (by decide)
          rw [hg] at e
          exact this e))
        have d0 := (hBk.cell (p := ⟨b, o + k * 4, none⟩) hb).trans c0
        have d1 := (hBk.cell (p := ⟨b, o + k * 4 + 1, none⟩) hb).trans c1
        have d2 := (hBk.cell (p := ⟨b, o + k * 4 + 2, none⟩) hb).trans c2
        have d3 := (hBk.cell (p := ⟨b, o + k * 4 + 3, none⟩) hb).trans c3
        have HB2 := hide hBk
        clear c0 c1 c2 c3 hkp hBk
        go_upto_region 9 with (fail)
        have HI4 := hide (RowF.mk' (wr.setCell ⟨w.heap.size, k, none⟩ (.bool true)) 51 #[.int .i64 (i0 k), .int .i64 (i1 k), .int .i64 (i2 k), .int .i64 (i3 k)])
        have hb9 := b_1 (wr.setCell ⟨w.heap.size, k, none⟩ (.bool true)) (.cells #[.int .i64 (i0 k), .int .i64 (i1 k), .int .i64 (i2 k), .int .i64 (i3 k)] 51)
        have hsz : (wr.setCell ⟨w.heap.size, k, none⟩ (.bool true)).heap.size = wr.heap.size := by simp
        rw [hsz] at HI4
        have HS4 := hide (RowF.low HS2.out hb9 HS2.out.lt : BoolO _ w.heap.size n (fun q => if q = k then true else s q))
        have HP4 := hide (owns_past HP2.out (Keeps.of hb9 (Nat.le_refl _) (fun _ => False)) (fun _ _ x => x))
        have HB4 := hide (HB2.out.trans (hb9.mono HB2.out.size))
        have hbk : jmp (i0 k) = true → i2 k = ((c.b k : Nat) : Int) := fun hj => by
          rw [HSb.out.2.1]
          have := HPos.out k hkn hj
          show i2 k = ((i2 k).toNat : Int)
          omega
        have HBk := hide hbk
        have HNx := hide (fun (ha : awy (i0 k) = false) => (nx_all HOk.out HSb.out.2.2.2 (t := k) (by rw [HSb.out.2.2.1]; exact hkn) (by rw [HSb.out.1]; exact ha)).1)
        clear hb9 hsz hbk d0 d1 d2 d3 hsk hsf HS2 HP2 HB2 hk
        generalize (wr.setCell ⟨w.heap.size, k, none⟩ (.bool true)).alloc (.cells #[.int .i64 (i0 k), .int .i64 (i1 k), .int .i64 (i2 k), .int .i64 (i3 k)] 51) = w4 at *
        generalize wr.heap.size = I at *
        have t0 : w4.cell? ⟨I, 0, none⟩ = some (.int .i64 (i0 k)) := HI4.out.cell (j := 0) (by simp)
        have t2 : w4.cell? ⟨I, 2, none⟩ = some (.int .i64 (i2 k)) := HI4.out.cell (j := 2) (by simp)
        have HM5 := hide (show L + 1 + 2 * unS s n = gk ∧ unS (fun q => if q = k then true else s q) n + 1 = unS s n from ⟨by have := HM.out; rw [HLen.out] at this; exact this, unS_set hkn HSk.out⟩)
        have HRr := hide (show RcS c s (td0 ++ [k]) from by have := HR.out; rw [List.concat_eq_append] at this; exact this)
        clear HR HM HLen HPre HS HB HT
        have hAw := awy_cases (i0 k)
        cases hJ : jmp (i0 k) with
        | false =>
          have HJ := hide hJ
          go_upto_region 11 with (first
            | (go_at_call 75; refine (jumps_any _ _).mono ?_; rintro e w' ⟨rfl, hw⟩; obtain rfl := hw.symm; rw [hJ])
            | fail)
          clear hJ
          rcases hAw with ⟨hw, e1 | ⟨e1, e2⟩ | ⟨e1, e2, e3⟩⟩ | ⟨hw, e1, e2, e3⟩
          · have HW := hide hw
            clear hw
            go_wp2_with fail
            go_roundg (L + 2 * unS (fun q => if q = k then true else s q) n)
            case rel => exact ⟨_, td0, hide (by simp [HL.out]; try omega), hide (by have h1 := HM5.out; have h2 := HM2.out; omega), by rw [HL.out]; exact HP4, HS4, hide (HRr.out.new HOk.out (fun q => ⟨.inl, fun h => by
              rcases h with h | ⟨h, _⟩ | ⟨h, _⟩
              · exact h
              · rw [HSb.out.1, HJ.out] at h; cases h
              · rw [HSb.out.1, HW.out] at h; cases h⟩)), HB4⟩
            case measure => have h1 := HM5.out; omega
          · have HW := hide hw
            clear hw
            go_wp2_with fail
            go_roundg (L + 2 * unS (fun q => if q = k then true else s q) n)
            case rel => exact ⟨_, td0, hide (by simp [HL.out]; try omega), hide (by have h1 := HM5.out; have h2 := HM2.out; omega), by rw [HL.out]; exact HP4, HS4, hide (HRr.out.new HOk.out (fun q => ⟨.inl, fun h => by
              rcases h with h | ⟨h, _⟩ | ⟨h, _⟩
              · exact h
              · rw [HSb.out.1, HJ.out] at h; cases h
              · rw [HSb.out.1, HW.out] at h; cases h⟩)), HB4⟩
            case measure => have h1 := HM5.out; omega
          · have HW := hide hw
            clear hw
            go_wp2_with fail
            go_roundg (L + 2 * unS (fun q => if q = k then true else s q) n)
            case rel => exact ⟨_, td0, hide (by simp [HL.out]; try omega), hide (by have h1 := HM5.out; have h2 := HM2.out; omega), by rw [HL.out]; exact HP4, HS4, hide (HRr.out.new HOk.out (fun q => ⟨.inl, fun h => by
              rcases h with h | ⟨h, _⟩ | ⟨h, _⟩
              · exact h
              · rw [HSb.out.1, HJ.out] at h; cases h
              · rw [HSb.out.1, HW.out] at h; cases h⟩)), HB4⟩
            case measure => have h1 := HM5.out; omega
          · have HW := hide hw
            clear hw
            go_wp2_with (first
              | (at_builtin
                 refine app_k rfl (.tmp 57) (.tmp 60) 43 3 1 8 (.int .i64 0) rfl Tryz.underlying43 Tryz.info3 rfl (by decide) w.heap.size (.slice (some ⟨G, 0, none⟩) L tc) (L) (natC td0) [.int .i64 ((k : Int) + 1)] HP4.out rfl rfl rfl (by simp [Value.oneCell']) (by omega) (by decide) HB4.out.size ?_
                 intro v6 w6 hv6 hk6 hw6)
              | fail)
            have HS6 := hide (show BoolO w6 w.heap.size n (fun q => if q = k then true else s q) from RowF.keep HS4.out hk6 (fun e => (owns_rowF HP4.out e).apart HS4.out (by decide) rfl))
            have HB6 := hide (HB4.out.trans (hk6.below (B := w.heap.size) HB4.out.size (fun b e => (owns_blk HP4.out e).1)))
            go_roundg (L + 1 + 2 * unS (fun q => if q = k then true else s q) n)
            case rel => exact ⟨_, td0 ++ [k + 1], hide (by simp [HL.out]; try omega), hide (by have h1 := HM5.out; have h2 := HM2.out; omega), hide (by have := hv6; simp only [natC, List.map_append, List.map_cons, List.map_nil, List.length_append, List.length_singleton, HL.out] at this ⊢; exact this), HS6, hide (HRr.out.new HOk.out (fun q => by rw [HSb.out.1, HJ.out, HW.out, HNx.out HW.out]; simp)), HB6⟩
            case measure => have h1 := HM5.out; omega
        | true =>
          have HJ := hide hJ
          rw [HBk.out hJ] at t2
          obtain ⟨B, hB⟩ : ∃ B, c.b k = B := ⟨_, rfl⟩
          have HBB := hide hB
          rw [hB] at t2
          clear hB
          go_upto_region 11 with (first
            | (go_at_call 75; refine (jumps_any _ _).mono ?_; rintro e w' ⟨rfl, hw⟩; obtain rfl := hw.symm; rw [hJ])
            | (at_builtin
               refine app_k rfl (.tmp 39) (.tmp 42) 43 3 1 8 (.int .i64 0) rfl Tryz.underlying43 Tryz.info3 rfl (by decide) w.heap.size (.slice (some ⟨G, 0, none⟩) L tc) (L) (natC td0) [.int .i64 ((B : Int))] HP4.out rfl rfl rfl (by simp [Value.oneCell']) (by omega) (by decide) HB4.out.size ?_
               intro v5 w5 hv5 hk5 hw5)
            | fail)
          have HS5 := hide (show BoolO w5 w.heap.size n (fun q => if q = k then true else s q) from RowF.keep HS4.out hk5 (fun e => (owns_rowF HP4.out e).apart HS4.out (by decide) rfl))
          have HB5 := hide (HB4.out.trans (hk5.below (B := w.heap.size) HB4.out.size (fun b e => (owns_blk HP4.out e).1)))
          have HP5 := hide hv5
          have HI5 := hide (HI4.out.keep hk5 (fun e => (owns_rowF HP4.out e).apart HI4.out (by decide) rfl))
          clear t0 t2 hk5 hw5 hJ
          have t0 : w5.cell? ⟨I, 0, none⟩ = some (.int .i64 (i0 k)) := HI5.out.cell (j := 0) (by simp)
          rcases hAw with ⟨hw, e1 | ⟨e1, e2⟩ | ⟨e1, e2, e3⟩⟩ | ⟨hw, e1, e2, e3⟩
          · have HW := hide hw
            clear hw
            go_wp2_with fail
            go_roundg (L + 1 + 2 * unS (fun q => if q = k then true else s q) n)
            case rel => exact ⟨_, td0 ++ [B], hide (by simp [HL.out]; try omega), hide (by have h1 := HM5.out; have h2 := HM2.out; omega), hide (by have := hv5; simp only [natC, List.map_append, List.map_cons, List.map_nil, List.length_append, List.length_singleton, HL.out] at this ⊢; exact this), HS5, hide (HRr.out.new HOk.out (fun q => by rw [HSb.out.1, HJ.out, HW.out, HBB.out]; simp)), HB5⟩
            case measure => have h1 := HM5.out; omega
          · have HW := hide hw
            clear hw
            go_wp2_with fail
            go_roundg (L + 1 + 2 * unS (fun q => if q = k then true else s q) n)
            case rel => exact ⟨_, td0 ++ [B], hide (by simp [HL.out]; try omega), hide (by have h1 := HM5.out; have h2 := HM2.out; omega), hide (by have := hv5; simp only [natC, List.map_append, List.map_cons, List.map_nil, List.length_append, List.length_singleton, HL.out] at this ⊢; exact this), HS5, hide (HRr.out.new HOk.out (fun q => by rw [HSb.out.1, HJ.out, HW.out, HBB.out]; simp)), HB5⟩
            case measure => have h1 := HM5.out; omega
          · have HW := hide hw
            clear hw
            go_wp2_with fail
            go_roundg (L + 1 + 2 * unS (fun q => if q = k then true else s q) n)
            case rel => exact ⟨_, td0 ++ [B], hide (by simp [HL.out]; try omega), hide (by have h1 := HM5.out; have h2 := HM2.out; omega), hide (by have := hv5; simp only [natC, List.map_append, List.map_cons, List.map_nil, List.length_append, List.length_singleton, HL.out] at this ⊢; exact this), HS5, hide (HRr.out.new HOk.out (fun q => by rw [HSb.out.1, HJ.out, HW.out, HBB.out]; simp)), HB5⟩
            case measure => have h1 := HM5.out; omega
          · have HW := hide hw
            clear hw
            go_wp2_with (first
              | (at_builtin
                 refine app_k rfl (.tmp 57) (.tmp 60) 43 3 1 8 (.int .i64 0) rfl Tryz.underlying43 Tryz.info3 rfl (by decide) w.heap.size v5 (L + 1) (natC td0 ++ [.int .i64 (B : Int)]) [.int .i64 ((k : Int) + 1)] HP5.out rfl rfl rfl (by simp [Value.oneCell']) (by omega) (by decide) HB5.out.size ?_
                 intro v6 w6 hv6 hk6 hw6)
              | fail)
            have HS6 := hide (show BoolO w6 w.heap.size n (fun q => if q = k then true else s q) from RowF.keep HS5.out hk6 (fun e => (owns_rowF HP5.out e).apart HS5.out (by decide) rfl))
            have HB6 := hide (HB5.out.trans (hk6.below (B := w.heap.size) HB5.out.size (fun b e => (owns_blk HP5.out e).1)))
            go_roundg (L + 1 + 1 + 2 * unS (fun q => if q = k then true else s q) n)
            case rel => exact ⟨_, td0 ++ [B] ++ [k + 1], hide (by simp [HL.out]; try omega), hide (by have h1 := HM5.out; have h2 := HM2.out; omega), hide (by have := hv6; simp only [natC, List.map_append, List.map_cons, List.map_nil, List.length_append, List.length_singleton, HL.out] at this ⊢; exact this), HS6, hide (HRr.out.new HOk.out (fun q => by rw [HSb.out.1, HJ.out, HW.out, HNx.out HW.out, HBB.out]; simp)), HB6⟩
            case measure => have h1 := HM5.out; omega
def idlI (o a b : Int) (k : Nat) : Bool := if o = 2 then a == b else (o == 25 || chs o) && b == (k : Int) + 1
set_option maxHeartbeats 3200000 in
set_option maxRecDepth 100000 in
theorem idle_any (o a b x : Int) (k : Nat) (w : World) (hk : k ≤ 1048576) :
    Calls Tryz.prog 33 #[insV o a b x, .int .i64 (k : Int)] w fun e w' => e = .returned (.bool (idlI o a b k)) ∧ Below w.heap.size w w' := by
  obtain ⟨A, hA⟩ : ∃ A, idlI o a b k = A := ⟨_, rfl⟩
  rw [hA]
  have HA := hide hA
  clear hA
  unfold insV
  go_enter Tryz.func33, Tryz.ntmps33
  go_wp2
  all_goals go_ret
  all_goals refine ⟨?_, b_1 _ _⟩
  all_goals (rw [← HA.out]; unfold idlI chs; simp_all)
theorem app_op {wr : World} {o : Oper} {a : Act} {K : Act → World → Prop} {Q : Exit → Act → World → Prop} (s x : Operand) (TS T size bytes : Nat) (z : Value)
    (ho : o.op = .call { callee := .builtin .append, args := #[s, x], argTypes := #[TS, TS] }) (hU : Tryz.prog.underlying TS = some (.slice T)) (hI : (Tryz.prog.info? T).map (fun i => (i.zero, i.size, i.bytes)) = some (some z, size, bytes)) (hz : z.cells.size = size) (hsz : 0 < size)
    (base : Nat) (v : Value) (n : Nat) (xs cs : List Value) (hown : wr.ownsRow base T size v n xs) (hs : a.eval s = v) (hx : a.eval x = .slice (some ⟨wr.heap.size, 0, none⟩) 1 1) (hcs : cs.length = size) (h1 : ∀ u ∈ cs, u.oneCell' = true)
    (hlen : (n + 1) * bytes ≤ 140737488355328) (hb0 : 0 < bytes) (hbase : base ≤ wr.heap.size)
    (h : ∀ v' w', w'.ownsRow base T size v' (n + 1) (xs ++ cs) → Keeps wr w' (fun b => v.ownBlock = some b) → (∀ g, v'.ownBlock = some g → v.ownBlock = some g ∨ wr.heap.size ≤ g) → K (a.put o.dst v') w') :
    Oper.wp Tryz.prog o a (wr.alloc (.cells cs.toArray T)).drew K Q := by
  obtain ⟨i0, hi, hz0, hz1, hz2⟩ := info_parts hI
  have hn : n + 1 ≤ 140737488355328 := Nat.le_trans (Nat.le_mul_of_pos_right _ hb0) hlen
  have hb1 : Below wr.heap.size wr (wr.alloc (.cells cs.toArray T)).drew := (b_1 wr _).drew
  have hown' : (wr.alloc (.cells cs.toArray T)).drew.ownsRow base T size v n xs := owns_past hown (Keeps.of hb1 (Nat.le_refl _) (fun _ => False)) (fun _ _ x => x)
  have hrow : RowF (wr.alloc (.cells cs.toArray T)).drew T wr.heap.size size (fun j => cs.toArray.getD j (.bool false)) := by
    have := RowF.mk' wr T cs.toArray
    rw [show cs.toArray.size = size by simpa using hcs] at this
    exact this
  have hnews : ∀ j u, cs[j]? = some u → (wr.alloc (.cells cs.toArray T)).drew.cell? ((⟨wr.heap.size, 0, none⟩ : Addr).add j) = some u := by
    intro j u hj
    have hj0 : j < size := by rw [← hcs]; exact (List.getElem?_eq_some_iff.1 hj).1
    rw [add_none']
    have := hrow.cell (j := j) hj0
    rw [show (⟨wr.heap.size, 0 + j, none⟩ : Addr) = ⟨wr.heap.size, j, none⟩ by rw [Nat.zero_add], this]
    have hg : cs.toArray.getD j (.bool false) = u := by
      rw [Array.getD_eq_getD_getElem?, List.getElem?_toArray, hj]
      rfl
    rw [hg]
  obtain ⟨v', w', hr, h2, h3, h4⟩ := run_append_own (P := Tryz.prog) (wr.alloc (.cells cs.toArray T)).drew base TS o.type T i0 z size bytes hU hi hz0 hz1 hz2 hz hsz v n xs hown' ⟨wr.heap.size, 0, none⟩ 1 1 cs (by omega) hnews h1 (by unfold maxLen; omega) hlen (Nat.le_trans hbase hb1.size)
  have h5 := append_where (wr.alloc (.cells cs.toArray T)).drew base TS o.type T i0 z size bytes hU hi hz0 hz1 hz2 hz hsz v n xs hown' ⟨wr.heap.size, 0, none⟩ 1 1 cs (by omega) hnews h1 (by unfold maxLen; omega) hlen (by omega) hr
  unfold Oper.wp execOp
  simp only [ho, resolve, invoke, builtin, Sem.run_bind, Sem.run_pure, Result.andThen_ok, List.map_toArray, List.map_cons, List.map_nil, hs, hx, hr]
  refine h v' w' h2 ?_ (fun g e => ?_)
  · refine ⟨h3.os.trans hb1.os, h3.tape.trans hb1.tape, h3.output.trans hb1.output, Nat.le_trans hb1.size h3.size, fun b hb hn => ?_⟩
    exact (h3.block b (Nat.lt_of_lt_of_le hb hb1.size) (fun e => hn e.symm)).trans (hb1.block b hb)
  · rcases h5 g e with y | y
    · exact .inl y
    · right
      have := hb1.size
      omega
def kp (s : Nat → Bool) (m : Nat) : List Nat := (List.range m).filter s
def cnt (s : Nat → Bool) (m : Nat) : Nat := (kp s m).length
theorem kp_1 (s : Nat → Bool) (m : Nat) : kp s (m + 1) = kp s m ++ (if s m then [m] else []) := by
  unfold kp
  rw [List.range_succ, List.filter_append]
  cases h : s m <;> simp [h]
theorem cnt_0 (s : Nat → Bool) : cnt s 0 = 0 := rfl
theorem cnt_1 (s : Nat → Bool) (m : Nat) : cnt s (m + 1) = cnt s m + (if s m then 1 else 0) := by
  unfold cnt
  rw [kp_1, List.length_append]
  cases h : s m <;> simp
theorem cnt_le (s : Nat → Bool) (m : Nat) : cnt s m ≤ m := by
  have := List.length_filter_le s (List.range m)
  rw [List.length_range] at this
  exact this
def insK (s : Nat → Bool) (i0 i1 i2 i3 : Nat → Int) (k : Nat) : List Value :=
  [.int .i64 (i0 k), .int .i64 (i1 k), .int .i64 (if jmp (i0 k) = true then (cnt s (i2 k).toNat : Int) else i2 k), .int .i64 (i3 k)]
def codeK (s : Nat → Bool) (i0 i1 i2 i3 : Nat → Int) (m : Nat) : List Value := (kp s m).flatMap (insK s i0 i1 i2 i3)
def lineK (s : Nat → Bool) (l0 : Nat → Int) (m : Nat) : List Value := (kp s m).map fun k => .int .i64 (l0 k)
theorem codeK_1 (s : Nat → Bool) (i0 i1 i2 i3 : Nat → Int) (m : Nat) (h : s m = true) : codeK s i0 i1 i2 i3 (m + 1) = codeK s i0 i1 i2 i3 m ++ insK s i0 i1 i2 i3 m := by
  unfold codeK
  rw [kp_1, h]
  simp
theorem codeK_n (s : Nat → Bool) (i0 i1 i2 i3 : Nat → Int) (m : Nat) (h : s m = false) : codeK s i0 i1 i2 i3 (m + 1) = codeK s i0 i1 i2 i3 m := by
  unfold codeK
  rw [kp_1, h]
  simp
theorem lineK_1 (s : Nat → Bool) (l0 : Nat → Int) (m : Nat) (h : s m = true) : lineK s l0 (m + 1) = lineK s l0 m ++ [.int .i64 (l0 m)] := by
  unfold lineK
  rw [kp_1, h]
  simp
theorem lineK_n (s : Nat → Bool) (l0 : Nat → Int) (m : Nat) (h : s m = false) : lineK s l0 (m + 1) = lineK s l0 m := by
  unfold lineK
  rw [kp_1, h]
  simp
theorem ints_at {w : World} {v : Value} {n : Nat} {x0 : Nat → Int} (h : IntsA w v n x0) {j : Nat} (hj : j < n) : ∃ b o cap, v = .slice (some ⟨b, o, none⟩) n cap ∧ b < w.heap.size ∧ w.cell? ⟨b, o + j, none⟩ = some (.int .i64 (x0 j)) := by
  rcases h with ⟨h9, _⟩ | ⟨b, o, cap, e, hb, hcap, hc⟩
  · omega
  · exact ⟨b, o, cap, e, hb, hc j hj⟩
def ToR (w : World) (g n : Nat) (s : Nat → Bool) (i : Nat) : Prop := RowF w 3 g ((n + 1) * 1) (fun j => .int .i64 (if j ≤ i then (cnt s j : Int) else 0))
theorem ToR.step {w : World} {g n : Nat} {s : Nat → Bool} {i : Nat} (h : ToR w g n s i) (hi : i < n) {x : Int} (hx : x = (cnt s (i + 1) : Int)) : ToR (w.setCell ⟨g, i + 1, none⟩ (.int .i64 x)) g n s (i + 1) :=
  (RowF.set h (j := i + 1) (by omega) (.int .i64 x)).congr (fun j hj => by
    by_cases e : j = i + 1
    · subst e; rw [if_pos rfl, if_pos (Nat.le_refl _), hx]
    · rw [if_neg e]
      by_cases e2 : j ≤ i
      · rw [if_pos e2, if_pos (by omega)]
      · rw [if_neg e2, if_neg (by omega)])
theorem ToR.step2 {w : World} {g n : Nat} {s : Nat → Bool} {i : Nat} (h : ToR w g n s i) (hi : i < n) (v : Value) {x : Int} (hx : x = (cnt s (i + 1) : Int)) : ToR ((w.setCell ⟨g, i + 1, none⟩ v).setCell ⟨g, i + 1, none⟩ (.int .i64 x)) g n s (i + 1) :=
  ((RowF.set h (j := i + 1) (by omega) v).set (j := i + 1) (by omega) (.int .i64 x)).congr (fun j hj => by
    by_cases e : j = i + 1
    · subst e; rw [if_pos rfl, if_pos (Nat.le_refl _), hx]
    · rw [if_neg e, if_neg e]
      by_cases e2 : j ≤ i
      · rw [if_pos e2, if_pos (by omega)]
      · rw [if_neg e2, if_neg (by omega)])
theorem put8_keeps (w : World) (G : Nat) (v0 v1 v2 v3 v4 v5 v6 v7 : Value) : Keeps w (put8 w G 0 v0 v1 v2 v3 v4 v5 v6 v7) (fun b => b = G) :=
  ((((((((Keeps.refl w (fun b => b = G)).setCell (j := 0) rfl v0).setCell (j := 1) rfl v1).setCell (j := 2) rfl v2).setCell (j := 3) rfl v3).setCell (j := 4) rfl v4).setCell (j := 5) rfl v5).setCell (j := 6) rfl v6).setCell (j := 7) rfl v7
end Go.Proofs.YtgnbhhgpaldheaaGreat
