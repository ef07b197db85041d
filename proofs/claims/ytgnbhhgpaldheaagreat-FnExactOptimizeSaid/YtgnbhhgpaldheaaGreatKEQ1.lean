import Derived.Test.YtgnbhhgpaldheaaGreatKEP3
import Derived.Test.YtgnbhhgpaldheaaGreatKBS
import Derived.Test.YtgnbhhgpaldheaaGreatKV9
namespace Go.Proofs.YtgnbhhgpaldheaaGreat
open Go Go.RowKit
set_option linter.unusedVariables false
theorem verR_00 {n : Nat} {P : Nat → PV} {b c : Int} (h : VerR n P 0 b c) : b = 0 ∧ c = 0 := by
  rcases h with ⟨_, h, _⟩ | ⟨_, h2 | ⟨_, _, h3, h4⟩⟩
  · cases h
  · obtain ⟨k, _, _, hb, _⟩ := h2
    rcases hb with ⟨_, h, _⟩ | ⟨_, j, _, _, h, _⟩
    · cases h
    · exact (h rfl).elim
  · exact ⟨h3, h4⟩
theorem known_of {n : Nat} {P : Nat → PV} {k : Nat} (h : fnOk n P k) : ∀ j, j < (P k).ni → knownI ((P k).i0 j) := fun j hj => by
  have := h.2 j hj
  unfold asks at this
  exact (this.hd (by decide)).1
def OptP (n : Nat) (P : Nat → PV) (w : World) (e : Ending) (w' : World) : Prop :=
  ∃ (a b c : Int) (v : Value), e = .returned (.tuple #[.agg #[v], verV a b c]) ∧ VerR n P a b c ∧ Below w.heap.size w w' ∧
    ((a ≠ 0 ∧ v = nilS) ∨ (a = 0 ∧ ∃ (Q : Nat → PV) (V4 V5 V6 V7 : Nat → Value), (∀ k, k < n → uP n Q (n - 1 - k) k = true → ∃ (c : Cf) (K : Nat), FinI K (P k).cf c ∧ Q k = ((P k).lft c).cst) ∧
      ChW w' w.heap.size v (cnt (uP n Q n) n) (outF n Q) V4 V5 V6 V7))
theorem FnX.cl {w : World} {base m : Nat} {p q x : PV} {s4 s5 s6 s7 : Value} (h : FnX w base p q x s4 s5 s6 s7) (hp : p.clOk m) : q.clOk m := by
  obtain ⟨c, K, g6, c6, _, rfl, _⟩ := h
  refine cst_cl (fun j hj hz => ?_)
  have hz' : p.i0 (kpAt c.lf p.ni j) = 32 := hz
  show 0 ≤ (if jmp (p.i0 (kpAt c.lf p.ni j)) = true then _ else goals p.i0 p.i2 c (kpAt c.lf p.ni j)) ∧ (if jmp (p.i0 (kpAt c.lf p.ni j)) = true then _ else goals p.i0 p.i2 c (kpAt c.lf p.ni j)) < (m : Int)
  unfold goals
  rw [hz']
  simp only [show jmp 32 = false from rfl, Bool.false_eq_true, if_false]
  exact hp _ (kpAt_mem (s := c.lf) (m := p.ni) hj).2 hz'
theorem FnX.kn {w : World} {base : Nat} {p q x : PV} {s4 s5 s6 s7 : Value} (h : FnX w base p q x s4 s5 s6 s7) (hp : ∀ j, j < p.ni → knownI (p.i0 j)) : ∀ j, j < q.ni → knownI (q.i0 j) := by
  obtain ⟨c, K, g6, c6, _, rfl, _⟩ := h
  exact lft_known hp
theorem FnX.le {w : World} {base : Nat} {p q x : PV} {s4 s5 s6 s7 : Value} (h : FnX w base p q x s4 s5 s6 s7) : q.ni ≤ p.ni := by
  obtain ⟨c, K, g6, c6, _, rfl, _⟩ := h
  exact cnt_le _ _
set_option maxHeartbeats 3200000 in
set_option maxRecDepth 100000 in
theorem optimize_any (v : Value) (n : Nat) (P : Nat → PV) (w : World) (hn : n ≤ 1048576) (hf : allFit n P 1048576) (hbit : allBits n P) (h : ProsA w v n P) :
    Calls Tryz.prog 7 #[.agg #[v]] w fun e w' => OptP n P w e w' := by
  have HA := hide h
  obtain ⟨a0, k0, rfl⟩ := h.val
  have HF := hide hf
  have HBit := hide hbit
  clear h hf hbit
  have HB0 := hide (b_3 w (.cells #[.slice a0 n k0] 28) (.cells #[nilS] 28) (.cells #[.int .i64 0, .int .i64 0, .int .i64 0] 30))
  have hC := RowF.mk' w 28 #[.slice a0 n k0]
  have HC0 := hide (hC.low (b_2 _ (.cells #[nilS] 28) (.cells #[.int .i64 0, .int .i64 0, .int .i64 0] 30)) hC.lt)
  have hR := RowF.mk' (w.alloc (.cells #[.slice a0 n k0] 28)) 28 #[nilS]
  have HR0 := hide (hR.low (b_1 _ (.cells #[.int .i64 0, .int .i64 0, .int .i64 0] 30)) hR.lt)
  have HV0 := hide (RowF.mk' ((w.alloc (.cells #[.slice a0 n k0] 28)).alloc (.cells #[nilS] 28)) 30 #[.int .i64 0, .int .i64 0, .int .i64 0])
  rw [show (w.alloc (.cells #[.slice a0 n k0] 28)).heap.size = w.heap.size + 1 by simp] at HR0
  rw [show ((w.alloc (.cells #[.slice a0 n k0] 28)).alloc (.cells #[nilS] 28)).heap.size = w.heap.size + 1 + 1 by simp] at HV0
  clear hC hR
  go_enter Tryz.func7, Tryz.ntmps7
  go_upto_region 2 with (first
    | (go_at_call 17
       refine (implVerify_any _ n P _ hn HF.out HBit.out (HA.out.low HB0.out (Nat.le_refl _))).mono ?_
       rintro e w1 ⟨va, vb, vc, rfl, hV, hb1⟩
       unfold verV
       have HV := hide hV
       have HB1 := hide (HB0.out.trans (hb1.mono HB0.out.size))
       have HC1 := hide (HC0.out.low hb1 HC0.out.lt)
       have HR1 := hide (HR0.out.low hb1 HR0.out.lt)
       have HV1 := hide (HV0.out.low hb1 HV0.out.lt)
       clear hV hb1)
    | fail)
  have hX := RowF.mk' w1 30 #[.int .i64 va, .int .i64 vb, .int .i64 vc]
  have hbX := b_1 w1 (.cells #[.int .i64 va, .int .i64 vb, .int .i64 vc] 30)
  have HB2 := hide (HB1.out.trans (hbX.mono HB1.out.size))
  have HC2 := hide (HC1.out.low hbX HC1.out.lt)
  have HR2 := hide (HR1.out.low hbX HR1.out.lt)
  have HV2 := hide (HV1.out.low hbX HV1.out.lt)
  have HX2 := hide hX
  have HX1 := hide HV1.out.lt
  clear hX hbX HB1 HC1 HR1 HV1 HB0 HC0 HR0 HV0
  have hx1 : w1.heap.size < (w1.alloc (.cells #[.int .i64 va, .int .i64 vb, .int .i64 vc] 30)).heap.size := HX2.out.lt
  generalize w1.alloc (.cells #[.int .i64 va, .int .i64 vb, .int .i64 vc] 30) = w2 at *
  generalize w1.heap.size = X at *
  have x0 : w2.cell? ⟨X, 0, none⟩ = some (.int .i64 va) := HX2.out.cell (j := 0) (by simp)
  have x1 : w2.cell? ⟨X, 1, none⟩ = some (.int .i64 vb) := HX2.out.cell (j := 1) (by simp)
  have x2 : w2.cell? ⟨X, 2, none⟩ = some (.int .i64 vc) := HX2.out.cell (j := 2) (by simp)
  have r0 : w2.cell? ⟨w.heap.size + 1, 0, none⟩ = some nilS := HR2.out.cell (j := 0) (by simp)
  have v0 : w2.cell? ⟨w.heap.size + 1 + 1, 0, none⟩ = some (.int .i64 0) := HV2.out.cell (j := 0) (by simp)
  have v1 : w2.cell? ⟨w.heap.size + 1 + 1, 1, none⟩ = some (.int .i64 0) := HV2.out.cell (j := 1) (by simp)
  have v2 : w2.cell? ⟨w.heap.size + 1 + 1, 2, none⟩ = some (.int .i64 0) := HV2.out.cell (j := 2) (by simp)
  have fr := HR2.out.frz 0
  have fv0 := HV2.out.frz 0
  have fv1 := HV2.out.frz 1
  have fv2 := HV2.out.frz 2
  by_cases ha : va = 0
  · obtain ⟨hn1, hn2, hok⟩ := verR_ok (ha ▸ HV.out)
    obtain ⟨rfl, rfl⟩ := verR_00 (ha ▸ HV.out)
    have HOk := hide hok
    subst ha
    have hq0 := verd_neq0
    clear hok v0 v1 v2 fr fv0 fv1 fv2 r0
    go_upto_region 4 with (fail)
    clear hq0
    have c0 : w2.cell? ⟨w.heap.size, 0, none⟩ = some (.slice a0 n k0) := HC2.out.cell (j := 0) (by simp)
    have HRV := hide (And.intro HR2.out HV2.out)
    clear x0 x1 x2 HX2 HX1 hx1 HR2 HV2
    obtain ⟨i9, hi0, hz0, hz1, hz2⟩ := info_parts Tryz.info45
    have HI0 := hide (And.intro hi0 (And.intro hz0 (And.intro hz1 hz2)))
    clear hi0 hz0 hz1 hz2
    obtain ⟨m, hm⟩ : ∃ m, n = m + 1 := ⟨n - 1, by omega⟩
    have hm1 : (n : Int) - 1 = (m : Int) := by omega
    have hmn : m < n := by omega
    have HMn := hide hm
    clear hm
    go_upto_region 5 with (first
      | (at_make
         refine wpList_make_full _ rfl _ _ 26 rfl w2.heap.size 45 i9 (.agg #[.int .i64 0, .int .i64 0, .int .i64 0, .bool false, .slice none 0 0, .slice none 0 0, .slice none 0 0, .slice none 0 0]) 8 Tryz.underlying26 HI0.out.1 HI0.out.2.1 HI0.out.2.2.1 _ _ _ _ n rfl rfl rfl rfl (by rw [HI0.out.2.2.2]; omega) (by unfold maxLen; omega) (Nat.le_refl _) ?_
         intro w3 hown hgrow
         have hb3 : Below w2.heap.size w2 w3 := (Below.refl _ _).grown hgrow (Nat.le_refl _) (fun _ h => by cases h)
         have HR3 := hide (show RowF w3 45 w2.heap.size (n * 8) (fnG (fun _ => pv0) (fun _ => nilS) (fun _ => nilS) (fun _ => nilS) (fun _ => nilS)) from (rowF_owns hown).congr (fun j hj => made_pro n hj))
         have HB3 := hide hb3
         clear hown hgrow hb3)
      | fail)
    clear c0
    obtain ⟨gP, hgP⟩ : ∃ gP, w2.heap.size = gP := ⟨_, rfl⟩
    rw [hgP] at HR3 HB3 ⊢
    have HgP := hide hgP
    clear hgP
    have hmk := mk_places
    obtain ⟨w4, hput, hs4, hk4⟩ := (SetM.new w3 n).add hn hmn
    have hk04 : Keeps w3 w4 (fun b => b = w3.heap.size) := (Keeps.of (k_map w3) (Nat.le_refl _) _).trans hk4
    have HLP0 := hide (LP.start (base := gP) (P := P) (HR3.out.keep hk04 (by have := HR3.out.lt; omega)) (hs4.congr (fun x _ => by
      show (x == n - 1) = (false || decide (x = m))
      have := HMn.out
      by_cases e : x = m
      · subst e; simp; omega
      · simp [e]; omega)))
    have HB4 := hide (HB3.out.trans (hk04.below (B := gP) (by have := HR3.out.lt; omega) (fun b e => by have := HR3.out.lt; omega)))
    clear hs4 hk4 hk04
    go_upto_region 7 with (fail)
    clear hmk hput
    obtain ⟨bS, hbS⟩ : ∃ bS, w3.heap.size = bS := ⟨_, rfl⟩
    rw [hbS] at HLP0 ⊢
    have HgS := hide (show gP < bS from by have := HR3.out.lt; omega)
    clear hbS HR3 HB3
    go_wp2_with fail
    go_loopw [8] (fun iv wr => ∃ t : Nat, t ≤ n ∧ iv = .int .i64 ((m : Int) - (t : Int)) ∧ Hid (∃ (Q : Nat → PV) (S4 S5 S6 S7 : Nat → Value), LP wr gP gP bS n (n - t) t P Q S4 S5 S6 S7) ∧ Hid (Below gP w2 wr)) (fun iv _ => match iv with | .int _ x => (x + 1).toNat | _ => 0)
    case atStart => exact ⟨0, by omega, by simp, hide ⟨_, _, _, _, _, HLP0.out⟩, HB4⟩
    case round =>
      clear HLP0 HB4
      obtain ⟨t, ht, rfl, HL, HB⟩ := hrel
      obtain ⟨Q, S4, S5, S6, S7, hL⟩ := HL.out
      clear HL
      by_cases htn : t < n
      · obtain ⟨i, hi⟩ : ∃ i : Nat, (m : Int) - (t : Int) = (i : Int) := ⟨m - t, by omega⟩
        rw [hi]
        have hin : i < n := by omega
        have ht1 : n - t = i + 1 := by have := HMn.out; omega
        have ht2 : t = n - 1 - i := by have := HMn.out; omega
        rw [ht1] at hL
        rw [ht2] at hL
        have HT := hide (And.intro hi (And.intro ht1 ht2))
        have HLp := hide hL
        have HP := hide (phas_any hL.set hn hin)
        clear hL hi ht1 ht2
        cases hu : uP n Q (n - 1 - i) i with
        | false =>
          rw [hu] at HP
          have HU := hide hu
          clear hu
          go_wp2_with (first
            | (go_at_call 18
               refine HP.out.mono ?_
               rintro e w5 ⟨rfl, hb5⟩
               have HL5 := hide ((HLp.out.low hb5).skip hin HU.out)
               have HB5 := hide (HB.out.trans (hb5.mono (by have := HLp.out.row.lt; omega)))
               clear hb5)
            | fail)
          go_roundw
          case rel => exact ⟨n - i, by omega, by have := HT.out; have := HMn.out; simp; omega, hide ⟨Q, S4, S5, S6, S7, by rw [show n - (n - i) = i by omega]; exact HL5.out⟩, HB5⟩
          case measure => have := HT.out; simp; first | done | omega
        | true =>
          rw [hu] at HP
          have HU := hide hu
          clear hu
          go_upto_region 11 with (first
            | (go_at_call 18
               refine HP.out.mono ?_
               rintro e w5 ⟨rfl, hb5⟩
               have HL5 := hide (HLp.out.low hb5)
               have HB5 := hide (HB.out.trans (hb5.mono (by have := HLp.out.row.lt; omega)))
               clear hb5)
            | fail)
          clear HP HLp HB
          have hbw : Below w.heap.size w w5 := HB2.out.trans (HB5.out.mono (by have := HB2.out.size; have := HgP.out; omega))
          rcases HA.out with ⟨h9, _⟩ | ⟨b, o, cap, e9, hb, hcap, hc⟩
          · omega
          cases e9
          obtain ⟨s4, s5, s6, s7, hc8, hpva⟩ := hc i hin
          obtain ⟨d0, d1, d2, d3, d4, d5, d6, d7⟩ := hc8.low hbw hb
          have hpva5 := hpva.low hbw (Nat.le_refl _)
          obtain ⟨a4, k4, rfl⟩ := hpva.u.val
          obtain ⟨a5, k5, rfl⟩ := hpva.c.val
          obtain ⟨a6, k6, rfl⟩ := hpva.i.val
          obtain ⟨a7, k7, rfl⟩ := hpva.l.val
          have cZ : w5.cell? ⟨w.heap.size, 0, none⟩ = some (.slice (some ⟨b, o, none⟩) n k0) := (HB5.out.cell (p := ⟨w.heap.size, 0, none⟩) (by have h1 := HC2.out.lt; have h2 := HgP.out; show w.heap.size < gP; omega)).trans (HC2.out.cell (j := 0) (by simp))
          obtain ⟨g1, g2, g3, g4, g5, g6⟩ := good_of (HOk.out i hin)
          have hnu : (P i).nu ≤ 1048576 := by have := (HOk.out i hin).1.1.1.2.2.2.1; omega
          have hst : ∀ j, j < (P i).nc → ((P i).c3 j).size ≤ 281474976710656 := fun j hj => by have := (HF.out i hin).2.2.2.2 j hj; omega
          have HSh := hide (shortened_any (P i) (.slice a4 (P i).nu k4) (.slice a5 (P i).nc k5) (.slice a6 (P i).ni k6) (.slice a7 (P i).nl k7) w5 g1 g4 g5 g6 hnu g2 (known_of (HOk.out i hin)) hst hpva5)
          clear hbw hc hc8 hpva hpva5 g1 g2 g3 g4 g5 g6 hnu hst hcap
          unfold PV.agg at HSh
          go_upto_region 12 with (first
            | (go_at_call 19
               refine HSh.out.mono ?_
               rintro e w6 ⟨cf, K, r4, r5, r7, g6, c6, hfin, rfl, ⟨hnew, hfm⟩, hb6⟩
               obtain ⟨q, hq⟩ : ∃ q, ((P i).lft cf).cst = q := ⟨_, rfl⟩
               have hqn : ((P i).lft cf).ni = q.ni := by rw [← hq]; rfl
               rw [hq] at hfm ⊢
               rw [hqn] at hnew ⊢
               have hfx : FnX w6 gP (P i) q q r4 r5 (.slice (some ⟨g6, 0, none⟩) q.ni c6) r7 := ⟨cf, K, g6, c6, hfin, hq.symm, rfl, hfm, rfl, fun x hx => by have := hnew x hx; have := HL5.out.row.lt; omega⟩
               obtain ⟨z4, z5, z6, z7⟩ := HL5.out.no i hin (.inl (Nat.lt_succ_self i))
               have hrow6 := (HL5.out.low hb6).row
               have hcell : ∀ r, r < 8 → w6.cell? ⟨gP, i * 8 + r, none⟩ = some ((fnD (Q i) (S4 i) (S5 i) (S6 i) (S7 i)).getD r (.bool false)) := fun r hr => by
                 rw [hrow6.cell (j := i * 8 + r) (by omega), fnG_at Q S4 S5 S6 S7 i r hr]
               rw [z4, z5, z6, z7] at hcell
               have y0 : w6.cell? ⟨gP, i * 8, none⟩ = some (.int .i64 (Q i).params) := hcell 0 (by omega)
               have y1 : w6.cell? ⟨gP, i * 8 + 1, none⟩ = some (.int .i64 (Q i).regs) := hcell 1 (by omega)
               have y2 : w6.cell? ⟨gP, i * 8 + 2, none⟩ = some (.int .i64 (Q i).line) := hcell 2 (by omega)
               have y3 : w6.cell? ⟨gP, i * 8 + 3, none⟩ = some (.bool (Q i).dots) := hcell 3 (by omega)
               have y4 : w6.cell? ⟨gP, i * 8 + 4, none⟩ = some (.slice none 0 0) := hcell 4 (by omega)
               have y5 : w6.cell? ⟨gP, i * 8 + 5, none⟩ = some (.slice none 0 0) := hcell 5 (by omega)
               have y6 : w6.cell? ⟨gP, i * 8 + 6, none⟩ = some (.slice none 0 0) := hcell 6 (by omega)
               have y7 : w6.cell? ⟨gP, i * 8 + 7, none⟩ = some (.slice none 0 0) := hcell 7 (by omega)
               have f0 := hrow6.frz (i * 8)
               have f1 := hrow6.frz (i * 8 + 1)
               have f2 := hrow6.frz (i * 8 + 2)
               have f3 := hrow6.frz (i * 8 + 3)
               have f4 := hrow6.frz (i * 8 + 4)
               have f5 := hrow6.frz (i * 8 + 5)
               have f6 := hrow6.frz (i * 8 + 6)
               have f7 := hrow6.frz (i * 8 + 7)
               have hput := HL5.out.put hin HU.out hb6 hfx hnew
               have hbp := put8_below (HB5.out.trans (hb6.mono (by have := HL5.out.row.lt; omega))) (Nat.le_refl gP) (i * 8) (.int .i64 q.params) (.int .i64 q.regs) (.int .i64 q.line) (.bool q.dots) r4 r5 (.slice (some ⟨g6, 0, none⟩) q.ni c6) r7
               obtain ⟨⟨b4, L4, m4, rfl⟩, ⟨b5, L5, m5, rfl⟩, _, ⟨b7, L7, m7, rfl⟩⟩ := hfx.form
               have HPut := hide hput
               have HBp := hide hbp
               have HUp := hide (show ∀ t, t ≤ n - 1 - i → uP n (fun c => if c = i then q else Q c) t = uP n Q t from fun t ht => uP_congr (by omega) (fun c h1 h2 => by simp only [if_neg (show c ≠ i by omega)]))
               clear hput hbp hfx hfm hnew hb6 hrow6 hcell hfin hq hqn z4 z5 z6 z7)
            | fail)
          clear HSh d0 d1 d2 d3 d4 d5 d6 d7 cZ y0 y1 y2 y3 y4 y5 y6 y7 f0 f1 f2 f3 f4 f5 f6 f7 HL5 HB5
          unfold put8 at HPut HBp
          generalize (((((((w6.setCell ⟨gP, i * 8, none⟩ (.int .i64 q.params)).setCell ⟨gP, i * 8 + 1, none⟩ (.int .i64 q.regs)).setCell ⟨gP, i * 8 + 2, none⟩ (.int .i64 q.line)).setCell ⟨gP, i * 8 + 3, none⟩ (.bool q.dots)).setCell ⟨gP, i * 8 + 4, none⟩ (.slice b4 L4 m4)).setCell ⟨gP, i * 8 + 5, none⟩ (.slice b5 L5 m5)).setCell ⟨gP, i * 8 + 6, none⟩ (.slice (some ⟨g6, 0, none⟩) q.ni c6)).setCell ⟨gP, i * 8 + 7, none⟩ (.slice b7 L7 m7) = w7 at *
          have hT6 : (fun c => if c = i then (.slice (some ⟨g6, 0, none⟩) q.ni c6 : Value) else S6 c) i = .slice (some ⟨g6, 0, none⟩) q.ni c6 := by simp
          have hQi : (fun c => if c = i then q else Q c) i = q := by simp
          generalize (fun c => if c = i then q else Q c) = Q' at *
          generalize (fun c => if c = i then (.slice b4 L4 m4 : Value) else S4 c) = T4 at *
          generalize (fun c => if c = i then (.slice b5 L5 m5 : Value) else S5 c) = T5 at *
          generalize (fun c => if c = i then (.slice (some ⟨g6, 0, none⟩) q.ni c6 : Value) else S6 c) = T6 at *
          generalize (fun c => if c = i then (.slice b7 L7 m7 : Value) else S7 c) = T7 at *
          have hu7 : uP n Q' (n - 1 - i) i = true := by rw [HUp.out _ (Nat.le_refl _)]; exact HU.out
          have hf7 := HPut.out.fn i (Nat.le_refl _) hin hu7
          have hcl7 := hf7.cl (good_of (HOk.out i hin)).2.2.1
          have hkn7 := hf7.kn (known_of (HOk.out i hin))
          have hle7 := hf7.le
          have hni7 := (good_of (HOk.out i hin)).2.2.2.2.1
          obtain ⟨cf', K', g6', c6', _, _, e6, hfm7, _, _⟩ := hf7
          rw [hT6, hQi] at e6
          obtain ⟨rfl, rfl⟩ : g6 = g6' ∧ c6 = c6' := by simpa using e6
          have hI7 := hfm7.i
          have c6' : w7.cell? ⟨gP, i * 8 + 6, none⟩ = some (.slice (some ⟨g6, 0, none⟩) q.ni c6) := by
            rw [HPut.out.row.cell (j := i * 8 + 6) (by omega), fnG_at Q' T4 T5 T6 T7 i 6 (by omega)]
            show some (T6 i) = _
            rw [hT6]
          rw [hQi] at hI7 hcl7 hkn7 hle7
          have hbK := b_1 w7 (.cells #[.int .i64 5] 3)
          have hKi : KiA (w7.alloc (.cells #[.int .i64 5] 3)) w7.heap.size [5] := ⟨by simp, fun z hz => by
            obtain rfl : z = 0 := by simpa using hz
            exact (RowF.mk' w7 3 #[.int .i64 5]).cell (j := 0) (by simp)⟩
          have HL8 := hide (HPut.out.low hbK)
          have hI8 := hI7.low hbK hI7.lt
          have hS7 := HPut.out.set.lt
          have HAd := hide (addNamed_any (cap := c6) (kc := 1) (K := [5]) hn (by omega) (by simp) hkn7 (inN_cl (s := fun x => x < n) hcl7 (fun j hj e => by have := hcl7 j hj e; omega)) HL8.out.set hI8 hKi (by obtain ⟨f', hr', _⟩ := hI8; exact HL8.out.set.row hr') (by omega))
          have HB8 := hide (HBp.out.trans (hbK.mono (by have := HPut.out.row.lt; omega)))
          have HQi := hide hQi
          have HU7 := hide hu7
          have hg8 : gP < (w7.alloc (.cells #[.int .i64 5] 3)).heap.size := HL8.out.row.lt
          have HG8 := hide hg8
          clear hQi hT6 hu7 hcl7 hkn7 hle7 hni7 e6 hfm7 hI7 hbK hKi hI8 hS7 hg8 HPut HBp HUp HU
          go_wp2_with (first
            | (go_at_call 20
               refine HAd.out.mono ?_
               rintro e w9 ⟨rfl, hs9, hk9⟩
               have HL9 := hide (HL8.out.named hin HU7.out (by rw [HQi.out]; exact hs9) hk9)
               have HB9 := hide (HB8.out.trans (hk9.below (B := gP) (Nat.le_of_lt HG8.out) (fun b e => by have := HgS.out; omega)))
               clear hs9 hk9)
            | fail)
          go_roundw
          case rel => exact ⟨n - i, by omega, by have := HT.out; have := HMn.out; simp; omega, hide ⟨Q', T4, T5, T6, T7, by rw [show n - (n - i) = i by omega]; exact HL9.out⟩, HB9⟩
          case measure => have := HT.out; simp; first | done | omega
      · obtain rfl : n = t := by omega
        have hneg : (m : Int) - (n : Int) = -1 := by have := HMn.out; omega
        rw [hneg]
        rw [show n - n = 0 by omega] at hL
        have hcl : ∀ c, c < n → uP n Q (n - 1 - c) c = true → (Q c).clOk c := fun c h1 h2 => (hL.fn c (Nat.zero_le _) h1 h2).cl (good_of (HOk.out c h1)).2.2.1
        have HKp := hide (keptP_any gP n n bS Q S4 S5 S6 S7 (uP n Q n) wr (by omega) hL.row hL.set (fun c hc => (hL.form hc).1) (fun c hc => (hL.form hc).2.1) (fun c hc => (hL.form hc).2.2.1) (fun c hc => (hL.form hc).2.2.2))
        have HLp := hide hL
        have HCl := hide hcl
        have HUc := hide (show ∀ c, c < n → uP n Q (n - 1 - c) c = true → ∀ j, j < (Q c).ni → (Q c).i0 j = 32 → uP n Q n ((Q c).i2 j).toNat = true from fun c hc hu j hj h => uP_closed hc hu hj h)
        have HFn := hide (fun c (hc : c < n) (hu : uP n Q (n - 1 - c) c = true) => (hL.fn c (Nat.zero_le _) hc hu))
        clear hneg hm1 hcl hL
        go_upto_region 14 with (first
          | (go_at_call 21
             refine HKp.out.mono ?_
             rintro e wQ ⟨v, bm, mm, rfl, ho, hnm, hge, hb⟩
             obtain ⟨av, cv, rfl⟩ := owns_val ho
             have HQ0 := hide (LQ.start HLp.out hb HCl.out ho hnm)
             have HBQ := hide (HB.out.trans (hb.mono (by have := HLp.out.row.lt; omega)))
             have HlQ := hide (show gP ≤ wr.heap.size from by have := HLp.out.row.lt; omega)
             clear ho hnm hge hb)
          | fail)
        generalize wr.heap.size = lo at *
        have HUs := hide (fun c (hc : c < n) => uP_stay HCl.out hc (t := n) (by omega) (Nat.le_refl n))
        have HFq := hide (show ∀ k, k < n → uP n Q (n - 1 - k) k = true → ∃ (c : Cf) (K : Nat), FinI K (P k).cf c ∧ Q k = ((P k).lft c).cst from fun k h1 h2 => by
          obtain ⟨c, K, _, _, q1, q2, _⟩ := HFn.out k h1 h2
          exact ⟨c, K, q1, q2⟩)
        have hcn : cnt (uP n Q n) n ≤ n := cnt_le _ _
        obtain ⟨U, hU⟩ : ∃ U, uP n Q n = U := ⟨_, rfl⟩
        have HUe := hide hU
        rw [hU] at HQ0 HUs HUc hcn ⊢
        clear hU HKp HLp HB
        obtain ⟨C, hC⟩ : ∃ C, cnt U n = C := ⟨_, rfl⟩
        have HC := hide hC
        rw [hC] at HQ0 hcn ⊢
        clear hC
        go_wp2_with fail
        go_loopw [64] (fun iv wr => ∃ j : Nat, j ≤ C ∧ iv = .int .i64 (j : Int) ∧ Hid (LQ wr gP bm mm n lo U (.slice av C cv) P Q S4 S5 S6 S7 j) ∧ Hid (Below gP w2 wr)) (fun iv _ => C - ivN iv)
        case atStart => exact ⟨0, Nat.zero_le _, rfl, HQ0, HBQ⟩
        case round =>
          clear HQ0 HBQ
          obtain ⟨j, hj, rfl, HL, HB⟩ := hrel
          by_cases hjn : j < C
          · obtain ⟨hm1, hm2⟩ := kpAt_mem (s := U) (m := n) (j := j) (by rw [HC.out]; exact hjn)
            have hcj := cnt_kpAt (s := U) (m := n) (j := j) (by rw [HC.out]; exact hjn)
            have hQr : wr.ownsRow lo 45 8 (.slice av C cv) C ((kp U n).flatMap fun c => fnD (Q c) (S4 c) (S5 c) (S6 c) (S7 c)) := by have h0 := HL.out.row; rw [HC.out] at h0; exact h0
            have hln : (kp U n).length = C := HC.out
            rcases hQr.2 with ⟨h9, h9'⟩ | ⟨gL, cap9, cur9, hv9, hgL, hgL', _⟩
            · omega
            simp only [Value.slice.injEq, true_and] at hv9
            obtain ⟨rfl, rfl⟩ := hv9
            have hrow := rowF_owns hQr
            obtain ⟨c, hc⟩ : ∃ c, kpAt U n j = c := ⟨_, rfl⟩
            rw [hc] at hm1 hm2 hcj
            have hcell : ∀ r, r < 8 → wr.cell? ⟨gL, j * 8 + r, none⟩ = some ((fnD (Q c) (S4 c) (S5 c) (S6 c) (S7 c)).getD r (.bool false)) := fun r hr => by
              rw [hrow.cell (j := j * 8 + r) (by omega), flat8_at (fun i => rfl) hr (kp U n) j (by rw [hln]; exact hjn)]
              have : (kp U n).getD j 0 = c := hc
              rw [this]
            have hf := HL.out.fn c hm2 hm1
            rw [hcj, if_neg (Nat.lt_irrefl _)] at hf
            have hu2 : uP n Q (n - 1 - c) c = true := by rw [← HUs.out c hm2]; exact hm1
            have hcl := HCl.out c hm2 hu2
            have hkn := hf.kn (known_of (HOk.out c hm2))
            have hle := hf.le
            have hni := (good_of (HOk.out c hm2)).2.2.2.2.1
            have huc := HUc.out c hm2 hu2
            obtain ⟨⟨a4, L4, k4, e4⟩, ⟨a5, L5, k5, e5⟩, _, ⟨a7, L7, k7, e7⟩⟩ := hf.form
            obtain ⟨cf, K, g6, c6, _, _, e6, hfm, _, hgb⟩ := hf
            have HE6 := hide e6
            have HGg := hide (show gP ≤ g6 from hgb g6 (.inr (.inr (.inl (by rw [e6]; simp [Value.ownBlock])))))
            clear hgb
            obtain ⟨q, hq⟩ : ∃ q, Q c = q := ⟨_, rfl⟩
            rw [hq] at hcell hcl hkn hle hfm e6 huc
            have hVe : fnD q (S4 c) (S5 c) (S6 c) (S7 c) = [.int .i64 q.params, .int .i64 q.regs, .int .i64 q.line, .bool q.dots, .slice a4 L4 k4, .slice a5 L5 k5, .slice (some ⟨g6, 0, none⟩) q.ni c6, .slice a7 L7 k7] := by unfold fnD; rw [e4, e5, e6, e7]
            rw [hVe] at hcell
            have l0 : wr.cell? ⟨gL, j * 8, none⟩ = some (.int .i64 q.params) := hcell 0 (by omega)
            have l1 : wr.cell? ⟨gL, j * 8 + 1, none⟩ = some (.int .i64 q.regs) := hcell 1 (by omega)
            have l2 : wr.cell? ⟨gL, j * 8 + 2, none⟩ = some (.int .i64 q.line) := hcell 2 (by omega)
            have l3 : wr.cell? ⟨gL, j * 8 + 3, none⟩ = some (.bool q.dots) := hcell 3 (by omega)
            have l4 : wr.cell? ⟨gL, j * 8 + 4, none⟩ = some (.slice a4 L4 k4) := hcell 4 (by omega)
            have l5 : wr.cell? ⟨gL, j * 8 + 5, none⟩ = some (.slice a5 L5 k5) := hcell 5 (by omega)
            have l6 : wr.cell? ⟨gL, j * 8 + 6, none⟩ = some (.slice (some ⟨g6, 0, none⟩) q.ni c6) := hcell 6 (by omega)
            have l7 : wr.cell? ⟨gL, j * 8 + 7, none⟩ = some (.slice a7 L7 k7) := hcell 7 (by omega)
            have hX := RowF.mk' wr 45 #[.int .i64 q.params, .int .i64 q.regs, .int .i64 q.line, .bool q.dots, .slice a4 L4 k4, .slice a5 L5 k5, .slice (some ⟨g6, 0, none⟩) q.ni c6, .slice a7 L7 k7]
            have hbX := b_1 wr (.cells #[.int .i64 q.params, .int .i64 q.regs, .int .i64 q.line, .bool q.dots, .slice a4 L4 k4, .slice a5 L5 k5, .slice (some ⟨g6, 0, none⟩) q.ni c6, .slice a7 L7 k7] 45)
            have HX := hide hX
            have HLX := hide (HL.out.low hbX)
            have HBX := hide (HB.out.trans (hbX.mono (by have := HlQ.out; have := hrow.lt; omega)))
            have HIX := hide (hfm.i.low hbX hfm.i.lt)
            have HNi := hide (show q.ni ≤ 1048576 from by omega)
            have HGx := hide (show gP ≤ wr.heap.size from by have := HlQ.out; have := hrow.lt; omega)
            have HHc := hide (And.intro hc hq)
            have HIn := hide (inN_cl (s := fun x => x < n ∧ U x = true) hcl (fun z hz e => ⟨by have := hcl z hz e; omega, huc z hz e⟩))
            have HKn := hide hkn
            clear hm1 hm2 hcj hQr hln hrow hcell hu2 hcl hkn hle hni huc e4 e5 e6 e7 hVe hX hbX hfm hc hq hgL hgL'
            go_upto_region 17 with (fail)
            clear l0 l1 l2 l3 l4 l5 l6 l7
            generalize wr.alloc (.cells #[.int .i64 q.params, .int .i64 q.regs, .int .i64 q.line, .bool q.dots, .slice a4 L4 k4, .slice a5 L5 k5, .slice (some ⟨g6, 0, none⟩) q.ni c6, .slice a7 L7 k7] 45) = wA at *
            generalize wr.heap.size = XX at *
            have x6 : wA.cell? ⟨XX, 6, none⟩ = some (.slice (some ⟨g6, 0, none⟩) q.ni c6) := HX.out.cell (j := 6) (by simp)
            have hbK := b_1 wA (.cells #[.int .i64 5] 3)
            have hKi : KiA (wA.alloc (.cells #[.int .i64 5] 3)) wA.heap.size [5] := ⟨by simp, fun z hz => by
              obtain rfl : z = 0 := by simpa using hz
              exact (RowF.mk' wA 3 #[.int .i64 5]).cell (j := 0) (by simp)⟩
            have HLK := hide (HLX.out.low hbK)
            have hI8 := HIX.out.low hbK HIX.out.lt
            have HRn := hide (rename_any (cap := c6) (kc := 1) (K := [5]) (s := U) (f := cnt U) hn HNi.out (by simp) HKn.out HIn.out HLK.out.now hI8 hKi (by obtain ⟨f', hr', _⟩ := hI8; exact HLK.out.now.row hr') (by have := HIX.out.lt; omega))
            have HBK := hide (HBX.out.trans (hbK.mono (by have := HX.out.lt; have := HGx.out; omega)))
            have HG8 := hide (show gP ≤ (wA.alloc (.cells #[.int .i64 5] 3)).heap.size from by have := HX.out.lt; have := HGx.out; simp; omega)
            clear hbK hKi hI8
            go_wp2_with (first
              | (go_at_call 22
                 refine HRn.out.mono ?_
                 rintro e w9 ⟨rfl, hi9, hk9⟩
                 rw [ren_2, ren_3] at hi9
                 have HL9 := hide (HLK.out.turn (g6 := g6) (c6 := c6) (by rw [HC.out]; exact hjn) (by rw [HHc.out.1]; exact HE6.out) (by rw [HHc.out.1, HHc.out.2]; exact hi9) hk9)
                 have HB9 := hide (HBK.out.trans (hk9.below (B := gP) HG8.out (fun b e => by rw [e]; exact HGg.out)))
                 clear hi9 hk9)
              | fail)
            go_roundw
            case rel => exact ⟨j + 1, by omega, by simp, HL9, HB9⟩
            case measure => simp [ivN]; omega
          · obtain rfl : C = j := by omega
            have hdone := LQ.done (show LQ wr gP bm mm n lo U (.slice av C cv) P Q S4 S5 S6 S7 (cnt U n) by rw [HC.out]; exact HL.out) HlQ.out
            have hz1 : w.heap.size + 1 < gP := by have := HRV.out.1.lt; have := HgP.out; omega
            have hz2 : w.heap.size + 1 + 1 < gP := by have := HRV.out.2.lt; have := HgP.out; omega
            have hR := HRV.out.1.low HB.out hz1
            have hV := HRV.out.2.low HB.out hz2
            have r0 : wr.cell? ⟨w.heap.size + 1, 0, none⟩ = some nilS := hR.cell (j := 0) (by simp)
            have v0 : wr.cell? ⟨w.heap.size + 1 + 1, 0, none⟩ = some (.int .i64 0) := hV.cell (j := 0) (by simp)
            have v1 : wr.cell? ⟨w.heap.size + 1 + 1, 1, none⟩ = some (.int .i64 0) := hV.cell (j := 1) (by simp)
            have v2 : wr.cell? ⟨w.heap.size + 1 + 1, 2, none⟩ = some (.int .i64 0) := hV.cell (j := 2) (by simp)
            have fr := hR.frz 0
            have fv0 := hV.frz 0
            have fv1 := hV.frz 1
            have fv2 := hV.frz 2
            have HDone := hide hdone
            have HZ12 := hide (And.intro hz1 hz2)
            clear hR hV hdone hz1 hz2
            go_wp2_with fail
            refine bodyPost_ret (v := .tuple #[.agg #[.slice av C cv], .agg #[.int .i64 0, .int .i64 0, .int .i64 0]]) ?_ rfl ⟨0, 0, 0, .slice av C cv, rfl, HV.out, ?_, .inr ⟨rfl, Q, fun j => S4 (kpAt U n j), fun j => S5 (kpAt U n j), fun j => S6 (kpAt U n j), fun j => S7 (kpAt U n j), HFq.out, ?_⟩⟩
            · simp [results, Tryz.results7, go_sem, nilS, r0, v0, v1, v2]
            · exact ((((HB2.out.trans (HB.out.mono (by have := HB2.out.size; have := HgP.out; omega))).setCell (by show w.heap.size ≤ w.heap.size + 1; omega) _).setCell (by show w.heap.size ≤ w.heap.size + 1 + 1; omega) _).setCell (by show w.heap.size ≤ w.heap.size + 1 + 1; omega) _).setCell (by show w.heap.size ≤ w.heap.size + 1 + 1; omega) _
            · rw [HUe.out, show outF n Q = fun j => (Q (kpAt U n j)).ren U by unfold outF; rw [HUe.out]]
              refine (HDone.out.keep (S := fun b => b = w.heap.size + 1 ∨ b = w.heap.size + 1 + 1) (((((Keeps.refl wr _).setCell (j := 0) (.inl rfl) _).setCell (j := 0) (.inr rfl) _).setCell (j := 1) (.inr rfl) _).setCell (j := 2) (.inr rfl) _) (fun b hb e => by have := HZ12.out; omega)).more (by have := HZ12.out.1; omega)
  · have hq1 := fun w => verd_neq1 ha vb vc w
    have hne1 : X ≠ w.heap.size + 1 := by have := HX1.out; omega
    have hne2 : w.heap.size + 1 ≠ X := by have := HX1.out; omega
    have hne3 : X ≠ w.heap.size + 1 + 1 := by have := HX1.out; omega
    have hne4 : w.heap.size + 1 + 1 ≠ X := by have := HX1.out; omega
    clear hx1 HC2 HF HBit HX1
    have HAn := hide ha
    clear ha
    go_upto_region 3 with (fail)
    clear hq1
    go_region
    all_goals
      go_wp2_with fail
      refine bodyPost_ret (v := .tuple #[.agg #[nilS], .agg #[.int .i64 va, .int .i64 vb, .int .i64 vc]]) ?_ rfl ⟨va, vb, vc, nilS, rfl, HV.out, ?_, .inl ⟨HAn.out, rfl⟩⟩
      · simp [results, Tryz.results7, go_sem, nilS, r0, v0, v1, v2]
      · exact ((((HB2.out.setCell (by show w.heap.size ≤ w.heap.size + 1; omega) _).setCell (by show w.heap.size ≤ w.heap.size + 1 + 1; omega) _).setCell (by show w.heap.size ≤ w.heap.size + 1 + 1; omega) _).setCell (by show w.heap.size ≤ w.heap.size + 1 + 1; omega) _).drew
structure FW where
  v4 : Value
  v5 : Value
  v6 : Value
  v7 : Value
  nu : Nat
  nc : Nat
  ni : Nat
def FvB (y : FW) (b : Nat) : Prop := BsV y.v4 y.v5 y.v6 y.v7 b
def LayP (n : Nat) (Y : Nat → FW) : Prop := ∀ i j, i < n → j < n → i ≠ j → ∀ b, FvB (Y i) b → ¬ FvB (Y j) b
theorem LayP.off {n : Nat} {Y : Nat → FW} (h : LayP n Y) {i j b : Nat} (hi : i < n) (hj : j < n) (hne : i ≠ j) (hb : FvB (Y i) b) : ¬ FvB (Y j) b := h i j hi hj hne b hb
def FW.wt (y : FW) : Nat := y.nu + y.nc + y.ni + y.ni
def wtY (Y : Nat → FW) : Nat → Nat
  | 0 => 0
  | n + 1 => wtY Y n + (Y n).wt
theorem wtY_1 (Y : Nat → FW) (n : Nat) : wtY Y (n + 1) = wtY Y n + (Y n).wt := rfl
theorem wtY_mono (Y : Nat → FW) {i n : Nat} (h : i ≤ n) : wtY Y i ≤ wtY Y n := by
  induction h with
  | refl => exact Nat.le_refl _
  | step _ ih => exact Nat.le_trans ih (by rw [wtY_1]; omega)
def PlF (w : World) (y : FW) : Prop := (∃ f, SlF w 104 2 y.v4 y.nu f) ∧ (∃ f, SlF w 81 4 y.v5 y.nc f) ∧ (∃ f, SlF w 51 4 y.v6 y.ni f) ∧ (∃ f, SlF w 3 1 y.v7 y.ni f)
def MkF (w : World) (y : FW) (k : Nat) : Prop := SlF w 104 2 y.v4 y.nu (mkUpS (k + 4)) ∧ SlF w 81 4 y.v5 y.nc (mkConstS (k + 4 + y.nu * 2)) ∧ SlF w 51 4 y.v6 y.ni (mkInstrS (k + 4 + y.nu * 2 + y.nc * 4)) ∧ SlF w 3 1 y.v7 y.ni (mkIntS (k + 4 + y.nu * 2 + y.nc * 4 + y.ni * 4))
theorem MkF.pl {w : World} {y : FW} {k : Nat} (h : MkF w y k) : PlF w y := ⟨⟨_, h.1⟩, ⟨_, h.2.1⟩, ⟨_, h.2.2.1⟩, ⟨_, h.2.2.2⟩⟩
theorem MkF.keep {w w' : World} {y : FW} {k : Nat} {S : Nat → Prop} (h : MkF w y k) (hk : Keeps w w' S) (hn : ∀ b, FvB y b → ¬ S b) : MkF w' y k :=
  ⟨h.1.keep hk (fun b hb => hn b (.inl hb)), h.2.1.keep hk (fun b hb => hn b (.inr (.inl hb))), h.2.2.1.keep hk (fun b hb => hn b (.inr (.inr (.inl hb)))), h.2.2.2.keep hk (fun b hb => hn b (.inr (.inr (.inr hb))))⟩
theorem PlF.keep {w w' : World} {y : FW} {S : Nat → Prop} (h : PlF w y) (hk : Keeps w w' S) (hn : ∀ b, FvB y b → ¬ S b) : PlF w' y := by
  obtain ⟨⟨f1, h1⟩, ⟨f2, h2⟩, ⟨f3, h3⟩, ⟨f4, h4⟩⟩ := h
  exact ⟨⟨f1, h1.keep hk (fun b hb => hn b (.inl hb))⟩, ⟨f2, h2.keep hk (fun b hb => hn b (.inr (.inl hb)))⟩, ⟨f3, h3.keep hk (fun b hb => hn b (.inr (.inr (.inl hb))))⟩, ⟨f4, h4.keep hk (fun b hb => hn b (.inr (.inr (.inr hb))))⟩⟩
theorem PlF.offG {w : World} {y : FW} {G N : Nat} {f : Nat → Value} (h : PlF w y) (hr : RowF w 45 G N f) {b : Nat} (hb : FvB y b) : b ≠ G := by
  obtain ⟨⟨f1, h1⟩, ⟨f2, h2⟩, ⟨f3, h3⟩, ⟨f4, h4⟩⟩ := h
  rcases hb with hb | hb | hb | hb
  · exact (h1.own hb).apart hr (by decide)
  · exact (h2.own hb).apart hr (by decide)
  · exact (h3.own hb).apart hr (by decide)
  · exact (h4.own hb).apart hr (by decide)
def fvK (y : FW) : Nat := 4 + y.nu * 2 + y.nc * 4 + y.ni * 4 + y.ni
def kF (Y : Nat → FW) (k : Nat) : Nat → Nat
  | 0 => k
  | i + 1 => kF Y k i + fvK (Y i)
theorem pv_wt (y : FW) : y.nu + y.nc + y.ni + y.ni ≤ y.wt := by
  exact Nat.le_refl _
theorem kF_le (Y : Nat → FW) (k : Nat) : ∀ i, kF Y k i ≤ k + 4 * i + 4 * wtY Y i
  | 0 => by simp [kF]
  | i + 1 => by
    have h1 := kF_le Y k i
    have h2 := pv_wt (Y i)
    have h3 := wtY_1 Y i
    simp only [kF, fvK]
    omega
theorem kF_ge (Y : Nat → FW) (k : Nat) : ∀ i, k ≤ kF Y k i
  | 0 => Nat.le_refl _
  | i + 1 => Nat.le_trans (kF_ge Y k i) (Nat.le_add_right _ _)
structure MkS (w : World) (G n : Nat) (Y : Nat → FW) (k i : Nat) : Prop where
  row : ∃ f, RowF w 45 G (n * 8) f ∧ (∀ j, j < n → f (j * 8 + 4) = (Y j).v4 ∧ f (j * 8 + 5) = (Y j).v5 ∧ f (j * 8 + 6) = (Y j).v6 ∧ f (j * 8 + 7) = (Y j).v7) ∧ (∀ j, j < i → f (j * 8) = .int .i64 (kF Y k j) ∧ f (j * 8 + 1) = .int .i64 ((kF Y k j : Int) + 1) ∧ f (j * 8 + 2) = .int .i64 ((kF Y k j : Int) + 1 + 1) ∧ f (j * 8 + 3) = .bool (((kF Y k j : Int) + 1 + 1 + 1) % 3 == 0))
  old : ∀ j, j < i → j < n → MkF w (Y j) (kF Y k j)
  new : ∀ j, i ≤ j → j < n → PlF w (Y j)
theorem MkS.low {w w' : World} {G n k i B : Nat} {Y : Nat → FW} (h : MkS w G n Y k i) (hb : Below B w w') (hB : w.heap.size ≤ B) : MkS w' G n Y k i := by
  have hk := Keeps.of hb hB (fun _ => False)
  obtain ⟨f, h1, h2⟩ := h.row
  exact ⟨⟨f, h1.keep hk (fun x => x), h2⟩, fun j hj hjn => (h.old j hj hjn).keep hk (fun _ _ x => x), fun j hj hjn => (h.new j hj hjn).keep hk (fun _ _ x => x)⟩
end Go.Proofs.YtgnbhhgpaldheaaGreat
