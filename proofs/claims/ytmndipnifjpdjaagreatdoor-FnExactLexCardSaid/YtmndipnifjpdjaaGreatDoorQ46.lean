import Derived.Deep.RegionLaw
import Derived.Test.YtmndipnifjpdjaaGreatDoorQ45
namespace Go.Proofs.YtmndipnifjpdjaaGreatDoor
open Go Go.RowKit
set_option linter.unusedVariables false
set_option maxHeartbeats 3200000 in
set_option maxRecDepth 100000 in
theorem one_sign (s : ByteArray) (S base p : Nat) (L : List (Tk × Nat)) (v : Value) (fl fa : Int) (wb w : World) (h : OneB s S base p L v fl fa wb w) (hbl : isBl (hb s p) = false) (hcm : ¬ isCom (fr s p)) (hcl : cls (fr s p) = 5) (hlf : isLet (hb s p) = false) (hnf : numB (fr s p) = false) (hqf : ¬ (hb s p = 34 ∨ hb s p = 39)) (hlo : ¬ ∃ n, LongOpen (fr s p) n) :
    Calls Tryz.prog 16 #[.pointer (some ⟨S, 0, none⟩)] w fun e w' => OneR s S base p L fl fa wb e w' := by
  have HH := hide h
  have hs := h.hs
  have hp := h.hp
  have hnl := nlc_le s p
  have hr := hb_rng s p
  clear h
  go_enter Tryz.func16, Tryz.ntmps16
  go_wp2_with fail
  refine (here_any s S p 0 v 0 fl fa _ HH.out.lx hs (by omega) (by omega)).mono ?_
  rintro e w1 ⟨rfl, m0, hw1⟩
  have HH1 : Hid (OneB s S base p L v fl fa wb w1) := hide (by rw [hw1]; exact HH.out.drw m0)
  clear hw1 HH
  rw [Nat.add_zero]
  obtain ⟨c, hc⟩ : ∃ c, hb s p = c := ⟨_, rfl⟩
  have Hc := hide hc
  rw [hc] at hr hbl hlf hqf ⊢
  clear hc
  obtain ⟨c0, c1, c2, c3, c4, c5, c6, z1, z2, z3, z4, z5, z6⟩ := HH1.out.lx.cells
  have hlt := HH1.out.lx.lt
  have HT := hide HH1.out.mid
  have hLp := HH1.out.hL
  have hbw := HH1.out.hb
  have HBL : Hid (isBl c = false) := hide hbl
  have hq9 : (c == 9) = false := bq_f (fun e => by subst e; cases hbl)
  have hq10 : (c == 10) = false := bq_f (fun e => by subst e; cases hbl)
  have hq13 : (c == 13) = false := bq_f (fun e => by subst e; cases hbl)
  have hq32 : (c == 32) = false := bq_f (fun e => by subst e; cases hbl)
  have HCM := hide hcm
  have HCL := hide hcl
  have HLF := hide hlf
  have HNF := hide hnf
  have HLO := hide hlo
  have hq34 : (c == 34) = false := bq_f (fun e => hqf (.inl e))
  have hq39 : (c == 39) = false := bq_f (fun e => hqf (.inr e))
  clear hbl hcm hcl hlf hnf hqf hlo
  have hd0 : isDig c = false := by
    have := HNF.out
    unfold numB at this
    rw [Bool.or_eq_false_iff] at this
    have h1 := this.1
    rw [show fr s p 0 = c from Hc.out] at h1
    exact h1
  have HD1 : Hid (c = 46 → isDig (hb s (p + 1)) = false) := hide (fun e => by
    have := HNF.out
    unfold numB at this
    rw [Bool.or_eq_false_iff, Bool.and_eq_false_iff] at this
    rcases this.2 with h1 | h1
    · rw [show fr s p 0 = c from Hc.out, e] at h1; cases h1
    · exact h1)
  by_cases h45 : c = 45
  · have hq45 := bq_t h45
    have hq46 : (c == 46) = false := bq_f (by omega)
    have hn45 : hb s (p + 1) ≠ 45 := fun e => HCM.out ⟨by rw [show fr s p 0 = c from Hc.out]; exact h45, e⟩
    have hqn := bq_f hn45
    clear hn45 h45
    go_wp2
    go_region
    clear c0 c1 c2 c3 c4 c5 c6 z1 z2 z3 z4 z5 z6
    go_wp2_with fail
    change Calls _ _ _ (w1.alloc (.cells (tokZ ((nlc s p : Int) + 1) p) 37)).drew _
    obtain ⟨D, hD⟩ : ∃ D, w1.heap.size = D := ⟨_, rfl⟩
    rw [hD] at HT ⊢
    generalize hw2 : (w1.alloc (.cells (tokZ ((nlc s p : Int) + 1) p) 37)).drew = w2
    rw [hw2] at HT
    clear hw2 hD hlt hbw
    have hbD := HT.out.hbD
    have hSb := HT.out.hSb
    refine (here_any s S p 1 v 0 fl fa _ HT.out.lx hs (by omega) (by omega)).mono ?_
    rintro e w3 ⟨rfl, m3, hw3⟩
    have HM : Hid (Mid s S base D p L v 0 fl fa 0 ((nlc s p : Int) + 1) p ⟨#[]⟩ 0 0 wb w3) := hide (by rw [hw3]; exact HT.out.drw m3)
    clear hw3 HT
    rename World => wz
    go_wp2_with fail
    refine (letter_any c _ hr.1 hr.2).mono ?_
    rintro e w3 ⟨rfl, hw3⟩
    rw [hw3, HLF.out]
    clear hw3 w3
    go_wp2_with fail
    refine (digit_any c _ hr.1 hr.2).mono ?_
    rintro e w3 ⟨rfl, hw3⟩
    rw [hw3, hd0]
    clear hw3 w3
    go_wp2_with fail
    refine (long_any s S p v 0 fl fa _ HM.out.lx hs (by omega)).mono ?_
    rintro e w4 hlr
    have hl4 : e = .returned (.tuple #[.string ⟨#[]⟩, .bool false]) ∧ Lx s S p v 0 fl fa w4 ∧ World.grownBy wz w4 (some S) := by
      rcases hlr with ⟨h1, h2, h3, h4⟩ | ⟨n, cc, h1, _⟩ | ⟨n, p', h1, _⟩
      · exact ⟨h1, h3, h4⟩
      · exact absurd ⟨n, h1⟩ HLO.out
      · exact absurd ⟨n, h1⟩ HLO.out
    obtain ⟨rfl, hx4, hg4⟩ := hl4
    have HM4 := hide (HM.out.onS hg4 hx4)
    clear hlr hx4 hg4 HM
    go_wp2_with fail
    refine (sign_any s S p v 0 fl fa _ HM4.out.lx hs (by omega)).mono ?_
    rintro e w5 ⟨kk, rfl, hSN, hb5⟩
    have HSN := hide hSN
    have HM5 := hide (HM4.out.low hb5)
    clear hSN hb5 HM4
    have hkk3 := HSN.out.1
    by_cases hk0 : kk = 0
    · subst hk0
      obtain ⟨c0, c1, c2, c3, c4, c5, c6, z1, z2, z3, z4, z5, z6⟩ := HM5.out.lx.cells
      go_wp2
      refine wp_tail 9 (by kernel_rfl) (by kernel_rfl) (fun ops => ?_)
      simp only [List.take_succ_cons, List.take_zero, List.drop_succ_cons, List.drop_zero]
      iterate 9 (refine still_next rfl (fun K hK => ?_); go_simp; refine hK _ ?_; clear hK K)
      refine wpStill_nil ?_
      go_wp2_with fail
      clear c0 c1 c2 c3 c4 c5 c6 z1 z2 z3 z4 z5 z6
      refine (bad_any s S p v 0 fl fa 2 _ _ _ (HM5.out.drw 1).lx).mono ?_
      rintro e w7 ⟨rfl, hx7, hg7⟩
      have HM7 := hide ((HM5.out.drw 1).onS hg7 hx7)
      clear hx7 hg7 HM5
      go_wp2
      refine bodyPost_ret (v := .tuple #[]) (by simp [results, Tryz.results16, go_sem]) rfl ?_
      exact oneR_bad HM7.out.bel (by have := HM7.out.tb.lt; omega) (by decide) HM7.out.lx (fun f => by have := f.bad hp (by rw [Hc.out]; exact HBL.out) HCM.out (Rd.signBad HCL.out HSN.out); rw [Nat.add_zero] at this; exact this)
    · have hk1 : 1 ≤ kk := by omega
      have hks := (HSN.out.2.1 hk1).1
      have hq0 : ((kk : Int) == 0) = false := bq_f (by omega)
      obtain ⟨c0, c1, c2, c3, c4, c5, c6, z1, z2, z3, z4, z5, z6⟩ := HM5.out.lx.cells
      obtain ⟨t0, t1, t2, t3, t4, t5, y0, y3, y4, y5⟩ := HM5.out.tb.cells
      have HM6 := hide ((HM5.out.set0 6).set3 (s.extract p (p + kk)))
      have hne := HM5.out.ne
      have hne' := hne.symm
      have hsl := fun w' : World => slc_str s (i := (p : Int)) (j := (p : Int) + kk) w' (by omega) (by omega) (by omega)
      rw [show ((p : Int)).toNat = p by omega, show ((p : Int) + kk).toNat = p + kk by omega] at hsl
      have hw1 : IntKind.i64.wrap ((p : Int) + kk) = (p : Int) + kk := wrap_id (by omega) (by omega)
      go_wp2
      refine wp_tail 16 (by kernel_rfl) (by kernel_rfl) (fun ops => ?_)
      simp only [List.take_succ_cons, List.take_zero, List.drop_succ_cons, List.drop_zero]
      iterate 16 (refine still_next rfl (fun K hK => ?_); go_simp; refine hK _ ?_; clear hK K)
      refine wpStill_nil ?_
      clear hw1
      go_wp2_with fail
      clear c0 c1 c2 c3 c4 c5 c6 z1 z2 z3 z4 z5 z6 t0 t1 t2 t3 t4 t5 y0 y3 y4 y5 hsl
      refine (step_any s S p kk v 0 fl fa _ (HM6.out.drw 1).lx hs (by omega)).mono ?_
      rintro e w7 ⟨rfl, hx7, hg7⟩
      have HMM := hide ((HM6.out.drw 1).onS hg7 hx7)
      clear hx7 hg7 HM5 HM6
      obtain ⟨c0, c1, c2, c3, c4, c5, c6, z1, z2, z3, z4, z5, z6⟩ := HMM.out.lx.cells
      obtain ⟨t0, t1, t2, t3, t4, t5, y0, y3, y4, y5⟩ := HMM.out.tb.cells
      have hSlt := HMM.out.lx.lt
      have hDlt := HMM.out.tb.lt
      have hod := HMM.out.hod
      have hne1 : w7.heap.size ≠ S := by omega
      have hne2 : w7.heap.size ≠ D := by omega
      have agS : v.ownBlock ≠ some S := fun e => by have := (World.ownsRow.lt HMM.out.own S e).1; omega
      have agD : v.ownBlock ≠ some D := fun e => by have := hod D e; omega
      have HOD := hide hod
      clear hod
      have HZ3 : Hid ((w7.alloc (.cells (tokC s (⟨6, (s.extract p (p + kk)), 0, 0⟩, p)).toArray 37)).drew.frozen? ⟨S, 3, none⟩ = false) := hide ((Below.frozen (((Below.refl w7.heap.size w7).alloc (Nat.le_refl _) _).drew) (p := ⟨S, 3, none⟩) hSlt).trans z3)
      have HC3 : Hid ((w7.alloc (.cells (tokC s (⟨6, (s.extract p (p + kk)), 0, 0⟩, p)).toArray 37)).drew.cell? ⟨S, 3, none⟩ = some v) := hide ((Below.cell (((Below.refl w7.heap.size w7).alloc (Nat.le_refl _) _).drew) (p := ⟨S, 3, none⟩) hSlt).trans c3)
      have HDC : Hid (∀ (j : Nat) (u : Value), w7.cell? ⟨D, j, none⟩ = some u → (w7.alloc (.cells (tokC s (⟨6, (s.extract p (p + kk)), 0, 0⟩, p)).toArray 37)).drew.cell? ⟨D, j, none⟩ = some u) := hide (fun j u hu => (Below.cell (((Below.refl w7.heap.size w7).alloc (Nat.le_refl _) _).drew) (p := ⟨D, j, none⟩) hDlt).trans hu)
      go_wp2
      go_region_law
        ((refine step_tok (by rfl) _ _ (by rfl) s base w7.heap.size v L (⟨6, (s.extract p (p + kk)), 0, 0⟩, p) (by rfl) (HMM.out.own.low (((Below.refl _ _).alloc (Nat.le_refl _) _).drew)) (by rfl) (heap_alloc_new w7 _) (by omega) (by simp; omega) ?_; intro gg cap w9 hown9 hgrow hsz9; have kz : w9.frozen? ⟨S, 3, none⟩ = false := (hgrow.frozen_far ⟨S, 3, none⟩ (by simp; omega) (Ne.symm agS)).trans HZ3.out; have k3 : w9.cell? ⟨S, 3, none⟩ = some v := (hgrow.cell_far ⟨S, 3, none⟩ (by simp; omega) (Ne.symm agS)).trans HC3.out; have e0 := (hgrow.cell_far ⟨D, 0, none⟩ (by simp; omega) (Ne.symm agD)).trans (HDC.out 0 _ t0); have e1 := (hgrow.cell_far ⟨D, 1, none⟩ (by simp; omega) (Ne.symm agD)).trans (HDC.out 1 _ t1); have e2 := (hgrow.cell_far ⟨D, 2, none⟩ (by simp; omega) (Ne.symm agD)).trans (HDC.out 2 _ t2); have e3 := (hgrow.cell_far ⟨D, 3, none⟩ (by simp; omega) (Ne.symm agD)).trans (HDC.out 3 _ t3); have e4 := (hgrow.cell_far ⟨D, 4, none⟩ (by simp; omega) (Ne.symm agD)).trans (HDC.out 4 _ t4); have e5 := (hgrow.cell_far ⟨D, 5, none⟩ (by simp; omega) (Ne.symm agD)).trans (HDC.out 5 _ t5)))
      all_goals go_end0
      all_goals have hend := mid_end HMM.out _ hgrow
      all_goals exact mid_app HMM.out (.inr trivial) rfl hk1 (by omega) hLp hown9 hend.1 hend.2.1 hend.2.2 (fun f => f.tok hp (by rw [Hc.out]; exact HBL.out) HCM.out (Rd.sign HCL.out hk1 HSN.out))
  · have hq45 := bq_f h45
    clear h45
    go_wp2
    go_region
    clear c0 c1 c2 c3 c4 c5 c6 z1 z2 z3 z4 z5 z6
    go_wp2_with fail
    change Calls _ _ _ (w1.alloc (.cells (tokZ ((nlc s p : Int) + 1) p) 37)).drew _
    obtain ⟨D, hD⟩ : ∃ D, w1.heap.size = D := ⟨_, rfl⟩
    rw [hD] at HT ⊢
    generalize hw2 : (w1.alloc (.cells (tokZ ((nlc s p : Int) + 1) p) 37)).drew = w2
    rw [hw2] at HT
    clear hw2 hD hlt hbw
    have hbD := HT.out.hbD
    have hSb := HT.out.hSb
    refine (letter_any c _ hr.1 hr.2).mono ?_
    rintro e w3 ⟨rfl, hw3⟩
    rw [hw3, HLF.out]
    clear hw3 w3
    go_wp2_with fail
    refine (digit_any c _ hr.1 hr.2).mono ?_
    rintro e w3 ⟨rfl, hw3⟩
    rw [hw3, hd0]
    clear hw3 w3
    by_cases h46 : c = 46
    · have hq46 := bq_t h46
      have hdd := HD1.out h46
      have hrd := hb_rng s (p + 1)
      clear h46
      go_wp2_with fail
      refine (here_any s S p 1 v 0 fl fa _ HT.out.lx hs (by omega) (by omega)).mono ?_
      rintro e w3 ⟨rfl, m3, hw3⟩
      have HM : Hid (Mid s S base D p L v 0 fl fa 0 ((nlc s p : Int) + 1) p ⟨#[]⟩ 0 0 wb w3) := hide (by rw [hw3]; exact HT.out.drw m3)
      clear hw3 HT
      rename World => wz
      go_wp2_with fail
      refine (digit_any (hb s (p + 1)) _ hrd.1 hrd.2).mono ?_
      rintro e w3 ⟨rfl, hw3⟩
      rw [hw3, hdd]
      clear hw3 w3
      go_wp2_with fail
      refine (long_any s S p v 0 fl fa _ HM.out.lx hs (by omega)).mono ?_
      rintro e w4 hlr
      have hl4 : e = .returned (.tuple #[.string ⟨#[]⟩, .bool false]) ∧ Lx s S p v 0 fl fa w4 ∧ World.grownBy wz w4 (some S) := by
        rcases hlr with ⟨h1, h2, h3, h4⟩ | ⟨n, cc, h1, _⟩ | ⟨n, p', h1, _⟩
        · exact ⟨h1, h3, h4⟩
        · exact absurd ⟨n, h1⟩ HLO.out
        · exact absurd ⟨n, h1⟩ HLO.out
      obtain ⟨rfl, hx4, hg4⟩ := hl4
      have HM4 := hide (HM.out.onS hg4 hx4)
      clear hlr hx4 hg4 HM
      go_wp2_with fail
      refine (sign_any s S p v 0 fl fa _ HM4.out.lx hs (by omega)).mono ?_
      rintro e w5 ⟨kk, rfl, hSN, hb5⟩
      have HSN := hide hSN
      have HM5 := hide (HM4.out.low hb5)
      clear hSN hb5 HM4
      have hkk3 := HSN.out.1
      by_cases hk0 : kk = 0
      · subst hk0
        obtain ⟨c0, c1, c2, c3, c4, c5, c6, z1, z2, z3, z4, z5, z6⟩ := HM5.out.lx.cells
        go_wp2
        refine wp_tail 9 (by kernel_rfl) (by kernel_rfl) (fun ops => ?_)
        simp only [List.take_succ_cons, List.take_zero, List.drop_succ_cons, List.drop_zero]
        iterate 9 (refine still_next rfl (fun K hK => ?_); go_simp; refine hK _ ?_; clear hK K)
        refine wpStill_nil ?_
        go_wp2_with fail
        clear c0 c1 c2 c3 c4 c5 c6 z1 z2 z3 z4 z5 z6
        refine (bad_any s S p v 0 fl fa 2 _ _ _ (HM5.out.drw 1).lx).mono ?_
        rintro e w7 ⟨rfl, hx7, hg7⟩
        have HM7 := hide ((HM5.out.drw 1).onS hg7 hx7)
        clear hx7 hg7 HM5
        go_wp2
        refine bodyPost_ret (v := .tuple #[]) (by simp [results, Tryz.results16, go_sem]) rfl ?_
        exact oneR_bad HM7.out.bel (by have := HM7.out.tb.lt; omega) (by decide) HM7.out.lx (fun f => by have := f.bad hp (by rw [Hc.out]; exact HBL.out) HCM.out (Rd.signBad HCL.out HSN.out); rw [Nat.add_zero] at this; exact this)
      · have hk1 : 1 ≤ kk := by omega
        have hks := (HSN.out.2.1 hk1).1
        have hq0 : ((kk : Int) == 0) = false := bq_f (by omega)
        obtain ⟨c0, c1, c2, c3, c4, c5, c6, z1, z2, z3, z4, z5, z6⟩ := HM5.out.lx.cells
        obtain ⟨t0, t1, t2, t3, t4, t5, y0, y3, y4, y5⟩ := HM5.out.tb.cells
        have HM6 := hide ((HM5.out.set0 6).set3 (s.extract p (p + kk)))
        have hne := HM5.out.ne
        have hne' := hne.symm
        have hsl := fun w' : World => slc_str s (i := (p : Int)) (j := (p : Int) + kk) w' (by omega) (by omega) (by omega)
        rw [show ((p : Int)).toNat = p by omega, show ((p : Int) + kk).toNat = p + kk by omega] at hsl
        have hw1 : IntKind.i64.wrap ((p : Int) + kk) = (p : Int) + kk := wrap_id (by omega) (by omega)
        go_wp2
        refine wp_tail 16 (by kernel_rfl) (by kernel_rfl) (fun ops => ?_)
        simp only [List.take_succ_cons, List.take_zero, List.drop_succ_cons, List.drop_zero]
        iterate 16 (refine still_next rfl (fun K hK => ?_); go_simp; refine hK _ ?_; clear hK K)
        refine wpStill_nil ?_
        clear hw1
        go_wp2_with fail
        clear c0 c1 c2 c3 c4 c5 c6 z1 z2 z3 z4 z5 z6 t0 t1 t2 t3 t4 t5 y0 y3 y4 y5 hsl
        refine (step_any s S p kk v 0 fl fa _ (HM6.out.drw 1).lx hs (by omega)).mono ?_
        rintro e w7 ⟨rfl, hx7, hg7⟩
        have HMM := hide ((HM6.out.drw 1).onS hg7 hx7)
        clear hx7 hg7 HM5 HM6
        obtain ⟨c0, c1, c2, c3, c4, c5, c6, z1, z2, z3, z4, z5, z6⟩ := HMM.out.lx.cells
        obtain ⟨t0, t1, t2, t3, t4, t5, y0, y3, y4, y5⟩ := HMM.out.tb.cells
        have hSlt := HMM.out.lx.lt
        have hDlt := HMM.out.tb.lt
        have hod := HMM.out.hod
        have hne1 : w7.heap.size ≠ S := by omega
        have hne2 : w7.heap.size ≠ D := by omega
        have agS : v.ownBlock ≠ some S := fun e => by have := (World.ownsRow.lt HMM.out.own S e).1; omega
        have agD : v.ownBlock ≠ some D := fun e => by have := hod D e; omega
        have HOD := hide hod
        clear hod
        have HZ3 : Hid ((w7.alloc (.cells (tokC s (⟨6, (s.extract p (p + kk)), 0, 0⟩, p)).toArray 37)).drew.frozen? ⟨S, 3, none⟩ = false) := hide ((Below.frozen (((Below.refl w7.heap.size w7).alloc (Nat.le_refl _) _).drew) (p := ⟨S, 3, none⟩) hSlt).trans z3)
        have HC3 : Hid ((w7.alloc (.cells (tokC s (⟨6, (s.extract p (p + kk)), 0, 0⟩, p)).toArray 37)).drew.cell? ⟨S, 3, none⟩ = some v) := hide ((Below.cell (((Below.refl w7.heap.size w7).alloc (Nat.le_refl _) _).drew) (p := ⟨S, 3, none⟩) hSlt).trans c3)
        have HDC : Hid (∀ (j : Nat) (u : Value), w7.cell? ⟨D, j, none⟩ = some u → (w7.alloc (.cells (tokC s (⟨6, (s.extract p (p + kk)), 0, 0⟩, p)).toArray 37)).drew.cell? ⟨D, j, none⟩ = some u) := hide (fun j u hu => (Below.cell (((Below.refl w7.heap.size w7).alloc (Nat.le_refl _) _).drew) (p := ⟨D, j, none⟩) hDlt).trans hu)
        go_wp2
        go_region_law
          ((refine step_tok (by rfl) _ _ (by rfl) s base w7.heap.size v L (⟨6, (s.extract p (p + kk)), 0, 0⟩, p) (by rfl) (HMM.out.own.low (((Below.refl _ _).alloc (Nat.le_refl _) _).drew)) (by rfl) (heap_alloc_new w7 _) (by omega) (by simp; omega) ?_; intro gg cap w9 hown9 hgrow hsz9; have kz : w9.frozen? ⟨S, 3, none⟩ = false := (hgrow.frozen_far ⟨S, 3, none⟩ (by simp; omega) (Ne.symm agS)).trans HZ3.out; have k3 : w9.cell? ⟨S, 3, none⟩ = some v := (hgrow.cell_far ⟨S, 3, none⟩ (by simp; omega) (Ne.symm agS)).trans HC3.out; have e0 := (hgrow.cell_far ⟨D, 0, none⟩ (by simp; omega) (Ne.symm agD)).trans (HDC.out 0 _ t0); have e1 := (hgrow.cell_far ⟨D, 1, none⟩ (by simp; omega) (Ne.symm agD)).trans (HDC.out 1 _ t1); have e2 := (hgrow.cell_far ⟨D, 2, none⟩ (by simp; omega) (Ne.symm agD)).trans (HDC.out 2 _ t2); have e3 := (hgrow.cell_far ⟨D, 3, none⟩ (by simp; omega) (Ne.symm agD)).trans (HDC.out 3 _ t3); have e4 := (hgrow.cell_far ⟨D, 4, none⟩ (by simp; omega) (Ne.symm agD)).trans (HDC.out 4 _ t4); have e5 := (hgrow.cell_far ⟨D, 5, none⟩ (by simp; omega) (Ne.symm agD)).trans (HDC.out 5 _ t5)))
        all_goals go_end0
        all_goals have hend := mid_end HMM.out _ hgrow
        all_goals exact mid_app HMM.out (.inr trivial) rfl hk1 (by omega) hLp hown9 hend.1 hend.2.1 hend.2.2 (fun f => f.tok hp (by rw [Hc.out]; exact HBL.out) HCM.out (Rd.sign HCL.out hk1 HSN.out))
    · have hq46 := bq_f h46
      have HM := HT
      clear h46 HT
      go_wp2_with fail
      refine (long_any s S p v 0 fl fa _ HM.out.lx hs (by omega)).mono ?_
      rintro e w4 hlr
      have hl4 : e = .returned (.tuple #[.string ⟨#[]⟩, .bool false]) ∧ Lx s S p v 0 fl fa w4 ∧ World.grownBy w2 w4 (some S) := by
        rcases hlr with ⟨h1, h2, h3, h4⟩ | ⟨n, cc, h1, _⟩ | ⟨n, p', h1, _⟩
        · exact ⟨h1, h3, h4⟩
        · exact absurd ⟨n, h1⟩ HLO.out
        · exact absurd ⟨n, h1⟩ HLO.out
      obtain ⟨rfl, hx4, hg4⟩ := hl4
      have HM4 := hide (HM.out.onS hg4 hx4)
      clear hlr hx4 hg4 HM
      go_wp2_with fail
      refine (sign_any s S p v 0 fl fa _ HM4.out.lx hs (by omega)).mono ?_
      rintro e w5 ⟨kk, rfl, hSN, hb5⟩
      have HSN := hide hSN
      have HM5 := hide (HM4.out.low hb5)
      clear hSN hb5 HM4
      have hkk3 := HSN.out.1
      by_cases hk0 : kk = 0
      · subst hk0
        obtain ⟨c0, c1, c2, c3, c4, c5, c6, z1, z2, z3, z4, z5, z6⟩ := HM5.out.lx.cells
        go_wp2
        refine wp_tail 9 (by kernel_rfl) (by kernel_rfl) (fun ops => ?_)
        simp only [List.take_succ_cons, List.take_zero, List.drop_succ_cons, List.drop_zero]
        iterate 9 (refine still_next rfl (fun K hK => ?_); go_simp; refine hK _ ?_; clear hK K)
        refine wpStill_nil ?_
        go_wp2_with fail
        clear c0 c1 c2 c3 c4 c5 c6 z1 z2 z3 z4 z5 z6
        refine (bad_any s S p v 0 fl fa 2 _ _ _ (HM5.out.drw 1).lx).mono ?_
        rintro e w7 ⟨rfl, hx7, hg7⟩
        have HM7 := hide ((HM5.out.drw 1).onS hg7 hx7)
        clear hx7 hg7 HM5
        go_wp2
        refine bodyPost_ret (v := .tuple #[]) (by simp [results, Tryz.results16, go_sem]) rfl ?_
        exact oneR_bad HM7.out.bel (by have := HM7.out.tb.lt; omega) (by decide) HM7.out.lx (fun f => by have := f.bad hp (by rw [Hc.out]; exact HBL.out) HCM.out (Rd.signBad HCL.out HSN.out); rw [Nat.add_zero] at this; exact this)
      · have hk1 : 1 ≤ kk := by omega
        have hks := (HSN.out.2.1 hk1).1
        have hq0 : ((kk : Int) == 0) = false := bq_f (by omega)
        obtain ⟨c0, c1, c2, c3, c4, c5, c6, z1, z2, z3, z4, z5, z6⟩ := HM5.out.lx.cells
        obtain ⟨t0, t1, t2, t3, t4, t5, y0, y3, y4, y5⟩ := HM5.out.tb.cells
        have HM6 := hide ((HM5.out.set0 6).set3 (s.extract p (p + kk)))
        have hne := HM5.out.ne
        have hne' := hne.symm
        have hsl := fun w' : World => slc_str s (i := (p : Int)) (j := (p : Int) + kk) w' (by omega) (by omega) (by omega)
        rw [show ((p : Int)).toNat = p by omega, show ((p : Int) + kk).toNat = p + kk by omega] at hsl
        have hw1 : IntKind.i64.wrap ((p : Int) + kk) = (p : Int) + kk := wrap_id (by omega) (by omega)
        go_wp2
        refine wp_tail 16 (by kernel_rfl) (by kernel_rfl) (fun ops => ?_)
        simp only [List.take_succ_cons, List.take_zero, List.drop_succ_cons, List.drop_zero]
        iterate 16 (refine still_next rfl (fun K hK => ?_); go_simp; refine hK _ ?_; clear hK K)
        refine wpStill_nil ?_
        clear hw1
        go_wp2_with fail
        clear c0 c1 c2 c3 c4 c5 c6 z1 z2 z3 z4 z5 z6 t0 t1 t2 t3 t4 t5 y0 y3 y4 y5 hsl
        refine (step_any s S p kk v 0 fl fa _ (HM6.out.drw 1).lx hs (by omega)).mono ?_
        rintro e w7 ⟨rfl, hx7, hg7⟩
        have HMM := hide ((HM6.out.drw 1).onS hg7 hx7)
        clear hx7 hg7 HM5 HM6
        obtain ⟨c0, c1, c2, c3, c4, c5, c6, z1, z2, z3, z4, z5, z6⟩ := HMM.out.lx.cells
        obtain ⟨t0, t1, t2, t3, t4, t5, y0, y3, y4, y5⟩ := HMM.out.tb.cells
        have hSlt := HMM.out.lx.lt
        have hDlt := HMM.out.tb.lt
        have hod := HMM.out.hod
        have hne1 : w7.heap.size ≠ S := by omega
        have hne2 : w7.heap.size ≠ D := by omega
        have agS : v.ownBlock ≠ some S := fun e => by have := (World.ownsRow.lt HMM.out.own S e).1; omega
        have agD : v.ownBlock ≠ some D := fun e => by have := hod D e; omega
        have HOD := hide hod
        clear hod
        have HZ3 : Hid ((w7.alloc (.cells (tokC s (⟨6, (s.extract p (p + kk)), 0, 0⟩, p)).toArray 37)).drew.frozen? ⟨S, 3, none⟩ = false) := hide ((Below.frozen (((Below.refl w7.heap.size w7).alloc (Nat.le_refl _) _).drew) (p := ⟨S, 3, none⟩) hSlt).trans z3)
        have HC3 : Hid ((w7.alloc (.cells (tokC s (⟨6, (s.extract p (p + kk)), 0, 0⟩, p)).toArray 37)).drew.cell? ⟨S, 3, none⟩ = some v) := hide ((Below.cell (((Below.refl w7.heap.size w7).alloc (Nat.le_refl _) _).drew) (p := ⟨S, 3, none⟩) hSlt).trans c3)
        have HDC : Hid (∀ (j : Nat) (u : Value), w7.cell? ⟨D, j, none⟩ = some u → (w7.alloc (.cells (tokC s (⟨6, (s.extract p (p + kk)), 0, 0⟩, p)).toArray 37)).drew.cell? ⟨D, j, none⟩ = some u) := hide (fun j u hu => (Below.cell (((Below.refl w7.heap.size w7).alloc (Nat.le_refl _) _).drew) (p := ⟨D, j, none⟩) hDlt).trans hu)
        go_wp2
        go_region_law
          ((refine step_tok (by rfl) _ _ (by rfl) s base w7.heap.size v L (⟨6, (s.extract p (p + kk)), 0, 0⟩, p) (by rfl) (HMM.out.own.low (((Below.refl _ _).alloc (Nat.le_refl _) _).drew)) (by rfl) (heap_alloc_new w7 _) (by omega) (by simp; omega) ?_; intro gg cap w9 hown9 hgrow hsz9; have kz : w9.frozen? ⟨S, 3, none⟩ = false := (hgrow.frozen_far ⟨S, 3, none⟩ (by simp; omega) (Ne.symm agS)).trans HZ3.out; have k3 : w9.cell? ⟨S, 3, none⟩ = some v := (hgrow.cell_far ⟨S, 3, none⟩ (by simp; omega) (Ne.symm agS)).trans HC3.out; have e0 := (hgrow.cell_far ⟨D, 0, none⟩ (by simp; omega) (Ne.symm agD)).trans (HDC.out 0 _ t0); have e1 := (hgrow.cell_far ⟨D, 1, none⟩ (by simp; omega) (Ne.symm agD)).trans (HDC.out 1 _ t1); have e2 := (hgrow.cell_far ⟨D, 2, none⟩ (by simp; omega) (Ne.symm agD)).trans (HDC.out 2 _ t2); have e3 := (hgrow.cell_far ⟨D, 3, none⟩ (by simp; omega) (Ne.symm agD)).trans (HDC.out 3 _ t3); have e4 := (hgrow.cell_far ⟨D, 4, none⟩ (by simp; omega) (Ne.symm agD)).trans (HDC.out 4 _ t4); have e5 := (hgrow.cell_far ⟨D, 5, none⟩ (by simp; omega) (Ne.symm agD)).trans (HDC.out 5 _ t5)))
        all_goals go_end0
        all_goals have hend := mid_end HMM.out _ hgrow
        all_goals exact mid_app HMM.out (.inr trivial) rfl hk1 (by omega) hLp hown9 hend.1 hend.2.1 hend.2.2 (fun f => f.tok hp (by rw [Hc.out]; exact HBL.out) HCM.out (Rd.sign HCL.out hk1 HSN.out))
end Go.Proofs.YtmndipnifjpdjaaGreatDoor
