import Derived.Deep.RegionLaw
import Derived.Test.YtmndipnifjpdjaaGreatDoorQ48
import Derived.Test.YtmndipnifjpdjaaGreatDoorQ45
namespace Go.Proofs.YtmndipnifjpdjaaGreatDoor
open Go Go.RowKit
set_option linter.unusedVariables false
theorem mid_bad {s : ByteArray} {S base D q p o : Nat} {L : List (Tk × Nat)} {v v' : Value} {fc fl fa k l a gl ga : Int} {x : ByteArray} {i b : Int} {wb w w3 : World}
    (h : Mid s S base D q L v fc fl fa k l a x i b wb w) (hc : fc ≠ 0) (hl : fl = (nlc s o : Int) + 1) (ha : fa = ((o : Nat) : Int))
    (hg3 : Below wb.heap.size wb w3) (hx : Lx s S q v fc fl fa w3) (hsz : base ≤ w3.heap.size) (hF : Fwd s L p → LexR s 0 (.inr (fc, o))) :
    OneR s S base p L gl ga wb (.returned (.tuple #[])) (w3.setCell ⟨S, 3, none⟩ v') := by
  subst hl ha
  exact oneR_bad (v' := v') (hg3.setCell (p := ⟨S, 3, none⟩) h.hS _) (by simpa [World.setCell] using hsz) hc hx.setv hF
set_option maxHeartbeats 3200000 in
set_option maxRecDepth 100000 in
theorem one_quo (s : ByteArray) (S base p : Nat) (L : List (Tk × Nat)) (v : Value) (fl fa : Int) (wb w : World) (h : OneB s S base p L v fl fa wb w) (hbl : isBl (hb s p) = false) (hcm : ¬ isCom (fr s p)) (hcl : cls (fr s p) = 3) (hqf : hb s p = 34 ∨ hb s p = 39) :
    Calls Tryz.prog 16 #[.pointer (some ⟨S, 0, none⟩)] w fun e w' => OneR s S base p L fl fa wb e w' := by
  have HH := hide h
  have hs := h.hs
  have hp := h.hp
  have hnl := nlc_le s p
  have hr := hb_rng s p
  clear h
  go_enter Tryz.func16, Tryz.ntmps16
  go_wp2_with fail
  refine (here_any s S p 0 v 0 fl fa _ HH.out.lx hs (by omega) (by omega)).mono ?_
  rintro e w1 ⟨rfl, m0, hw1⟩
  have HH1 : Hid (OneB s S base p L v fl fa wb w1) := hide (by rw [hw1]; exact HH.out.drw m0)
  clear hw1 HH
  rw [Nat.add_zero]
  obtain ⟨c, hc⟩ : ∃ c, hb s p = c := ⟨_, rfl⟩
  have Hc := hide hc
  rw [hc] at hr hbl hqf ⊢
  clear hc
  obtain ⟨c0, c1, c2, c3, c4, c5, c6, z1, z2, z3, z4, z5, z6⟩ := HH1.out.lx.cells
  have hlt := HH1.out.lx.lt
  have HT := hide HH1.out.mid
  have hLp := HH1.out.hL
  have hbw := HH1.out.hb
  have HCM := hide hcm
  have HCL := hide hcl
  clear hcm hcl
  rcases hqf with rfl | rfl
  · have HBL : Hid (isBl 34 = false) := hide hbl
    have HLF : Hid (isLet 34 = false) := hide (by decide)
    have hd0 : isDig 34 = false := by decide
    clear hbl
    go_wp2
    go_region
    clear c0 c1 c2 c3 c4 c5 c6 z1 z2 z3 z4 z5 z6
    go_wp2_with fail
    change Calls _ _ _ (w1.alloc (.cells (tokZ ((nlc s p : Int) + 1) p) 37)).drew _
    obtain ⟨D, hD⟩ : ∃ D, w1.heap.size = D := ⟨_, rfl⟩
    rw [hD] at HT ⊢
    generalize hw2 : (w1.alloc (.cells (tokZ ((nlc s p : Int) + 1) p) 37)).drew = w2
    rw [hw2] at HT
    clear hw2 hD hlt hbw
    have hbD := HT.out.hbD
    have hSb := HT.out.hSb
    refine (letter_any 34 _ (by omega) (by omega)).mono ?_
    rintro e w3 ⟨rfl, hw3⟩
    rw [hw3, HLF.out]
    clear hw3 w3
    go_wp2_with fail
    refine (digit_any 34 _ (by omega) (by omega)).mono ?_
    rintro e w3 ⟨rfl, hw3⟩
    rw [hw3, hd0]
    clear hw3 w3
    obtain ⟨t0, t1, t2, t3, t4, t5, y0, y3, y4, y5⟩ := HT.out.tb.cells
    have HM1 := hide (HT.out.set0 5)
    go_wp2_with fail
    refine (quoted_any s S p v fl fa _ HM1.out.lx hs hp (by rw [Hc.out]; omega)).mono ?_
    clear t0 t1 t2 t3 t4 t5 y0 y3 y4 y5
    rintro e w4 (⟨l, k, hQ, hk2, hpk, rfl, hx4, hg4⟩ | ⟨cc, o, p', x, hQ, hc0, rfl, hx4, hg4⟩)
    · have HM4 := hide (HM1.out.onS hg4 hx4)
      have HQ : Hid (Quo (fr s p) (s.size - p) (hb s p) 1 [] (.inl (l, k))) := hide hQ
      clear hx4 hg4 HM1 hQ HT
      obtain ⟨t0, t1, t2, t3, t4, t5, y0, y3, y4, y5⟩ := HM4.out.tb.cells
      have HMM := hide (HM4.out.set3 (bytesOf l))
      go_wp2
      clear t0 t1 t2 t3 t4 t5 y0 y3 y4 y5
      generalize w4.setCell ⟨D, 3, none⟩ (.string (bytesOf l)) = w5 at HMM ⊢
      clear HM4
      obtain ⟨c0, c1, c2, c3, c4, c5, c6, z1, z2, z3, z4, z5, z6⟩ := HMM.out.lx.cells
      obtain ⟨t0, t1, t2, t3, t4, t5, y0, y3, y4, y5⟩ := HMM.out.tb.cells
      have hSlt := HMM.out.lx.lt
      have hDlt := HMM.out.tb.lt
      have hod := HMM.out.hod
      have hne1 : w5.heap.size ≠ S := by omega
      have hne2 : w5.heap.size ≠ D := by omega
      have agS : v.ownBlock ≠ some S := fun e => by have := (World.ownsRow.lt HMM.out.own S e).1; omega
      have agD : v.ownBlock ≠ some D := fun e => by have := hod D e; omega
      have HOD := hide hod
      clear hod
      have HZ3 : Hid ((w5.alloc (.cells (tokC s (⟨5, (bytesOf l), 0, 0⟩, p)).toArray 37)).drew.frozen? ⟨S, 3, none⟩ = false) := hide ((Below.frozen (((Below.refl w5.heap.size w5).alloc (Nat.le_refl _) _).drew) (p := ⟨S, 3, none⟩) hSlt).trans z3)
      have HC3 : Hid ((w5.alloc (.cells (tokC s (⟨5, (bytesOf l), 0, 0⟩, p)).toArray 37)).drew.cell? ⟨S, 3, none⟩ = some v) := hide ((Below.cell (((Below.refl w5.heap.size w5).alloc (Nat.le_refl _) _).drew) (p := ⟨S, 3, none⟩) hSlt).trans c3)
      have HDC : Hid (∀ (j : Nat) (u : Value), w5.cell? ⟨D, j, none⟩ = some u → (w5.alloc (.cells (tokC s (⟨5, (bytesOf l), 0, 0⟩, p)).toArray 37)).drew.cell? ⟨D, j, none⟩ = some u) := hide (fun j u hu => (Below.cell (((Below.refl w5.heap.size w5).alloc (Nat.le_refl _) _).drew) (p := ⟨D, j, none⟩) hDlt).trans hu)
      go_region_law
        ((refine step_tok (by rfl) _ _ (by rfl) s base w5.heap.size v L (⟨5, (bytesOf l), 0, 0⟩, p) (by rfl) (HMM.out.own.low (((Below.refl _ _).alloc (Nat.le_refl _) _).drew)) (by rfl) (heap_alloc_new w5 _) (by omega) (by simp; omega) ?_; intro gg cap w9 hown9 hgrow hsz9; have kz : w9.frozen? ⟨S, 3, none⟩ = false := (hgrow.frozen_far ⟨S, 3, none⟩ (by simp; omega) (Ne.symm agS)).trans HZ3.out; have k3 : w9.cell? ⟨S, 3, none⟩ = some v := (hgrow.cell_far ⟨S, 3, none⟩ (by simp; omega) (Ne.symm agS)).trans HC3.out; have e0 := (hgrow.cell_far ⟨D, 0, none⟩ (by simp; omega) (Ne.symm agD)).trans (HDC.out 0 _ t0); have e1 := (hgrow.cell_far ⟨D, 1, none⟩ (by simp; omega) (Ne.symm agD)).trans (HDC.out 1 _ t1); have e2 := (hgrow.cell_far ⟨D, 2, none⟩ (by simp; omega) (Ne.symm agD)).trans (HDC.out 2 _ t2); have e3 := (hgrow.cell_far ⟨D, 3, none⟩ (by simp; omega) (Ne.symm agD)).trans (HDC.out 3 _ t3); have e4 := (hgrow.cell_far ⟨D, 4, none⟩ (by simp; omega) (Ne.symm agD)).trans (HDC.out 4 _ t4); have e5 := (hgrow.cell_far ⟨D, 5, none⟩ (by simp; omega) (Ne.symm agD)).trans (HDC.out 5 _ t5)))
      all_goals go_wp2
      all_goals refine bodyPost_ret (v := .tuple #[]) (by simp [results, Tryz.results16, go_sem]) rfl ?_
      all_goals have hend := mid_end HMM.out _ hgrow
      all_goals exact mid_app HMM.out (.inr trivial) rfl (by omega) (by omega) hLp hown9 hend.1 hend.2.1 hend.2.2 (fun f => f.tok hp (by rw [Hc.out]; exact HBL.out) HCM.out (Rd.quo HCL.out HQ.out))
    · have HM4 := hide (HM1.out.onS hg4 hx4)
      have HQ : Hid (Quo (fr s p) (s.size - p) (hb s p) 1 [] (.inr (cc, o))) := hide hQ
      clear hx4 hg4 HM1 hQ HT
      obtain ⟨t0, t1, t2, t3, t4, t5, y0, y3, y4, y5⟩ := HM4.out.tb.cells
      have HMM := hide (HM4.out.set3 x)
      go_wp2
      clear t0 t1 t2 t3 t4 t5 y0 y3 y4 y5
      generalize w4.setCell ⟨D, 3, none⟩ (.string x) = w5 at HMM ⊢
      clear HM4
      obtain ⟨c0, c1, c2, c3, c4, c5, c6, z1, z2, z3, z4, z5, z6⟩ := HMM.out.lx.cells
      obtain ⟨t0, t1, t2, t3, t4, t5, y0, y3, y4, y5⟩ := HMM.out.tb.cells
      have hSlt := HMM.out.lx.lt
      have hDlt := HMM.out.tb.lt
      have hod := HMM.out.hod
      have hne1 : w5.heap.size ≠ S := by omega
      have hne2 : w5.heap.size ≠ D := by omega
      have agS : v.ownBlock ≠ some S := fun e => by have := (World.ownsRow.lt HMM.out.own S e).1; omega
      have agD : v.ownBlock ≠ some D := fun e => by have := hod D e; omega
      have HOD := hide hod
      clear hod
      have HZ3 : Hid ((w5.alloc (.cells (tokC s (⟨5, x, 0, 0⟩, p)).toArray 37)).drew.frozen? ⟨S, 3, none⟩ = false) := hide ((Below.frozen (((Below.refl w5.heap.size w5).alloc (Nat.le_refl _) _).drew) (p := ⟨S, 3, none⟩) hSlt).trans z3)
      have HC3 : Hid ((w5.alloc (.cells (tokC s (⟨5, x, 0, 0⟩, p)).toArray 37)).drew.cell? ⟨S, 3, none⟩ = some v) := hide ((Below.cell (((Below.refl w5.heap.size w5).alloc (Nat.le_refl _) _).drew) (p := ⟨S, 3, none⟩) hSlt).trans c3)
      have HDC : Hid (∀ (j : Nat) (u : Value), w5.cell? ⟨D, j, none⟩ = some u → (w5.alloc (.cells (tokC s (⟨5, x, 0, 0⟩, p)).toArray 37)).drew.cell? ⟨D, j, none⟩ = some u) := hide (fun j u hu => (Below.cell (((Below.refl w5.heap.size w5).alloc (Nat.le_refl _) _).drew) (p := ⟨D, j, none⟩) hDlt).trans hu)
      go_region_law
        ((refine step_tok (by rfl) _ _ (by rfl) s base w5.heap.size v L (⟨5, x, 0, 0⟩, p) (by rfl) (HMM.out.own.low (((Below.refl _ _).alloc (Nat.le_refl _) _).drew)) (by rfl) (heap_alloc_new w5 _) (by omega) (by simp; omega) ?_; intro gg cap w9 hown9 hgrow hsz9; have kz : w9.frozen? ⟨S, 3, none⟩ = false := (hgrow.frozen_far ⟨S, 3, none⟩ (by simp; omega) (Ne.symm agS)).trans HZ3.out; have k3 : w9.cell? ⟨S, 3, none⟩ = some v := (hgrow.cell_far ⟨S, 3, none⟩ (by simp; omega) (Ne.symm agS)).trans HC3.out; have e0 := (hgrow.cell_far ⟨D, 0, none⟩ (by simp; omega) (Ne.symm agD)).trans (HDC.out 0 _ t0); have e1 := (hgrow.cell_far ⟨D, 1, none⟩ (by simp; omega) (Ne.symm agD)).trans (HDC.out 1 _ t1); have e2 := (hgrow.cell_far ⟨D, 2, none⟩ (by simp; omega) (Ne.symm agD)).trans (HDC.out 2 _ t2); have e3 := (hgrow.cell_far ⟨D, 3, none⟩ (by simp; omega) (Ne.symm agD)).trans (HDC.out 3 _ t3); have e4 := (hgrow.cell_far ⟨D, 4, none⟩ (by simp; omega) (Ne.symm agD)).trans (HDC.out 4 _ t4); have e5 := (hgrow.cell_far ⟨D, 5, none⟩ (by simp; omega) (Ne.symm agD)).trans (HDC.out 5 _ t5)))
      all_goals go_wp2
      all_goals refine bodyPost_ret (v := .tuple #[]) (by simp [results, Tryz.results16, go_sem]) rfl ?_
      all_goals have hend := mid_end HMM.out _ hgrow
      all_goals exact mid_bad HMM.out hc0 rfl rfl hend.1 hend.2.1 hend.2.2 (fun f => f.bad hp (by rw [Hc.out]; exact HBL.out) HCM.out (Rd.quoBad HCL.out HQ.out))
  · have HBL : Hid (isBl 39 = false) := hide hbl
    have HLF : Hid (isLet 39 = false) := hide (by decide)
    have hd0 : isDig 39 = false := by decide
    clear hbl
    go_wp2
    go_region
    clear c0 c1 c2 c3 c4 c5 c6 z1 z2 z3 z4 z5 z6
    go_wp2_with fail
    change Calls _ _ _ (w1.alloc (.cells (tokZ ((nlc s p : Int) + 1) p) 37)).drew _
    obtain ⟨D, hD⟩ : ∃ D, w1.heap.size = D := ⟨_, rfl⟩
    rw [hD] at HT ⊢
    generalize hw2 : (w1.alloc (.cells (tokZ ((nlc s p : Int) + 1) p) 37)).drew = w2
    rw [hw2] at HT
    clear hw2 hD hlt hbw
    have hbD := HT.out.hbD
    have hSb := HT.out.hSb
    refine (letter_any 39 _ (by omega) (by omega)).mono ?_
    rintro e w3 ⟨rfl, hw3⟩
    rw [hw3, HLF.out]
    clear hw3 w3
    go_wp2_with fail
    refine (digit_any 39 _ (by omega) (by omega)).mono ?_
    rintro e w3 ⟨rfl, hw3⟩
    rw [hw3, hd0]
    clear hw3 w3
    obtain ⟨t0, t1, t2, t3, t4, t5, y0, y3, y4, y5⟩ := HT.out.tb.cells
    have HM1 := hide (HT.out.set0 5)
    go_wp2_with fail
    refine (quoted_any s S p v fl fa _ HM1.out.lx hs hp (by rw [Hc.out]; omega)).mono ?_
    clear t0 t1 t2 t3 t4 t5 y0 y3 y4 y5
    rintro e w4 (⟨l, k, hQ, hk2, hpk, rfl, hx4, hg4⟩ | ⟨cc, o, p', x, hQ, hc0, rfl, hx4, hg4⟩)
    · have HM4 := hide (HM1.out.onS hg4 hx4)
      have HQ : Hid (Quo (fr s p) (s.size - p) (hb s p) 1 [] (.inl (l, k))) := hide hQ
      clear hx4 hg4 HM1 hQ HT
      obtain ⟨t0, t1, t2, t3, t4, t5, y0, y3, y4, y5⟩ := HM4.out.tb.cells
      have HMM := hide (HM4.out.set3 (bytesOf l))
      go_wp2
      clear t0 t1 t2 t3 t4 t5 y0 y3 y4 y5
      generalize w4.setCell ⟨D, 3, none⟩ (.string (bytesOf l)) = w5 at HMM ⊢
      clear HM4
      obtain ⟨c0, c1, c2, c3, c4, c5, c6, z1, z2, z3, z4, z5, z6⟩ := HMM.out.lx.cells
      obtain ⟨t0, t1, t2, t3, t4, t5, y0, y3, y4, y5⟩ := HMM.out.tb.cells
      have hSlt := HMM.out.lx.lt
      have hDlt := HMM.out.tb.lt
      have hod := HMM.out.hod
      have hne1 : w5.heap.size ≠ S := by omega
      have hne2 : w5.heap.size ≠ D := by omega
      have agS : v.ownBlock ≠ some S := fun e => by have := (World.ownsRow.lt HMM.out.own S e).1; omega
      have agD : v.ownBlock ≠ some D := fun e => by have := hod D e; omega
      have HOD := hide hod
      clear hod
      have HZ3 : Hid ((w5.alloc (.cells (tokC s (⟨5, (bytesOf l), 0, 0⟩, p)).toArray 37)).drew.frozen? ⟨S, 3, none⟩ = false) := hide ((Below.frozen (((Below.refl w5.heap.size w5).alloc (Nat.le_refl _) _).drew) (p := ⟨S, 3, none⟩) hSlt).trans z3)
      have HC3 : Hid ((w5.alloc (.cells (tokC s (⟨5, (bytesOf l), 0, 0⟩, p)).toArray 37)).drew.cell? ⟨S, 3, none⟩ = some v) := hide ((Below.cell (((Below.refl w5.heap.size w5).alloc (Nat.le_refl _) _).drew) (p := ⟨S, 3, none⟩) hSlt).trans c3)
      have HDC : Hid (∀ (j : Nat) (u : Value), w5.cell? ⟨D, j, none⟩ = some u → (w5.alloc (.cells (tokC s (⟨5, (bytesOf l), 0, 0⟩, p)).toArray 37)).drew.cell? ⟨D, j, none⟩ = some u) := hide (fun j u hu => (Below.cell (((Below.refl w5.heap.size w5).alloc (Nat.le_refl _) _).drew) (p := ⟨D, j, none⟩) hDlt).trans hu)
      go_region_law
        ((refine step_tok (by rfl) _ _ (by rfl) s base w5.heap.size v L (⟨5, (bytesOf l), 0, 0⟩, p) (by rfl) (HMM.out.own.low (((Below.refl _ _).alloc (Nat.le_refl _) _).drew)) (by rfl) (heap_alloc_new w5 _) (by omega) (by simp; omega) ?_; intro gg cap w9 hown9 hgrow hsz9; have kz : w9.frozen? ⟨S, 3, none⟩ = false := (hgrow.frozen_far ⟨S, 3, none⟩ (by simp; omega) (Ne.symm agS)).trans HZ3.out; have k3 : w9.cell? ⟨S, 3, none⟩ = some v := (hgrow.cell_far ⟨S, 3, none⟩ (by simp; omega) (Ne.symm agS)).trans HC3.out; have e0 := (hgrow.cell_far ⟨D, 0, none⟩ (by simp; omega) (Ne.symm agD)).trans (HDC.out 0 _ t0); have e1 := (hgrow.cell_far ⟨D, 1, none⟩ (by simp; omega) (Ne.symm agD)).trans (HDC.out 1 _ t1); have e2 := (hgrow.cell_far ⟨D, 2, none⟩ (by simp; omega) (Ne.symm agD)).trans (HDC.out 2 _ t2); have e3 := (hgrow.cell_far ⟨D, 3, none⟩ (by simp; omega) (Ne.symm agD)).trans (HDC.out 3 _ t3); have e4 := (hgrow.cell_far ⟨D, 4, none⟩ (by simp; omega) (Ne.symm agD)).trans (HDC.out 4 _ t4); have e5 := (hgrow.cell_far ⟨D, 5, none⟩ (by simp; omega) (Ne.symm agD)).trans (HDC.out 5 _ t5)))
      all_goals go_wp2
      all_goals refine bodyPost_ret (v := .tuple #[]) (by simp [results, Tryz.results16, go_sem]) rfl ?_
      all_goals have hend := mid_end HMM.out _ hgrow
      all_goals exact mid_app HMM.out (.inr trivial) rfl (by omega) (by omega) hLp hown9 hend.1 hend.2.1 hend.2.2 (fun f => f.tok hp (by rw [Hc.out]; exact HBL.out) HCM.out (Rd.quo HCL.out HQ.out))
    · have HM4 := hide (HM1.out.onS hg4 hx4)
      have HQ : Hid (Quo (fr s p) (s.size - p) (hb s p) 1 [] (.inr (cc, o))) := hide hQ
      clear hx4 hg4 HM1 hQ HT
      obtain ⟨t0, t1, t2, t3, t4, t5, y0, y3, y4, y5⟩ := HM4.out.tb.cells
      have HMM := hide (HM4.out.set3 x)
      go_wp2
      clear t0 t1 t2 t3 t4 t5 y0 y3 y4 y5
      generalize w4.setCell ⟨D, 3, none⟩ (.string x) = w5 at HMM ⊢
      clear HM4
      obtain ⟨c0, c1, c2, c3, c4, c5, c6, z1, z2, z3, z4, z5, z6⟩ := HMM.out.lx.cells
      obtain ⟨t0, t1, t2, t3, t4, t5, y0, y3, y4, y5⟩ := HMM.out.tb.cells
      have hSlt := HMM.out.lx.lt
      have hDlt := HMM.out.tb.lt
      have hod := HMM.out.hod
      have hne1 : w5.heap.size ≠ S := by omega
      have hne2 : w5.heap.size ≠ D := by omega
      have agS : v.ownBlock ≠ some S := fun e => by have := (World.ownsRow.lt HMM.out.own S e).1; omega
      have agD : v.ownBlock ≠ some D := fun e => by have := hod D e; omega
      have HOD := hide hod
      clear hod
      have HZ3 : Hid ((w5.alloc (.cells (tokC s (⟨5, x, 0, 0⟩, p)).toArray 37)).drew.frozen? ⟨S, 3, none⟩ = false) := hide ((Below.frozen (((Below.refl w5.heap.size w5).alloc (Nat.le_refl _) _).drew) (p := ⟨S, 3, none⟩) hSlt).trans z3)
      have HC3 : Hid ((w5.alloc (.cells (tokC s (⟨5, x, 0, 0⟩, p)).toArray 37)).drew.cell? ⟨S, 3, none⟩ = some v) := hide ((Below.cell (((Below.refl w5.heap.size w5).alloc (Nat.le_refl _) _).drew) (p := ⟨S, 3, none⟩) hSlt).trans c3)
      have HDC : Hid (∀ (j : Nat) (u : Value), w5.cell? ⟨D, j, none⟩ = some u → (w5.alloc (.cells (tokC s (⟨5, x, 0, 0⟩, p)).toArray 37)).drew.cell? ⟨D, j, none⟩ = some u) := hide (fun j u hu => (Below.cell (((Below.refl w5.heap.size w5).alloc (Nat.le_refl _) _).drew) (p := ⟨D, j, none⟩) hDlt).trans hu)
      go_region_law
        ((refine step_tok (by rfl) _ _ (by rfl) s base w5.heap.size v L (⟨5, x, 0, 0⟩, p) (by rfl) (HMM.out.own.low (((Below.refl _ _).alloc (Nat.le_refl _) _).drew)) (by rfl) (heap_alloc_new w5 _) (by omega) (by simp; omega) ?_; intro gg cap w9 hown9 hgrow hsz9; have kz : w9.frozen? ⟨S, 3, none⟩ = false := (hgrow.frozen_far ⟨S, 3, none⟩ (by simp; omega) (Ne.symm agS)).trans HZ3.out; have k3 : w9.cell? ⟨S, 3, none⟩ = some v := (hgrow.cell_far ⟨S, 3, none⟩ (by simp; omega) (Ne.symm agS)).trans HC3.out; have e0 := (hgrow.cell_far ⟨D, 0, none⟩ (by simp; omega) (Ne.symm agD)).trans (HDC.out 0 _ t0); have e1 := (hgrow.cell_far ⟨D, 1, none⟩ (by simp; omega) (Ne.symm agD)).trans (HDC.out 1 _ t1); have e2 := (hgrow.cell_far ⟨D, 2, none⟩ (by simp; omega) (Ne.symm agD)).trans (HDC.out 2 _ t2); have e3 := (hgrow.cell_far ⟨D, 3, none⟩ (by simp; omega) (Ne.symm agD)).trans (HDC.out 3 _ t3); have e4 := (hgrow.cell_far ⟨D, 4, none⟩ (by simp; omega) (Ne.symm agD)).trans (HDC.out 4 _ t4); have e5 := (hgrow.cell_far ⟨D, 5, none⟩ (by simp; omega) (Ne.symm agD)).trans (HDC.out 5 _ t5)))
      all_goals go_wp2
      all_goals refine bodyPost_ret (v := .tuple #[]) (by simp [results, Tryz.results16, go_sem]) rfl ?_
      all_goals have hend := mid_end HMM.out _ hgrow
      all_goals exact mid_bad HMM.out hc0 rfl rfl hend.1 hend.2.1 hend.2.2 (fun f => f.bad hp (by rw [Hc.out]; exact HBL.out) HCM.out (Rd.quoBad HCL.out HQ.out))
end Go.Proofs.YtmndipnifjpdjaaGreatDoor
namespace Go.Proofs.YtmndipnifjpdjaaGreatDoor
open Go Go.RowKit
set_option linter.unusedVariables false
set_option maxHeartbeats 3200000 in
set_option maxRecDepth 100000 in
theorem one_long (s : ByteArray) (S base p : Nat) (L : List (Tk × Nat)) (v : Value) (fl fa : Int) (wb w : World) (h : OneB s S base p L v fl fa wb w) (hbl : isBl (hb s p) = false) (hcm : ¬ isCom (fr s p)) (hcl : cls (fr s p) = 4) (hlo : ∃ n, LongOpen (fr s p) n) :
    Calls Tryz.prog 16 #[.pointer (some ⟨S, 0, none⟩)] w fun e w' => OneR s S base p L fl fa wb e w' := by
  have HH := hide h
  have hs := h.hs
  have hp := h.hp
  have hnl := nlc_le s p
  have hr := hb_rng s p
  clear h
  go_enter Tryz.func16, Tryz.ntmps16
  go_wp2_with fail
  refine (here_any s S p 0 v 0 fl fa _ HH.out.lx hs (by omega) (by omega)).mono ?_
  rintro e w1 ⟨rfl, m0, hw1⟩
  have HH1 : Hid (OneB s S base p L v fl fa wb w1) := hide (by rw [hw1]; exact HH.out.drw m0)
  clear hw1 HH
  rw [Nat.add_zero]
  obtain ⟨c, hc⟩ : ∃ c, hb s p = c := ⟨_, rfl⟩
  have Hc := hide hc
  rw [hc] at hr hbl ⊢
  clear hc
  obtain ⟨c0, c1, c2, c3, c4, c5, c6, z1, z2, z3, z4, z5, z6⟩ := HH1.out.lx.cells
  have hlt := HH1.out.lx.lt
  have HT := hide HH1.out.mid
  have hLp := HH1.out.hL
  have hbw := HH1.out.hb
  have HCM := hide hcm
  have HCL := hide hcl
  have HLO := hide hlo
  have h91 : c = 91 := by obtain ⟨n, hn⟩ := hlo; rw [← Hc.out]; exact hn.2.1
  clear hcm hcl hlo
  subst h91
  have HBL : Hid (isBl 91 = false) := hide hbl
  have HLF : Hid (isLet 91 = false) := hide (by decide)
  have hd0 : isDig 91 = false := by decide
  clear hbl
  go_wp2
  go_region
  clear c0 c1 c2 c3 c4 c5 c6 z1 z2 z3 z4 z5 z6
  go_wp2_with fail
  change Calls _ _ _ (w1.alloc (.cells (tokZ ((nlc s p : Int) + 1) p) 37)).drew _
  obtain ⟨D, hD⟩ : ∃ D, w1.heap.size = D := ⟨_, rfl⟩
  rw [hD] at HT ⊢
  generalize hw2 : (w1.alloc (.cells (tokZ ((nlc s p : Int) + 1) p) 37)).drew = w2
  rw [hw2] at HT
  clear hw2 hD hlt hbw
  have hbD := HT.out.hbD
  have hSb := HT.out.hSb
  refine (letter_any 91 _ (by omega) (by omega)).mono ?_
  rintro e w3 ⟨rfl, hw3⟩
  rw [hw3, HLF.out]
  clear hw3 w3
  go_wp2_with fail
  refine (digit_any 91 _ (by omega) (by omega)).mono ?_
  rintro e w3 ⟨rfl, hw3⟩
  rw [hw3, hd0]
  clear hw3 w3
  go_wp2_with fail
  refine (long_any s S p v 0 fl fa _ HT.out.lx hs (by omega)).mono ?_
  rintro e w4 (⟨h1, h2, h3, h4⟩ | ⟨n, cc, h1, h2, hpk, rfl, hx4, hg4⟩ | ⟨n, p', h1, h2, rfl, hx4, hg4⟩)
  · exact absurd HLO.out h2
  · have HM4 := hide (HT.out.onS hg4 hx4)
    have H1 := hide h1
    have H2 := hide h2
    clear hx4 hg4 h1 h2 HT
    obtain ⟨t0, t1, t2, t3, t4, t5, y0, y3, y4, y5⟩ := HM4.out.tb.cells
    have HMM := hide ((HM4.out.set0 5).set3 (s.extract (p + longFrom (fr s p) n) (p + cc)))
    go_wp2
    clear t0 t1 t2 t3 t4 t5 y0 y3 y4 y5
    generalize (w4.setCell ⟨D, 0, none⟩ (.int .i64 5)).setCell ⟨D, 3, none⟩ (.string (s.extract (p + longFrom (fr s p) n) (p + cc))) = w5 at HMM ⊢
    clear HM4
    obtain ⟨c0, c1, c2, c3, c4, c5, c6, z1, z2, z3, z4, z5, z6⟩ := HMM.out.lx.cells
    obtain ⟨t0, t1, t2, t3, t4, t5, y0, y3, y4, y5⟩ := HMM.out.tb.cells
    have hSlt := HMM.out.lx.lt
    have hDlt := HMM.out.tb.lt
    have hod := HMM.out.hod
    have hne1 : w5.heap.size ≠ S := by omega
    have hne2 : w5.heap.size ≠ D := by omega
    have agS : v.ownBlock ≠ some S := fun e => by have := (World.ownsRow.lt HMM.out.own S e).1; omega
    have agD : v.ownBlock ≠ some D := fun e => by have := hod D e; omega
    have HOD := hide hod
    clear hod
    have HZ3 : Hid ((w5.alloc (.cells (tokC s (⟨5, (s.extract (p + longFrom (fr s p) n) (p + cc)), 0, 0⟩, p)).toArray 37)).drew.frozen? ⟨S, 3, none⟩ = false) := hide ((Below.frozen (((Below.refl w5.heap.size w5).alloc (Nat.le_refl _) _).drew) (p := ⟨S, 3, none⟩) hSlt).trans z3)
    have HC3 : Hid ((w5.alloc (.cells (tokC s (⟨5, (s.extract (p + longFrom (fr s p) n) (p + cc)), 0, 0⟩, p)).toArray 37)).drew.cell? ⟨S, 3, none⟩ = some v) := hide ((Below.cell (((Below.refl w5.heap.size w5).alloc (Nat.le_refl _) _).drew) (p := ⟨S, 3, none⟩) hSlt).trans c3)
    have HDC : Hid (∀ (j : Nat) (u : Value), w5.cell? ⟨D, j, none⟩ = some u → (w5.alloc (.cells (tokC s (⟨5, (s.extract (p + longFrom (fr s p) n) (p + cc)), 0, 0⟩, p)).toArray 37)).drew.cell? ⟨D, j, none⟩ = some u) := hide (fun j u hu => (Below.cell (((Below.refl w5.heap.size w5).alloc (Nat.le_refl _) _).drew) (p := ⟨D, j, none⟩) hDlt).trans hu)
    go_region_law
      ((refine step_tok (by rfl) _ _ (by rfl) s base w5.heap.size v L (⟨5, (s.extract (p + longFrom (fr s p) n) (p + cc)), 0, 0⟩, p) (by rfl) (HMM.out.own.low (((Below.refl _ _).alloc (Nat.le_refl _) _).drew)) (by rfl) (heap_alloc_new w5 _) (by omega) (by simp; omega) ?_; intro gg cap w9 hown9 hgrow hsz9; have kz : w9.frozen? ⟨S, 3, none⟩ = false := (hgrow.frozen_far ⟨S, 3, none⟩ (by simp; omega) (Ne.symm agS)).trans HZ3.out; have k3 : w9.cell? ⟨S, 3, none⟩ = some v := (hgrow.cell_far ⟨S, 3, none⟩ (by simp; omega) (Ne.symm agS)).trans HC3.out; have e0 := (hgrow.cell_far ⟨D, 0, none⟩ (by simp; omega) (Ne.symm agD)).trans (HDC.out 0 _ t0); have e1 := (hgrow.cell_far ⟨D, 1, none⟩ (by simp; omega) (Ne.symm agD)).trans (HDC.out 1 _ t1); have e2 := (hgrow.cell_far ⟨D, 2, none⟩ (by simp; omega) (Ne.symm agD)).trans (HDC.out 2 _ t2); have e3 := (hgrow.cell_far ⟨D, 3, none⟩ (by simp; omega) (Ne.symm agD)).trans (HDC.out 3 _ t3); have e4 := (hgrow.cell_far ⟨D, 4, none⟩ (by simp; omega) (Ne.symm agD)).trans (HDC.out 4 _ t4); have e5 := (hgrow.cell_far ⟨D, 5, none⟩ (by simp; omega) (Ne.symm agD)).trans (HDC.out 5 _ t5)))
    all_goals go_wp2
    all_goals refine bodyPost_ret (v := .tuple #[]) (by simp [results, Tryz.results16, go_sem]) rfl ?_
    all_goals have hend := mid_end HMM.out _ hgrow
    all_goals exact mid_app HMM.out (.inr trivial) rfl (by omega) (by omega) hLp hown9 hend.1 hend.2.1 hend.2.2 (fun f => f.tok hp (by rw [Hc.out]; exact HBL.out) HCM.out (Rd.long HCL.out H1.out H2.out))
  · have HM4 := hide (HT.out.onS hg4 hx4)
    have H1 := hide h1
    have H2 := hide h2
    clear hx4 hg4 h1 h2 HT
    obtain ⟨t0, t1, t2, t3, t4, t5, y0, y3, y4, y5⟩ := HM4.out.tb.cells
    have HMM := hide ((HM4.out.set0 5).set3 ⟨#[]⟩)
    go_wp2
    clear t0 t1 t2 t3 t4 t5 y0 y3 y4 y5
    generalize (w4.setCell ⟨D, 0, none⟩ (.int .i64 5)).setCell ⟨D, 3, none⟩ (.string ⟨#[]⟩) = w5 at HMM ⊢
    clear HM4
    obtain ⟨c0, c1, c2, c3, c4, c5, c6, z1, z2, z3, z4, z5, z6⟩ := HMM.out.lx.cells
    obtain ⟨t0, t1, t2, t3, t4, t5, y0, y3, y4, y5⟩ := HMM.out.tb.cells
    have hSlt := HMM.out.lx.lt
    have hDlt := HMM.out.tb.lt
    have hod := HMM.out.hod
    have hne1 : w5.heap.size ≠ S := by omega
    have hne2 : w5.heap.size ≠ D := by omega
    have agS : v.ownBlock ≠ some S := fun e => by have := (World.ownsRow.lt HMM.out.own S e).1; omega
    have agD : v.ownBlock ≠ some D := fun e => by have := hod D e; omega
    have HOD := hide hod
    clear hod
    have HZ3 : Hid ((w5.alloc (.cells (tokC s (⟨5, ⟨#[]⟩, 0, 0⟩, p)).toArray 37)).drew.frozen? ⟨S, 3, none⟩ = false) := hide ((Below.frozen (((Below.refl w5.heap.size w5).alloc (Nat.le_refl _) _).drew) (p := ⟨S, 3, none⟩) hSlt).trans z3)
    have HC3 : Hid ((w5.alloc (.cells (tokC s (⟨5, ⟨#[]⟩, 0, 0⟩, p)).toArray 37)).drew.cell? ⟨S, 3, none⟩ = some v) := hide ((Below.cell (((Below.refl w5.heap.size w5).alloc (Nat.le_refl _) _).drew) (p := ⟨S, 3, none⟩) hSlt).trans c3)
    have HDC : Hid (∀ (j : Nat) (u : Value), w5.cell? ⟨D, j, none⟩ = some u → (w5.alloc (.cells (tokC s (⟨5, ⟨#[]⟩, 0, 0⟩, p)).toArray 37)).drew.cell? ⟨D, j, none⟩ = some u) := hide (fun j u hu => (Below.cell (((Below.refl w5.heap.size w5).alloc (Nat.le_refl _) _).drew) (p := ⟨D, j, none⟩) hDlt).trans hu)
    go_region_law
      ((refine step_tok (by rfl) _ _ (by rfl) s base w5.heap.size v L (⟨5, ⟨#[]⟩, 0, 0⟩, p) (by rfl) (HMM.out.own.low (((Below.refl _ _).alloc (Nat.le_refl _) _).drew)) (by rfl) (heap_alloc_new w5 _) (by omega) (by simp; omega) ?_; intro gg cap w9 hown9 hgrow hsz9; have kz : w9.frozen? ⟨S, 3, none⟩ = false := (hgrow.frozen_far ⟨S, 3, none⟩ (by simp; omega) (Ne.symm agS)).trans HZ3.out; have k3 : w9.cell? ⟨S, 3, none⟩ = some v := (hgrow.cell_far ⟨S, 3, none⟩ (by simp; omega) (Ne.symm agS)).trans HC3.out; have e0 := (hgrow.cell_far ⟨D, 0, none⟩ (by simp; omega) (Ne.symm agD)).trans (HDC.out 0 _ t0); have e1 := (hgrow.cell_far ⟨D, 1, none⟩ (by simp; omega) (Ne.symm agD)).trans (HDC.out 1 _ t1); have e2 := (hgrow.cell_far ⟨D, 2, none⟩ (by simp; omega) (Ne.symm agD)).trans (HDC.out 2 _ t2); have e3 := (hgrow.cell_far ⟨D, 3, none⟩ (by simp; omega) (Ne.symm agD)).trans (HDC.out 3 _ t3); have e4 := (hgrow.cell_far ⟨D, 4, none⟩ (by simp; omega) (Ne.symm agD)).trans (HDC.out 4 _ t4); have e5 := (hgrow.cell_far ⟨D, 5, none⟩ (by simp; omega) (Ne.symm agD)).trans (HDC.out 5 _ t5)))
    all_goals go_wp2
    all_goals refine bodyPost_ret (v := .tuple #[]) (by simp [results, Tryz.results16, go_sem]) rfl ?_
    all_goals have hend := mid_end HMM.out _ hgrow
    all_goals exact mid_bad HMM.out (by decide) rfl rfl hend.1 hend.2.1 hend.2.2 (fun f => f.bad hp (by rw [Hc.out]; exact HBL.out) HCM.out (Rd.longBad HCL.out H1.out H2.out))
end Go.Proofs.YtmndipnifjpdjaaGreatDoor
