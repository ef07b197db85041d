import Derived.Deep.RegionLaw
import Derived.Deep.RegionHeld3
import Derived.Test.YtmndipnifjpdjaaGreatDoorQ45
namespace Go.Proofs.YtmndipnifjpdjaaGreatDoor
open Go Go.RowKit
set_option linter.unusedVariables false
theorem numE_pos {f : Nat → Int} {n : Nat} (h : NumE f n) (h0 : okN f 0 = true) : 1 ≤ n := by
  rcases Nat.eq_zero_or_pos n with z | z
  · subst z; have := h.2; rw [h0] at this; cases this
  · exact z
theorem spec_num (s : ByteArray) (w : World) (hr : s.size ≤ 140737488351232) :
    Calls Tryz.prog 37 #[.string s] w fun e w' => ∃ (fg : Bool) (i b : Int) (ok : Bool), e = .returned (.tuple #[.agg #[.bool fg, .int .i64 i, .int .u64 b], .bool ok]) ∧ PNR s (.tuple #[numV fg i b, .bool ok]) ∧ (fg = true → i = 0) ∧ (fg = false → b = 0) ∧ Below w.heap.size w w' := by
  refine (spec_parse s w hr).mono ?_
  rintro e w' ⟨r, rfl, h, hb⟩
  obtain ⟨fg, i, b, ok, rfl, h1, h2⟩ := h.form2
  exact ⟨fg, i, b, ok, rfl, h, h1, h2, hb⟩
theorem num_late {s : ByteArray} {S p : Nat} {v : Value} {fc fl fa : Int} {w w' : World} (hx : Lx s S p v fc fl fa w) (h : Below w.drew.heap.size w.drew w') :
    w'.cell? ⟨S, 0, none⟩ = some (.string s) ∧ w'.cell? ⟨S, 1, none⟩ = some (.int .i64 p) := by
  have hc : Lx s S p v fc fl fa w' := by
    unfold Lx
    exact (h.block S hx.lt).trans hx
  exact ⟨hc.cells.c0, hc.cells.c1⟩
theorem num_zero {s : ByteArray} {S p : Nat} {v : Value} {fc fl fa : Int} {w w' : World} (hx : Lx s S p v fc fl fa w) (h : Below (w.drew.alloc (.cells #[.bool false, .int .i64 0, .int .u64 0] 67)).heap.size (w.drew.alloc (.cells #[.bool false, .int .i64 0, .int .u64 0] 67)) w') :
    w'.cell? ⟨S, 0, none⟩ = some (.string s) ∧ w'.cell? ⟨S, 1, none⟩ = some (.int .i64 p) ∧
    w'.cell? ⟨w.heap.size, 0, none⟩ = some (.bool false) ∧ w'.cell? ⟨w.heap.size, 1, none⟩ = some (.int .i64 0) ∧ w'.cell? ⟨w.heap.size, 2, none⟩ = some (.int .u64 0) ∧
    w'.frozen? ⟨w.heap.size, 0, none⟩ = false ∧ w'.frozen? ⟨w.heap.size, 1, none⟩ = false ∧ w'.frozen? ⟨w.heap.size, 2, none⟩ = false := by
  have e : w'.heap[w.heap.size]? = some (.cells #[.bool false, .int .i64 0, .int .u64 0] 67 (0, 0)) := (h.block w.heap.size (by simp)).trans (heap_alloc_new w.drew _)
  have hc : Lx s S p v fc fl fa w' := hx.low ((((Below.refl _ _).drew).alloc (Nat.le_refl _) _).trans (h.mono (by simp)))
  refine ⟨hc.cells.c0, hc.cells.c1, ?_, ?_, ?_, ?_, ?_, ?_⟩ <;> simp [World.cell?, World.frozen?, e]
def NumAt (E : Nat) (fg : Bool) (i b : Int) (w : World) : Prop := w.cell? ⟨E, 0, none⟩ = some (.bool fg) ∧ w.cell? ⟨E, 1, none⟩ = some (.int .i64 i) ∧ w.cell? ⟨E, 2, none⟩ = some (.int .u64 b)
theorem num_fin1 {s : ByteArray} {S base D q : Nat} {L : List (Tk × Nat)} {v : Value} {fc fl fa k l a i0 b0 : Int} {x : ByteArray} {wb w4 w5 : World} (h : Mid s S base D q L v fc fl fa k l a x i0 b0 wb w4) (hb : Below w4.drew.heap.size w4.drew w5) (fg : Bool) (i b : Int) :
    Mid s S base D q L v fc fl fa k l a x i0 b0 wb (w5.alloc (.cells #[.bool fg, .int .i64 i, .int .u64 b] 67)) ∧ NumAt w5.heap.size fg i b (w5.alloc (.cells #[.bool fg, .int .i64 i, .int .u64 b] 67)) ∧ S ≠ w5.heap.size ∧ D ≠ w5.heap.size := by
  have h5 := (h.drw 1).low hb
  refine ⟨h5.low ((Below.refl _ _).alloc (Nat.le_refl _) _), num_cells, ?_, ?_⟩
  · have := h5.lx.lt; omega
  · have := h5.tb.lt; omega
theorem num_fin2 {s : ByteArray} {S base D q : Nat} {L : List (Tk × Nat)} {v : Value} {fc fl fa k l a i0 b0 : Int} {x : ByteArray} {wb w4 w5 : World} (h : Mid s S base D q L v fc fl fa k l a x i0 b0 wb w4)
    (hb : Below (w4.drew.alloc (.cells #[.bool false, .int .i64 0, .int .u64 0] 67)).heap.size (w4.drew.alloc (.cells #[.bool false, .int .i64 0, .int .u64 0] 67)) w5) (fg : Bool) (i b : Int) :
    Mid s S base D q L v fc fl fa k l a x i0 b0 wb (((w5.setCell ⟨w4.heap.size, 0, none⟩ (.bool fg)).setCell ⟨w4.heap.size, 1, none⟩ (.int .i64 i)).setCell ⟨w4.heap.size, 2, none⟩ (.int .u64 b)) ∧
    NumAt w4.heap.size fg i b (((w5.setCell ⟨w4.heap.size, 0, none⟩ (.bool fg)).setCell ⟨w4.heap.size, 1, none⟩ (.int .i64 i)).setCell ⟨w4.heap.size, 2, none⟩ (.int .u64 b)) ∧ S ≠ w4.heap.size ∧ D ≠ w4.heap.size := by
  have e : w5.heap[w4.heap.size]? = some (.cells #[.bool false, .int .i64 0, .int .u64 0] 67 (0, 0)) := (hb.block w4.heap.size (by simp)).trans (heap_alloc_new w4.drew _)
  have hl : Below w4.heap.size w4 w5 := ((Below.refl _ _).drew.alloc (Nat.le_refl _) _).trans (hb.mono (by simp))
  have e1 := heap_setCell_same w5 w4.heap.size 0 _ _ (.bool fg) e
  have e2 := heap_setCell_same _ w4.heap.size 1 _ _ (.int .i64 i) e1
  have e3 := heap_setCell_same _ w4.heap.size 2 _ _ (.int .u64 b) e2
  refine ⟨h.low (((hl.setCell (p := ⟨w4.heap.size, 0, none⟩) (Nat.le_refl _) _).setCell (p := ⟨w4.heap.size, 1, none⟩) (Nat.le_refl _) _).setCell (p := ⟨w4.heap.size, 2, none⟩) (Nat.le_refl _) _), ?_, ?_, ?_⟩
  · unfold NumAt
    refine ⟨?_, ?_, ?_⟩ <;> (unfold World.cell?; rw [e3]; simp)
  · have := h.lx.lt; omega
  · have := h.tb.lt; omega
set_option maxHeartbeats 3200000 in
set_option maxRecDepth 100000 in
theorem one_num1 (s : ByteArray) (S base p : Nat) (L : List (Tk × Nat)) (v : Value) (fl fa : Int) (wb w : World) (h : OneB s S base p L v fl fa wb w) (hbl : isBl (hb s p) = false) (hcm : ¬ isCom (fr s p)) (hcl : cls (fr s p) = 2) (hlf : isLet (hb s p) = false) (hdg : isDig (hb s p) = true) :
    Calls Tryz.prog 16 #[.pointer (some ⟨S, 0, none⟩)] w fun e w' => OneR s S base p L fl fa wb e w' := by
  have HH := hide h
  have hs := h.hs
  have hp := h.hp
  have hnl := nlc_le s p
  have hr := hb_rng s p
  clear h
  go_enter Tryz.func16, Tryz.ntmps16
  go_wp2_with fail
  refine (here_any s S p 0 v 0 fl fa _ HH.out.lx hs (by omega) (by omega)).mono ?_
  rintro e w1 ⟨rfl, m0, hw1⟩
  have HH1 : Hid (OneB s S base p L v fl fa wb w1) := hide (by rw [hw1]; exact HH.out.drw m0)
  clear hw1 HH
  rw [Nat.add_zero]
  obtain ⟨c, hc⟩ : ∃ c, hb s p = c := ⟨_, rfl⟩
  have Hc := hide hc
  rw [hc] at hr hbl hlf hdg ⊢
  clear hc
  obtain ⟨c0, c1, c2, c3, c4, c5, c6, z1, z2, z3, z4, z5, z6⟩ := HH1.out.lx.cells
  have hlt := HH1.out.lx.lt
  have HT := hide HH1.out.mid
  have hLp := HH1.out.hL
  have hbw := HH1.out.hb
  have HBL : Hid (isBl c = false) := hide hbl
  have hq9 : (c == 9) = false := bq_f (fun e => by subst e; cases hbl)
  have hq10 : (c == 10) = false := bq_f (fun e => by subst e; cases hbl)
  have hq13 : (c == 13) = false := bq_f (fun e => by subst e; cases hbl)
  have hq32 : (c == 32) = false := bq_f (fun e => by subst e; cases hbl)
  have HCM := hide hcm
  have HCL := hide hcl
  have HLF := hide hlf
  have hq45 : (c == 45) = false := bq_f (fun e => by subst e; cases hdg)
  have HOK : Hid (okN (fr s p) 0 = true ∧ (isLD (hb s p) = true ∨ hb s p = 46)) := hide (by
    have e : isLD c = true := isLD_t1 hdg
    refine ⟨?_, .inl (by rw [Hc.out]; exact e)⟩
    unfold okN
    rw [show fr s p 0 = c from Hc.out, e]
    simp)
  have hd1 := hdg
  clear hbl hcm hcl hlf hdg
  go_wp2
  go_region
  clear c0 c1 c2 c3 c4 c5 c6 z1 z2 z3 z4 z5 z6
  go_wp2_with fail
  change Calls _ _ _ (w1.alloc (.cells (tokZ ((nlc s p : Int) + 1) p) 37)).drew _
  obtain ⟨D, hD⟩ : ∃ D, w1.heap.size = D := ⟨_, rfl⟩
  rw [hD] at HT ⊢
  generalize hw2 : (w1.alloc (.cells (tokZ ((nlc s p : Int) + 1) p) 37)).drew = w2
  rw [hw2] at HT
  clear hw2 hD hlt hbw
  have hbD := HT.out.hbD
  have hSb := HT.out.hSb
  refine (letter_any c _ hr.1 hr.2).mono ?_
  rintro e w3 ⟨rfl, hw3⟩
  rw [hw3, HLF.out]
  clear hw3 w3
  go_wp2_with fail
  refine (digit_any c _ hr.1 hr.2).mono ?_
  rintro e w3 ⟨rfl, hw3⟩
  rw [hw3, hd1]
  clear hw3 w3
  go_wp2_with fail
  refine (numeral_any s S p v 0 fl fa _ HT.out.lx hs (by omega) HOK.out).mono ?_
  rintro e w4 ⟨n, rfl, hN, hpn, m4, hw4⟩
  have HM4 : Hid (Mid s S base D p L v 0 fl fa 0 ((nlc s p : Int) + 1) p ⟨#[]⟩ 0 0 wb w4) := hide (by rw [hw4]; exact HT.out.drw m4)
  have HN := hide hN
  have hn1 : 1 ≤ n := numE_pos hN HOK.out.1
  clear hw4 HT hN
  obtain ⟨c0, c1, c2, c3, c4, c5, c6, z1, z2, z3, z4, z5, z6⟩ := HM4.out.lx.cells
  have hsl := fun w' : World => slc_str s (i := (p : Int)) (j := (p : Int) + n) w' (by omega) (by omega) (by omega)
  rw [show ((p : Int)).toNat = p by omega, show ((p : Int) + n).toNat = p + n by omega] at hsl
  have hw1 : IntKind.i64.wrap ((p : Int) + n) = (p : Int) + n := wrap_id (by omega) (by omega)
  have hSlt := HM4.out.lx.lt
  have hne1 : w4.heap.size ≠ S := by omega
  have HSP := hide (fun w' : World => spec_num (s.extract p (p + n)) w' (by rw [ByteArray.size_extract]; omega))
  go_wp2
  have HX4 := hide HM4.out.lx
  have hn0 := World.new_ne w4 ⟨S, 0, none⟩ c0
  have hn1' := World.new_ne w4 ⟨S, 1, none⟩ c1
  go_region_held3 (fun w' => w'.cell? ⟨S, 0, none⟩ = some (.string s) ∧ w'.cell? ⟨S, 1, none⟩ = some (.int .i64 p)) (go_keep)
    (first | (go_at_call 37; refine (HSP.out _).mono ?_; rintro e w5 ⟨fg, i, b, ok, rfl, hr, hf1, hf2, hb5⟩; have HR := hide hr; have HF1 := hide hf1; have HF2 := hide hf2; have HB5 := hide hb5; obtain ⟨q0, q1, k0, k1, k2, k3, k4, k5⟩ := num_zero HX4.out hb5; clear hr hb5 hf1 hf2) | (go_at_call 37; refine (HSP.out _).mono ?_; rintro e w5 ⟨fg, i, b, ok, rfl, hr, hf1, hf2, hb5⟩; have HR := hide hr; have HF1 := hide hf1; have HF2 := hide hf2; have HB5 := hide hb5; obtain ⟨q0, q1⟩ := num_late HX4.out hb5; clear hr hb5 hf1 hf2))
  · rename_i hh
    clear hh q0 q1 HX4 HSP hn0 hn1'
    obtain ⟨hM6, hNA, hSE, hDE⟩ := num_fin1 HM4.out HB5.out fg i b
    have HM6 := hide hM6
    have HNA := hide hNA
    clear hM6 hNA HM4 HB5
    clear c0 c1 c2 c3 c4 c5 c6 z1 z2 z3 z4 z5 z6 hsl hw1
    generalize w5.alloc (.cells #[.bool fg, .int .i64 i, .int .u64 b] 67) = w6 at HM6 HNA ⊢
    generalize w5.heap.size = E at HNA hSE hDE ⊢
    have hne := HM6.out.ne
    have hne' := hne.symm
    have hSE' := hSE.symm
    have hDE' := hDE.symm
    cases ok with
    | false =>
      obtain ⟨c0, c1, c2, c3, c4, c5, c6, z1, z2, z3, z4, z5, z6⟩ := HM6.out.lx.cells
      go_wp2
      refine wp_tail 9 (by kernel_rfl) (by kernel_rfl) (fun ops => ?_)
      simp only [List.take_succ_cons, List.take_zero, List.drop_succ_cons, List.drop_zero]
      iterate 9 (refine still_next rfl (fun K hK => ?_); go_simp; refine hK _ ?_; clear hK K)
      refine wpStill_nil ?_
      go_wp2_with fail
      clear c0 c1 c2 c3 c4 c5 c6 z1 z2 z3 z4 z5 z6
      refine (bad_any s S p v 0 fl fa 5 _ _ _ (HM6.out.drw 1).lx).mono ?_
      rintro e w7 ⟨rfl, hx7, hg7⟩
      have HM7 := hide ((HM6.out.drw 1).onS hg7 hx7)
      clear hx7 hg7 HM6
      go_wp2
      refine bodyPost_ret (v := .tuple #[]) (by simp [results, Tryz.results16, go_sem]) rfl ?_
      exact oneR_bad HM7.out.bel (by have := HM7.out.tb.lt; omega) (by decide) HM7.out.lx (fun f => by have := f.bad hp (by rw [Hc.out]; exact HBL.out) HCM.out (Rd.numBad HCL.out HN.out HR.out); rw [Nat.add_zero] at this; exact this)
    | true =>
      obtain ⟨g0, g1, g2⟩ := HNA.out
      cases fg with
      | true =>
        obtain ⟨t0, t1, t2, t3, t4, t5, y0, y3, y4, y5⟩ := HM6.out.tb.cells
        have HM7 := hide ((((HM6.out.set0 3).set0 4).set4 i).set5 b)
        go_wp2_with fail
        refine (step_any s S p n v 0 fl fa _ HM7.out.lx hs (by omega)).mono ?_
        rintro e w7 ⟨rfl, hx7, hg7⟩
        have HMM := hide (HM7.out.onS hg7 hx7)
        clear hx7 hg7 HM6 HM7 t0 t1 t2 t3 t4 t5 y0 y3 y4 y5 g0 g1 g2 HNA
        obtain ⟨c0, c1, c2, c3, c4, c5, c6, z1, z2, z3, z4, z5, z6⟩ := HMM.out.lx.cells
        obtain ⟨t0, t1, t2, t3, t4, t5, y0, y3, y4, y5⟩ := HMM.out.tb.cells
        have hSlt := HMM.out.lx.lt
        have hDlt := HMM.out.tb.lt
        have hod := HMM.out.hod
        have hne1 : w7.heap.size ≠ S := by omega
        have hne2 : w7.heap.size ≠ D := by omega
        have agS : v.ownBlock ≠ some S := fun e => by have := (World.ownsRow.lt HMM.out.own S e).1; omega
        have agD : v.ownBlock ≠ some D := fun e => by have := hod D e; omega
        have HOD := hide hod
        clear hod
        have HZ3 : Hid ((w7.alloc (.cells (tokC s (⟨4, ⟨#[]⟩, i, b⟩, p)).toArray 37)).drew.frozen? ⟨S, 3, none⟩ = false) := hide ((Below.frozen (((Below.refl w7.heap.size w7).alloc (Nat.le_refl _) _).drew) (p := ⟨S, 3, none⟩) hSlt).trans z3)
        have HC3 : Hid ((w7.alloc (.cells (tokC s (⟨4, ⟨#[]⟩, i, b⟩, p)).toArray 37)).drew.cell? ⟨S, 3, none⟩ = some v) := hide ((Below.cell (((Below.refl w7.heap.size w7).alloc (Nat.le_refl _) _).drew) (p := ⟨S, 3, none⟩) hSlt).trans c3)
        have HDC : Hid (∀ (j : Nat) (u : Value), w7.cell? ⟨D, j, none⟩ = some u → (w7.alloc (.cells (tokC s (⟨4, ⟨#[]⟩, i, b⟩, p)).toArray 37)).drew.cell? ⟨D, j, none⟩ = some u) := hide (fun j u hu => (Below.cell (((Below.refl w7.heap.size w7).alloc (Nat.le_refl _) _).drew) (p := ⟨D, j, none⟩) hDlt).trans hu)
        go_wp2
        go_region_law
          ((refine step_tok (by rfl) _ _ (by rfl) s base w7.heap.size v L (⟨4, ⟨#[]⟩, i, b⟩, p) (by rfl) (HMM.out.own.low (((Below.refl _ _).alloc (Nat.le_refl _) _).drew)) (by rfl) (heap_alloc_new w7 _) (by omega) (by simp; omega) ?_; intro gg cap w9 hown9 hgrow hsz9; have kz : w9.frozen? ⟨S, 3, none⟩ = false := (hgrow.frozen_far ⟨S, 3, none⟩ (by simp; omega) (Ne.symm agS)).trans HZ3.out; have k3 : w9.cell? ⟨S, 3, none⟩ = some v := (hgrow.cell_far ⟨S, 3, none⟩ (by simp; omega) (Ne.symm agS)).trans HC3.out; have e0 := (hgrow.cell_far ⟨D, 0, none⟩ (by simp; omega) (Ne.symm agD)).trans (HDC.out 0 _ t0); have e1 := (hgrow.cell_far ⟨D, 1, none⟩ (by simp; omega) (Ne.symm agD)).trans (HDC.out 1 _ t1); have e2 := (hgrow.cell_far ⟨D, 2, none⟩ (by simp; omega) (Ne.symm agD)).trans (HDC.out 2 _ t2); have e3 := (hgrow.cell_far ⟨D, 3, none⟩ (by simp; omega) (Ne.symm agD)).trans (HDC.out 3 _ t3); have e4 := (hgrow.cell_far ⟨D, 4, none⟩ (by simp; omega) (Ne.symm agD)).trans (HDC.out 4 _ t4); have e5 := (hgrow.cell_far ⟨D, 5, none⟩ (by simp; omega) (Ne.symm agD)).trans (HDC.out 5 _ t5)))
        all_goals go_wp2
        all_goals refine bodyPost_ret (v := .tuple #[]) (by simp [results, Tryz.results16, go_sem]) rfl ?_
        all_goals have hend := mid_end HMM.out _ hgrow
        all_goals exact mid_app HMM.out (.inr trivial) rfl hn1 (by omega) hLp hown9 hend.1 hend.2.1 hend.2.2 (fun f => f.tok hp (by rw [Hc.out]; exact HBL.out) HCM.out (Rd.num HCL.out HN.out HR.out))
      | false =>
        obtain ⟨t0, t1, t2, t3, t4, t5, y0, y3, y4, y5⟩ := HM6.out.tb.cells
        have HM7 := hide (((HM6.out.set0 3).set4 i).set5 b)
        go_wp2_with fail
        refine (step_any s S p n v 0 fl fa _ HM7.out.lx hs (by omega)).mono ?_
        rintro e w7 ⟨rfl, hx7, hg7⟩
        have HMM := hide (HM7.out.onS hg7 hx7)
        clear hx7 hg7 HM6 HM7 t0 t1 t2 t3 t4 t5 y0 y3 y4 y5 g0 g1 g2 HNA
        obtain ⟨c0, c1, c2, c3, c4, c5, c6, z1, z2, z3, z4, z5, z6⟩ := HMM.out.lx.cells
        obtain ⟨t0, t1, t2, t3, t4, t5, y0, y3, y4, y5⟩ := HMM.out.tb.cells
        have hSlt := HMM.out.lx.lt
        have hDlt := HMM.out.tb.lt
        have hod := HMM.out.hod
        have hne1 : w7.heap.size ≠ S := by omega
        have hne2 : w7.heap.size ≠ D := by omega
        have agS : v.ownBlock ≠ some S := fun e => by have := (World.ownsRow.lt HMM.out.own S e).1; omega
        have agD : v.ownBlock ≠ some D := fun e => by have := hod D e; omega
        have HOD := hide hod
        clear hod
        have HZ3 : Hid ((w7.alloc (.cells (tokC s (⟨3, ⟨#[]⟩, i, b⟩, p)).toArray 37)).drew.frozen? ⟨S, 3, none⟩ = false) := hide ((Below.frozen (((Below.refl w7.heap.size w7).alloc (Nat.le_refl _) _).drew) (p := ⟨S, 3, none⟩) hSlt).trans z3)
        have HC3 : Hid ((w7.alloc (.cells (tokC s (⟨3, ⟨#[]⟩, i, b⟩, p)).toArray 37)).drew.cell? ⟨S, 3, none⟩ = some v) := hide ((Below.cell (((Below.refl w7.heap.size w7).alloc (Nat.le_refl _) _).drew) (p := ⟨S, 3, none⟩) hSlt).trans c3)
        have HDC : Hid (∀ (j : Nat) (u : Value), w7.cell? ⟨D, j, none⟩ = some u → (w7.alloc (.cells (tokC s (⟨3, ⟨#[]⟩, i, b⟩, p)).toArray 37)).drew.cell? ⟨D, j, none⟩ = some u) := hide (fun j u hu => (Below.cell (((Below.refl w7.heap.size w7).alloc (Nat.le_refl _) _).drew) (p := ⟨D, j, none⟩) hDlt).trans hu)
        go_wp2
        go_region_law
          ((refine step_tok (by rfl) _ _ (by rfl) s base w7.heap.size v L (⟨3, ⟨#[]⟩, i, b⟩, p) (by rfl) (HMM.out.own.low (((Below.refl _ _).alloc (Nat.le_refl _) _).drew)) (by rfl) (heap_alloc_new w7 _) (by omega) (by simp; omega) ?_; intro gg cap w9 hown9 hgrow hsz9; have kz : w9.frozen? ⟨S, 3, none⟩ = false := (hgrow.frozen_far ⟨S, 3, none⟩ (by simp; omega) (Ne.symm agS)).trans HZ3.out; have k3 : w9.cell? ⟨S, 3, none⟩ = some v := (hgrow.cell_far ⟨S, 3, none⟩ (by simp; omega) (Ne.symm agS)).trans HC3.out; have e0 := (hgrow.cell_far ⟨D, 0, none⟩ (by simp; omega) (Ne.symm agD)).trans (HDC.out 0 _ t0); have e1 := (hgrow.cell_far ⟨D, 1, none⟩ (by simp; omega) (Ne.symm agD)).trans (HDC.out 1 _ t1); have e2 := (hgrow.cell_far ⟨D, 2, none⟩ (by simp; omega) (Ne.symm agD)).trans (HDC.out 2 _ t2); have e3 := (hgrow.cell_far ⟨D, 3, none⟩ (by simp; omega) (Ne.symm agD)).trans (HDC.out 3 _ t3); have e4 := (hgrow.cell_far ⟨D, 4, none⟩ (by simp; omega) (Ne.symm agD)).trans (HDC.out 4 _ t4); have e5 := (hgrow.cell_far ⟨D, 5, none⟩ (by simp; omega) (Ne.symm agD)).trans (HDC.out 5 _ t5)))
        all_goals go_wp2
        all_goals refine bodyPost_ret (v := .tuple #[]) (by simp [results, Tryz.results16, go_sem]) rfl ?_
        all_goals have hend := mid_end HMM.out _ hgrow
        all_goals exact mid_app HMM.out (.inr trivial) rfl hn1 (by omega) hLp hown9 hend.1 hend.2.1 hend.2.2 (fun f => f.tok hp (by rw [Hc.out]; exact HBL.out) HCM.out (Rd.num HCL.out HN.out HR.out))
  · rename_i hh
    clear hh q0 q1 HX4 HSP hn0 hn1' k0 k1 k2 k3 k4 k5
    obtain ⟨hM6, hNA, hSE, hDE⟩ := num_fin2 HM4.out HB5.out fg i b
    have HM6 := hide hM6
    have HNA := hide hNA
    clear hM6 hNA HM4 HB5
    clear c0 c1 c2 c3 c4 c5 c6 z1 z2 z3 z4 z5 z6 hsl hw1 hSlt hne1
    generalize (((w5.setCell ⟨w4.heap.size, 0, none⟩ (.bool fg)).setCell ⟨w4.heap.size, 1, none⟩ (.int .i64 i)).setCell ⟨w4.heap.size, 2, none⟩ (.int .u64 b)) = w6 at HM6 HNA ⊢
    generalize w4.heap.size = E at HNA hSE hDE ⊢
    have hne := HM6.out.ne
    have hne' := hne.symm
    have hSE' := hSE.symm
    have hDE' := hDE.symm
    cases ok with
    | false =>
      obtain ⟨c0, c1, c2, c3, c4, c5, c6, z1, z2, z3, z4, z5, z6⟩ := HM6.out.lx.cells
      go_wp2
      refine wp_tail 9 (by kernel_rfl) (by kernel_rfl) (fun ops => ?_)
      simp only [List.take_succ_cons, List.take_zero, List.drop_succ_cons, List.drop_zero]
      iterate 9 (refine still_next rfl (fun K hK => ?_); go_simp; refine hK _ ?_; clear hK K)
      refine wpStill_nil ?_
      go_wp2_with fail
      clear c0 c1 c2 c3 c4 c5 c6 z1 z2 z3 z4 z5 z6
      refine (bad_any s S p v 0 fl fa 5 _ _ _ (HM6.out.drw 1).lx).mono ?_
      rintro e w7 ⟨rfl, hx7, hg7⟩
      have HM7 := hide ((HM6.out.drw 1).onS hg7 hx7)
      clear hx7 hg7 HM6
      go_wp2
      refine bodyPost_ret (v := .tuple #[]) (by simp [results, Tryz.results16, go_sem]) rfl ?_
      exact oneR_bad HM7.out.bel (by have := HM7.out.tb.lt; omega) (by decide) HM7.out.lx (fun f => by have := f.bad hp (by rw [Hc.out]; exact HBL.out) HCM.out (Rd.numBad HCL.out HN.out HR.out); rw [Nat.add_zero] at this; exact this)
    | true =>
      obtain ⟨g0, g1, g2⟩ := HNA.out
      cases fg with
      | true =>
        obtain ⟨t0, t1, t2, t3, t4, t5, y0, y3, y4, y5⟩ := HM6.out.tb.cells
        have HM7 := hide ((((HM6.out.set0 3).set0 4).set4 i).set5 b)
        go_wp2_with fail
        refine (step_any s S p n v 0 fl fa _ HM7.out.lx hs (by omega)).mono ?_
        rintro e w7 ⟨rfl, hx7, hg7⟩
        have HMM := hide (HM7.out.onS hg7 hx7)
        clear hx7 hg7 HM6 HM7 t0 t1 t2 t3 t4 t5 y0 y3 y4 y5 g0 g1 g2 HNA
        obtain ⟨c0, c1, c2, c3, c4, c5, c6, z1, z2, z3, z4, z5, z6⟩ := HMM.out.lx.cells
        obtain ⟨t0, t1, t2, t3, t4, t5, y0, y3, y4, y5⟩ := HMM.out.tb.cells
        have hSlt := HMM.out.lx.lt
        have hDlt := HMM.out.tb.lt
        have hod := HMM.out.hod
        have hne1 : w7.heap.size ≠ S := by omega
        have hne2 : w7.heap.size ≠ D := by omega
        have agS : v.ownBlock ≠ some S := fun e => by have := (World.ownsRow.lt HMM.out.own S e).1; omega
        have agD : v.ownBlock ≠ some D := fun e => by have := hod D e; omega
        have HOD := hide hod
        clear hod
        have HZ3 : Hid ((w7.alloc (.cells (tokC s (⟨4, ⟨#[]⟩, i, b⟩, p)).toArray 37)).drew.frozen? ⟨S, 3, none⟩ = false) := hide ((Below.frozen (((Below.refl w7.heap.size w7).alloc (Nat.le_refl _) _).drew) (p := ⟨S, 3, none⟩) hSlt).trans z3)
        have HC3 : Hid ((w7.alloc (.cells (tokC s (⟨4, ⟨#[]⟩, i, b⟩, p)).toArray 37)).drew.cell? ⟨S, 3, none⟩ = some v) := hide ((Below.cell (((Below.refl w7.heap.size w7).alloc (Nat.le_refl _) _).drew) (p := ⟨S, 3, none⟩) hSlt).trans c3)
        have HDC : Hid (∀ (j : Nat) (u : Value), w7.cell? ⟨D, j, none⟩ = some u → (w7.alloc (.cells (tokC s (⟨4, ⟨#[]⟩, i, b⟩, p)).toArray 37)).drew.cell? ⟨D, j, none⟩ = some u) := hide (fun j u hu => (Below.cell (((Below.refl w7.heap.size w7).alloc (Nat.le_refl _) _).drew) (p := ⟨D, j, none⟩) hDlt).trans hu)
        go_wp2
        go_region_law
          ((refine step_tok (by rfl) _ _ (by rfl) s base w7.heap.size v L (⟨4, ⟨#[]⟩, i, b⟩, p) (by rfl) (HMM.out.own.low (((Below.refl _ _).alloc (Nat.le_refl _) _).drew)) (by rfl) (heap_alloc_new w7 _) (by omega) (by simp; omega) ?_; intro gg cap w9 hown9 hgrow hsz9; have kz : w9.frozen? ⟨S, 3, none⟩ = false := (hgrow.frozen_far ⟨S, 3, none⟩ (by simp; omega) (Ne.symm agS)).trans HZ3.out; have k3 : w9.cell? ⟨S, 3, none⟩ = some v := (hgrow.cell_far ⟨S, 3, none⟩ (by simp; omega) (Ne.symm agS)).trans HC3.out; have e0 := (hgrow.cell_far ⟨D, 0, none⟩ (by simp; omega) (Ne.symm agD)).trans (HDC.out 0 _ t0); have e1 := (hgrow.cell_far ⟨D, 1, none⟩ (by simp; omega) (Ne.symm agD)).trans (HDC.out 1 _ t1); have e2 := (hgrow.cell_far ⟨D, 2, none⟩ (by simp; omega) (Ne.symm agD)).trans (HDC.out 2 _ t2); have e3 := (hgrow.cell_far ⟨D, 3, none⟩ (by simp; omega) (Ne.symm agD)).trans (HDC.out 3 _ t3); have e4 := (hgrow.cell_far ⟨D, 4, none⟩ (by simp; omega) (Ne.symm agD)).trans (HDC.out 4 _ t4); have e5 := (hgrow.cell_far ⟨D, 5, none⟩ (by simp; omega) (Ne.symm agD)).trans (HDC.out 5 _ t5)))
        all_goals go_wp2
        all_goals refine bodyPost_ret (v := .tuple #[]) (by simp [results, Tryz.results16, go_sem]) rfl ?_
        all_goals have hend := mid_end HMM.out _ hgrow
        all_goals exact mid_app HMM.out (.inr trivial) rfl hn1 (by omega) hLp hown9 hend.1 hend.2.1 hend.2.2 (fun f => f.tok hp (by rw [Hc.out]; exact HBL.out) HCM.out (Rd.num HCL.out HN.out HR.out))
      | false =>
        obtain ⟨t0, t1, t2, t3, t4, t5, y0, y3, y4, y5⟩ := HM6.out.tb.cells
        have HM7 := hide (((HM6.out.set0 3).set4 i).set5 b)
        go_wp2_with fail
        refine (step_any s S p n v 0 fl fa _ HM7.out.lx hs (by omega)).mono ?_
        rintro e w7 ⟨rfl, hx7, hg7⟩
        have HMM := hide (HM7.out.onS hg7 hx7)
        clear hx7 hg7 HM6 HM7 t0 t1 t2 t3 t4 t5 y0 y3 y4 y5 g0 g1 g2 HNA
        obtain ⟨c0, c1, c2, c3, c4, c5, c6, z1, z2, z3, z4, z5, z6⟩ := HMM.out.lx.cells
        obtain ⟨t0, t1, t2, t3, t4, t5, y0, y3, y4, y5⟩ := HMM.out.tb.cells
        have hSlt := HMM.out.lx.lt
        have hDlt := HMM.out.tb.lt
        have hod := HMM.out.hod
        have hne1 : w7.heap.size ≠ S := by omega
        have hne2 : w7.heap.size ≠ D := by omega
        have agS : v.ownBlock ≠ some S := fun e => by have := (World.ownsRow.lt HMM.out.own S e).1; omega
        have agD : v.ownBlock ≠ some D := fun e => by have := hod D e; omega
        have HOD := hide hod
        clear hod
        have HZ3 : Hid ((w7.alloc (.cells (tokC s (⟨3, ⟨#[]⟩, i, b⟩, p)).toArray 37)).drew.frozen? ⟨S, 3, none⟩ = false) := hide ((Below.frozen (((Below.refl w7.heap.size w7).alloc (Nat.le_refl _) _).drew) (p := ⟨S, 3, none⟩) hSlt).trans z3)
        have HC3 : Hid ((w7.alloc (.cells (tokC s (⟨3, ⟨#[]⟩, i, b⟩, p)).toArray 37)).drew.cell? ⟨S, 3, none⟩ = some v) := hide ((Below.cell (((Below.refl w7.heap.size w7).alloc (Nat.le_refl _) _).drew) (p := ⟨S, 3, none⟩) hSlt).trans c3)
        have HDC : Hid (∀ (j : Nat) (u : Value), w7.cell? ⟨D, j, none⟩ = some u → (w7.alloc (.cells (tokC s (⟨3, ⟨#[]⟩, i, b⟩, p)).toArray 37)).drew.cell? ⟨D, j, none⟩ = some u) := hide (fun j u hu => (Below.cell (((Below.refl w7.heap.size w7).alloc (Nat.le_refl _) _).drew) (p := ⟨D, j, none⟩) hDlt).trans hu)
        go_wp2
        go_region_law
          ((refine step_tok (by rfl) _ _ (by rfl) s base w7.heap.size v L (⟨3, ⟨#[]⟩, i, b⟩, p) (by rfl) (HMM.out.own.low (((Below.refl _ _).alloc (Nat.le_refl _) _).drew)) (by rfl) (heap_alloc_new w7 _) (by omega) (by simp; omega) ?_; intro gg cap w9 hown9 hgrow hsz9; have kz : w9.frozen? ⟨S, 3, none⟩ = false := (hgrow.frozen_far ⟨S, 3, none⟩ (by simp; omega) (Ne.symm agS)).trans HZ3.out; have k3 : w9.cell? ⟨S, 3, none⟩ = some v := (hgrow.cell_far ⟨S, 3, none⟩ (by simp; omega) (Ne.symm agS)).trans HC3.out; have e0 := (hgrow.cell_far ⟨D, 0, none⟩ (by simp; omega) (Ne.symm agD)).trans (HDC.out 0 _ t0); have e1 := (hgrow.cell_far ⟨D, 1, none⟩ (by simp; omega) (Ne.symm agD)).trans (HDC.out 1 _ t1); have e2 := (hgrow.cell_far ⟨D, 2, none⟩ (by simp; omega) (Ne.symm agD)).trans (HDC.out 2 _ t2); have e3 := (hgrow.cell_far ⟨D, 3, none⟩ (by simp; omega) (Ne.symm agD)).trans (HDC.out 3 _ t3); have e4 := (hgrow.cell_far ⟨D, 4, none⟩ (by simp; omega) (Ne.symm agD)).trans (HDC.out 4 _ t4); have e5 := (hgrow.cell_far ⟨D, 5, none⟩ (by simp; omega) (Ne.symm agD)).trans (HDC.out 5 _ t5)))
        all_goals go_wp2
        all_goals refine bodyPost_ret (v := .tuple #[]) (by simp [results, Tryz.results16, go_sem]) rfl ?_
        all_goals have hend := mid_end HMM.out _ hgrow
        all_goals exact mid_app HMM.out (.inr trivial) rfl hn1 (by omega) hLp hown9 hend.1 hend.2.1 hend.2.2 (fun f => f.tok hp (by rw [Hc.out]; exact HBL.out) HCM.out (Rd.num HCL.out HN.out HR.out))
end Go.Proofs.YtmndipnifjpdjaaGreatDoor
namespace Go.Proofs.YtmndipnifjpdjaaGreatDoor
open Go Go.RowKit
set_option linter.unusedVariables false
set_option maxHeartbeats 3200000 in
set_option maxRecDepth 100000 in
theorem one_num2 (s : ByteArray) (S base p : Nat) (L : List (Tk × Nat)) (v : Value) (fl fa : Int) (wb w : World) (h : OneB s S base p L v fl fa wb w) (hbl : isBl (hb s p) = false) (hcm : ¬ isCom (fr s p)) (hcl : cls (fr s p) = 2) (h46 : hb s p = 46) (hdg : isDig (hb s (p + 1)) = true) :
    Calls Tryz.prog 16 #[.pointer (some ⟨S, 0, none⟩)] w fun e w' => OneR s S base p L fl fa wb e w' := by
  have HH := hide h
  have hs := h.hs
  have hp := h.hp
  have hnl := nlc_le s p
  have hr := hb_rng s p
  clear h
  go_enter Tryz.func16, Tryz.ntmps16
  go_wp2_with fail
  refine (here_any s S p 0 v 0 fl fa _ HH.out.lx hs (by omega) (by omega)).mono ?_
  rintro e w1 ⟨rfl, m0, hw1⟩
  have HH1 : Hid (OneB s S base p L v fl fa wb w1) := hide (by rw [hw1]; exact HH.out.drw m0)
  clear hw1 HH
  rw [Nat.add_zero]
  obtain ⟨c, hc⟩ : ∃ c, hb s p = c := ⟨_, rfl⟩
  have Hc := hide hc
  rw [hc] at hr hbl h46 ⊢
  clear hc
  obtain ⟨c0, c1, c2, c3, c4, c5, c6, z1, z2, z3, z4, z5, z6⟩ := HH1.out.lx.cells
  have hlt := HH1.out.lx.lt
  have HT := hide HH1.out.mid
  have hLp := HH1.out.hL
  have hbw := HH1.out.hb
  subst h46
  have HBL : Hid (isBl 46 = false) := hide hbl
  have HCM := hide hcm
  have HCL := hide hcl
  have hrd := hb_rng s (p + 1)
  have HOK : Hid (okN (fr s p) 0 = true ∧ (isLD (hb s p) = true ∨ hb s p = 46)) := hide ⟨by
    unfold okN
    rw [show fr s p 0 = 46 from Hc.out]
    rfl, .inr Hc.out⟩
  have HLF : Hid (isLet 46 = false) := hide (by decide)
  have hd0 : isDig 46 = false := by decide
  have HDG := hide hdg
  clear hbl hcm hcl hdg
  go_wp2
  go_region
  clear c0 c1 c2 c3 c4 c5 c6 z1 z2 z3 z4 z5 z6
  go_wp2_with fail
  change Calls _ _ _ (w1.alloc (.cells (tokZ ((nlc s p : Int) + 1) p) 37)).drew _
  obtain ⟨D, hD⟩ : ∃ D, w1.heap.size = D := ⟨_, rfl⟩
  rw [hD] at HT ⊢
  generalize hw2 : (w1.alloc (.cells (tokZ ((nlc s p : Int) + 1) p) 37)).drew = w2
  rw [hw2] at HT
  clear hw2 hD hlt hbw
  have hbD := HT.out.hbD
  have hSb := HT.out.hSb
  refine (letter_any 46 _ (by omega) (by omega)).mono ?_
  rintro e w3 ⟨rfl, hw3⟩
  rw [hw3, HLF.out]
  clear hw3 w3
  go_wp2_with fail
  refine (digit_any 46 _ (by omega) (by omega)).mono ?_
  rintro e w3 ⟨rfl, hw3⟩
  rw [hw3, hd0]
  clear hw3 w3
  go_wp2_with fail
  refine (here_any s S p 1 v 0 fl fa _ HT.out.lx hs (by omega) (by omega)).mono ?_
  rintro e w3 ⟨rfl, m3, hw3⟩
  have HM : Hid (Mid s S base D p L v 0 fl fa 0 ((nlc s p : Int) + 1) p ⟨#[]⟩ 0 0 wb w3) := hide (by rw [hw3]; exact HT.out.drw m3)
  clear hw3 HT
  go_wp2_with fail
  refine (digit_any (hb s (p + 1)) _ hrd.1 hrd.2).mono ?_
  rintro e w0 ⟨rfl, hw0⟩
  rw [hw0, HDG.out]
  clear hw0 w0
  have HT := HM
  clear HM
  go_wp2_with fail
  refine (numeral_any s S p v 0 fl fa _ HT.out.lx hs (by omega) HOK.out).mono ?_
  rintro e w4 ⟨n, rfl, hN, hpn, m4, hw4⟩
  have HM4 : Hid (Mid s S base D p L v 0 fl fa 0 ((nlc s p : Int) + 1) p ⟨#[]⟩ 0 0 wb w4) := hide (by rw [hw4]; exact HT.out.drw m4)
  have HN := hide hN
  have hn1 : 1 ≤ n := numE_pos hN HOK.out.1
  clear hw4 HT hN
  obtain ⟨c0, c1, c2, c3, c4, c5, c6, z1, z2, z3, z4, z5, z6⟩ := HM4.out.lx.cells
  have hsl := fun w' : World => slc_str s (i := (p : Int)) (j := (p : Int) + n) w' (by omega) (by omega) (by omega)
  rw [show ((p : Int)).toNat = p by omega, show ((p : Int) + n).toNat = p + n by omega] at hsl
  have hw1 : IntKind.i64.wrap ((p : Int) + n) = (p : Int) + n := wrap_id (by omega) (by omega)
  have hSlt := HM4.out.lx.lt
  have hne1 : w4.heap.size ≠ S := by omega
  have HSP := hide (fun w' : World => spec_num (s.extract p (p + n)) w' (by rw [ByteArray.size_extract]; omega))
  go_wp2
  have HX4 := hide HM4.out.lx
  have hn0 := World.new_ne w4 ⟨S, 0, none⟩ c0
  have hn1' := World.new_ne w4 ⟨S, 1, none⟩ c1
  go_region_held3 (fun w' => w'.cell? ⟨S, 0, none⟩ = some (.string s) ∧ w'.cell? ⟨S, 1, none⟩ = some (.int .i64 p)) (go_keep)
    (first | (go_at_call 37; refine (HSP.out _).mono ?_; rintro e w5 ⟨fg, i, b, ok, rfl, hr, hf1, hf2, hb5⟩; have HR := hide hr; have HF1 := hide hf1; have HF2 := hide hf2; have HB5 := hide hb5; obtain ⟨q0, q1, k0, k1, k2, k3, k4, k5⟩ := num_zero HX4.out hb5; clear hr hb5 hf1 hf2) | (go_at_call 37; refine (HSP.out _).mono ?_; rintro e w5 ⟨fg, i, b, ok, rfl, hr, hf1, hf2, hb5⟩; have HR := hide hr; have HF1 := hide hf1; have HF2 := hide hf2; have HB5 := hide hb5; obtain ⟨q0, q1⟩ := num_late HX4.out hb5; clear hr hb5 hf1 hf2))
  · rename_i hh
    clear hh q0 q1 HX4 HSP hn0 hn1'
    obtain ⟨hM6, hNA, hSE, hDE⟩ := num_fin1 HM4.out HB5.out fg i b
    have HM6 := hide hM6
    have HNA := hide hNA
    clear hM6 hNA HM4 HB5
    clear c0 c1 c2 c3 c4 c5 c6 z1 z2 z3 z4 z5 z6 hsl hw1
    generalize w5.alloc (.cells #[.bool fg, .int .i64 i, .int .u64 b] 67) = w6 at HM6 HNA ⊢
    generalize w5.heap.size = E at HNA hSE hDE ⊢
    have hne := HM6.out.ne
    have hne' := hne.symm
    have hSE' := hSE.symm
    have hDE' := hDE.symm
    cases ok with
    | false =>
      obtain ⟨c0, c1, c2, c3, c4, c5, c6, z1, z2, z3, z4, z5, z6⟩ := HM6.out.lx.cells
      go_wp2
      refine wp_tail 9 (by kernel_rfl) (by kernel_rfl) (fun ops => ?_)
      simp only [List.take_succ_cons, List.take_zero, List.drop_succ_cons, List.drop_zero]
      iterate 9 (refine still_next rfl (fun K hK => ?_); go_simp; refine hK _ ?_; clear hK K)
      refine wpStill_nil ?_
      go_wp2_with fail
      clear c0 c1 c2 c3 c4 c5 c6 z1 z2 z3 z4 z5 z6
      refine (bad_any s S p v 0 fl fa 5 _ _ _ (HM6.out.drw 1).lx).mono ?_
      rintro e w7 ⟨rfl, hx7, hg7⟩
      have HM7 := hide ((HM6.out.drw 1).onS hg7 hx7)
      clear hx7 hg7 HM6
      go_wp2
      refine bodyPost_ret (v := .tuple #[]) (by simp [results, Tryz.results16, go_sem]) rfl ?_
      exact oneR_bad HM7.out.bel (by have := HM7.out.tb.lt; omega) (by decide) HM7.out.lx (fun f => by have := f.bad hp (by rw [Hc.out]; exact HBL.out) HCM.out (Rd.numBad HCL.out HN.out HR.out); rw [Nat.add_zero] at this; exact this)
    | true =>
      obtain ⟨g0, g1, g2⟩ := HNA.out
      cases fg with
      | true =>
        obtain ⟨t0, t1, t2, t3, t4, t5, y0, y3, y4, y5⟩ := HM6.out.tb.cells
        have HM7 := hide ((((HM6.out.set0 3).set0 4).set4 i).set5 b)
        go_wp2_with fail
        refine (step_any s S p n v 0 fl fa _ HM7.out.lx hs (by omega)).mono ?_
        rintro e w7 ⟨rfl, hx7, hg7⟩
        have HMM := hide (HM7.out.onS hg7 hx7)
        clear hx7 hg7 HM6 HM7 t0 t1 t2 t3 t4 t5 y0 y3 y4 y5 g0 g1 g2 HNA
        obtain ⟨c0, c1, c2, c3, c4, c5, c6, z1, z2, z3, z4, z5, z6⟩ := HMM.out.lx.cells
        obtain ⟨t0, t1, t2, t3, t4, t5, y0, y3, y4, y5⟩ := HMM.out.tb.cells
        have hSlt := HMM.out.lx.lt
        have hDlt := HMM.out.tb.lt
        have hod := HMM.out.hod
        have hne1 : w7.heap.size ≠ S := by omega
        have hne2 : w7.heap.size ≠ D := by omega
        have agS : v.ownBlock ≠ some S := fun e => by have := (World.ownsRow.lt HMM.out.own S e).1; omega
        have agD : v.ownBlock ≠ some D := fun e => by have := hod D e; omega
        have HOD := hide hod
        clear hod
        have HZ3 : Hid ((w7.alloc (.cells (tokC s (⟨4, ⟨#[]⟩, i, b⟩, p)).toArray 37)).drew.frozen? ⟨S, 3, none⟩ = false) := hide ((Below.frozen (((Below.refl w7.heap.size w7).alloc (Nat.le_refl _) _).drew) (p := ⟨S, 3, none⟩) hSlt).trans z3)
        have HC3 : Hid ((w7.alloc (.cells (tokC s (⟨4, ⟨#[]⟩, i, b⟩, p)).toArray 37)).drew.cell? ⟨S, 3, none⟩ = some v) := hide ((Below.cell (((Below.refl w7.heap.size w7).alloc (Nat.le_refl _) _).drew) (p := ⟨S, 3, none⟩) hSlt).trans c3)
        have HDC : Hid (∀ (j : Nat) (u : Value), w7.cell? ⟨D, j, none⟩ = some u → (w7.alloc (.cells (tokC s (⟨4, ⟨#[]⟩, i, b⟩, p)).toArray 37)).drew.cell? ⟨D, j, none⟩ = some u) := hide (fun j u hu => (Below.cell (((Below.refl w7.heap.size w7).alloc (Nat.le_refl _) _).drew) (p := ⟨D, j, none⟩) hDlt).trans hu)
        go_wp2
        go_region_law
          ((refine step_tok (by rfl) _ _ (by rfl) s base w7.heap.size v L (⟨4, ⟨#[]⟩, i, b⟩, p) (by rfl) (HMM.out.own.low (((Below.refl _ _).alloc (Nat.le_refl _) _).drew)) (by rfl) (heap_alloc_new w7 _) (by omega) (by simp; omega) ?_; intro gg cap w9 hown9 hgrow hsz9; have kz : w9.frozen? ⟨S, 3, none⟩ = false := (hgrow.frozen_far ⟨S, 3, none⟩ (by simp; omega) (Ne.symm agS)).trans HZ3.out; have k3 : w9.cell? ⟨S, 3, none⟩ = some v := (hgrow.cell_far ⟨S, 3, none⟩ (by simp; omega) (Ne.symm agS)).trans HC3.out; have e0 := (hgrow.cell_far ⟨D, 0, none⟩ (by simp; omega) (Ne.symm agD)).trans (HDC.out 0 _ t0); have e1 := (hgrow.cell_far ⟨D, 1, none⟩ (by simp; omega) (Ne.symm agD)).trans (HDC.out 1 _ t1); have e2 := (hgrow.cell_far ⟨D, 2, none⟩ (by simp; omega) (Ne.symm agD)).trans (HDC.out 2 _ t2); have e3 := (hgrow.cell_far ⟨D, 3, none⟩ (by simp; omega) (Ne.symm agD)).trans (HDC.out 3 _ t3); have e4 := (hgrow.cell_far ⟨D, 4, none⟩ (by simp; omega) (Ne.symm agD)).trans (HDC.out 4 _ t4); have e5 := (hgrow.cell_far ⟨D, 5, none⟩ (by simp; omega) (Ne.symm agD)).trans (HDC.out 5 _ t5)))
        all_goals go_wp2
        all_goals refine bodyPost_ret (v := .tuple #[]) (by simp [results, Tryz.results16, go_sem]) rfl ?_
        all_goals have hend := mid_end HMM.out _ hgrow
        all_goals exact mid_app HMM.out (.inr trivial) rfl hn1 (by omega) hLp hown9 hend.1 hend.2.1 hend.2.2 (fun f => f.tok hp (by rw [Hc.out]; exact HBL.out) HCM.out (Rd.num HCL.out HN.out HR.out))
      | false =>
        obtain ⟨t0, t1, t2, t3, t4, t5, y0, y3, y4, y5⟩ := HM6.out.tb.cells
        have HM7 := hide (((HM6.out.set0 3).set4 i).set5 b)
        go_wp2_with fail
        refine (step_any s S p n v 0 fl fa _ HM7.out.lx hs (by omega)).mono ?_
        rintro e w7 ⟨rfl, hx7, hg7⟩
        have HMM := hide (HM7.out.onS hg7 hx7)
        clear hx7 hg7 HM6 HM7 t0 t1 t2 t3 t4 t5 y0 y3 y4 y5 g0 g1 g2 HNA
        obtain ⟨c0, c1, c2, c3, c4, c5, c6, z1, z2, z3, z4, z5, z6⟩ := HMM.out.lx.cells
        obtain ⟨t0, t1, t2, t3, t4, t5, y0, y3, y4, y5⟩ := HMM.out.tb.cells
        have hSlt := HMM.out.lx.lt
        have hDlt := HMM.out.tb.lt
        have hod := HMM.out.hod
        have hne1 : w7.heap.size ≠ S := by omega
        have hne2 : w7.heap.size ≠ D := by omega
        have agS : v.ownBlock ≠ some S := fun e => by have := (World.ownsRow.lt HMM.out.own S e).1; omega
        have agD : v.ownBlock ≠ some D := fun e => by have := hod D e; omega
        have HOD := hide hod
        clear hod
        have HZ3 : Hid ((w7.alloc (.cells (tokC s (⟨3, ⟨#[]⟩, i, b⟩, p)).toArray 37)).drew.frozen? ⟨S, 3, none⟩ = false) := hide ((Below.frozen (((Below.refl w7.heap.size w7).alloc (Nat.le_refl _) _).drew) (p := ⟨S, 3, none⟩) hSlt).trans z3)
        have HC3 : Hid ((w7.alloc (.cells (tokC s (⟨3, ⟨#[]⟩, i, b⟩, p)).toArray 37)).drew.cell? ⟨S, 3, none⟩ = some v) := hide ((Below.cell (((Below.refl w7.heap.size w7).alloc (Nat.le_refl _) _).drew) (p := ⟨S, 3, none⟩) hSlt).trans c3)
        have HDC : Hid (∀ (j : Nat) (u : Value), w7.cell? ⟨D, j, none⟩ = some u → (w7.alloc (.cells (tokC s (⟨3, ⟨#[]⟩, i, b⟩, p)).toArray 37)).drew.cell? ⟨D, j, none⟩ = some u) := hide (fun j u hu => (Below.cell (((Below.refl w7.heap.size w7).alloc (Nat.le_refl _) _).drew) (p := ⟨D, j, none⟩) hDlt).trans hu)
        go_wp2
        go_region_law
          ((refine step_tok (by rfl) _ _ (by rfl) s base w7.heap.size v L (⟨3, ⟨#[]⟩, i, b⟩, p) (by rfl) (HMM.out.own.low (((Below.refl _ _).alloc (Nat.le_refl _) _).drew)) (by rfl) (heap_alloc_new w7 _) (by omega) (by simp; omega) ?_; intro gg cap w9 hown9 hgrow hsz9; have kz : w9.frozen? ⟨S, 3, none⟩ = false := (hgrow.frozen_far ⟨S, 3, none⟩ (by simp; omega) (Ne.symm agS)).trans HZ3.out; have k3 : w9.cell? ⟨S, 3, none⟩ = some v := (hgrow.cell_far ⟨S, 3, none⟩ (by simp; omega) (Ne.symm agS)).trans HC3.out; have e0 := (hgrow.cell_far ⟨D, 0, none⟩ (by simp; omega) (Ne.symm agD)).trans (HDC.out 0 _ t0); have e1 := (hgrow.cell_far ⟨D, 1, none⟩ (by simp; omega) (Ne.symm agD)).trans (HDC.out 1 _ t1); have e2 := (hgrow.cell_far ⟨D, 2, none⟩ (by simp; omega) (Ne.symm agD)).trans (HDC.out 2 _ t2); have e3 := (hgrow.cell_far ⟨D, 3, none⟩ (by simp; omega) (Ne.symm agD)).trans (HDC.out 3 _ t3); have e4 := (hgrow.cell_far ⟨D, 4, none⟩ (by simp; omega) (Ne.symm agD)).trans (HDC.out 4 _ t4); have e5 := (hgrow.cell_far ⟨D, 5, none⟩ (by simp; omega) (Ne.symm agD)).trans (HDC.out 5 _ t5)))
        all_goals go_wp2
        all_goals refine bodyPost_ret (v := .tuple #[]) (by simp [results, Tryz.results16, go_sem]) rfl ?_
        all_goals have hend := mid_end HMM.out _ hgrow
        all_goals exact mid_app HMM.out (.inr trivial) rfl hn1 (by omega) hLp hown9 hend.1 hend.2.1 hend.2.2 (fun f => f.tok hp (by rw [Hc.out]; exact HBL.out) HCM.out (Rd.num HCL.out HN.out HR.out))
  · rename_i hh
    clear hh q0 q1 HX4 HSP hn0 hn1' k0 k1 k2 k3 k4 k5
    obtain ⟨hM6, hNA, hSE, hDE⟩ := num_fin2 HM4.out HB5.out fg i b
    have HM6 := hide hM6
    have HNA := hide hNA
    clear hM6 hNA HM4 HB5
    clear c0 c1 c2 c3 c4 c5 c6 z1 z2 z3 z4 z5 z6 hsl hw1 hSlt hne1
    generalize (((w5.setCell ⟨w4.heap.size, 0, none⟩ (.bool fg)).setCell ⟨w4.heap.size, 1, none⟩ (.int .i64 i)).setCell ⟨w4.heap.size, 2, none⟩ (.int .u64 b)) = w6 at HM6 HNA ⊢
    generalize w4.heap.size = E at HNA hSE hDE ⊢
    have hne := HM6.out.ne
    have hne' := hne.symm
    have hSE' := hSE.symm
    have hDE' := hDE.symm
    cases ok with
    | false =>
      obtain ⟨c0, c1, c2, c3, c4, c5, c6, z1, z2, z3, z4, z5, z6⟩ := HM6.out.lx.cells
      go_wp2
      refine wp_tail 9 (by kernel_rfl) (by kernel_rfl) (fun ops => ?_)
      simp only [List.take_succ_cons, List.take_zero, List.drop_succ_cons, List.drop_zero]
      iterate 9 (refine still_next rfl (fun K hK => ?_); go_simp; refine hK _ ?_; clear hK K)
      refine wpStill_nil ?_
      go_wp2_with fail
      clear c0 c1 c2 c3 c4 c5 c6 z1 z2 z3 z4 z5 z6
      refine (bad_any s S p v 0 fl fa 5 _ _ _ (HM6.out.drw 1).lx).mono ?_
      rintro e w7 ⟨rfl, hx7, hg7⟩
      have HM7 := hide ((HM6.out.drw 1).onS hg7 hx7)
      clear hx7 hg7 HM6
      go_wp2
      refine bodyPost_ret (v := .tuple #[]) (by simp [results, Tryz.results16, go_sem]) rfl ?_
      exact oneR_bad HM7.out.bel (by have := HM7.out.tb.lt; omega) (by decide) HM7.out.lx (fun f => by have := f.bad hp (by rw [Hc.out]; exact HBL.out) HCM.out (Rd.numBad HCL.out HN.out HR.out); rw [Nat.add_zero] at this; exact this)
    | true =>
      obtain ⟨g0, g1, g2⟩ := HNA.out
      cases fg with
      | true =>
        obtain ⟨t0, t1, t2, t3, t4, t5, y0, y3, y4, y5⟩ := HM6.out.tb.cells
        have HM7 := hide ((((HM6.out.set0 3).set0 4).set4 i).set5 b)
        go_wp2_with fail
        refine (step_any s S p n v 0 fl fa _ HM7.out.lx hs (by omega)).mono ?_
        rintro e w7 ⟨rfl, hx7, hg7⟩
        have HMM := hide (HM7.out.onS hg7 hx7)
        clear hx7 hg7 HM6 HM7 t0 t1 t2 t3 t4 t5 y0 y3 y4 y5 g0 g1 g2 HNA
        obtain ⟨c0, c1, c2, c3, c4, c5, c6, z1, z2, z3, z4, z5, z6⟩ := HMM.out.lx.cells
        obtain ⟨t0, t1, t2, t3, t4, t5, y0, y3, y4, y5⟩ := HMM.out.tb.cells
        have hSlt := HMM.out.lx.lt
        have hDlt := HMM.out.tb.lt
        have hod := HMM.out.hod
        have hne1 : w7.heap.size ≠ S := by omega
        have hne2 : w7.heap.size ≠ D := by omega
        have agS : v.ownBlock ≠ some S := fun e => by have := (World.ownsRow.lt HMM.out.own S e).1; omega
        have agD : v.ownBlock ≠ some D := fun e => by have := hod D e; omega
        have HOD := hide hod
        clear hod
        have HZ3 : Hid ((w7.alloc (.cells (tokC s (⟨4, ⟨#[]⟩, i, b⟩, p)).toArray 37)).drew.frozen? ⟨S, 3, none⟩ = false) := hide ((Below.frozen (((Below.refl w7.heap.size w7).alloc (Nat.le_refl _) _).drew) (p := ⟨S, 3, none⟩) hSlt).trans z3)
        have HC3 : Hid ((w7.alloc (.cells (tokC s (⟨4, ⟨#[]⟩, i, b⟩, p)).toArray 37)).drew.cell? ⟨S, 3, none⟩ = some v) := hide ((Below.cell (((Below.refl w7.heap.size w7).alloc (Nat.le_refl _) _).drew) (p := ⟨S, 3, none⟩) hSlt).trans c3)
        have HDC : Hid (∀ (j : Nat) (u : Value), w7.cell? ⟨D, j, none⟩ = some u → (w7.alloc (.cells (tokC s (⟨4, ⟨#[]⟩, i, b⟩, p)).toArray 37)).drew.cell? ⟨D, j, none⟩ = some u) := hide (fun j u hu => (Below.cell (((Below.refl w7.heap.size w7).alloc (Nat.le_refl _) _).drew) (p := ⟨D, j, none⟩) hDlt).trans hu)
        go_wp2
        go_region_law
          ((refine step_tok (by rfl) _ _ (by rfl) s base w7.heap.size v L (⟨4, ⟨#[]⟩, i, b⟩, p) (by rfl) (HMM.out.own.low (((Below.refl _ _).alloc (Nat.le_refl _) _).drew)) (by rfl) (heap_alloc_new w7 _) (by omega) (by simp; omega) ?_; intro gg cap w9 hown9 hgrow hsz9; have kz : w9.frozen? ⟨S, 3, none⟩ = false := (hgrow.frozen_far ⟨S, 3, none⟩ (by simp; omega) (Ne.symm agS)).trans HZ3.out; have k3 : w9.cell? ⟨S, 3, none⟩ = some v := (hgrow.cell_far ⟨S, 3, none⟩ (by simp; omega) (Ne.symm agS)).trans HC3.out; have e0 := (hgrow.cell_far ⟨D, 0, none⟩ (by simp; omega) (Ne.symm agD)).trans (HDC.out 0 _ t0); have e1 := (hgrow.cell_far ⟨D, 1, none⟩ (by simp; omega) (Ne.symm agD)).trans (HDC.out 1 _ t1); have e2 := (hgrow.cell_far ⟨D, 2, none⟩ (by simp; omega) (Ne.symm agD)).trans (HDC.out 2 _ t2); have e3 := (hgrow.cell_far ⟨D, 3, none⟩ (by simp; omega) (Ne.symm agD)).trans (HDC.out 3 _ t3); have e4 := (hgrow.cell_far ⟨D, 4, none⟩ (by simp; omega) (Ne.symm agD)).trans (HDC.out 4 _ t4); have e5 := (hgrow.cell_far ⟨D, 5, none⟩ (by simp; omega) (Ne.symm agD)).trans (HDC.out 5 _ t5)))
        all_goals go_wp2
        all_goals refine bodyPost_ret (v := .tuple #[]) (by simp [results, Tryz.results16, go_sem]) rfl ?_
        all_goals have hend := mid_end HMM.out _ hgrow
        all_goals exact mid_app HMM.out (.inr trivial) rfl hn1 (by omega) hLp hown9 hend.1 hend.2.1 hend.2.2 (fun f => f.tok hp (by rw [Hc.out]; exact HBL.out) HCM.out (Rd.num HCL.out HN.out HR.out))
      | false =>
        obtain ⟨t0, t1, t2, t3, t4, t5, y0, y3, y4, y5⟩ := HM6.out.tb.cells
        have HM7 := hide (((HM6.out.set0 3).set4 i).set5 b)
        go_wp2_with fail
        refine (step_any s S p n v 0 fl fa _ HM7.out.lx hs (by omega)).mono ?_
        rintro e w7 ⟨rfl, hx7, hg7⟩
        have HMM := hide (HM7.out.onS hg7 hx7)
        clear hx7 hg7 HM6 HM7 t0 t1 t2 t3 t4 t5 y0 y3 y4 y5 g0 g1 g2 HNA
        obtain ⟨c0, c1, c2, c3, c4, c5, c6, z1, z2, z3, z4, z5, z6⟩ := HMM.out.lx.cells
        obtain ⟨t0, t1, t2, t3, t4, t5, y0, y3, y4, y5⟩ := HMM.out.tb.cells
        have hSlt := HMM.out.lx.lt
        have hDlt := HMM.out.tb.lt
        have hod := HMM.out.hod
        have hne1 : w7.heap.size ≠ S := by omega
        have hne2 : w7.heap.size ≠ D := by omega
        have agS : v.ownBlock ≠ some S := fun e => by have := (World.ownsRow.lt HMM.out.own S e).1; omega
        have agD : v.ownBlock ≠ some D := fun e => by have := hod D e; omega
        have HOD := hide hod
        clear hod
        have HZ3 : Hid ((w7.alloc (.cells (tokC s (⟨3, ⟨#[]⟩, i, b⟩, p)).toArray 37)).drew.frozen? ⟨S, 3, none⟩ = false) := hide ((Below.frozen (((Below.refl w7.heap.size w7).alloc (Nat.le_refl _) _).drew) (p := ⟨S, 3, none⟩) hSlt).trans z3)
        have HC3 : Hid ((w7.alloc (.cells (tokC s (⟨3, ⟨#[]⟩, i, b⟩, p)).toArray 37)).drew.cell? ⟨S, 3, none⟩ = some v) := hide ((Below.cell (((Below.refl w7.heap.size w7).alloc (Nat.le_refl _) _).drew) (p := ⟨S, 3, none⟩) hSlt).trans c3)
        have HDC : Hid (∀ (j : Nat) (u : Value), w7.cell? ⟨D, j, none⟩ = some u → (w7.alloc (.cells (tokC s (⟨3, ⟨#[]⟩, i, b⟩, p)).toArray 37)).drew.cell? ⟨D, j, none⟩ = some u) := hide (fun j u hu => (Below.cell (((Below.refl w7.heap.size w7).alloc (Nat.le_refl _) _).drew) (p := ⟨D, j, none⟩) hDlt).trans hu)
        go_wp2
        go_region_law
          ((refine step_tok (by rfl) _ _ (by rfl) s base w7.heap.size v L (⟨3, ⟨#[]⟩, i, b⟩, p) (by rfl) (HMM.out.own.low (((Below.refl _ _).alloc (Nat.le_refl _) _).drew)) (by rfl) (heap_alloc_new w7 _) (by omega) (by simp; omega) ?_; intro gg cap w9 hown9 hgrow hsz9; have kz : w9.frozen? ⟨S, 3, none⟩ = false := (hgrow.frozen_far ⟨S, 3, none⟩ (by simp; omega) (Ne.symm agS)).trans HZ3.out; have k3 : w9.cell? ⟨S, 3, none⟩ = some v := (hgrow.cell_far ⟨S, 3, none⟩ (by simp; omega) (Ne.symm agS)).trans HC3.out; have e0 := (hgrow.cell_far ⟨D, 0, none⟩ (by simp; omega) (Ne.symm agD)).trans (HDC.out 0 _ t0); have e1 := (hgrow.cell_far ⟨D, 1, none⟩ (by simp; omega) (Ne.symm agD)).trans (HDC.out 1 _ t1); have e2 := (hgrow.cell_far ⟨D, 2, none⟩ (by simp; omega) (Ne.symm agD)).trans (HDC.out 2 _ t2); have e3 := (hgrow.cell_far ⟨D, 3, none⟩ (by simp; omega) (Ne.symm agD)).trans (HDC.out 3 _ t3); have e4 := (hgrow.cell_far ⟨D, 4, none⟩ (by simp; omega) (Ne.symm agD)).trans (HDC.out 4 _ t4); have e5 := (hgrow.cell_far ⟨D, 5, none⟩ (by simp; omega) (Ne.symm agD)).trans (HDC.out 5 _ t5)))
        all_goals go_wp2
        all_goals refine bodyPost_ret (v := .tuple #[]) (by simp [results, Tryz.results16, go_sem]) rfl ?_
        all_goals have hend := mid_end HMM.out _ hgrow
        all_goals exact mid_app HMM.out (.inr trivial) rfl hn1 (by omega) hLp hown9 hend.1 hend.2.1 hend.2.2 (fun f => f.tok hp (by rw [Hc.out]; exact HBL.out) HCM.out (Rd.num HCL.out HN.out HR.out))
end Go.Proofs.YtmndipnifjpdjaaGreatDoor
