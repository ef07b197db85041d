import Derived.Deep.RegionLaw
import Derived.Test.YtmndipnifjpdjaaGreatDoorQ45
namespace Go.Proofs.YtmndipnifjpdjaaGreatDoor
open Go Go.RowKit
set_option linter.unusedVariables false
theorem run_pos {P : Int → Bool} {f : Nat → Int} {q : Nat} (h : RunP P f q) (h0 : P (f 0) = true) : 1 ≤ q := by
  rcases Nat.eq_zero_or_pos q with z | z
  · subst z; have := h.2; rw [h0] at this; cases this
  · exact z
set_option maxHeartbeats 3200000 in
set_option maxRecDepth 100000 in
theorem one_name (s : ByteArray) (S base p : Nat) (L : List (Tk × Nat)) (v : Value) (fl fa : Int) (wb w : World) (h : OneB s S base p L v fl fa wb w) (hbl : isBl (hb s p) = false) (hcm : ¬ isCom (fr s p)) (hcl : cls (fr s p) = 1) (hlf : isLet (hb s p) = true) :
    Calls Tryz.prog 16 #[.pointer (some ⟨S, 0, none⟩)] w fun e w' => OneR s S base p L fl fa wb e w' := by
  have HH := hide h
  have hs := h.hs
  have hp := h.hp
  have hnl := nlc_le s p
  have hr := hb_rng s p
  clear h
  go_enter Tryz.func16, Tryz.ntmps16
  go_wp2_with fail
  refine (here_any s S p 0 v 0 fl fa _ HH.out.lx hs (by omega) (by omega)).mono ?_
  rintro e w1 ⟨rfl, m0, hw1⟩
  have HH1 : Hid (OneB s S base p L v fl fa wb w1) := hide (by rw [hw1]; exact HH.out.drw m0)
  clear hw1 HH
  rw [Nat.add_zero]
  obtain ⟨c, hc⟩ : ∃ c, hb s p = c := ⟨_, rfl⟩
  have Hc := hide hc
  rw [hc] at hr hbl hlf ⊢
  clear hc
  obtain ⟨c0, c1, c2, c3, c4, c5, c6, z1, z2, z3, z4, z5, z6⟩ := HH1.out.lx.cells
  have hlt := HH1.out.lx.lt
  have HT := hide HH1.out.mid
  have hLp := HH1.out.hL
  have hbw := HH1.out.hb
  have HBL : Hid (isBl c = false) := hide hbl
  have hq9 : (c == 9) = false := bq_f (fun e => by subst e; cases hbl)
  have hq10 : (c == 10) = false := bq_f (fun e => by subst e; cases hbl)
  have hq13 : (c == 13) = false := bq_f (fun e => by subst e; cases hbl)
  have hq32 : (c == 32) = false := bq_f (fun e => by subst e; cases hbl)
  have HCM := hide hcm
  have HCL := hide hcl
  have HLF := hide hlf
  have hq45 : (c == 45) = false := bq_f (fun e => by subst e; cases hlf)
  clear hbl hcm hcl hlf
  go_wp2
  go_region
  clear c0 c1 c2 c3 c4 c5 c6 z1 z2 z3 z4 z5 z6
  go_wp2_with fail
  change Calls _ _ _ (w1.alloc (.cells (tokZ ((nlc s p : Int) + 1) p) 37)).drew _
  obtain ⟨D, hD⟩ : ∃ D, w1.heap.size = D := ⟨_, rfl⟩
  rw [hD] at HT ⊢
  generalize hw2 : (w1.alloc (.cells (tokZ ((nlc s p : Int) + 1) p) 37)).drew = w2
  rw [hw2] at HT
  clear hw2 hD hlt hbw
  have hbD := HT.out.hbD
  have hSb := HT.out.hSb
  refine (letter_any c _ hr.1 hr.2).mono ?_
  rintro e w3 ⟨rfl, hw3⟩
  rw [hw3, HLF.out]
  clear hw3 w3
  go_wp2
  go_loopw [6] (fun nv wr => ∃ n m : Nat, p + n ≤ s.size ∧ nv = .int .i64 n ∧ Hid (AllP isLD (fr s p) n) ∧ wr = w2.drewN m) (fun nv _ => s.size + 2 - (intOf nv).toNat)
  case atStart => exact ⟨0, 0, by omega, rfl, hide (fun j hj => by omega), rfl⟩
  case round =>
    obtain ⟨n, m, hpn, rfl, HA, rfl⟩ := hrel
    have hrn := hb_rng s (p + n)
    go_wp2_with fail
    refine (here_any s S p n v 0 fl fa _ (HT.out.drw m).lx hs (by omega) (by omega)).mono ?_
    rintro e w3 ⟨rfl, m3, rfl⟩
    obtain ⟨d, hd⟩ : ∃ d, hb s (p + n) = d := ⟨_, rfl⟩
    have Hd : Hid (fr s p n = d) := hide hd
    have HD2 := hide hd
    have Hlt : Hid (d ≠ 0 → p + n < s.size) := hide (fun h => hb_lt (by rw [hd]; exact h))
    rw [hd] at hrn ⊢
    clear hd
    go_wp2_with fail
    refine (letter_any d _ hrn.1 hrn.2).mono ?_
    rintro e w3 ⟨rfl, hw3⟩
    rw [hw3]
    clear hw3 w3
    cases hl : isLet d with
    | true =>
      have HA2 := hide (HA.out.next (by rw [Hd.out]; exact isLD_t2 hl))
      have hlt := Hlt.out (LD_nz (isLD_t2 hl))
      clear hl
      go_wp2
      go_roundw
      case rel => exact ⟨n + 1, _, by omega, rfl, HA2, rfl⟩
      case measure => simp [intOf]; omega
    | false =>
      go_wp2_with fail
      refine (here_any s S p n v 0 fl fa _ (HT.out.drw _).lx hs (by omega) (by omega)).mono ?_
      rintro e w3 ⟨rfl, m4, rfl⟩
      rw [HD2.out]
      go_wp2_with fail
      refine (digit_any d _ hrn.1 hrn.2).mono ?_
      rintro e w3 ⟨rfl, hw3⟩
      rw [hw3]
      clear hw3 w3
      cases hdd : isDig d with
      | true =>
        have HA2 := hide (HA.out.next (by rw [Hd.out]; exact isLD_t1 hdd))
        have hlt := Hlt.out (LD_nz (isLD_t1 hdd))
        clear hl hdd
        go_wp2
        go_roundw
        case rel => exact ⟨n + 1, _, by omega, rfl, HA2, rfl⟩
        case measure => simp [intOf]; omega
      | false =>
        have HRN : Hid (RunP isLD (fr s p) n) := hide ⟨HA.out, by rw [Hd.out]; exact isLD_f hdd hl⟩
        have hn1 : 1 ≤ n := run_pos HRN.out (by rw [show fr s p 0 = c from Hc.out]; exact isLD_t2 HLF.out)
        clear hl hdd
        have HM5 := hide (HT.out.drw (m + m3 + m4))
        generalize w2.drewN (m + m3 + m4) = w5 at HM5 ⊢
        obtain ⟨c0, c1, c2, c3, c4, c5, c6, z1, z2, z3, z4, z5, z6⟩ := HM5.out.lx.cells
        obtain ⟨t0, t1, t2, t3, t4, t5, y0, y3, y4, y5⟩ := HM5.out.tb.cells
        have HM6 := hide (((HM5.out.set3 (s.extract p (p + n))).set0 1).drw 1)
        have hne := HM5.out.ne
        have hne' := hne.symm
        have hsl := fun w' : World => slc_str s (i := (p : Int)) (j := (p : Int) + n) w' (by omega) (by omega) (by omega)
        rw [show ((p : Int)).toNat = p by omega, show ((p : Int) + n).toNat = p + n by omega] at hsl
        have hw1 : IntKind.i64.wrap ((p : Int) + n) = (p : Int) + n := wrap_id (by omega) (by omega)
        go_wp2
        refine wp_tail 16 (by kernel_rfl) (by kernel_rfl) (fun ops => ?_)
        simp only [List.take_succ_cons, List.take_zero, List.drop_succ_cons, List.drop_zero]
        iterate 16 (refine still_next rfl (fun K hK => ?_); go_simp; refine hK _ ?_; clear hK K)
        refine wpStill_nil ?_
        clear hw1
        go_wp2_with fail
        clear c0 c1 c2 c3 c4 c5 c6 z1 z2 z3 z4 z5 z6 t0 t1 t2 t3 t4 t5 y0 y3 y4 y5 hsl
        have HM7 : Hid (Mid s S base D p L v 0 fl fa 1 ((nlc s p : Int) + 1) p (s.extract p (p + n)) 0 0 wb ((w5.setCell ⟨D, 3, none⟩ (.string (s.extract p (p + n)))).setCell ⟨D, 0, none⟩ (.int .i64 1)).drew) := hide (HM6.out)
        generalize ((w5.setCell ⟨D, 3, none⟩ (.string (s.extract p (p + n)))).setCell ⟨D, 0, none⟩ (.int .i64 1)).drew = w6 at HM7 ⊢
        clear HM6 HM5 HT
        refine (lword_any (s.extract p (p + n)) _).mono ?_
        rintro e w8 ⟨bb, rfl, hbb, hb8⟩
        have HM8 := hide (HM7.out.low hb8)
        have HBB := hide hbb
        clear hbb hb8 HM7
        cases bb with
        | true =>
          have HWK : Hid (wKind (s.extract p (p + n)) = 2) := hide (by unfold wKind; exact if_pos (HBB.out.mp rfl))
          obtain ⟨t0, t1, t2, t3, t4, t5, y0, y3, y4, y5⟩ := HM8.out.tb.cells
          have HM6 := hide (HM8.out.set0 2)
          go_wp2_with fail
          refine (step_any s S p n v 0 fl fa _ HM6.out.lx hs (by omega)).mono ?_
          rintro e w7 ⟨rfl, hx7, hg7⟩
          have HMM := hide (HM6.out.onS hg7 hx7)
          clear hx7 hg7 HM6 t0 t1 t2 t3 t4 t5 y0 y3 y4 y5
          obtain ⟨c0, c1, c2, c3, c4, c5, c6, z1, z2, z3, z4, z5, z6⟩ := HMM.out.lx.cells
          obtain ⟨t0, t1, t2, t3, t4, t5, y0, y3, y4, y5⟩ := HMM.out.tb.cells
          have hSlt := HMM.out.lx.lt
          have hDlt := HMM.out.tb.lt
          have hod := HMM.out.hod
          have hne1 : w7.heap.size ≠ S := by omega
          have hne2 : w7.heap.size ≠ D := by omega
          have agS : v.ownBlock ≠ some S := fun e => by have := (World.ownsRow.lt HMM.out.own S e).1; omega
          have agD : v.ownBlock ≠ some D := fun e => by have := hod D e; omega
          have HOD := hide hod
          clear hod
          have HZ3 : Hid ((w7.alloc (.cells (tokC s (⟨2, (s.extract p (p + n)), 0, 0⟩, p)).toArray 37)).drew.frozen? ⟨S, 3, none⟩ = false) := hide ((Below.frozen (((Below.refl w7.heap.size w7).alloc (Nat.le_refl _) _).drew) (p := ⟨S, 3, none⟩) hSlt).trans z3)
          have HC3 : Hid ((w7.alloc (.cells (tokC s (⟨2, (s.extract p (p + n)), 0, 0⟩, p)).toArray 37)).drew.cell? ⟨S, 3, none⟩ = some v) := hide ((Below.cell (((Below.refl w7.heap.size w7).alloc (Nat.le_refl _) _).drew) (p := ⟨S, 3, none⟩) hSlt).trans c3)
          have HDC : Hid (∀ (j : Nat) (u : Value), w7.cell? ⟨D, j, none⟩ = some u → (w7.alloc (.cells (tokC s (⟨2, (s.extract p (p + n)), 0, 0⟩, p)).toArray 37)).drew.cell? ⟨D, j, none⟩ = some u) := hide (fun j u hu => (Below.cell (((Below.refl w7.heap.size w7).alloc (Nat.le_refl _) _).drew) (p := ⟨D, j, none⟩) hDlt).trans hu)
          go_wp2
          go_region_law
            ((refine step_tok (by rfl) _ _ (by rfl) s base w7.heap.size v L (⟨2, (s.extract p (p + n)), 0, 0⟩, p) (by rfl) (HMM.out.own.low (((Below.refl _ _).alloc (Nat.le_refl _) _).drew)) (by rfl) (heap_alloc_new w7 _) (by omega) (by simp; omega) ?_; intro gg cap w9 hown9 hgrow hsz9; have kz : w9.frozen? ⟨S, 3, none⟩ = false := (hgrow.frozen_far ⟨S, 3, none⟩ (by simp; omega) (Ne.symm agS)).trans HZ3.out; have k3 : w9.cell? ⟨S, 3, none⟩ = some v := (hgrow.cell_far ⟨S, 3, none⟩ (by simp; omega) (Ne.symm agS)).trans HC3.out; have e0 := (hgrow.cell_far ⟨D, 0, none⟩ (by simp; omega) (Ne.symm agD)).trans (HDC.out 0 _ t0); have e1 := (hgrow.cell_far ⟨D, 1, none⟩ (by simp; omega) (Ne.symm agD)).trans (HDC.out 1 _ t1); have e2 := (hgrow.cell_far ⟨D, 2, none⟩ (by simp; omega) (Ne.symm agD)).trans (HDC.out 2 _ t2); have e3 := (hgrow.cell_far ⟨D, 3, none⟩ (by simp; omega) (Ne.symm agD)).trans (HDC.out 3 _ t3); have e4 := (hgrow.cell_far ⟨D, 4, none⟩ (by simp; omega) (Ne.symm agD)).trans (HDC.out 4 _ t4); have e5 := (hgrow.cell_far ⟨D, 5, none⟩ (by simp; omega) (Ne.symm agD)).trans (HDC.out 5 _ t5)))
          all_goals go_wp2
          all_goals refine bodyPost_ret (v := .tuple #[]) (by simp [results, Tryz.results16, go_sem]) rfl ?_
          all_goals have hend := mid_end HMM.out _ hgrow
          all_goals exact mid_app HMM.out (.inr trivial) rfl hn1 (by omega) hLp hown9 hend.1 hend.2.1 hend.2.2 (fun f => f.tok hp (by rw [Hc.out]; exact HBL.out) HCM.out (by have := Rd.name (s := s) (p := p) HCL.out HRN.out; rw [HWK.out] at this; exact this))
        | false =>
          have HWK : Hid (wKind (s.extract p (p + n)) = 1) := hide (by unfold wKind; exact if_neg (fun h => by have := HBB.out.mpr h; cases this))
          have HM6 := HM8
          go_wp2_with fail
          refine (step_any s S p n v 0 fl fa _ HM6.out.lx hs (by omega)).mono ?_
          rintro e w7 ⟨rfl, hx7, hg7⟩
          have HMM := hide (HM6.out.onS hg7 hx7)
          clear hx7 hg7 HM6
          obtain ⟨c0, c1, c2, c3, c4, c5, c6, z1, z2, z3, z4, z5, z6⟩ := HMM.out.lx.cells
          obtain ⟨t0, t1, t2, t3, t4, t5, y0, y3, y4, y5⟩ := HMM.out.tb.cells
          have hSlt := HMM.out.lx.lt
          have hDlt := HMM.out.tb.lt
          have hod := HMM.out.hod
          have hne1 : w7.heap.size ≠ S := by omega
          have hne2 : w7.heap.size ≠ D := by omega
          have agS : v.ownBlock ≠ some S := fun e => by have := (World.ownsRow.lt HMM.out.own S e).1; omega
          have agD : v.ownBlock ≠ some D := fun e => by have := hod D e; omega
          have HOD := hide hod
          clear hod
          have HZ3 : Hid ((w7.alloc (.cells (tokC s (⟨1, (s.extract p (p + n)), 0, 0⟩, p)).toArray 37)).drew.frozen? ⟨S, 3, none⟩ = false) := hide ((Below.frozen (((Below.refl w7.heap.size w7).alloc (Nat.le_refl _) _).drew) (p := ⟨S, 3, none⟩) hSlt).trans z3)
          have HC3 : Hid ((w7.alloc (.cells (tokC s (⟨1, (s.extract p (p + n)), 0, 0⟩, p)).toArray 37)).drew.cell? ⟨S, 3, none⟩ = some v) := hide ((Below.cell (((Below.refl w7.heap.size w7).alloc (Nat.le_refl _) _).drew) (p := ⟨S, 3, none⟩) hSlt).trans c3)
          have HDC : Hid (∀ (j : Nat) (u : Value), w7.cell? ⟨D, j, none⟩ = some u → (w7.alloc (.cells (tokC s (⟨1, (s.extract p (p + n)), 0, 0⟩, p)).toArray 37)).drew.cell? ⟨D, j, none⟩ = some u) := hide (fun j u hu => (Below.cell (((Below.refl w7.heap.size w7).alloc (Nat.le_refl _) _).drew) (p := ⟨D, j, none⟩) hDlt).trans hu)
          go_wp2
          go_region_law
            ((refine step_tok (by rfl) _ _ (by rfl) s base w7.heap.size v L (⟨1, (s.extract p (p + n)), 0, 0⟩, p) (by rfl) (HMM.out.own.low (((Below.refl _ _).alloc (Nat.le_refl _) _).drew)) (by rfl) (heap_alloc_new w7 _) (by omega) (by simp; omega) ?_; intro gg cap w9 hown9 hgrow hsz9; have kz : w9.frozen? ⟨S, 3, none⟩ = false := (hgrow.frozen_far ⟨S, 3, none⟩ (by simp; omega) (Ne.symm agS)).trans HZ3.out; have k3 : w9.cell? ⟨S, 3, none⟩ = some v := (hgrow.cell_far ⟨S, 3, none⟩ (by simp; omega) (Ne.symm agS)).trans HC3.out; have e0 := (hgrow.cell_far ⟨D, 0, none⟩ (by simp; omega) (Ne.symm agD)).trans (HDC.out 0 _ t0); have e1 := (hgrow.cell_far ⟨D, 1, none⟩ (by simp; omega) (Ne.symm agD)).trans (HDC.out 1 _ t1); have e2 := (hgrow.cell_far ⟨D, 2, none⟩ (by simp; omega) (Ne.symm agD)).trans (HDC.out 2 _ t2); have e3 := (hgrow.cell_far ⟨D, 3, none⟩ (by simp; omega) (Ne.symm agD)).trans (HDC.out 3 _ t3); have e4 := (hgrow.cell_far ⟨D, 4, none⟩ (by simp; omega) (Ne.symm agD)).trans (HDC.out 4 _ t4); have e5 := (hgrow.cell_far ⟨D, 5, none⟩ (by simp; omega) (Ne.symm agD)).trans (HDC.out 5 _ t5)))
          all_goals go_wp2
          all_goals refine bodyPost_ret (v := .tuple #[]) (by simp [results, Tryz.results16, go_sem]) rfl ?_
          all_goals have hend := mid_end HMM.out _ hgrow
          all_goals exact mid_app HMM.out (.inr trivial) rfl hn1 (by omega) hLp hown9 hend.1 hend.2.1 hend.2.2 (fun f => f.tok hp (by rw [Hc.out]; exact HBL.out) HCM.out (by have := Rd.name (s := s) (p := p) HCL.out HRN.out; rw [HWK.out] at this; exact this))
end Go.Proofs.YtmndipnifjpdjaaGreatDoor
