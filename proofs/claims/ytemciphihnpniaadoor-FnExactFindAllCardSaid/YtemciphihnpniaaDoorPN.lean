import Derived.Test.YtemciphihnpniaaDoorPM
namespace Go.Proofs.YtemciphihnpniaaDoor
open Go Go.RowKit
set_option linter.unusedVariables false

theorem pairM_end {s : ByteArray} {x y : Int} {nx : Nx} {q i n : Nat} {σ : Ms} (h : ¬ i < s.size) : pairM s x y nx q i n σ = (none, σ) := by
  cases q with
  | zero => rfl
  | succ q => rw [pairM, if_pos h]
theorem pairM_hit {s : ByteArray} {x y : Int} {nx : Nx} {q i : Nat} {σ : Ms} (h : i < s.size) (hy : hb s i = y) (hs : (σ.more 1).spent = false) : pairM s x y nx (q + 1) i 1 σ = nx (i + 1) (σ.more 1) := by
  rw [pairM, if_neg (by omega), if_pos hy, if_pos rfl, if_neg (by rw [hs]; simp)]
theorem pairM_sp {s : ByteArray} {x y : Int} {nx : Nx} {q i : Nat} {σ : Ms} (h : i < s.size) (hy : hb s i = y) (hs : (σ.more 1).spent = true) : pairM s x y nx (q + 1) i 1 σ = (none, σ.more 1) := by
  rw [pairM, if_neg (by omega), if_pos hy, if_pos rfl, if_pos hs]
theorem pairM_shut {s : ByteArray} {x y : Int} {nx : Nx} {q i n : Nat} {σ : Ms} (h : i < s.size) (hy : hb s i = y) (hn : n ≠ 1) : pairM s x y nx (q + 1) i n σ = pairM s x y nx q (i + 1) (n - 1) (σ.more 1) := by
  rw [pairM, if_neg (by omega), if_pos hy, if_neg hn]
theorem pairM_open {s : ByteArray} {x y : Int} {nx : Nx} {q i n : Nat} {σ : Ms} (h : i < s.size) (hy : hb s i ≠ y) (hx : hb s i = x) : pairM s x y nx (q + 1) i n σ = pairM s x y nx q (i + 1) (n + 1) (σ.more 1) := by
  rw [pairM, if_neg (by omega), if_neg hy, if_pos hx]
theorem pairM_past {s : ByteArray} {x y : Int} {nx : Nx} {q i n : Nat} {σ : Ms} (h : i < s.size) (hy : hb s i ≠ y) (hx : hb s i ≠ x) : pairM s x y nx (q + 1) i n σ = pairM s x y nx q (i + 1) n (σ.more 1) := by
  rw [pairM, if_neg (by omega), if_neg hy, if_neg hx]
def pairR (s : ByteArray) (it : It) (nx : Nx) (at_ : Nat) (σ : Ms) : Option Nat × Ms := if ¬ at_ < s.size ∨ hb s at_ ≠ it.x then (none, σ) else pairM s it.x it.y nx s.size (at_ + 1) 1 σ

set_option maxHeartbeats 3200000 in
set_option maxRecDepth 100000 in
theorem pair_any (M : Nat) (s : ByteArray) (t : Pt) (us : List (It × Value)) (vi vp vf vt : Value) (k : Nat) (pre : List It) (nx : Nx) (it : It) (a9 : Option Addr) (n9 c9 at_ : Nat) (σ : Ms) (w : World) (hs : s.size ≤ 65536) (hk9 : k ≤ 1000)
    (hx : NxOk M s t us vi vp vf vt k pre nx) (hm : MS w M s t us vi vp vf vt σ) (ha : at_ ≤ s.size) (h5 : σ.steps ≤ 50000) (hcap : Cap pre σ at_) :
    Calls Tryd.prog 35 #[.pointer (some ⟨M, 0, none⟩), .agg (boxC it (.slice a9 n9 c9)), .int .i64 k, .int .i64 at_] w fun e w' => TrR M s t us vi vp vf vt w (pairR s it nx at_ σ) e w' := by
  have kb : Keeps w (w.alloc (.cells (boxC it (.slice a9 n9 c9)) 83)) (fun _ => False) := Keeps.of (b_1 w _) (Nat.le_refl _) _
  have HM := hide (hm.low kb)
  have HB := hide (show BoxF (w.alloc (.cells (boxC it (.slice a9 n9 c9)) 83)) w.heap.size it (.slice a9 n9 c9) from RowF.mk' w 83 (boxC it (.slice a9 n9 c9)))
  have HK := hide (kb.mono (S' := MW M vf vt) (fun b hb => hb.elim))
  have HX := hide hx
  have HC := hide hcap
  clear hm kb hx hcap
  go_enter Tryd.func35, Tryd.ntmps35
  go_wp2_with fail
  generalize w.alloc (.cells (boxC it (.slice a9 n9 c9)) 83) = w1 at *
  generalize w.heap.size = X at *
  have c0 : w1.cell? ⟨M, 0, none⟩ = some (.string s) := RowF.cell HM.out.m (j := 0) (by omega)
  have c4 : w1.cell? ⟨X, 4, none⟩ = some (.int .u8 it.x) := RowF.cell HB.out (j := 4) (by omega)
  by_cases hin : at_ < s.size
  · have hi0 : ∀ w' : World, (Instr.index 9 (.string s) (.int .i64 (at_ : Int))).run Tryd.prog w' = .ok (.int .u8 (hb s at_)) w' := fun w' => by
      rw [idx_str s (i := (at_ : Int)) w' (by omega) (by omega), Int.toNat_natCast]
    have hlt : ¬ ((s.size : Int) ≤ (at_ : Int)) := by omega
    by_cases hxx : hb s at_ = it.x
    · have hxb : (hb s at_ != it.x) = false := by simp [hxx]
      have HO := hide (show pairR s it nx at_ σ = pairM s it.x it.y nx s.size (at_ + 1) 1 σ by rw [pairR, if_neg (by rw [hxx]; simp; omega)])
      clear hxx
      go_quiet (fail)
      have HM := hide (HM.out.low ((Keeps.refl _ _).drewN nq))
      have HB := hide (show BoxF (w1.drewN nq) X it (.slice a9 n9 c9) from RowF.keep HB.out ((Keeps.refl w1 (fun _ => False)).drewN nq) (fun x => x))
      have HK := hide (HK.out.drewN nq)
      generalize w1.drewN nq = w2 at *
      clear c0 c4 hi0
      go_wp2_with fail
      go_loopw [9, 10] (fun nv iv wr => ∃ (n i q : Nat) (τ : Ms), nv = .int .i64 n ∧ iv = .int .i64 i ∧ i ≤ s.size ∧ at_ < i ∧ 1 ≤ n ∧ n ≤ i ∧ s.size + at_ + 1 = q + i ∧ τ.steps ≤ 50000 + i ∧ SameC τ σ ∧ Hid (MS wr M s t us vi vp vf vt τ) ∧ Hid (BoxF wr X it (.slice a9 n9 c9)) ∧ Hid (Keeps w wr (MW M vf vt)) ∧ Hid (pairR s it nx at_ σ = pairM s it.x it.y nx q i n τ)) (fun _ iv _ => s.size + 1 - ivN iv)
      case atStart => exact ⟨1, at_ + 1, s.size, σ, rfl, by simp, by omega, by omega, by omega, by omega, by omega, by omega, SameC.rfl σ, HM, HB, HK, HO⟩
      case round =>
        clear HM HB HK HO
        obtain ⟨n, i, q0, τ, rfl, rfl, hi1, hi2, hn1, hn2, hq, hτ, HF, HM, HB, HK, HO⟩ := hrel
        obtain ⟨q, rfl⟩ : ∃ q, q0 = q + 1 := ⟨q0 - 1, by omega⟩
        have c0 : wr.cell? ⟨M, 0, none⟩ = some (.string s) := RowF.cell HM.out.m (j := 0) (by omega)
        by_cases hin2 : i < s.size
        · have hi0 : ∀ w' : World, (Instr.index 9 (.string s) (.int .i64 (i : Int))).run Tryd.prog w' = .ok (.int .u8 (hb s i)) w' := fun w' => by
            rw [idx_str s (i := (i : Int)) w' (by omega) (by omega), Int.toNat_natCast]
          have c6 : wr.cell? ⟨M, 6, none⟩ = some (.int .i64 τ.steps) := RowF.cell HM.out.m (j := 6) (by omega)
          have z6 : wr.frozen? ⟨M, 6, none⟩ = false := RowF.frz HM.out.m 6
          have HM5 := hide (HM.out.step (τ.steps + 1))
          have HK5 := hide (HK.out.trans (MS.kstep (w := wr) (M := M) (vf := vf) (vt := vt) (τ.steps + 1)))
          have HB5 := hide (HB.out.keep HM.out (MS.kstep (τ.steps + 1)))
          rw [show ((τ.steps + 1 : Nat) : Int) = (τ.steps : Int) + 1 by omega] at HM5 HK5 HB5
          go_wp2_with fail
          clear HM HB HK c0 c6 z6
          have HM := HM5
          have HB := HB5
          have HK := HK5
          clear HM5 HB5 HK5
          generalize wr.setCell ⟨M, 6, none⟩ (.int .i64 ((τ.steps : Int) + 1)) = w3 at *
          have c0 : w3.cell? ⟨M, 0, none⟩ = some (.string s) := RowF.cell HM.out.m (j := 0) (by omega)
          have c5 : w3.cell? ⟨X, 5, none⟩ = some (.int .u8 it.y) := RowF.cell HB.out (j := 5) (by omega)
          by_cases hy : hb s i = it.y
          · have hyb : (hb s i == it.y) = true := beq_iff_eq.2 hy
            have HY := hide hy
            clear hy
            go_quiet (fail)
            have HM := hide (HM.out.low ((Keeps.refl _ _).drewN nq))
            have HB := hide (show BoxF (w3.drewN nq) X it (.slice a9 n9 c9) from RowF.keep HB.out ((Keeps.refl w3 (fun _ => False)).drewN nq) (fun x => x))
            have HK := hide (HK.out.drewN nq)
            generalize w3.drewN nq = w4 at *
            clear c0 c5
            by_cases hn : n = 1
            · subst hn
              go_wp2_with fail
              refine (MS.spentC HM.out).mono ?_
              rintro e w5 ⟨rfl, hw⟩
              obtain rfl := hw.symm
              rw [show ({ τ with steps := τ.steps + 1 } : Ms) = τ.more 1 from rfl] at *
              cases hsp : (τ.more 1).spent with
              | true =>
                have HR := hide (HO.out.trans (pairM_sp hin2 HY.out hsp))
                go_wp2_with fail
                refine bodyPost_ret (v := .int .i64 (-1)) ?_ rfl (TrR.mk HR.out rfl HK.out HM.out)
                simp [results, Tryd.results35, go_sem]
              | false =>
                have HR := hide (HO.out.trans (pairM_hit hin2 HY.out hsp))
                go_wp2_with fail
                refine (HX.out (i + 1) _ (τ.more 1) _ (by omega) HM.out (by omega) (spent_no hsp) (HC.out.le (by omega) HF.1 HF.2)).mono ?_
                rintro e w6 ⟨rfl, h1, h2⟩
                go_wp2_with fail
                refine bodyPost_ret (v := .int .i64 (resI (nx (i + 1) (τ.more 1)).1)) ?_ rfl (TrR.mk HR.out rfl (HK.out.trans h1) h2)
                simp [results, Tryd.results35, go_sem]
            · have HR := hide (HO.out.trans (pairM_shut hin2 HY.out hn))
              have hnb : (((n : Int) - 1) == 0) = false := beq_eq_false_iff_ne.2 (by omega)
              have HF5 : SameC (τ.more 1) σ := ⟨HF.1, HF.2⟩
              go_wp2_with fail
              go_roundw
              case rel => exact ⟨n - 1, i + 1, q, τ.more 1, by congr 1; omega, by simp, by omega, by omega, by omega, by omega, by omega, by show τ.steps + 1 ≤ 50000 + (i + 1); omega, HF5, HM, HB, HK, HR⟩
              case measure => show s.size + 1 - ivN (.int .i64 _) < s.size + 1 - ivN (.int .i64 _); simp [ivN]; omega
          · have hyb : (hb s i == it.y) = false := beq_eq_false_iff_ne.2 hy
            have HY := hide hy
            clear hy
            go_quiet (fail)
            have HM := hide (HM.out.low ((Keeps.refl _ _).drewN nq))
            have HB := hide (show BoxF (w3.drewN nq) X it (.slice a9 n9 c9) from RowF.keep HB.out ((Keeps.refl w3 (fun _ => False)).drewN nq) (fun x => x))
            have HK := hide (HK.out.drewN nq)
            generalize w3.drewN nq = w4 at *
            clear c0 c5
            have c0 : w4.cell? ⟨M, 0, none⟩ = some (.string s) := RowF.cell HM.out.m (j := 0) (by omega)
            have c4 : w4.cell? ⟨X, 4, none⟩ = some (.int .u8 it.x) := RowF.cell HB.out (j := 4) (by omega)
            have HF5 : SameC (τ.more 1) σ := ⟨HF.1, HF.2⟩
            go_wp2_with fail
            by_cases hx2 : hb s i = it.x
            · have hxb2 : (hb s i == it.x) = true := beq_iff_eq.2 hx2
              have HR := hide (HO.out.trans (pairM_open hin2 HY.out hx2))
              clear hx2
              go_quiet (fail)
              have HM := hide (HM.out.low ((Keeps.refl _ _).drewN nq))
              have HB := hide (show BoxF (w4.drewN nq) X it (.slice a9 n9 c9) from RowF.keep HB.out ((Keeps.refl w4 (fun _ => False)).drewN nq) (fun x => x))
              have HK := hide (HK.out.drewN nq)
              generalize w4.drewN nq = w5 at *
              go_wp2_with fail
              go_roundw
              case rel => exact ⟨n + 1, i + 1, q, τ.more 1, by simp, by simp, by omega, by omega, by omega, by omega, by omega, by show τ.steps + 1 ≤ 50000 + (i + 1); omega, HF5, HM, HB, HK, HR⟩
              case measure => show s.size + 1 - ivN (.int .i64 _) < s.size + 1 - ivN (.int .i64 _); simp [ivN]; omega
            · have hxb2 : (hb s i == it.x) = false := beq_eq_false_iff_ne.2 hx2
              have HR := hide (HO.out.trans (pairM_past hin2 HY.out hx2))
              clear hx2
              go_quiet (fail)
              have HM := hide (HM.out.low ((Keeps.refl _ _).drewN nq))
              have HB := hide (show BoxF (w4.drewN nq) X it (.slice a9 n9 c9) from RowF.keep HB.out ((Keeps.refl w4 (fun _ => False)).drewN nq) (fun x => x))
              have HK := hide (HK.out.drewN nq)
              generalize w4.drewN nq = w5 at *
              go_wp2_with fail
              go_roundw
              case rel => exact ⟨n, i + 1, q, τ.more 1, rfl, by simp, by omega, by omega, by omega, by omega, by omega, by show τ.steps + 1 ≤ 50000 + (i + 1); omega, HF5, HM, HB, HK, HR⟩
              case measure => show s.size + 1 - ivN (.int .i64 _) < s.size + 1 - ivN (.int .i64 _); simp [ivN]; omega
        · have HR := hide (HO.out.trans (pairM_end hin2))
          go_wp2_with fail
          refine bodyPost_ret (v := .int .i64 (-1)) ?_ rfl (TrR.mk HR.out rfl HK.out HM.out)
          simp [results, Tryd.results35, go_sem]
    · have hxb : (hb s at_ != it.x) = true := by simp [hxx]
      have HO := hide (show pairR s it nx at_ σ = (none, σ) by rw [pairR, if_pos (.inr hxx)])
      clear hxx
      go_quiet (fail)
      have HM := hide (HM.out.low ((Keeps.refl _ _).drewN nq))
      have HB := hide (show BoxF (w1.drewN nq) X it (.slice a9 n9 c9) from RowF.keep HB.out ((Keeps.refl w1 (fun _ => False)).drewN nq) (fun x => x))
      have HK := hide (HK.out.drewN nq)
      generalize w1.drewN nq = w2 at *
      go_wp2_with fail
      refine bodyPost_ret (v := .int .i64 (-1)) ?_ rfl (TrR.mk HO.out rfl HK.out HM.out)
      simp [results, Tryd.results35, go_sem]
  · have hlt : (s.size : Int) ≤ (at_ : Int) := by omega
    have HO := hide (show pairR s it nx at_ σ = (none, σ) by rw [pairR, if_pos (.inl hin)])
    go_quiet (fail)
    have HM := hide (HM.out.low ((Keeps.refl _ _).drewN nq))
    have HB := hide (show BoxF (w1.drewN nq) X it (.slice a9 n9 c9) from RowF.keep HB.out ((Keeps.refl w1 (fun _ => False)).drewN nq) (fun x => x))
    have HK := hide (HK.out.drewN nq)
    generalize w1.drewN nq = w2 at *
    go_wp2_with fail
    refine bodyPost_ret (v := .int .i64 (-1)) ?_ rfl (TrR.mk HO.out rfl HK.out HM.out)
    simp [results, Tryd.results35, go_sem]

end Go.Proofs.YtemciphihnpniaaDoor
