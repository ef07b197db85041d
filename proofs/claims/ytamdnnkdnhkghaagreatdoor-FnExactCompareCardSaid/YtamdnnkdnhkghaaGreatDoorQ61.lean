import Derived.Test.YtamdnnkdnhkghaaGreatDoorQ60
import Derived.Lib.QuietBelow
import Derived.Test.YtamdnnkdnhkghaaGreatDoorQ49
import Derived.Test.YtamdnnkdnhkghaaGreatDoorCards
import Derived.Lay
import Derived.SevenTiedAt
namespace Go.Proofs.YtamdnnkdnhkghaaGreatDoor
open Go Go.RowKit
set_option linter.unusedVariables false

theorem below_ab {w wr : World} {A B : Obj} (h : Below ((w.alloc A).alloc B).heap.size ((w.alloc A).alloc B) wr) : Below w.heap.size w wr := below_two h

theorem ab_below (w : World) (A B : Obj) : Below w.heap.size w ((w.alloc A).alloc B) := ((Below.refl w.heap.size w).alloc (Nat.le_refl _) A).alloc (by simp) B

set_option maxHeartbeats 1600000 in
set_option maxRecDepth 100000 in
theorem sc_nan1 (u1 : Int) (f2 : Bool) (i2 u2 : Int) (w : World) (h1 : ∀ w, Calls Tryz.prog 46 #[.int .u64 u1] w fun e w' => e = .returned (.bool true) ∧ w' = w) :
    Calls Tryz.prog 42 #[numG true 0 u1, numG f2 i2 u2] w fun e w' => e = .returned (.int .i64 2) ∧ Below w.heap.size w w' := by
  have H1 := hide h1
  clear h1
  unfold numG
  go_enter Tryz.func42, Tryz.ntmps42
  go_wp2_with (go_at_call 46; refine (H1.out _).mono ?_; rintro e w' ⟨rfl, rfl⟩)
  all_goals go_ret
  all_goals exact ⟨rfl, ab_below _ _ _⟩

set_option maxHeartbeats 1600000 in
set_option maxRecDepth 100000 in
theorem sc_nan2 (f1 : Bool) (i1 u1 u2 : Int) (w : World) (h1 : f1 = true → ∀ w, Calls Tryz.prog 46 #[.int .u64 u1] w fun e w' => e = .returned (.bool false) ∧ w' = w) (h2 : ∀ w, Calls Tryz.prog 46 #[.int .u64 u2] w fun e w' => e = .returned (.bool true) ∧ w' = w) :
    Calls Tryz.prog 42 #[numG f1 i1 u1, numG true 0 u2] w fun e w' => e = .returned (.int .i64 2) ∧ Below w.heap.size w w' := by
  have H2 := hide h2
  clear h2
  unfold numG
  cases f1 with
  | false =>
    clear h1
    go_enter Tryz.func42, Tryz.ntmps42
    go_wp2_with (go_at_call 46; refine (H2.out _).mono ?_; rintro e w' ⟨rfl, rfl⟩)
    all_goals go_ret
    all_goals exact ⟨rfl, ab_below _ _ _⟩
  | true =>
    have H1 := hide (h1 rfl)
    clear h1
    go_enter Tryz.func42, Tryz.ntmps42
    go_wp2_with fail
    refine (H1.out _).mono ?_
    rintro e w' ⟨rfl, rfl⟩
    go_wp2_with fail
    refine (H2.out _).mono ?_
    rintro e w' ⟨rfl, rfl⟩
    go_wp2
    all_goals go_ret
    all_goals exact ⟨rfl, ab_below _ _ _⟩

set_option maxHeartbeats 1600000 in
set_option maxRecDepth 100000 in
theorem sc_ff (u1 u2 C : Int) (w : World) (h1 : ∀ w, Calls Tryz.prog 46 #[.int .u64 u1] w fun e w' => e = .returned (.bool false) ∧ w' = w) (h2 : ∀ w, Calls Tryz.prog 46 #[.int .u64 u2] w fun e w' => e = .returned (.bool false) ∧ w' = w)
    (h3 : ∀ w, Calls Tryz.prog 78 #[.int .u64 u1, .int .u64 u2] w fun e w' => e = .returned (.int .i64 C) ∧ Below w.heap.size w w') :
    Calls Tryz.prog 42 #[numG true 0 u1, numG true 0 u2] w fun e w' => e = .returned (.int .i64 C) ∧ Below w.heap.size w w' := by
  have H1 := hide h1
  have H2 := hide h2
  have H3 := hide h3
  clear h1 h2 h3
  unfold numG
  go_enter Tryz.func42, Tryz.ntmps42
  go_wp2_with fail
  refine (H1.out _).mono ?_
  rintro e w' ⟨rfl, rfl⟩
  go_wp2_with fail
  refine (H2.out _).mono ?_
  rintro e w' ⟨rfl, rfl⟩
  go_wp2_with fail
  refine (H3.out _).mono ?_
  rintro e w3 ⟨rfl, hb3⟩
  go_wp2
  all_goals go_ret
  all_goals exact ⟨rfl, below_ab hb3⟩

set_option maxHeartbeats 1600000 in
set_option maxRecDepth 100000 in
theorem sc_fi (u1 i2 C : Int) (w : World) (h1 : ∀ w, Calls Tryz.prog 46 #[.int .u64 u1] w fun e w' => e = .returned (.bool false) ∧ w' = w) (hC : -1 ≤ C ∧ C ≤ 1)
    (h3 : ∀ w, Calls Tryz.prog 79 #[.int .i64 i2, .int .u64 u1] w fun e w' => e = .returned (.int .i64 C) ∧ Below w.heap.size w w') :
    Calls Tryz.prog 42 #[numG true 0 u1, numG false i2 0] w fun e w' => e = .returned (.int .i64 (-C)) ∧ Below w.heap.size w w' := by
  have H1 := hide h1
  have H3 := hide h3
  clear h1 h3
  obtain ⟨hC1, hC2⟩ := hC
  unfold numG
  go_enter Tryz.func42, Tryz.ntmps42
  go_wp2_with fail
  refine (H1.out _).mono ?_
  rintro e w' ⟨rfl, rfl⟩
  go_wp2_with fail
  refine (H3.out _).mono ?_
  rintro e w3 ⟨rfl, hb3⟩
  go_wp2
  all_goals go_ret
  all_goals exact ⟨rfl, below_ab hb3⟩

set_option maxHeartbeats 1600000 in
set_option maxRecDepth 100000 in
theorem sc_if (i1 u2 C : Int) (w : World) (h2 : ∀ w, Calls Tryz.prog 46 #[.int .u64 u2] w fun e w' => e = .returned (.bool false) ∧ w' = w)
    (h3 : ∀ w, Calls Tryz.prog 79 #[.int .i64 i1, .int .u64 u2] w fun e w' => e = .returned (.int .i64 C) ∧ Below w.heap.size w w') :
    Calls Tryz.prog 42 #[numG false i1 0, numG true 0 u2] w fun e w' => e = .returned (.int .i64 C) ∧ Below w.heap.size w w' := by
  have H2 := hide h2
  have H3 := hide h3
  clear h2 h3
  unfold numG
  go_enter Tryz.func42, Tryz.ntmps42
  go_wp2_with fail
  refine (H2.out _).mono ?_
  rintro e w' ⟨rfl, rfl⟩
  go_wp2_with fail
  refine (H3.out _).mono ?_
  rintro e w3 ⟨rfl, hb3⟩
  go_wp2
  all_goals go_ret
  all_goals exact ⟨rfl, below_ab hb3⟩

set_option maxHeartbeats 1600000 in
set_option maxRecDepth 100000 in
theorem sc_ii (i1 i2 : Int) (w : World) :
    Calls Tryz.prog 42 #[numG false i1 0, numG false i2 0] w fun e w' => e = .returned (.int .i64 (ci i1 i2)) ∧ Below w.heap.size w w' := by
  unfold numG
  rcases Int.lt_trichotomy i1 i2 with h | h | h
  · rw [ci_lt h]
    go_enter Tryz.func42, Tryz.ntmps42
    go_wp2
    all_goals go_ret
    all_goals exact ⟨rfl, ab_below _ _ _⟩
  · subst h
    rw [ci_eq rfl]
    go_enter Tryz.func42, Tryz.ntmps42
    go_wp2
    all_goals go_ret
    all_goals exact ⟨rfl, ab_below _ _ _⟩
  · rw [ci_gt h]
    have hn : ¬ i1 < i2 := by omega
    go_enter Tryz.func42, Tryz.ntmps42
    go_wp2
    all_goals go_ret
    all_goals exact ⟨rfl, ab_below _ _ _⟩

/-- An integer made a float. -/
theorem floatOf_int (i : Int) (w : World) :
    Calls Tryz.prog 22 #[numG false i 0] w fun e w' => e = .returned (.float .f64 (floatOfInt .f64 i)) ∧ Below w.heap.size w w' := by
  unfold numG
  go_enter Tryz.func22, Tryz.ntmps22
  go_wp2
  all_goals go_ret
  all_goals exact ⟨rfl, (Below.refl _ _).alloc (Nat.le_refl _) _⟩

theorem floatOf_self (i : Int) : FloatKind.f64.format.order (floatOfInt .f64 i) (floatOfInt .f64 i) = some .eq := by
  have : floatOfInt .f64 i = wordS (decide (i < 0)) (Ieee.double.nearest false i.natAbs 0) := nearest_sign _ _ _
  rw [this]
  exact order_selfS (nearest_le _ _)

end Go.Proofs.YtamdnnkdnhkghaaGreatDoor

namespace Go.Proofs.YtamdnnkdnhkghaaGreatDoor
open Go Go.RowKit
set_option linter.unusedVariables false

abbrev numC (f : Bool) (i u : Int) : Obj := .cells #[.bool f, .int .i64 i, .int .u64 u] 26

/-- How 'floatOf' ends. -/
def FOf (f : Bool) (i u : Int) (A : Nat) : Prop := ∀ w, Calls Tryz.prog 22 #[.agg #[.bool f, .int .i64 i, .int .u64 u]] w fun e w' => e = .returned (.float .f64 A) ∧ Below w.heap.size w w'

theorem isNaNF_any (A : Nat) (w : World) : Calls Tryz.prog 23 #[.float .f64 A] w fun e w' => e = .returned (.bool (FloatKind.f64.format.order A A != some .eq)) ∧ w' = w := by
  go_enter Tryz.func23, Tryz.ntmps23
  go_wp2
  all_goals go_ret
  all_goals exact ⟨rfl, rfl⟩

theorem mixedT : Tryz.prog.follows .mixedOrders = true := by kernel_rfl

set_option maxHeartbeats 1600000 in
set_option maxRecDepth 100000 in
theorem ic_nan1 (f1 f2 : Bool) (i1 u1 i2 u2 : Int) (A B : Nat) (w : World) (hx : FOf f1 i1 u1 A) (hy : FOf f2 i2 u2 B) (hA : FloatKind.f64.format.order A A = none) :
    Calls Tryz.prog 43 #[.agg #[.bool f1, .int .i64 i1, .int .u64 u1], .agg #[.bool f2, .int .i64 i2, .int .u64 u2]] w fun e w' => e = .returned (.int .i64 2) ∧ Below w.heap.size w w' := by
  have cX := hide (fun d os => Calls.regrown_of (w := ((w.alloc (numC f1 i1 u1)).alloc (numC f2 i2 u2))) (d := d) (os := os) (hx _))
  have cY := hide (fun d os => Calls.regrown_of (w := ((w.alloc (numC f1 i1 u1)).alloc (numC f2 i2 u2))) (d := d) (os := os) (hy _))
  clear hx hy
  go_enter Tryz.func43, Tryz.ntmps43
  go_wp2_with fail
  have k0 := fun d os => cell_regrown (w := ((w.alloc (numC f1 i1 u1)).alloc (numC f2 i2 u2))) (a := ⟨w.heap.size, 0, none⟩) (v := .bool f1) (by simp) d os
  have k1 := fun d os => cell_regrown (w := ((w.alloc (numC f1 i1 u1)).alloc (numC f2 i2 u2))) (a := ⟨w.heap.size, 1, none⟩) (v := .int .i64 i1) (by simp) d os
  have k2 := fun d os => cell_regrown (w := ((w.alloc (numC f1 i1 u1)).alloc (numC f2 i2 u2))) (a := ⟨w.heap.size, 2, none⟩) (v := .int .u64 u1) (by simp) d os
  have k3 := fun d os => cell_regrown (w := ((w.alloc (numC f1 i1 u1)).alloc (numC f2 i2 u2))) (a := ⟨w.heap.size + 1, 0, none⟩) (v := .bool f2) (by simp) d os
  have k4 := fun d os => cell_regrown (w := ((w.alloc (numC f1 i1 u1)).alloc (numC f2 i2 u2))) (a := ⟨w.heap.size + 1, 1, none⟩) (v := .int .i64 i2) (by simp) d os
  have k5 := fun d os => cell_regrown (w := ((w.alloc (numC f1 i1 u1)).alloc (numC f2 i2 u2))) (a := ⟨w.heap.size + 1, 2, none⟩) (v := .int .u64 u2) (by simp) d os
  refine wp_region_quiet_below mixedT (by kernel_rfl) ?_
  iterate 2 (quiet_step (exact cX.out _ _))
  iterate 4 (quiet_step (exact cY.out _ _))
  refine wpQuiet_nil ?_
  rintro w2 ⟨⟨dq, osq⟩, hw2⟩
  have hb2 : Below ((w.alloc (numC f1 i1 u1)).alloc (numC f2 i2 u2)).heap.size ((w.alloc (numC f1 i1 u1)).alloc (numC f2 i2 u2)) w2 := by rw [hw2]; exact below_regrown _ _ _
  clear hw2 k0 k1 k2 k3 k4 k5
  obtain ⟨hc, hf⟩ := bcell hb2
  have HB2 := hide hb2
  clear hb2
  go_wp2
  all_goals go_ret
  all_goals exact ⟨rfl, below_ab HB2.out⟩

set_option maxHeartbeats 1600000 in
set_option maxRecDepth 100000 in
theorem ic_nan2 (f1 f2 : Bool) (i1 u1 i2 u2 : Int) (A B : Nat) (w : World) (hx : FOf f1 i1 u1 A) (hy : FOf f2 i2 u2 B) (hA : FloatKind.f64.format.order A A = some .eq) (hB : FloatKind.f64.format.order B B = none) :
    Calls Tryz.prog 43 #[.agg #[.bool f1, .int .i64 i1, .int .u64 u1], .agg #[.bool f2, .int .i64 i2, .int .u64 u2]] w fun e w' => e = .returned (.int .i64 2) ∧ Below w.heap.size w w' := by
  have cX := hide (fun d os => Calls.regrown_of (w := ((w.alloc (numC f1 i1 u1)).alloc (numC f2 i2 u2))) (d := d) (os := os) (hx _))
  have cY := hide (fun d os => Calls.regrown_of (w := ((w.alloc (numC f1 i1 u1)).alloc (numC f2 i2 u2))) (d := d) (os := os) (hy _))
  clear hx hy
  go_enter Tryz.func43, Tryz.ntmps43
  go_wp2_with fail
  have k0 := fun d os => cell_regrown (w := ((w.alloc (numC f1 i1 u1)).alloc (numC f2 i2 u2))) (a := ⟨w.heap.size, 0, none⟩) (v := .bool f1) (by simp) d os
  have k1 := fun d os => cell_regrown (w := ((w.alloc (numC f1 i1 u1)).alloc (numC f2 i2 u2))) (a := ⟨w.heap.size, 1, none⟩) (v := .int .i64 i1) (by simp) d os
  have k2 := fun d os => cell_regrown (w := ((w.alloc (numC f1 i1 u1)).alloc (numC f2 i2 u2))) (a := ⟨w.heap.size, 2, none⟩) (v := .int .u64 u1) (by simp) d os
  have k3 := fun d os => cell_regrown (w := ((w.alloc (numC f1 i1 u1)).alloc (numC f2 i2 u2))) (a := ⟨w.heap.size + 1, 0, none⟩) (v := .bool f2) (by simp) d os
  have k4 := fun d os => cell_regrown (w := ((w.alloc (numC f1 i1 u1)).alloc (numC f2 i2 u2))) (a := ⟨w.heap.size + 1, 1, none⟩) (v := .int .i64 i2) (by simp) d os
  have k5 := fun d os => cell_regrown (w := ((w.alloc (numC f1 i1 u1)).alloc (numC f2 i2 u2))) (a := ⟨w.heap.size + 1, 2, none⟩) (v := .int .u64 u2) (by simp) d os
  refine wp_region_quiet_below mixedT (by kernel_rfl) ?_
  iterate 2 (quiet_step (exact cX.out _ _))
  iterate 4 (quiet_step (exact cY.out _ _))
  refine wpQuiet_nil ?_
  rintro w2 ⟨⟨dq, osq⟩, hw2⟩
  have hb2 : Below ((w.alloc (numC f1 i1 u1)).alloc (numC f2 i2 u2)).heap.size ((w.alloc (numC f1 i1 u1)).alloc (numC f2 i2 u2)) w2 := by rw [hw2]; exact below_regrown _ _ _
  clear hw2 k0 k1 k2 k3 k4 k5
  obtain ⟨hc, hf⟩ := bcell hb2
  have HB2 := hide hb2
  clear hb2
  go_wp2
  all_goals go_ret
  all_goals exact ⟨rfl, below_ab HB2.out⟩

set_option maxHeartbeats 1600000 in
set_option maxRecDepth 100000 in
theorem ic_ff (u1 u2 C : Int) (A B : Nat) (w : World) (hx : FOf true 0 u1 A) (hy : FOf true 0 u2 B) (hA : FloatKind.f64.format.order A A = some .eq) (hB : FloatKind.f64.format.order B B = some .eq)
    (h3 : ∀ w, Calls Tryz.prog 80 #[.float .f64 A, .float .f64 B] w fun e w' => e = .returned (.int .i64 C) ∧ w' = w) :
    Calls Tryz.prog 43 #[.agg #[.bool true, .int .i64 0, .int .u64 u1], .agg #[.bool true, .int .i64 0, .int .u64 u2]] w fun e w' => e = .returned (.int .i64 C) ∧ Below w.heap.size w w' := by
  have cX := hide (fun d os => Calls.regrown_of (w := ((w.alloc (numC true 0 u1)).alloc (numC true 0 u2))) (d := d) (os := os) (hx _))
  have cY := hide (fun d os => Calls.regrown_of (w := ((w.alloc (numC true 0 u1)).alloc (numC true 0 u2))) (d := d) (os := os) (hy _))
  clear hx hy
  have H3 := hide h3
  have nA : (FloatKind.f64.format.order A A != some Ordering.eq) = false := by rw [hA]; rfl
  have nB : (FloatKind.f64.format.order B B != some Ordering.eq) = false := by rw [hB]; rfl
  clear h3 hA hB
  go_enter Tryz.func43, Tryz.ntmps43
  go_wp2_with fail
  have k0 := fun d os => cell_regrown (w := ((w.alloc (numC true 0 u1)).alloc (numC true 0 u2))) (a := ⟨w.heap.size, 0, none⟩) (v := .bool true) (by simp) d os
  have k1 := fun d os => cell_regrown (w := ((w.alloc (numC true 0 u1)).alloc (numC true 0 u2))) (a := ⟨w.heap.size, 1, none⟩) (v := .int .i64 0) (by simp) d os
  have k2 := fun d os => cell_regrown (w := ((w.alloc (numC true 0 u1)).alloc (numC true 0 u2))) (a := ⟨w.heap.size, 2, none⟩) (v := .int .u64 u1) (by simp) d os
  have k3 := fun d os => cell_regrown (w := ((w.alloc (numC true 0 u1)).alloc (numC true 0 u2))) (a := ⟨w.heap.size + 1, 0, none⟩) (v := .bool true) (by simp) d os
  have k4 := fun d os => cell_regrown (w := ((w.alloc (numC true 0 u1)).alloc (numC true 0 u2))) (a := ⟨w.heap.size + 1, 1, none⟩) (v := .int .i64 0) (by simp) d os
  have k5 := fun d os => cell_regrown (w := ((w.alloc (numC true 0 u1)).alloc (numC true 0 u2))) (a := ⟨w.heap.size + 1, 2, none⟩) (v := .int .u64 u2) (by simp) d os
  refine wp_region_quiet_below mixedT (by kernel_rfl) ?_
  iterate 2 (quiet_step (exact cX.out _ _))
  iterate 4 (quiet_step (exact cY.out _ _))
  refine wpQuiet_nil ?_
  rintro w2 ⟨⟨dq, osq⟩, hw2⟩
  have hb2 : Below ((w.alloc (numC true 0 u1)).alloc (numC true 0 u2)).heap.size ((w.alloc (numC true 0 u1)).alloc (numC true 0 u2)) w2 := by rw [hw2]; exact below_regrown _ _ _
  clear hw2 k0 k1 k2 k3 k4 k5
  obtain ⟨hc, hf⟩ := bcell hb2
  have HB2 := hide hb2
  clear hb2
  go_wp2_with (first | (go_at_call 23; refine (isNaNF_any _ _).mono ?_; rintro e w' ⟨rfl, rfl⟩) | (go_at_call 80; refine (H3.out _).mono ?_; rintro e w' ⟨rfl, rfl⟩))
  all_goals go_ret
  all_goals exact ⟨rfl, below_ab HB2.out⟩

set_option maxHeartbeats 1600000 in
set_option maxRecDepth 100000 in
theorem ic_if (i1 u2 C : Int) (A B : Nat) (w : World) (hx : FOf false i1 0 A) (hy : FOf true 0 u2 B) (hA : FloatKind.f64.format.order A A = some .eq) (hB : FloatKind.f64.format.order B B = some .eq)
    (h3 : ∀ w, Calls Tryz.prog 81 #[.int .i64 i1, .float .f64 B] w fun e w' => e = .returned (.int .i64 C) ∧ w' = w) :
    Calls Tryz.prog 43 #[.agg #[.bool false, .int .i64 i1, .int .u64 0], .agg #[.bool true, .int .i64 0, .int .u64 u2]] w fun e w' => e = .returned (.int .i64 C) ∧ Below w.heap.size w w' := by
  have cX := hide (fun d os => Calls.regrown_of (w := ((w.alloc (numC false i1 0)).alloc (numC true 0 u2))) (d := d) (os := os) (hx _))
  have cY := hide (fun d os => Calls.regrown_of (w := ((w.alloc (numC false i1 0)).alloc (numC true 0 u2))) (d := d) (os := os) (hy _))
  clear hx hy
  have H3 := hide h3
  have nA : (FloatKind.f64.format.order A A != some Ordering.eq) = false := by rw [hA]; rfl
  have nB : (FloatKind.f64.format.order B B != some Ordering.eq) = false := by rw [hB]; rfl
  clear h3 hA hB
  go_enter Tryz.func43, Tryz.ntmps43
  go_wp2_with fail
  have k0 := fun d os => cell_regrown (w := ((w.alloc (numC false i1 0)).alloc (numC true 0 u2))) (a := ⟨w.heap.size, 0, none⟩) (v := .bool false) (by simp) d os
  have k1 := fun d os => cell_regrown (w := ((w.alloc (numC false i1 0)).alloc (numC true 0 u2))) (a := ⟨w.heap.size, 1, none⟩) (v := .int .i64 i1) (by simp) d os
  have k2 := fun d os => cell_regrown (w := ((w.alloc (numC false i1 0)).alloc (numC true 0 u2))) (a := ⟨w.heap.size, 2, none⟩) (v := .int .u64 0) (by simp) d os
  have k3 := fun d os => cell_regrown (w := ((w.alloc (numC false i1 0)).alloc (numC true 0 u2))) (a := ⟨w.heap.size + 1, 0, none⟩) (v := .bool true) (by simp) d os
  have k4 := fun d os => cell_regrown (w := ((w.alloc (numC false i1 0)).alloc (numC true 0 u2))) (a := ⟨w.heap.size + 1, 1, none⟩) (v := .int .i64 0) (by simp) d os
  have k5 := fun d os => cell_regrown (w := ((w.alloc (numC false i1 0)).alloc (numC true 0 u2))) (a := ⟨w.heap.size + 1, 2, none⟩) (v := .int .u64 u2) (by simp) d os
  refine wp_region_quiet_below mixedT (by kernel_rfl) ?_
  iterate 2 (quiet_step (exact cX.out _ _))
  iterate 4 (quiet_step (exact cY.out _ _))
  refine wpQuiet_nil ?_
  rintro w2 ⟨⟨dq, osq⟩, hw2⟩
  have hb2 : Below ((w.alloc (numC false i1 0)).alloc (numC true 0 u2)).heap.size ((w.alloc (numC false i1 0)).alloc (numC true 0 u2)) w2 := by rw [hw2]; exact below_regrown _ _ _
  clear hw2 k0 k1 k2 k3 k4 k5
  obtain ⟨hc, hf⟩ := bcell hb2
  have HB2 := hide hb2
  clear hb2
  go_wp2_with (first | (go_at_call 23; refine (isNaNF_any _ _).mono ?_; rintro e w' ⟨rfl, rfl⟩) | (go_at_call 81; refine (H3.out _).mono ?_; rintro e w' ⟨rfl, rfl⟩))
  all_goals go_ret
  all_goals exact ⟨rfl, below_ab HB2.out⟩

set_option maxHeartbeats 1600000 in
set_option maxRecDepth 100000 in
theorem ic_fi (u1 i2 C : Int) (A B : Nat) (w : World) (hx : FOf true 0 u1 A) (hy : FOf false i2 0 B) (hA : FloatKind.f64.format.order A A = some .eq) (hB : FloatKind.f64.format.order B B = some .eq) (hC1 : -1 ≤ C) (hC2 : C ≤ 1)
    (h3 : ∀ w, Calls Tryz.prog 81 #[.int .i64 i2, .float .f64 A] w fun e w' => e = .returned (.int .i64 C) ∧ w' = w) :
    Calls Tryz.prog 43 #[.agg #[.bool true, .int .i64 0, .int .u64 u1], .agg #[.bool false, .int .i64 i2, .int .u64 0]] w fun e w' => e = .returned (.int .i64 (-C)) ∧ Below w.heap.size w w' := by
  have cX := hide (fun d os => Calls.regrown_of (w := ((w.alloc (numC true 0 u1)).alloc (numC false i2 0))) (d := d) (os := os) (hx _))
  have cY := hide (fun d os => Calls.regrown_of (w := ((w.alloc (numC true 0 u1)).alloc (numC false i2 0))) (d := d) (os := os) (hy _))
  clear hx hy
  have H3 := hide h3
  have nA : (FloatKind.f64.format.order A A != some Ordering.eq) = false := by rw [hA]; rfl
  have nB : (FloatKind.f64.format.order B B != some Ordering.eq) = false := by rw [hB]; rfl
  clear h3 hA hB
  go_enter Tryz.func43, Tryz.ntmps43
  go_wp2_with fail
  have k0 := fun d os => cell_regrown (w := ((w.alloc (numC true 0 u1)).alloc (numC false i2 0))) (a := ⟨w.heap.size, 0, none⟩) (v := .bool true) (by simp) d os
  have k1 := fun d os => cell_regrown (w := ((w.alloc (numC true 0 u1)).alloc (numC false i2 0))) (a := ⟨w.heap.size, 1, none⟩) (v := .int .i64 0) (by simp) d os
  have k2 := fun d os => cell_regrown (w := ((w.alloc (numC true 0 u1)).alloc (numC false i2 0))) (a := ⟨w.heap.size, 2, none⟩) (v := .int .u64 u1) (by simp) d os
  have k3 := fun d os => cell_regrown (w := ((w.alloc (numC true 0 u1)).alloc (numC false i2 0))) (a := ⟨w.heap.size + 1, 0, none⟩) (v := .bool false) (by simp) d os
  have k4 := fun d os => cell_regrown (w := ((w.alloc (numC true 0 u1)).alloc (numC false i2 0))) (a := ⟨w.heap.size + 1, 1, none⟩) (v := .int .i64 i2) (by simp) d os
  have k5 := fun d os => cell_regrown (w := ((w.alloc (numC true 0 u1)).alloc (numC false i2 0))) (a := ⟨w.heap.size + 1, 2, none⟩) (v := .int .u64 0) (by simp) d os
  refine wp_region_quiet_below mixedT (by kernel_rfl) ?_
  iterate 2 (quiet_step (exact cX.out _ _))
  iterate 4 (quiet_step (exact cY.out _ _))
  refine wpQuiet_nil ?_
  rintro w2 ⟨⟨dq, osq⟩, hw2⟩
  have hb2 : Below ((w.alloc (numC true 0 u1)).alloc (numC false i2 0)).heap.size ((w.alloc (numC true 0 u1)).alloc (numC false i2 0)) w2 := by rw [hw2]; exact below_regrown _ _ _
  clear hw2 k0 k1 k2 k3 k4 k5
  obtain ⟨hc, hf⟩ := bcell hb2
  have HB2 := hide hb2
  clear hb2
  go_wp2_with (first | (go_at_call 23; refine (isNaNF_any _ _).mono ?_; rintro e w' ⟨rfl, rfl⟩) | (go_at_call 81; refine (H3.out _).mono ?_; rintro e w' ⟨rfl, rfl⟩))
  all_goals go_ret
  all_goals exact ⟨rfl, below_ab HB2.out⟩

set_option maxHeartbeats 1600000 in
set_option maxRecDepth 100000 in
theorem ic_ii (i1 i2 C : Int) (A B : Nat) (w : World) (hx : FOf false i1 0 A) (hy : FOf false i2 0 B) (hA : FloatKind.f64.format.order A A = some .eq) (hB : FloatKind.f64.format.order B B = some .eq)
    (h3 : ∀ w, Calls Tryz.prog 82 #[.int .i64 i1, .int .i64 i2] w fun e w' => e = .returned (.int .i64 C) ∧ w' = w) :
    Calls Tryz.prog 43 #[.agg #[.bool false, .int .i64 i1, .int .u64 0], .agg #[.bool false, .int .i64 i2, .int .u64 0]] w fun e w' => e = .returned (.int .i64 C) ∧ Below w.heap.size w w' := by
  have cX := hide (fun d os => Calls.regrown_of (w := ((w.alloc (numC false i1 0)).alloc (numC false i2 0))) (d := d) (os := os) (hx _))
  have cY := hide (fun d os => Calls.regrown_of (w := ((w.alloc (numC false i1 0)).alloc (numC false i2 0))) (d := d) (os := os) (hy _))
  clear hx hy
  have H3 := hide h3
  have nA : (FloatKind.f64.format.order A A != some Ordering.eq) = false := by rw [hA]; rfl
  have nB : (FloatKind.f64.format.order B B != some Ordering.eq) = false := by rw [hB]; rfl
  clear h3 hA hB
  go_enter Tryz.func43, Tryz.ntmps43
  go_wp2_with fail
  have k0 := fun d os => cell_regrown (w := ((w.alloc (numC false i1 0)).alloc (numC false i2 0))) (a := ⟨w.heap.size, 0, none⟩) (v := .bool false) (by simp) d os
  have k1 := fun d os => cell_regrown (w := ((w.alloc (numC false i1 0)).alloc (numC false i2 0))) (a := ⟨w.heap.size, 1, none⟩) (v := .int .i64 i1) (by simp) d os
  have k2 := fun d os => cell_regrown (w := ((w.alloc (numC false i1 0)).alloc (numC false i2 0))) (a := ⟨w.heap.size, 2, none⟩) (v := .int .u64 0) (by simp) d os
  have k3 := fun d os => cell_regrown (w := ((w.alloc (numC false i1 0)).alloc (numC false i2 0))) (a := ⟨w.heap.size + 1, 0, none⟩) (v := .bool false) (by simp) d os
  have k4 := fun d os => cell_regrown (w := ((w.alloc (numC false i1 0)).alloc (numC false i2 0))) (a := ⟨w.heap.size + 1, 1, none⟩) (v := .int .i64 i2) (by simp) d os
  have k5 := fun d os => cell_regrown (w := ((w.alloc (numC false i1 0)).alloc (numC false i2 0))) (a := ⟨w.heap.size + 1, 2, none⟩) (v := .int .u64 0) (by simp) d os
  refine wp_region_quiet_below mixedT (by kernel_rfl) ?_
  iterate 2 (quiet_step (exact cX.out _ _))
  iterate 4 (quiet_step (exact cY.out _ _))
  refine wpQuiet_nil ?_
  rintro w2 ⟨⟨dq, osq⟩, hw2⟩
  have hb2 : Below ((w.alloc (numC false i1 0)).alloc (numC false i2 0)).heap.size ((w.alloc (numC false i1 0)).alloc (numC false i2 0)) w2 := by rw [hw2]; exact below_regrown _ _ _
  clear hw2 k0 k1 k2 k3 k4 k5
  obtain ⟨hc, hf⟩ := bcell hb2
  have HB2 := hide hb2
  clear hb2
  go_wp2_with (first | (go_at_call 23; refine (isNaNF_any _ _).mono ?_; rintro e w' ⟨rfl, rfl⟩) | (go_at_call 82; refine (H3.out _).mono ?_; rintro e w' ⟨rfl, rfl⟩))
  all_goals go_ret
  all_goals exact ⟨rfl, below_ab HB2.out⟩

end Go.Proofs.YtamdnnkdnhkghaaGreatDoor

namespace Go.Proofs.YtamdnnkdnhkghaaGreatDoor
open Go Go.RowKit
set_option linter.unusedVariables false

theorem mixR_range (i : Int) (s : Bool) (r : Nat) : -1 ≤ mixR i s r ∧ mixR i s r ≤ 1 := by
  have c : ∀ a b : Int, -1 ≤ ci a b ∧ ci a b ≤ 1 := fun a b => by unfold ci; split <;> (try split) <;> omega
  unfold mixR
  split
  · unfold mixF
    split
    · exact c _ _
    · exact c _ _
  · split <;> omega

theorem order_nan {s : Bool} {r : Nat} (h1 : infW < r) (h2 : r < 9223372036854775808) : FloatKind.f64.format.order (wordS s r) (wordS s r) = none := by
  show Ieee.double.order _ _ = _
  unfold Ieee.Format.order
  rw [read_nanS h1 h2]
  rfl

/-- A number's two sides. -/
structure CmpSide (f : Bool) (i u : Int) (A : Nat) (nan : Bool) : Prop where
  fo : FOf f i u A
  or : FloatKind.f64.format.order A A = if nan then none else some .eq
  sp : f = true → ∀ w, Calls Tryz.prog 46 #[.int .u64 u] w fun e w' => e = .returned (.bool nan) ∧ w' = w

theorem side_int (i : Int) : CmpSide false i 0 (floatOfInt .f64 i) false :=
  ⟨fun w => floatOf_int i w, floatOf_self i, fun h => by cases h⟩

theorem side_flt (s : Bool) (r : Nat) (hr : r < 9223372036854775808) : CmpSide true 0 (wordS s r : Nat) (wordS s r) (decide (infW < r)) := by
  refine ⟨fun w => floatOf_flt (wordS s r) w, ?_, fun _ => (asCalls (s := s) hr).c1⟩
  by_cases h : infW < r
  · rw [decide_eq_true h, if_pos rfl]
    exact order_nan h hr
  · rw [decide_eq_false h, if_neg (by decide)]
    exact order_selfS (by omega)

/-- Both sides of comparing two numbers. -/
theorem cmp_both {v1 v2 : Value} (h1 : IsNum v1) (h2 : IsNum v2) : ∃ (f1 : Bool) (i1 u1 : Int) (f2 : Bool) (i2 u2 : Int) (C : Int), v1 = numG f1 i1 u1 ∧ v2 = numG f2 i2 u2 ∧
    (∀ w, Calls Tryz.prog 42 #[numG f1 i1 u1, numG f2 i2 u2] w fun e w' => e = .returned (.int .i64 C) ∧ Below w.heap.size w w') ∧
    (∀ w, Calls Tryz.prog 43 #[numG f1 i1 u1, numG f2 i2 u2] w fun e w' => e = .returned (.int .i64 C) ∧ Below w.heap.size w w') := by
  rcases h1 with ⟨i, rfl, a0, a1⟩ | ⟨s, r, rfl, hr⟩
  · have S1 := side_int i
    rcases h2 with ⟨j, rfl, b0, b1⟩ | ⟨t, q, rfl, hq⟩
    · have S2 := side_int j
      exact ⟨false, i, 0, false, j, 0, ci i j, rfl, rfl, fun w => sc_ii i j w, fun w => ic_ii i j _ _ _ w S1.fo S2.fo S1.or S2.or (fun w => cmpInt_any i j w)⟩
    · have S2 := side_flt t q hq
      by_cases hn : infW < q
      · rw [decide_eq_true hn] at S2
        exact ⟨false, i, 0, true, 0, (wordS t q : Nat), 2, rfl, rfl, fun w => sc_nan2 false i 0 _ w (fun h => by cases h) (S2.sp rfl), fun w => ic_nan2 false true i 0 0 _ _ _ w S1.fo S2.fo S1.or S2.or⟩
      · rw [decide_eq_false hn] at S2
        exact ⟨false, i, 0, true, 0, (wordS t q : Nat), mixR i t q, rfl, rfl, fun w => sc_if i _ _ w (S2.sp rfl) (fun w => below_any i t q w (by omega)), fun w => ic_if i _ _ _ _ w S1.fo S2.fo S1.or S2.or (fun w => mixed_any i t q w (by omega))⟩
  · have S1 := side_flt s r hr
    by_cases hn : infW < r
    · rw [decide_eq_true hn] at S1
      rcases h2 with ⟨j, rfl, b0, b1⟩ | ⟨t, q, rfl, hq⟩
      · have S2 := side_int j
        exact ⟨true, 0, (wordS s r : Nat), false, j, 0, 2, rfl, rfl, fun w => sc_nan1 _ false j 0 w (S1.sp rfl), fun w => ic_nan1 true false 0 _ j 0 _ _ w S1.fo S2.fo S1.or⟩
      · have S2 := side_flt t q hq
        exact ⟨true, 0, (wordS s r : Nat), true, 0, (wordS t q : Nat), 2, rfl, rfl, fun w => sc_nan1 _ true 0 _ w (S1.sp rfl), fun w => ic_nan1 true true 0 _ 0 _ _ _ w S1.fo S2.fo S1.or⟩
    · rw [decide_eq_false hn] at S1
      rcases h2 with ⟨j, rfl, b0, b1⟩ | ⟨t, q, rfl, hq⟩
      · have S2 := side_int j
        have hm := mixR_range j s r
        exact ⟨true, 0, (wordS s r : Nat), false, j, 0, -mixR j s r, rfl, rfl, fun w => sc_fi _ j _ w (S1.sp rfl) hm (fun w => below_any j s r w (by omega)), fun w => ic_fi _ j _ _ _ w S1.fo S2.fo S1.or S2.or hm.1 hm.2 (fun w => mixed_any j s r w (by omega))⟩
      · have S2 := side_flt t q hq
        by_cases hn2 : infW < q
        · rw [decide_eq_true hn2] at S2
          exact ⟨true, 0, (wordS s r : Nat), true, 0, (wordS t q : Nat), 2, rfl, rfl, fun w => sc_nan2 true 0 _ _ w (fun _ => S1.sp rfl) (S2.sp rfl), fun w => ic_nan2 true true 0 _ 0 _ _ _ w S1.fo S2.fo S1.or S2.or⟩
        · rw [decide_eq_false hn2] at S2
          exact ⟨true, 0, (wordS s r : Nat), true, 0, (wordS t q : Nat), ci (sgZ s (wV r)) (sgZ t (wV q)), rfl, rfl, fun w => sc_ff _ _ _ w (S1.sp rfl) (S2.sp rfl) (fun w => cmpWords_any hr hq w), fun w => ic_ff _ _ _ _ _ w S1.fo S2.fo S1.or S2.or (fun w => cmpFloat_any (by omega) (by omega) w)⟩

abbrev pairV (c k : Int) : Value := .tuple #[.int .i64 c, .int .i64 k]

set_option maxHeartbeats 1600000 in
set_option maxRecDepth 100000 in
theorem sco_no (t1 t2 : ByteArray) (f1 : Bool) (i1 u1 : Int) (k1 : Bool) (f2 : Bool) (i2 u2 : Int) (k2 : Bool) (w : World) (h1 : ∀ w, Calls Tryz.prog 36 #[.string t1] w fun e w' => e = .returned (resG f1 i1 u1 k1) ∧ Below w.heap.size w w')
    (h2 : ∀ w, Calls Tryz.prog 36 #[.string t2] w fun e w' => e = .returned (resG f2 i2 u2 k2) ∧ Below w.heap.size w w') (hk : (k1 && k2) = false) :
    Calls Tryz.prog 16 #[.string t1, .string t2] w fun e w' => e = .returned (pairV 0 1) ∧ Below w.heap.size w w' := by
  have H1 := hide h1
  have H2 := hide h2
  clear h1 h2
  unfold resG numG at H1 H2
  cases k1 <;> cases k2
  case true.true => cases hk
  all_goals (
    go_enter Tryz.func16, Tryz.ntmps16
    go_wp2_with fail
    refine (H1.out _).mono ?_
    rintro e w1 ⟨rfl, hb1⟩
    have HB1 := hide (hb1.alloc hb1.size (.cells #[.bool f1, .int .i64 i1, .int .u64 u1] 26))
    clear hb1
    go_wp2_with fail
    refine (H2.out _).mono ?_
    rintro e w2 ⟨rfl, hb2⟩
    have hb3 := HB1.out.trans (hb2.mono HB1.out.size)
    have HB3 := hide (hb3.alloc hb3.size (.cells #[.bool f2, .int .i64 i2, .int .u64 u2] 26))
    clear hb2 hb3
    go_wp2)
  all_goals go_ret2
  all_goals exact ⟨rfl, HB3.out⟩

set_option maxHeartbeats 1600000 in
set_option maxRecDepth 100000 in
theorem sco_yes (t1 t2 : ByteArray) (f1 : Bool) (i1 u1 : Int) (f2 : Bool) (i2 u2 C : Int) (w : World) (h1 : ∀ w, Calls Tryz.prog 36 #[.string t1] w fun e w' => e = .returned (resG f1 i1 u1 true) ∧ Below w.heap.size w w')
    (h2 : ∀ w, Calls Tryz.prog 36 #[.string t2] w fun e w' => e = .returned (resG f2 i2 u2 true) ∧ Below w.heap.size w w')
    (h3 : ∀ w, Calls Tryz.prog 42 #[numG f1 i1 u1, numG f2 i2 u2] w fun e w' => e = .returned (.int .i64 C) ∧ Below w.heap.size w w') :
    Calls Tryz.prog 16 #[.string t1, .string t2] w fun e w' => e = .returned (pairV C 0) ∧ Below w.heap.size w w' := by
  have H1 := hide h1
  have H2 := hide h2
  have H3 := hide h3
  clear h1 h2 h3
  unfold resG numG at H1 H2
  unfold numG at H3
  go_enter Tryz.func16, Tryz.ntmps16
  go_wp2_with fail
  refine (H1.out _).mono ?_
  rintro e w1 ⟨rfl, hb1⟩
  have hb1' := hb1.alloc hb1.size (.cells #[.bool f1, .int .i64 i1, .int .u64 u1] 26)
  have HB1 := hide hb1'
  have hz1 : w.heap.size ≤ w1.heap.size := hb1.size
  clear hb1 hb1'
  go_wp2_with fail
  refine (H2.out _).mono ?_
  rintro e w2 ⟨rfl, hb2⟩
  have hz2 : w1.heap.size + 1 ≤ w2.heap.size := by have := hb2.size; simp at this; omega
  have hb2' := hb2.alloc hb2.size (.cells #[.bool f2, .int .i64 i2, .int .u64 u2] 26)
  obtain ⟨hc, hf⟩ := bcell hb2'
  have hb3 := HB1.out.trans (hb2'.mono HB1.out.size)
  have HB3 := hide hb3
  have hz3 : ¬ (w1.heap.size = w2.heap.size) := by omega
  clear hb2 hb2' hb3
  go_wp2_with fail
  refine (H3.out _).mono ?_
  rintro e w3 ⟨rfl, hb4⟩
  go_wp2
  all_goals go_ret2
  all_goals exact ⟨rfl, HB3.out.trans (hb4.mono HB3.out.size)⟩

end Go.Proofs.YtamdnnkdnhkghaaGreatDoor

namespace Go.Proofs.YtamdnnkdnhkghaaGreatDoor
open Go Go.RowKit
set_option linter.unusedVariables false

set_option maxHeartbeats 1600000 in
set_option maxRecDepth 100000 in
theorem ico_no1 (t1 t2 : ByteArray) (a1 : Addr) (w : World) (hO : ∀ w', Below w.heap.size w w' → Calls Tryz.prog 39 #[.string t1] w' fun e w'' => e = .returned (rdV (senV a1) none) ∧ Below w'.heap.size w' w'')
    (hC : ∀ w', Below w.heap.size w w' → Calls Tryz.prog 40 #[senV a1] w' fun e w'' => e = .returned (.int .i64 1) ∧ Below w'.heap.size w' w'') :
    Calls Tryz.prog 17 #[.string t1, .string t2] w fun e w' => e = .returned (pairV 0 1) ∧ Below w.heap.size w w' := by
  have HO := hide hO
  have HC := hide hC
  clear hO hC
  unfold rdV numG senV at HO
  unfold senV at HC
  go_enter Tryz.func17, Tryz.ntmps17
  go_wp2_with fail
  refine (HO.out _ (Below.refl _ _)).mono ?_
  rintro e w1 ⟨rfl, hb1⟩
  have HB2 := hide (hb1.alloc hb1.size (.cells #[.bool false, .int .i64 0, .int .u64 0] 26))
  clear hb1
  go_wp2_with fail
  refine (HC.out _ HB2.out).mono ?_
  rintro e w2 ⟨rfl, hb3⟩
  have HB4 := hide (HB2.out.trans (hb3.mono HB2.out.size))
  clear hb3
  go_wp2
  all_goals go_ret2
  all_goals exact ⟨rfl, HB4.out⟩

set_option maxHeartbeats 1600000 in
set_option maxRecDepth 100000 in
theorem ico_no2 (t1 t2 : ByteArray) (f1 : Bool) (i1 u1 : Int) (a1 : Addr) (w : World) (hP : ∀ w', Below w.heap.size w w' → Calls Tryz.prog 39 #[.string t1] w' fun e w'' => e = .returned (rdV (senV a1) (some (numG f1 i1 u1))) ∧ Below w'.heap.size w' w'')
    (hO : ∀ w', Below w.heap.size w w' → Calls Tryz.prog 39 #[.string t2] w' fun e w'' => e = .returned (rdV (senV a1) none) ∧ Below w'.heap.size w' w'')
    (hC : ∀ w', Below w.heap.size w w' → Calls Tryz.prog 40 #[senV a1] w' fun e w'' => e = .returned (.int .i64 1) ∧ Below w'.heap.size w' w'') :
    Calls Tryz.prog 17 #[.string t1, .string t2] w fun e w' => e = .returned (pairV 0 1) ∧ Below w.heap.size w w' := by
  have HP := hide hP
  have HO := hide hO
  have HC := hide hC
  clear hP hO hC
  unfold rdV numG senV at HO
  unfold rdV numG at HP
  unfold senV at HC
  go_enter Tryz.func17, Tryz.ntmps17
  go_wp2_with fail
  refine (HP.out _ (Below.refl _ _)).mono ?_
  rintro e w1 ⟨rfl, hb1⟩
  have HB2 := hide (hb1.alloc hb1.size (.cells #[.bool f1, .int .i64 i1, .int .u64 u1] 26))
  clear hb1
  go_wp2_with fail
  refine (HO.out _ HB2.out).mono ?_
  rintro e w2 ⟨rfl, hb2⟩
  have hb3 := HB2.out.trans (hb2.mono HB2.out.size)
  have HB3 := hide (hb3.alloc hb3.size (.cells #[.bool false, .int .i64 0, .int .u64 0] 26))
  clear hb2 hb3
  go_wp2_with fail
  refine (HC.out _ HB3.out).mono ?_
  rintro e w3 ⟨rfl, hb4⟩
  have HB4 := hide (HB3.out.trans (hb4.mono HB3.out.size))
  clear hb4
  go_wp2
  all_goals go_ret2
  all_goals exact ⟨rfl, HB4.out⟩

set_option maxHeartbeats 1600000 in
set_option maxRecDepth 100000 in
theorem ico_yes (t1 t2 : ByteArray) (f1 : Bool) (i1 u1 : Int) (f2 : Bool) (i2 u2 C : Int) (ev : Value) (w : World) (hP : ∀ w', Below w.heap.size w w' → Calls Tryz.prog 39 #[.string t1] w' fun e w'' => e = .returned (rdV ev (some (numG f1 i1 u1))) ∧ Below w'.heap.size w' w'')
    (hO : ∀ w', Below w.heap.size w w' → Calls Tryz.prog 39 #[.string t2] w' fun e w'' => e = .returned (rdV ev (some (numG f2 i2 u2))) ∧ Below w'.heap.size w' w'')
    (h3 : ∀ w, Calls Tryz.prog 43 #[numG f1 i1 u1, numG f2 i2 u2] w fun e w' => e = .returned (.int .i64 C) ∧ Below w.heap.size w w') :
    Calls Tryz.prog 17 #[.string t1, .string t2] w fun e w' => e = .returned (pairV C 0) ∧ Below w.heap.size w w' := by
  have HP := hide hP
  have HO := hide hO
  have H3 := hide h3
  clear hP hO h3
  unfold rdV numG at HO HP
  unfold numG at H3
  go_enter Tryz.func17, Tryz.ntmps17
  go_wp2_with fail
  refine (HP.out _ (Below.refl _ _)).mono ?_
  rintro e w1 ⟨rfl, hb1⟩
  have HB2 := hide (hb1.alloc hb1.size (.cells #[.bool f1, .int .i64 i1, .int .u64 u1] 26))
  have hz1 : w.heap.size ≤ w1.heap.size := hb1.size
  clear hb1
  go_wp2_with fail
  refine (HO.out _ HB2.out).mono ?_
  rintro e w2 ⟨rfl, hb2⟩
  have hz2 : w1.heap.size + 1 ≤ w2.heap.size := by have := hb2.size; simp at this; omega
  have hb2' := hb2.alloc hb2.size (.cells #[.bool f2, .int .i64 i2, .int .u64 u2] 26)
  obtain ⟨hc, hf⟩ := bcell hb2'
  have hb3 := HB2.out.trans (hb2'.mono HB2.out.size)
  have HB3 := hide hb3
  have hz3 : ¬ (w1.heap.size = w2.heap.size) := by omega
  clear hb2 hb2' hb3
  go_wp2_with fail
  refine (H3.out _).mono ?_
  rintro e w3 ⟨rfl, hb4⟩
  go_wp2
  all_goals go_ret2
  all_goals exact ⟨rfl, HB3.out.trans (hb4.mono HB3.out.size)⟩

theorem opV_form (o : Option Value) (h : ∀ v, o = some v → ∃ f i u, v = numG f i u) : ∃ f i u k, opV o = resG f i u k ∧ (k = true ↔ o.isSome = true) := by
  cases o with
  | none => exact ⟨_, _, _, _, rfl, by simp⟩
  | some v =>
    obtain ⟨f, i, u, rfl⟩ := h v rfl
    exact ⟨_, _, _, _, rfl, by simp⟩

theorem isNum_form {v : Value} (h : IsNum v) : ∃ f i u, v = numG f i u := by
  rcases h with ⟨i, rfl, _⟩ | ⟨s, r, rfl, _⟩
  · exact ⟨_, _, _, rfl⟩
  · exact ⟨_, _, _, rfl⟩

/-- Both sides of 'Compare' at two texts. -/
theorem co_both (t1 t2 : ByteArray) (hs1 : t1.size ≤ 1048576) (hs2 : t2.size ≤ 1048576) : ∃ (c k : Int), (∀ w, Calls Tryz.prog 16 #[.string t1, .string t2] w fun e w' => e = .returned (pairV c k) ∧ Below w.heap.size w w') ∧
    ∀ w a1 a2 a3 a4 a5, Full w a1 a2 a3 a4 a5 → Calls Tryz.prog 17 #[.string t1, .string t2] w fun e w' => e = .returned (pairV c k) ∧ Below w.heap.size w w' := by
  obtain ⟨o1, hO1, hS1⟩ := operand_any t1 hs1
  obtain ⟨o2, hO2, hS2⟩ := operand_any t2 hs2
  cases o1 with
  | none =>
    obtain ⟨f2, i2, u2, k2, e2, _⟩ := opV_form o2 (fun v hv => isNum_form (OpR.num (hv ▸ hO2)))
    rw [e2] at hS2
    exact ⟨0, 1, fun w => sco_no t1 t2 false 0 0 false f2 i2 u2 k2 w hS1 hS2 rfl,
      fun w a1 a2 a3 a4 a5 hF => ico_no1 t1 t2 a1 w (fun w' hb => read_any hO1 hs1 w' _ _ (hF.below hb).ready) (fun w' hb => code_text a1 w' (hF.below hb).sents.g1)⟩
  | some v1 =>
    cases o2 with
    | none =>
      obtain ⟨f1, i1, u1, rfl⟩ := isNum_form hO1.num
      exact ⟨0, 1, fun w => sco_no t1 t2 f1 i1 u1 true false 0 0 false w hS1 hS2 rfl,
        fun w a1 a2 a3 a4 a5 hF => ico_no2 t1 t2 f1 i1 u1 a1 w (fun w' hb => read_any hO1 hs1 w' _ _ (hF.below hb).ready) (fun w' hb => read_any hO2 hs2 w' _ _ (hF.below hb).ready) (fun w' hb => code_text a1 w' (hF.below hb).sents.g1)⟩
    | some v2 =>
      obtain ⟨f1, i1, u1, f2, i2, u2, C, rfl, rfl, hA, hB⟩ := cmp_both hO1.num hO2.num
      exact ⟨C, 0, fun w => sco_yes t1 t2 f1 i1 u1 f2 i2 u2 C w hS1 hS2 hA,
        fun w a1 a2 a3 a4 a5 hF => ico_yes t1 t2 f1 i1 u1 f2 i2 u2 C (senV a1) w (fun w' hb => read_any hO1 hs1 w' _ _ (hF.below hb).ready) (fun w' hb => read_any hO2 hs2 w' _ _ (hF.below hb).ready) hB⟩

set_option maxHeartbeats 1600000 in
set_option maxRecDepth 100000 in
theorem clong1 (t1 t2 : ByteArray) (w : World) (h : 1048576 < t1.size) (hm : t1.size ≤ 9223372036854775807) :
    Calls Tryz.prog 6 #[.string t1, .string t2] w fun e w' => e = .returned (.bool true) ∧ Below w.heap.size w w' := by
  go_enter Tryz.func6, Tryz.ntmps6
  go_wp2
  all_goals go_ret
  all_goals exact ⟨rfl, Below.refl _ _⟩

set_option maxHeartbeats 1600000 in
set_option maxRecDepth 100000 in
theorem clong2 (t1 t2 : ByteArray) (w : World) (h1 : t1.size ≤ 1048576) (h : 1048576 < t2.size) (hm : t2.size ≤ 9223372036854775807) :
    Calls Tryz.prog 6 #[.string t1, .string t2] w fun e w' => e = .returned (.bool true) ∧ Below w.heap.size w w' := by
  go_enter Tryz.func6, Tryz.ntmps6
  go_wp2
  all_goals go_ret
  all_goals exact ⟨rfl, Below.refl _ _⟩

set_option maxHeartbeats 1600000 in
set_option maxRecDepth 100000 in
theorem cshort (t1 t2 : ByteArray) (c k : Int) (w : World) (hs1 : t1.size ≤ 1048576) (hs2 : t2.size ≤ 1048576)
    (h1 : Calls Tryz.prog 16 #[.string t1, .string t2] w fun e w' => e = .returned (pairV c k) ∧ Below w.heap.size w w')
    (h2 : ∀ w', Below w.heap.size w w' → Calls Tryz.prog 17 #[.string t1, .string t2] w' fun e w'' => e = .returned (pairV c k) ∧ Below w'.heap.size w' w'') :
    Calls Tryz.prog 6 #[.string t1, .string t2] w fun e w' => e = .returned (.bool true) ∧ Below w.heap.size w w' := by
  have H1 := hide h1
  have H2 := hide h2
  clear h1 h2
  unfold pairV at H1 H2
  go_enter Tryz.func6, Tryz.ntmps6
  go_wp2_with fail
  refine H1.out.mono ?_
  rintro e w1 ⟨rfl, hb1⟩
  have HB1 := hide hb1
  clear hb1
  go_wp2_with fail
  refine (H2.out _ HB1.out).mono ?_
  rintro e w2 ⟨rfl, hb2⟩
  have HB3 := hide (HB1.out.trans (hb2.mono HB1.out.size))
  clear hb2
  go_wp2
  all_goals go_ret
  all_goals exact ⟨rfl, HB3.out⟩

/-- The law at any two texts. -/
theorem claw_any (t1 t2 : ByteArray) (w : World) (a1 a2 a3 a4 a5 : Addr) (hF : Full w a1 a2 a3 a4 a5) (hm1 : t1.size ≤ 9223372036854775807) (hm2 : t2.size ≤ 9223372036854775807) :
    Calls Tryz.prog 6 #[.string t1, .string t2] w fun e w' => e = .returned (.bool true) ∧ Below w.heap.size w w' := by
  by_cases hl : t1.size ≤ 1048576
  · by_cases hl2 : t2.size ≤ 1048576
    · obtain ⟨c, k, h1, h2⟩ := co_both t1 t2 hl hl2
      exact cshort t1 t2 c k w hl hl2 (h1 w) (fun w' hb => h2 w' a1 a2 a3 a4 a5 (hF.below hb))
    · exact clong2 t1 t2 w hl (by omega) hm2
  · exact clong1 t1 t2 w (by omega) hm1

end Go.Proofs.YtamdnnkdnhkghaaGreatDoor

namespace Go.Proofs.YtamdnnkdnhkghaaGreatDoor
open Go.ChangeShapes Go.WideShapes Go.ChangeAt Go Go.RowKit Go.ChangeMaps Go.WideElems
set_option linter.unusedVariables false

abbrev laidCO := Rows.fnExactCompareRow.laid

set_option maxRecDepth 100000 in
/-- What the walks give, for all arguments and every world that holds the tables and the errors. -/
theorem ccontract (H : Type) (enc : TypeId × Value → H) (W : World) (base : Nat) (args : Array Value) (ds gs : List (DataW H)) (before : List MemPlace)
    (hval : ∀ (j : Nat) t v, Tryz.f6.params[j]? = some t → args[j]? = some v → Value.okWide Tryz.prog W .any base t v)
    (hW : DataW.Whole enc Tryz.prog Tryz.f6.params.toList Rows.fnExactCompareSpec.vars false W args.toList ds gs before) (hL : laidMetH Tryz.prog Rows.fnExactCompareRow.laid W) (hS : W.ShapedOpen Tryz.prog) :
    Calls Tryz.prog 6 args W fun e W' => ∃ v, e = .returned v ∧ Rows.fnExactCompareSpec.post enc Tryz.prog Tryz.f6 false true false false W args v W' := by
  have hW' := hW
  obtain ⟨p, q, hA0, hV, rfl, hfz, hnd⟩ := hW
  have hA : DataW.TrodAll enc Tryz.prog W 0 (fun _ => true) true Tryz.f6.params.toList args.toList ds p := hA0
  rw [Tryz.params6] at hA hval
  obtain ⟨v0, vs0, d0, ds0, p0, q0, hargs, rfl, rfl, h0, r0⟩ := trodAll_cons hA
  obtain ⟨v1, vs1, d1, ds1, p1, q1, hargs1, rfl, rfl, h1, r1⟩ := trodAll_cons r0
  obtain ⟨rfl, rfl, rfl⟩ := trodAll_nil r1
  subst hargs1
  obtain rfl : args = #[v0, v1] := by cases args; simp_all
  obtain ⟨g1, g2, g3, g4, g5, rfl⟩ := vars_five hV
  obtain ⟨s, rfl, rfl, rfl, hs⟩ := open_string Tryz.underlying9 (hval 0 9 v0 rfl rfl) h0
  obtain ⟨t, rfl, rfl, rfl, ht⟩ := open_string Tryz.underlying9 (hval 1 9 v1 rfl rfl) h1
  clear hA0
  have hL' : laidMet Tryz.prog laidTI W := hL
  obtain ⟨a1, a2, a3, a4, a5, hF⟩ := full_of hL' hS
  refine (claw_any s t W a1 a2 a3 a4 a5 hF hs ht).mono fun e W' ⟨he, hb⟩ => ?_
  subst he
  refine ⟨_, rfl, post_low hW' (pa := []) (pv := q) (fun _ _ _ => trodAll_cons_mk (shut_bool Tryz.underlying4 _) trodAll_mk0) (fun _ _ => trodAll_cons_mk (shut_string Tryz.underlying9 hs) (trodAll_cons_mk (shut_string Tryz.underlying9 ht) trodAll_mk0))
    (fun sp hsp => vars_stay laidOut hb rowed (fun x hx => hsp x (by simp [hx])) hV) (by simp) hb (ok_one (by kernel_rfl) rfl (okWide_bool_mk Tryz.underlying4 _))⟩

end Go.Proofs.YtamdnnkdnhkghaaGreatDoor

namespace Go.Proofs.YtamdnnkdnhkghaaGreatDoor
open Go.ChangeShapes Go.WideShapes Go.ChangeAt Go Go.RowKit
set_option maxRecDepth 100000
theorem cclosed2 : Tryz.f6.isInstance Tryz.prog Rows.fnExactCompareRow.origin Rows.fnExactCompareRow.targs := of_decide_eq_true (by kernel_rfl)
theorem cclosed3 : Tryz.prog.funcNamed Rows.fnExactCompareRow.func = some 6 := by kernel_rfl
end Go.Proofs.YtamdnnkdnhkghaaGreatDoor

namespace Go.Proofs.YtamdnnkdnhkghaaGreatDoor
open Go.ChangeShapes Go.WideShapes Go.ChangeAt Go Go.RowKit
set_option maxRecDepth 100000
theorem cclosed4 : Tryz.f6.isWrapper Tryz.prog Rows.fnExactCompareRow.wrapper Rows.fnExactCompareRow.mainSum := by unfold Func.isWrapper; first | (rw [if_pos (by decide +kernel)]; kernel_rfl) | (rw [if_neg (by decide +kernel)]; exact ⟨rfl, rfl⟩)
end Go.Proofs.YtamdnnkdnhkghaaGreatDoor
