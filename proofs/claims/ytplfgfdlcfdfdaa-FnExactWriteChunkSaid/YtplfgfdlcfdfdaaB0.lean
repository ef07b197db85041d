import Derived.Test.YtplfgfdlcfdfdaaA3
import Derived.BigRegion
import Derived.Deep.RegionHeld3
namespace Go.Proofs.Ytplfgfdlcfdfdaa
open Go Go.RowKit
set_option linter.unusedVariables false

/-- A block of N cells of the call's own. -/
def RowF (w : World) (T g N : Nat) (f : Nat → Value) : Prop := ∃ cur : Array Value, w.heap[g]? = some (.cells cur T (0, 0)) ∧ N ≤ cur.size ∧ ∀ j, j < N → cur[j]? = some (f j)
theorem RowF.cell {w : World} {T g N : Nat} {f : Nat → Value} (h : RowF w T g N f) {j : Nat} (hj : j < N) : w.cell? ⟨g, j, none⟩ = some (f j) := by
  obtain ⟨cur, h1, h2, h3⟩ := h
  have := h3 j hj
  simp [World.cell?, h1, this]
theorem RowF.frz {w : World} {T g N : Nat} {f : Nat → Value} (h : RowF w T g N f) (j : Nat) : w.frozen? ⟨g, j, none⟩ = false := by
  obtain ⟨cur, h1, h2, h3⟩ := h
  simp [World.frozen?, h1]
theorem RowF.low {w w' : World} {T g N b : Nat} {f : Nat → Value} (h : RowF w T g N f) (hb : Below b w w') (hg : g < b) : RowF w' T g N f := by
  obtain ⟨cur, h1, h2, h3⟩ := h
  exact ⟨cur, (hb.block g hg).trans h1, h2, h3⟩
theorem RowF.lt {w : World} {T g N : Nat} {f : Nat → Value} (h : RowF w T g N f) : g < w.heap.size := by
  obtain ⟨cur, h1, h2, h3⟩ := h
  rcases Nat.lt_or_ge g w.heap.size with c | c
  · exact c
  · rw [Array.getElem?_eq_none c] at h1; cases h1
theorem RowF.set {w : World} {T g N : Nat} {f : Nat → Value} (h : RowF w T g N f) {j : Nat} (hj : j < N) (x : Value) : RowF (w.setCell ⟨g, j, none⟩ x) T g N (fun i => if i = j then x else f i) := by
  obtain ⟨cur, h1, h2, h3⟩ := h
  have e := heap_setCell_same w g j _ _ x h1
  refine ⟨_, e, by simpa using h2, fun i hi => ?_⟩
  by_cases hij : i = j
  · subst hij
    have h9 : i < cur.size := by omega
    simp [h9]
  · have := h3 i hi
    simp [hij, Ne.symm hij, this]
theorem RowF.congr {w : World} {T g N : Nat} {f f' : Nat → Value} (h : RowF w T g N f) (hf : ∀ j, j < N → f j = f' j) : RowF w T g N f' := by
  obtain ⟨cur, h1, h2, h3⟩ := h
  exact ⟨cur, h1, h2, fun j hj => by rw [h3 j hj, hf j hj]⟩
theorem RowF.kept {w w' : World} {T g N : Nat} {f : Nat → Value} {row : Option Nat} (h : RowF w T g N f) (hg : w.grownBy w' row) (hn : some g ≠ row) : RowF w' T g N f := by
  obtain ⟨cur, h1, h2, h3⟩ := h
  exact ⟨cur, (hg.block g (RowF.lt ⟨cur, h1, h2, h3⟩) hn).trans h1, h2, h3⟩
theorem rowF_owns {w : World} {B T s g n cap : Nat} {xs : List Value} (h : w.ownsRow B T s (.slice (some ⟨g, 0, none⟩) n cap) n xs) : RowF w T g (n * s) (fun j => xs.getD j (.bool false)) := by
  rcases h.2 with ⟨h', _⟩ | ⟨g', cap', cur, h', hb, hg, hnc, hcm, hcs, htake⟩
  · simp at h'
  · simp only [Value.slice.injEq, Option.some.injEq, Addr.mk.injEq, and_true, true_and] at h'
    obtain ⟨rfl, rfl⟩ := h'
    refine ⟨cur, hg, by rw [hcs]; exact Nat.mul_le_mul_right _ hnc, fun j hj => ?_⟩
    have hc : j < cur.size := by rw [hcs]; exact Nat.lt_of_lt_of_le hj (Nat.mul_le_mul_right _ hnc)
    show cur[j]? = some (xs.getD j (.bool false))
    rw [← htake, List.getD_eq_getElem?_getD, List.getElem?_take, if_pos hj]
    simp [hc]

theorem RowF.other {w : World} {T g g' N j : Nat} {f : Nat → Value} {x : Value} (h : RowF w T g N f) (hn : g ≠ g') : RowF (w.setCell ⟨g', j, none⟩ x) T g N f := by
  obtain ⟨cur, h1, h2, h3⟩ := h
  exact ⟨cur, (heap_setCell_other w ⟨g', j, none⟩ g x (fun e => hn e)).trans h1, h2, h3⟩
theorem RowF.mk' (w : World) (T : Nat) (arr : Array Value) : RowF (w.alloc (.cells arr T)) T w.heap.size arr.size (fun j => arr.getD j (.bool false)) := by
  refine ⟨arr, heap_alloc_new w _, Nat.le_refl _, fun j hj => ?_⟩
  simp [hj]

theorem b_1 (w : World) (o : Obj) : Below w.heap.size w (w.alloc o) := (Below.refl _ _).alloc (Nat.le_refl _) _
theorem b_2 (w : World) (o o' : Obj) : Below w.heap.size w ((w.alloc o).alloc o') := (b_1 w o).alloc (by simp) _
theorem b_3 (w : World) (o o' o2 : Obj) : Below w.heap.size w (((w.alloc o).alloc o').alloc o2) := (b_2 w o o').alloc (by simp; omega) _

end Go.Proofs.Ytplfgfdlcfdfdaa
