import Derived.Test.YtplfgfdlcfdfdaaA1
import Derived.Deep.QuietTactic
import Derived.BigQuiet
import Derived.OwnWalk
import Derived.Laws.OwnMore
namespace Go.Proofs.Ytplfgfdlcfdfdaa
open Go Go.RowKit
set_option linter.unusedVariables false

theorem Try.info5 : (Try.prog.info? 5).map (fun i => (i.zero, i.size, i.bytes)) = some (some (.int .u8 0), 1, 1) := by kernel_rfl

/-- n cells, the first i of them already those of f. -/
def toTo (f : Nat → Nat) (n i : Nat) : List Value := (List.range n).map fun j => if j < i then .int .u8 (f j) else .int .u8 0
theorem toTo_len (f : Nat → Nat) (n i : Nat) : (toTo f n i).length = n := by simp [toTo]
theorem toTo_start (f : Nat → Nat) (n : Nat) : (madeCells (Value.int .u8 0).cells (n * 1)).toList = toTo f n 0 := by
  show (madeCells #[.int .u8 0] (n * 1)).toList = _
  rw [toList_madeCells_one]
  refine List.ext_getElem (by simp [toTo]) fun j h1 h2 => ?_
  simp [toTo]
theorem toTo_step (f : Nat → Nat) (n i : Nat) : (toTo f n i).set i (.int .u8 (f i)) = toTo f n (i + 1) := by
  refine List.ext_getElem (by simp [toTo]) fun j h1 h2 => ?_
  rw [List.getElem_set]
  by_cases h : i = j
  · subst h; simp [toTo]
  · rw [if_neg h]
    by_cases hj : j < i
    · simp [toTo, hj, show j < i + 1 by omega]
    · simp [toTo, hj, show ¬ j < i + 1 by omega]
theorem toTo_get (f : Nat → Nat) {n i j : Nat} (h : j < n) : (toTo f n i)[j]? = some (if j < i then .int .u8 (f j) else .int .u8 0) := by
  simp [toTo, h]
theorem toTo_get1 (f : Nat → Nat) {n j : Nat} (h : j < n) : (toTo f n n)[j]? = some (.int .u8 (f j)) := by
  simp [toTo, h]

/-- A copy of the bytes, of the call's own. -/
def OwnB (w : World) (B : Nat) (v : Value) (n : Nat) (f : Nat → Nat) : Prop :=
  ∃ g, v = .slice (some ⟨g, 0, none⟩) n n ∧ B ≤ g ∧ g < w.heap.size ∧ (∀ j, j < n → f j ≤ 255) ∧ w.ownsRow B 5 1 v n (toTo f n n)

theorem owns_lt {w : World} {B e s g n cap : Nat} {xs : List Value} (h : w.ownsRow B e s (.slice (some ⟨g, 0, none⟩) n cap) n xs) : B ≤ g ∧ g < w.heap.size := by
  rcases h.2 with ⟨h', _⟩ | ⟨g', cap', cur, h', hb, hg, _⟩
  · simp at h'
  · simp only [Value.slice.injEq, Option.some.injEq, Addr.mk.injEq, and_true, true_and] at h'
    obtain ⟨rfl, rfl⟩ := h'
    refine ⟨hb, ?_⟩
    rcases Nat.lt_or_ge g w.heap.size with c | c
    · exact c
    · rw [Array.getElem?_eq_none c] at hg; cases hg

theorem OwnB.by {w : World} {B : Nat} {v : Value} {n : Nat} {f : Nat → Nat} (h : OwnB w B v n f) : ByA w v n f := by
  obtain ⟨g, rfl, h1, h2, h3, h4⟩ := h
  refine .inr ⟨g, 0, n, rfl, h2, Nat.le_refl _, fun j hj => ⟨h3 j hj, ?_⟩⟩
  rw [Nat.zero_add, h4.cellAt j (by omega), toTo_get1 f hj]

end Go.Proofs.Ytplfgfdlcfdfdaa
