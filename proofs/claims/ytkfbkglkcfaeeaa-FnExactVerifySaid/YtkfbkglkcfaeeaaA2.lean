import Derived.Test.YtkfbkglkcfaeeaaA1
import Derived.Deep.QuietTactic
import Derived.BigQuiet
import Derived.OwnWalk
import Derived.Laws.OwnMore
namespace Go.Proofs.Ytkfbkglkcfaeeaa
open Go Go.RowKit
set_option linter.unusedVariables false

theorem Try.info5 : (Try.prog.info? 5).map (fun i => (i.zero, i.size, i.bytes)) = some (some (.int .u8 0), 1, 1) := by kernel_rfl

/-- n cells, the first i of them already those of f. -/
def toTo (f : Nat → Nat) (n i : Nat) : List Value := (List.range n).map fun j => if j < i then .int .u8 (f j) else .int .u8 0
theorem toTo_len (f : Nat → Nat) (n i : Nat) : (toTo f n i).length = n := by simp [toTo]
theorem toTo_start (f : Nat → Nat) (n : Nat) : (madeCells (Value.int .u8 0).cells (n * 1)).toList = toTo f n 0 := by
  show (madeCells #[.int .u8 0] (n * 1)).toList = _
  rw [toList_madeCells_one]
  refine List.ext_getElem (by simp [toTo]) fun j h1 h2 => ?_
  simp [toTo]
theorem toTo_step (f : Nat → Nat) (n i : Nat) : (toTo f n i).set i (.int .u8 (f i)) = toTo f n (i + 1) := by
  refine List.ext_getElem (by simp [toTo]) fun j h1 h2 => ?_
  rw [List.getElem_set]
  by_cases h : i = j
  · subst h; simp [toTo]
  · rw [if_neg h]
    by_cases hj : j < i
    · simp [toTo, hj, show j < i + 1 by omega]
    · simp [toTo, hj, show ¬ j < i + 1 by omega]
theorem toTo_get (f : Nat → Nat) {n i j : Nat} (h : j < n) : (toTo f n i)[j]? = some (if j < i then .int .u8 (f j) else .int .u8 0) := by
  simp [toTo, h]
theorem toTo_get1 (f : Nat → Nat) {n j : Nat} (h : j < n) : (toTo f n n)[j]? = some (.int .u8 (f j)) := by
  simp [toTo, h]

/-- A copy of the bytes, of the call's own. -/
def OwnB (w : World) (B : Nat) (v : Value) (n : Nat) (f : Nat → Nat) : Prop :=
  ∃ g, v = .slice (some ⟨g, 0, none⟩) n n ∧ B ≤ g ∧ g < w.heap.size ∧ (∀ j, j < n → f j ≤ 255) ∧ w.ownsRow B 5 1 v n (toTo f n n)

theorem owns_lt {w : World} {B e s g n cap : Nat} {xs : List Value} (h : w.ownsRow B e s (.slice (some ⟨g, 0, none⟩) n cap) n xs) : B ≤ g ∧ g < w.heap.size := by
  rcases h.2 with ⟨h', _⟩ | ⟨g', cap', cur, h', hb, hg, _⟩
  · simp at h'
  · simp only [Value.slice.injEq, Option.some.injEq, Addr.mk.injEq, and_true, true_and] at h'
    obtain ⟨rfl, rfl⟩ := h'
    refine ⟨hb, ?_⟩
    rcases Nat.lt_or_ge g w.heap.size with c | c
    · exact c
    · rw [Array.getElem?_eq_none c] at hg; cases hg

theorem OwnB.by {w : World} {B : Nat} {v : Value} {n : Nat} {f : Nat → Nat} (h : OwnB w B v n f) : ByA w v n f := by
  obtain ⟨g, rfl, h1, h2, h3, h4⟩ := h
  refine .inr ⟨g, 0, n, rfl, h2, Nat.le_refl _, fun j hj => ⟨h3 j hj, ?_⟩⟩
  rw [Nat.zero_add, h4.cellAt j (by omega), toTo_get1 f hj]

set_option maxHeartbeats 400000 in
set_option maxRecDepth 100000 in
theorem toByteS_any (v : Value) (n : Nat) (f : Nat → Nat) (w : World) (hn : n ≤ 1048576) (h : ByA w v n f) :
    Calls Try.prog 7 #[v] w fun e w' => ∃ v', e = .returned v' ∧ OwnB w' w.heap.size v' n f ∧ Below w.heap.size w w' := by
  obtain ⟨i0, hi, hz0, hz1, hz2⟩ := info_parts Try.info5
  rcases h with ⟨rfl, a, cap, rfl⟩ | ⟨b, o, cap, rfl, hb, hcap, hc⟩
  · go_enter Try.func7, Try.ntmps7
    go_wp2_with (first
      | (at_make; refine wpList_make_full _ rfl _ _ 22 rfl w.heap.size 5 i0 (.int .u8 0) 1 Try.underlying22 hi hz0 hz1 _ _ _ _ 0 rfl rfl rfl rfl (by rw [hz2]; omega) (by unfold maxLen; omega) (Nat.le_refl _) ?_; intro w1 hown hgrow)
      | go_in)
    have hb1 : Below w.heap.size w w1 := (Below.refl _ _).grown hgrow (Nat.le_refl _) (fun _ h => by cases h)
    rw [toTo_start f] at hown
    have HO := hide hown
    clear hgrow hown
    go_wp2
    go_loopw [4] (fun iv wr => iv = .int .i64 0 ∧ wr = w1) (fun _ _ => 0)
    case atStart => exact ⟨rfl, rfl⟩
    case round =>
      obtain ⟨rfl, rfl⟩ := hrel
      go_wp2
      go_ret
      exact ⟨_, rfl, ⟨_, rfl, (owns_lt HO.out).1, (owns_lt HO.out).2, fun j hj => by omega, HO.out⟩, hb1⟩
  · have HC := hide hc
    clear hc
    go_enter Try.func7, Try.ntmps7
    go_wp2_with (first
      | (at_make; refine wpList_make_full _ rfl _ _ 22 rfl w.heap.size 5 i0 (.int .u8 0) 1 Try.underlying22 hi hz0 hz1 _ _ _ _ n rfl rfl rfl rfl (by rw [hz2]; omega) (by unfold maxLen; omega) (Nat.le_refl _) ?_; intro w1 hown hgrow)
      | go_in)
    have hb1 : Below w.heap.size w w1 := (Below.refl _ _).grown hgrow (Nat.le_refl _) (fun _ h => by cases h)
    rw [toTo_start f] at hown
    clear hgrow
    go_wp2
    go_loopw [4] (fun iv wr => ∃ i : Nat, i ≤ n ∧ iv = .int .i64 i ∧ wr.ownsRow w.heap.size 5 1 (.slice (some ⟨w.heap.size, 0, none⟩) n n) n (toTo f n i) ∧ Below w.heap.size w wr) (fun iv _ => match iv with | .int _ x => n - x.toNat | _ => 0)
    case atStart => exact ⟨0, by omega, rfl, hown, hb1⟩
    case round =>
      clear hown hb1
      obtain ⟨i, hi9, rfl, hown, hb⟩ := hrel
      by_cases hin : i < n
      · have hcx : wr.cell? ⟨b, o + i, none⟩ = some (.int .u8 (f i)) := (hb.cell (p := ⟨b, o + i, none⟩) (by assumption)).trans (HC.out i hin).2
        have hfr := hown.frozenAt i
        have hx := hown.stored i (.int .u8 (f i))
        rw [toTo_step] at hx
        have hu := hown.cellAt i (by omega)
        rw [toTo_get f hin, if_neg (by omega)] at hu
        have HR := hide (⟨hx.1, hb.setCell (Nat.le_refl _) (.int .u8 (f i))⟩ : (wr.setCell ⟨w.heap.size, i, none⟩ (.int .u8 (f i))).ownsRow w.heap.size 5 1 (.slice (some ⟨w.heap.size, 0, none⟩) n n) n (toTo f n (i + 1)) ∧ Below w.heap.size w (wr.setCell ⟨w.heap.size, i, none⟩ (.int .u8 (f i))))
        clear hown hx hb
        go_wp2
        go_roundw
        case rel => exact ⟨i + 1, by omega, by simp, HR.out.1, HR.out.2⟩
        case measure => simp; omega
      · obtain rfl : i = n := by omega
        have HO := hide hown
        clear hown
        go_wp2
        go_ret
        exact ⟨_, rfl, ⟨_, rfl, (owns_lt HO.out).1, (owns_lt HO.out).2, fun j hj => (HC.out j hj).1, HO.out⟩, hb⟩

end Go.Proofs.Ytkfbkglkcfaeeaa
