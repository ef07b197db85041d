import Derived.Test.YtcpeabchaimkaaaDoorA1
import Derived.Deep.QuietTactic
import Derived.BigQuiet
import Derived.OwnWalk
import Derived.Laws.OwnMore
import Derived.BigRegion
import Derived.Deep.RegionHeld3
namespace Go.Proofs.YtcpeabchaimkaaaDoor
open Go Go.RowKit
set_option linter.unusedVariables false

theorem Tryd.info5 : (Tryd.prog.info? 5).map (fun i => (i.zero, i.size, i.bytes)) = some (some (.int .u8 0), 1, 1) := by kernel_rfl

/-- n cells, the first i of them already those of f. -/
def toTo (f : Nat → Nat) (n i : Nat) : List Value := (List.range n).map fun j => if j < i then .int .u8 (f j) else .int .u8 0
theorem toTo_len (f : Nat → Nat) (n i : Nat) : (toTo f n i).length = n := by simp [toTo]
theorem toTo_start (f : Nat → Nat) (n : Nat) : (madeCells (Value.int .u8 0).cells (n * 1)).toList = toTo f n 0 := by
  show (madeCells #[.int .u8 0] (n * 1)).toList = _
  rw [toList_madeCells_one]
  refine List.ext_getElem (by simp [toTo]) fun j h1 h2 => ?_
  simp [toTo]
theorem toTo_step (f : Nat → Nat) (n i : Nat) : (toTo f n i).set i (.int .u8 (f i)) = toTo f n (i + 1) := by
  refine List.ext_getElem (by simp [toTo]) fun j h1 h2 => ?_
  rw [List.getElem_set]
  by_cases h : i = j
  · subst h; simp [toTo]
  · rw [if_neg h]
    by_cases hj : j < i
    · simp [toTo, hj, show j < i + 1 by omega]
    · simp [toTo, hj, show ¬ j < i + 1 by omega]
theorem toTo_get (f : Nat → Nat) {n i j : Nat} (h : j < n) : (toTo f n i)[j]? = some (if j < i then .int .u8 (f j) else .int .u8 0) := by
  simp [toTo, h]
theorem toTo_get1 (f : Nat → Nat) {n j : Nat} (h : j < n) : (toTo f n n)[j]? = some (.int .u8 (f j)) := by
  simp [toTo, h]

/-- A copy of the bytes, of the call's own. -/
def OwnB (w : World) (B : Nat) (v : Value) (n : Nat) (f : Nat → Nat) : Prop :=
  ∃ g, v = .slice (some ⟨g, 0, none⟩) n n ∧ B ≤ g ∧ g < w.heap.size ∧ (∀ j, j < n → f j ≤ 255) ∧ w.ownsRow B 5 1 v n (toTo f n n)

theorem owns_lt {w : World} {B e s g n cap : Nat} {xs : List Value} (h : w.ownsRow B e s (.slice (some ⟨g, 0, none⟩) n cap) n xs) : B ≤ g ∧ g < w.heap.size := by
  rcases h.2 with ⟨h', _⟩ | ⟨g', cap', cur, h', hb, hg, _⟩
  · simp at h'
  · simp only [Value.slice.injEq, Option.some.injEq, Addr.mk.injEq, and_true, true_and] at h'
    obtain ⟨rfl, rfl⟩ := h'
    refine ⟨hb, ?_⟩
    rcases Nat.lt_or_ge g w.heap.size with c | c
    · exact c
    · rw [Array.getElem?_eq_none c] at hg; cases hg

theorem OwnB.by {w : World} {B : Nat} {v : Value} {n : Nat} {f : Nat → Nat} (h : OwnB w B v n f) : ByA w v n f := by
  obtain ⟨g, rfl, h1, h2, h3, h4⟩ := h
  refine .inr ⟨g, 0, n, rfl, h2, Nat.le_refl _, fun j hj => ⟨h3 j hj, ?_⟩⟩
  rw [Nat.zero_add, h4.cellAt j (by omega), toTo_get1 f hj]

set_option maxHeartbeats 400000 in
set_option maxRecDepth 100000 in
theorem toByteS_any (v : Value) (n : Nat) (f : Nat → Nat) (w : World) (hn : n ≤ 1048576) (h : ByA w v n f) :
    Calls Tryd.prog 5 #[v] w fun e w' => ∃ v', e = .returned v' ∧ OwnB w' w.heap.size v' n f ∧ Below w.heap.size w w' := by
  obtain ⟨i0, hi, hz0, hz1, hz2⟩ := info_parts Tryd.info5
  rcases h with ⟨rfl, a, cap, rfl⟩ | ⟨b, o, cap, rfl, hb, hcap, hc⟩
  · go_enter Tryd.func5, Tryd.ntmps5
    go_wp2_with (first
      | (at_make; refine wpList_make_full _ rfl _ _ 22 rfl w.heap.size 5 i0 (.int .u8 0) 1 Tryd.underlying22 hi hz0 hz1 _ _ _ _ 0 rfl rfl rfl rfl (by rw [hz2]; omega) (by unfold maxLen; omega) (Nat.le_refl _) ?_; intro w1 hown hgrow)
      | go_in)
    have hb1 : Below w.heap.size w w1 := (Below.refl _ _).grown hgrow (Nat.le_refl _) (fun _ h => by cases h)
    rw [toTo_start f] at hown
    have HO := hide hown
    clear hgrow hown
    go_wp2
    go_loopw [4] (fun iv wr => iv = .int .i64 0 ∧ wr = w1) (fun _ _ => 0)
    case atStart => exact ⟨rfl, rfl⟩
    case round =>
      obtain ⟨rfl, rfl⟩ := hrel
      go_wp2
      go_ret
      exact ⟨_, rfl, ⟨_, rfl, (owns_lt HO.out).1, (owns_lt HO.out).2, fun j hj => by omega, HO.out⟩, hb1⟩
  · have HC := hide hc
    clear hc
    go_enter Tryd.func5, Tryd.ntmps5
    go_wp2_with (first
      | (at_make; refine wpList_make_full _ rfl _ _ 22 rfl w.heap.size 5 i0 (.int .u8 0) 1 Tryd.underlying22 hi hz0 hz1 _ _ _ _ n rfl rfl rfl rfl (by rw [hz2]; omega) (by unfold maxLen; omega) (Nat.le_refl _) ?_; intro w1 hown hgrow)
      | go_in)
    have hb1 : Below w.heap.size w w1 := (Below.refl _ _).grown hgrow (Nat.le_refl _) (fun _ h => by cases h)
    rw [toTo_start f] at hown
    clear hgrow
    go_wp2
    go_loopw [4] (fun iv wr => ∃ i : Nat, i ≤ n ∧ iv = .int .i64 i ∧ wr.ownsRow w.heap.size 5 1 (.slice (some ⟨w.heap.size, 0, none⟩) n n) n (toTo f n i) ∧ Below w.heap.size w wr) (fun iv _ => match iv with | .int _ x => n - x.toNat | _ => 0)
    case atStart => exact ⟨0, by omega, rfl, hown, hb1⟩
    case round =>
      clear hown hb1
      obtain ⟨i, hi9, rfl, hown, hb⟩ := hrel
      by_cases hin : i < n
      · have hcx : wr.cell? ⟨b, o + i, none⟩ = some (.int .u8 (f i)) := (hb.cell (p := ⟨b, o + i, none⟩) (by assumption)).trans (HC.out i hin).2
        have hfr := hown.frozenAt i
        have hx := hown.stored i (.int .u8 (f i))
        rw [toTo_step] at hx
        have hu := hown.cellAt i (by omega)
        rw [toTo_get f hin, if_neg (by omega)] at hu
        have HR := hide (⟨hx.1, hb.setCell (Nat.le_refl _) (.int .u8 (f i))⟩ : (wr.setCell ⟨w.heap.size, i, none⟩ (.int .u8 (f i))).ownsRow w.heap.size 5 1 (.slice (some ⟨w.heap.size, 0, none⟩) n n) n (toTo f n (i + 1)) ∧ Below w.heap.size w (wr.setCell ⟨w.heap.size, i, none⟩ (.int .u8 (f i))))
        clear hown hx hb
        go_wp2
        go_roundw
        case rel => exact ⟨i + 1, by omega, by simp, HR.out.1, HR.out.2⟩
        case measure => simp; omega
      · obtain rfl : i = n := by omega
        have HO := hide hown
        clear hown
        go_wp2
        go_ret
        exact ⟨_, rfl, ⟨_, rfl, (owns_lt HO.out).1, (owns_lt HO.out).2, fun j hj => (HC.out j hj).1, HO.out⟩, hb⟩

end Go.Proofs.YtcpeabchaimkaaaDoor
namespace Go.Proofs.YtcpeabchaimkaaaDoor
open Go Go.RowKit
set_option linter.unusedVariables false

theorem below_drw {B : Nat} {a w : World} (h : Below B a w) (n : Nat) : Below B a (w.drewN n) := ⟨h.os, h.tape, h.output, h.size, h.block⟩

set_option maxHeartbeats 400000 in
set_option maxRecDepth 100000 in
theorem eqByteS_any (v v' : Value) (n : Nat) (f : Nat → Nat) (w : World) (hn : n ≤ 1048576) (h : ByA w v n f) (h' : ByA w v' n f) :
    Calls Tryd.prog 8 #[v, v'] w fun e w' => e = .returned (.bool true) ∧ Below w.heap.size w w' := by
  by_cases h0 : n = 0
  · subst h0
    have e1 : ∃ a cap, v = .slice a 0 cap := by
      rcases h with ⟨_, a, cap, rfl⟩ | ⟨b, o, cap, rfl, _⟩
      · exact ⟨a, cap, rfl⟩
      · exact ⟨_, cap, rfl⟩
    have e2 : ∃ a cap, v' = .slice a 0 cap := by
      rcases h' with ⟨_, a, cap, rfl⟩ | ⟨b, o, cap, rfl, _⟩
      · exact ⟨a, cap, rfl⟩
      · exact ⟨_, cap, rfl⟩
    obtain ⟨a, cap, rfl⟩ := e1
    obtain ⟨a', cap', rfl⟩ := e2
    clear h h'
    go_enter Tryd.func8, Tryd.ntmps8
    go_wp2
    go_loopw [5] (fun iv wr => iv = .int .i64 0 ∧ wr = w) (fun _ _ => 0)
    case atStart => exact ⟨rfl, rfl⟩
    case round =>
      obtain ⟨rfl, rfl⟩ := hrel
      go_wp2
      go_ret
      exact ⟨rfl, Below.refl _ _⟩
  · rcases h with ⟨h9, _⟩ | ⟨b, o, cap, rfl, hb, hcap, hc⟩
    · exact absurd h9 h0
    rcases h' with ⟨h9, _⟩ | ⟨b', o', cap', rfl, hb', hcap', hc'⟩
    · exact absurd h9 h0
    have HC := hide hc
    have HC' := hide hc'
    clear hc hc'
    go_enter Tryd.func8, Tryd.ntmps8
    go_wp2
    go_loopw [5] (fun iv wr => ∃ i : Nat, i ≤ n ∧ iv = .int .i64 i ∧ Below w.heap.size w wr) (fun iv _ => match iv with | .int _ x => n - x.toNat | _ => 0)
    case atStart => exact ⟨0, by omega, rfl, Below.refl _ _⟩
    case round =>
      obtain ⟨i, hi9, rfl, hbw⟩ := hrel
      by_cases hin : i < n
      · have c1 := (hbw.cell (p := ⟨b, o + i, none⟩) hb).trans (HC.out i hin).2
        have c2 := (hbw.cell (p := ⟨b', o' + i, none⟩) hb').trans (HC'.out i hin).2
        go_wp2
        go_quiet (fail)
        go_wp2
        go_roundw
        case rel => exact ⟨i + 1, by omega, by simp, below_drw hbw _⟩
        case measure => simp; omega
      · obtain rfl : i = n := by omega
        go_wp2
        go_ret
        exact ⟨rfl, hbw⟩

end Go.Proofs.YtcpeabchaimkaaaDoor
namespace Go.Proofs.YtcpeabchaimkaaaDoor
open Go Go.RowKit
set_option linter.unusedVariables false

/-- A block of N cells of the call's own. -/
def RowF (w : World) (T g N : Nat) (f : Nat → Value) : Prop := ∃ cur : Array Value, w.heap[g]? = some (.cells cur T (0, 0)) ∧ N ≤ cur.size ∧ ∀ j, j < N → cur[j]? = some (f j)
theorem RowF.cell {w : World} {T g N : Nat} {f : Nat → Value} (h : RowF w T g N f) {j : Nat} (hj : j < N) : w.cell? ⟨g, j, none⟩ = some (f j) := by
  obtain ⟨cur, h1, h2, h3⟩ := h
  have := h3 j hj
  simp [World.cell?, h1, this]
theorem RowF.frz {w : World} {T g N : Nat} {f : Nat → Value} (h : RowF w T g N f) (j : Nat) : w.frozen? ⟨g, j, none⟩ = false := by
  obtain ⟨cur, h1, h2, h3⟩ := h
  simp [World.frozen?, h1]
theorem RowF.low {w w' : World} {T g N b : Nat} {f : Nat → Value} (h : RowF w T g N f) (hb : Below b w w') (hg : g < b) : RowF w' T g N f := by
  obtain ⟨cur, h1, h2, h3⟩ := h
  exact ⟨cur, (hb.block g hg).trans h1, h2, h3⟩
theorem RowF.lt {w : World} {T g N : Nat} {f : Nat → Value} (h : RowF w T g N f) : g < w.heap.size := by
  obtain ⟨cur, h1, h2, h3⟩ := h
  rcases Nat.lt_or_ge g w.heap.size with c | c
  · exact c
  · rw [Array.getElem?_eq_none c] at h1; cases h1
theorem RowF.set {w : World} {T g N : Nat} {f : Nat → Value} (h : RowF w T g N f) {j : Nat} (hj : j < N) (x : Value) : RowF (w.setCell ⟨g, j, none⟩ x) T g N (fun i => if i = j then x else f i) := by
  obtain ⟨cur, h1, h2, h3⟩ := h
  have e := heap_setCell_same w g j _ _ x h1
  refine ⟨_, e, by simpa using h2, fun i hi => ?_⟩
  by_cases hij : i = j
  · subst hij
    have h9 : i < cur.size := by omega
    simp [h9]
  · have := h3 i hi
    simp [hij, Ne.symm hij, this]
theorem RowF.congr {w : World} {T g N : Nat} {f f' : Nat → Value} (h : RowF w T g N f) (hf : ∀ j, j < N → f j = f' j) : RowF w T g N f' := by
  obtain ⟨cur, h1, h2, h3⟩ := h
  exact ⟨cur, h1, h2, fun j hj => by rw [h3 j hj, hf j hj]⟩
theorem RowF.kept {w w' : World} {T g N : Nat} {f : Nat → Value} {row : Option Nat} (h : RowF w T g N f) (hg : w.grownBy w' row) (hn : some g ≠ row) : RowF w' T g N f := by
  obtain ⟨cur, h1, h2, h3⟩ := h
  exact ⟨cur, (hg.block g (RowF.lt ⟨cur, h1, h2, h3⟩) hn).trans h1, h2, h3⟩
theorem rowF_owns {w : World} {B T s g n cap : Nat} {xs : List Value} (h : w.ownsRow B T s (.slice (some ⟨g, 0, none⟩) n cap) n xs) : RowF w T g (n * s) (fun j => xs.getD j (.bool false)) := by
  rcases h.2 with ⟨h', _⟩ | ⟨g', cap', cur, h', hb, hg, hnc, hcm, hcs, htake⟩
  · simp at h'
  · simp only [Value.slice.injEq, Option.some.injEq, Addr.mk.injEq, and_true, true_and] at h'
    obtain ⟨rfl, rfl⟩ := h'
    refine ⟨cur, hg, by rw [hcs]; exact Nat.mul_le_mul_right _ hnc, fun j hj => ?_⟩
    have hc : j < cur.size := by rw [hcs]; exact Nat.lt_of_lt_of_le hj (Nat.mul_le_mul_right _ hnc)
    show cur[j]? = some (xs.getD j (.bool false))
    rw [← htake, List.getD_eq_getElem?_getD, List.getElem?_take, if_pos hj]
    simp [hc]

theorem RowF.other {w : World} {T g g' N j : Nat} {f : Nat → Value} {x : Value} (h : RowF w T g N f) (hn : g ≠ g') : RowF (w.setCell ⟨g', j, none⟩ x) T g N f := by
  obtain ⟨cur, h1, h2, h3⟩ := h
  exact ⟨cur, (heap_setCell_other w ⟨g', j, none⟩ g x (fun e => hn e)).trans h1, h2, h3⟩
theorem RowF.mk' (w : World) (T : Nat) (arr : Array Value) : RowF (w.alloc (.cells arr T)) T w.heap.size arr.size (fun j => arr.getD j (.bool false)) := by
  refine ⟨arr, heap_alloc_new w _, Nat.le_refl _, fun j hj => ?_⟩
  simp [hj]

theorem b_1 (w : World) (o : Obj) : Below w.heap.size w (w.alloc o) := (Below.refl _ _).alloc (Nat.le_refl _) _
theorem b_2 (w : World) (o o' : Obj) : Below w.heap.size w ((w.alloc o).alloc o') := (b_1 w o).alloc (by simp) _
theorem b_3 (w : World) (o o' o2 : Obj) : Below w.heap.size w (((w.alloc o).alloc o').alloc o2) := (b_2 w o o').alloc (by simp; omega) _

end Go.Proofs.YtcpeabchaimkaaaDoor
