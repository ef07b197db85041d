import Derived.Test.YtplfgfdlcfdfdaaB8
namespace Go.Proofs.Ytplfgfdlcfdfdaa
open Go Go.RowKit
set_option linter.unusedVariables false

theorem PVO.low {w w' : World} {p : PV} {g4 g5 g6 g7 B : Nat} (h : PVO w p g4 g5 g6 g7) (hb : Below B w w') (hB : w.heap.size ≤ B) : PVO w' p g4 g5 g6 g7 :=
  ⟨h.u.low hb (Nat.lt_of_lt_of_le h.u.lt hB), h.c.low hb (Nat.lt_of_lt_of_le h.c.lt hB), h.i.low hb (Nat.lt_of_lt_of_le h.i.lt hB), h.l.low hb (Nat.lt_of_lt_of_le h.l.lt hB)⟩
theorem PVO.other {w : World} {p : PV} {g4 g5 g6 g7 g' j : Nat} {x : Value} (h : PVO w p g4 g5 g6 g7) (h4 : g4 ≠ g') (h5 : g5 ≠ g') (h6 : g6 ≠ g') (h7 : g7 ≠ g') : PVO (w.setCell ⟨g', j, none⟩ x) p g4 g5 g6 g7 :=
  ⟨h.u.other h4, h.c.other h5, h.i.other h6, h.l.other h7⟩
theorem PVO.by {w : World} {p : PV} {g4 g5 g6 g7 : Nat} (h : PVO w p g4 g5 g6 g7) : PVA w p (sl g4 p.nu) (sl g5 p.nc) (sl g6 p.ni) (sl g7 p.nl) := ⟨h.u.by, h.c.by, h.i.by, h.l.by⟩

/-- What the eight cells from q on say. -/
def F8 (f : Nat → Value) (q : Nat) (p : PV) (g4 g5 g6 g7 : Nat) : Prop :=
  f q = .int .i64 p.params ∧ f (q + 1) = .int .i64 p.regs ∧ f (q + 2) = .int .i64 p.line ∧ f (q + 3) = .bool p.dots ∧ f (q + 4) = sl g4 p.nu ∧ f (q + 5) = sl g5 p.nc ∧ f (q + 6) = sl g6 p.ni ∧ f (q + 7) = sl g7 p.nl

/-- A list of n functions in block G, of which the first k are laid, each list in a block of its own, by rising numbers. -/
structure ProsK (w : World) (G n : Nat) (P : Nat → PV) (k : Nat) (f : Nat → Value) (L b4 b5 b6 b7 : Nat → Nat) : Prop where
  row : RowF w 46 G (n * 8) f
  cel : ∀ i, i < k → F8 f (i * 8) (P i) (b4 i) (b5 i) (b6 i) (b7 i)
  own : ∀ i, i < k → PVO w (P i) (b4 i) (b5 i) (b6 i) (b7 i)
  ord : ∀ i, i < k → L i ≤ b4 i ∧ b4 i < b5 i ∧ b5 i < b6 i ∧ b6 i < b7 i ∧ b7 i < L (i + 1)
  low : ∀ i, i ≤ k → G < L i
  top : L k ≤ w.heap.size
def ProsO (w : World) (G n : Nat) (P : Nat → PV) (k : Nat) : Prop := ∃ f L b4 b5 b6 b7, ProsK w G n P k f L b4 b5 b6 b7

theorem ProsO.low {w w' : World} {G n k : Nat} {P : Nat → PV} {B : Nat} (h : ProsO w G n P k) (hb : Below B w w') (hB : w.heap.size ≤ B) : ProsO w' G n P k := by
  obtain ⟨f, L, b4, b5, b6, b7, h⟩ := h
  exact ⟨f, L, b4, b5, b6, b7, h.row.low hb (Nat.lt_of_lt_of_le h.row.lt hB), h.cel, fun i hi => (h.own i hi).low hb hB, h.ord, h.low, Nat.le_trans h.top hb.size⟩

theorem ProsO.other {w : World} {G n k g' j : Nat} {P : Nat → PV} {x : Value} (h : ProsO w G n P k) (hg : g' < G) : ProsO (w.setCell ⟨g', j, none⟩ x) G n P k := by
  obtain ⟨f, L, b4, b5, b6, b7, h⟩ := h
  refine ⟨f, L, b4, b5, b6, b7, h.row.other (by omega), h.cel, fun i hi => ?_, h.ord, h.low, by simpa using h.top⟩
  have o := h.ord i hi
  have l := h.low i (by omega)
  exact (h.own i hi).other (by omega) (by omega) (by omega) (by omega)

theorem ProsO.by {w : World} {G n : Nat} {P : Nat → PV} (h : ProsO w G n P n) : ProsA w (sl G n) n P := by
  obtain ⟨f, L, b4, b5, b6, b7, h⟩ := h
  refine .inr ⟨G, 0, n, rfl, h.row.lt, Nat.le_refl _, fun i hi => ⟨_, _, _, _, ?_, (h.own i hi).by⟩⟩
  obtain ⟨c0, c1, c2, c3, c4, c5, c6, c7⟩ := h.cel i hi
  rw [Nat.zero_add]
  refine ⟨?_, ?_, ?_, ?_, ?_, ?_, ?_, ?_⟩
  · rw [h.row.cell (j := i * 8) (by omega), c0]
  · rw [h.row.cell (j := i * 8 + 1) (by omega), c1]
  · rw [h.row.cell (j := i * 8 + 2) (by omega), c2]
  · rw [h.row.cell (j := i * 8 + 3) (by omega), c3]
  · rw [h.row.cell (j := i * 8 + 4) (by omega), c4]
  · rw [h.row.cell (j := i * 8 + 5) (by omega), c5]
  · rw [h.row.cell (j := i * 8 + 6) (by omega), c6]
  · rw [h.row.cell (j := i * 8 + 7) (by omega), c7]

/-- Eight cells from q on are written. -/
def put8 (w : World) (G q : Nat) (v0 v1 v2 v3 v4 v5 v6 v7 : Value) : World :=
  (((((((w.setCell ⟨G, q, none⟩ v0).setCell ⟨G, q + 1, none⟩ v1).setCell ⟨G, q + 2, none⟩ v2).setCell ⟨G, q + 3, none⟩ v3).setCell ⟨G, q + 4, none⟩ v4).setCell ⟨G, q + 5, none⟩ v5).setCell ⟨G, q + 6, none⟩ v6).setCell ⟨G, q + 7, none⟩ v7
theorem put8_size (w : World) (G q : Nat) (v0 v1 v2 v3 v4 v5 v6 v7 : Value) : (put8 w G q v0 v1 v2 v3 v4 v5 v6 v7).heap.size = w.heap.size := by simp [put8]
theorem put8_below {B : Nat} {w w' : World} (h : Below B w w') {G : Nat} (hG : B ≤ G) (q : Nat) (v0 v1 v2 v3 v4 v5 v6 v7 : Value) : Below B w (put8 w' G q v0 v1 v2 v3 v4 v5 v6 v7) :=
  (((((((h.setCell hG _).setCell hG _).setCell hG _).setCell hG _).setCell hG _).setCell hG _).setCell hG _).setCell hG _
theorem PVO.put8 {w : World} {p : PV} {g4 g5 g6 g7 G : Nat} (h : PVO w p g4 g5 g6 g7) (h4 : g4 ≠ G) (h5 : g5 ≠ G) (h6 : g6 ≠ G) (h7 : g7 ≠ G) (q : Nat) (v0 v1 v2 v3 v4 v5 v6 v7 : Value) : PVO (put8 w G q v0 v1 v2 v3 v4 v5 v6 v7) p g4 g5 g6 g7 :=
  (((((((h.other h4 h5 h6 h7).other h4 h5 h6 h7).other h4 h5 h6 h7).other h4 h5 h6 h7).other h4 h5 h6 h7).other h4 h5 h6 h7).other h4 h5 h6 h7).other h4 h5 h6 h7
theorem RowF.put8 {w : World} {T G N q : Nat} {f : Nat → Value} (h : RowF w T G N f) (hq : q + 8 ≤ N) (v0 v1 v2 v3 v4 v5 v6 v7 : Value) :
    RowF (put8 w G q v0 v1 v2 v3 v4 v5 v6 v7) T G N (fun j => if j = q + 7 then v7 else if j = q + 6 then v6 else if j = q + 5 then v5 else if j = q + 4 then v4 else if j = q + 3 then v3 else if j = q + 2 then v2 else if j = q + 1 then v1 else if j = q then v0 else f j) :=
  (((((((h.set (by omega) v0).set (by omega) v1).set (by omega) v2).set (by omega) v3).set (by omega) v4).set (by omega) v5).set (by omega) v6).set (by omega) v7

theorem ProsO.step {w w2 : World} {G n i : Nat} {P : Nat → PV} {g4 g5 g6 g7 : Nat} (h : ProsO w G n P i) (hi : i < n) (hb : Below w.heap.size w w2) (q4 : w.heap.size ≤ g4) (q5 : g4 < g5) (q6 : g5 < g6) (q7 : g6 < g7) (q8 : g7 < w2.heap.size)
    (ho : PVO w2 (P i) g4 g5 g6 g7) : ProsO (put8 w2 G (i * 8) (.int .i64 (P i).params) (.int .i64 (P i).regs) (.int .i64 (P i).line) (.bool (P i).dots) (sl g4 (P i).nu) (sl g5 (P i).nc) (sl g6 (P i).ni) (sl g7 (P i).nl)) G n P (i + 1) := by
  obtain ⟨f, L, b4, b5, b6, b7, h⟩ := h
  have hGl : G < w.heap.size := Nat.lt_of_lt_of_le (h.low i (Nat.le_refl _)) h.top
  refine ⟨_, fun j => if j = i + 1 then w2.heap.size else L j, fun j => if j = i then g4 else b4 j, fun j => if j = i then g5 else b5 j, fun j => if j = i then g6 else b6 j, fun j => if j = i then g7 else b7 j, (h.row.low hb hGl).put8 (q := i * 8) (by omega) _ _ _ _ _ _ _ _, fun j hj => ?_, fun j hj => ?_, fun j hj => ?_, fun j hj => ?_, ?_⟩
  · by_cases e : j = i
    · subst e
      simp [F8]
    · obtain ⟨c0, c1, c2, c3, c4, c5, c6, c7⟩ := h.cel j (by omega)
      simp only [if_neg e]
      have K : ∀ k, k < 8 → ∀ a, a < 8 → ¬ j * 8 + k = i * 8 + a := fun k hk a ha => by omega
      refine ⟨?_, ?_, ?_, ?_, ?_, ?_, ?_, ?_⟩
      all_goals (simp only []; iterate 8 rw [if_neg (by omega)])
      all_goals assumption
  · by_cases e : j = i
    · subst e
      simp only [if_true]
      exact ho.put8 (by omega) (by omega) (by omega) (by omega) _ _ _ _ _ _ _ _ _
    · simp only [if_neg e]
      have o := h.ord j (by omega)
      have l := h.low j (by omega)
      exact ((h.own j (by omega)).low hb (Nat.le_refl _)).put8 (by omega) (by omega) (by omega) (by omega) _ _ _ _ _ _ _ _ _
  · by_cases e : j = i
    · subst e
      have t := h.top
      simp
      omega
    · have o := h.ord j (by omega)
      simp only [if_neg e]
      rw [if_neg (show ¬ j = i + 1 by omega), if_neg (show ¬ j + 1 = i + 1 by omega)]
      exact o
  · show G < if j = i + 1 then w2.heap.size else L j
    by_cases e : j = i + 1
    · rw [if_pos e]; exact Nat.lt_of_lt_of_le hGl hb.size
    · rw [if_neg e]; exact h.low j (by omega)
  · rw [put8_size]
    simp

end Go.Proofs.Ytplfgfdlcfdfdaa
