import Derived.Test.YtplfgfdlcfdfdaaCE
namespace Go.Proofs.Ytplfgfdlcfdfdaa
open Go Go.RowKit
set_option linter.unusedVariables false

/-- Only blocks of S are written. -/
structure Keeps (w w' : World) (S : Nat → Prop) : Prop where
  os : w'.os = w.os
  tape : w'.tape = w.tape
  output : w'.output = w.output
  size : w.heap.size ≤ w'.heap.size
  block : ∀ b, b < w.heap.size → ¬ S b → w'.heap[b]? = w.heap[b]?
theorem Keeps.refl (w : World) (S : Nat → Prop) : Keeps w w S := ⟨rfl, rfl, rfl, Nat.le_refl _, fun _ _ _ => rfl⟩
theorem Keeps.trans {w w' w'' : World} {S : Nat → Prop} (h : Keeps w w' S) (k : Keeps w' w'' S) : Keeps w w'' S :=
  ⟨k.os.trans h.os, k.tape.trans h.tape, k.output.trans h.output, Nat.le_trans h.size k.size, fun b hb hs => (k.block b (Nat.lt_of_lt_of_le hb h.size) hs).trans (h.block b hb hs)⟩
theorem Keeps.mono {w w' : World} {S S' : Nat → Prop} (h : Keeps w w' S) (hs : ∀ b, S b → S' b) : Keeps w w' S' := ⟨h.os, h.tape, h.output, h.size, fun b hb hn => h.block b hb (fun x => hn (hs b x))⟩
theorem Keeps.of {w w' : World} {B : Nat} (h : Below B w w') (hB : w.heap.size ≤ B) (S : Nat → Prop) : Keeps w w' S := ⟨h.os, h.tape, h.output, h.size, fun b hb _ => h.block b (Nat.lt_of_lt_of_le hb hB)⟩
theorem Keeps.below {w w' : World} {S : Nat → Prop} {B : Nat} (h : Keeps w w' S) (hB : B ≤ w.heap.size) (hS : ∀ b, S b → B ≤ b) : Below B w w' :=
  ⟨h.os, h.tape, h.output, h.size, fun b hb => h.block b (by omega) (fun x => by have := hS b x; omega)⟩
theorem Keeps.setCell {w w' : World} {S : Nat → Prop} (h : Keeps w w' S) {g j : Nat} (hg : S g) (x : Value) : Keeps w (w'.setCell ⟨g, j, none⟩ x) S := by
  have e : Below g w' (w'.setCell ⟨g, j, none⟩ x) := (Below.refl g w').setCell (Nat.le_refl _) x
  refine ⟨e.os.trans h.os, e.tape.trans h.tape, e.output.trans h.output, Nat.le_trans h.size e.size, fun b hb hn => ?_⟩
  rw [heap_setCell_other w' ⟨g, j, none⟩ b x (fun e => hn (by subst e; exact hg))]
  exact h.block b hb hn
theorem RowF.keep {w w' : World} {T g N : Nat} {f : Nat → Value} {S : Nat → Prop} (h : RowF w T g N f) (k : Keeps w w' S) (hn : ¬ S g) : RowF w' T g N f := h.same (k.block g h.lt hn)
theorem OwnL.keep {w w' : World} {base : Nat} {v : Value} {L : List Int} {S : Nat → Prop} (h : OwnL w base v L) (k : Keeps w w' S) (hS : ∀ b, S b → b < base) : OwnL w' base v L := by
  obtain ⟨⟨h1, h2⟩, hv⟩ := h
  rcases h2 with ⟨rfl, _⟩ | ⟨g, cap, cur, rfl, hBg, hh, hr⟩
  · exact absurd rfl hv
  · have hg : g < w.heap.size := by
      rcases Nat.lt_or_ge g w.heap.size with c | c
      · exact c
      · rw [Array.getElem?_eq_none c] at hh; cases hh
    exact ⟨⟨h1, .inr ⟨g, cap, cur, rfl, hBg, (k.block g hg (fun x => by have := hS g x; omega)).trans hh, hr⟩⟩, hv⟩
/-- The bytes of the call's own, as a row. -/
theorem OwnL.row {w : World} {base : Nat} {v : Value} {L : List Int} (h : OwnL w base v L) : ∃ g cap, v = .slice (some ⟨g, 0, none⟩) L.length cap ∧ base ≤ g ∧ RowF w 5 g L.length (fun j => .int .u8 (L.getD j 0)) := by
  obtain ⟨⟨h1, h2⟩, hv⟩ := h
  rcases h2 with ⟨rfl, _⟩ | ⟨g, cap, cur, rfl, hBg, hh, hn, hm, hs, ht⟩
  · exact absurd rfl hv
  · refine ⟨g, cap, rfl, hBg, cur, hh, by omega, fun j hj => ?_⟩
    have hc : j < cur.size := by omega
    have e1 : (cur.toList.take (L.length * 1))[j]? = some cur[j] := by
      rw [List.getElem?_take, if_pos (by omega)]
      simp [hc]
    rw [ht, List.getElem?_map, List.getElem?_eq_getElem hj] at e1
    have e2 : Value.int .u8 L[j] = cur[j] := by simpa using e1
    show _ = some (Value.int .u8 (L.getD j 0))
    rw [Array.getElem?_eq_getElem hc, ← e2, List.getD_eq_getElem?_getD, List.getElem?_eq_getElem hj]
    rfl

def mkB (k j : Nat) : Value := .int .u8 (IntKind.u8.wrap ((k : Int) + (j : Int)))

set_option maxHeartbeats 800000 in
set_option maxRecDepth 100000 in
theorem markByteS_any (g N cap k : Nat) (f : Nat → Value) (w : World) (hN : N ≤ 1000000000) (hk : k ≤ 1000000000) (hc : N ≤ cap) (h : RowF w 5 g N f) :
    Calls Try.prog 11 #[.slice (some ⟨g, 0, none⟩) N cap, .int .i64 k] w fun e w' => e = .returned (.int .i64 ((k : Int) + (N : Int))) ∧ RowF w' 5 g N (mkB k) ∧ Keeps w w' (fun b => b = g) := by
  have HR := hide h
  clear h
  go_enter Try.func11, Try.ntmps11
  go_wp2
  go_loopw [1, 5] (fun kv iv wr => ∃ i : Nat, i ≤ N ∧ iv = .int .i64 i ∧ kv = .int .i64 ((k : Int) + (i : Int)) ∧ Hid (RowF wr 5 g N (fun j => if j < i then mkB k j else f j)) ∧ Hid (Keeps w wr (fun b => b = g))) (fun _ iv _ => N - ivN iv)
  case atStart => exact ⟨0, by omega, rfl, by simp, hide (HR.out.congr fun j hj => by simp), hide (Keeps.refl _ _)⟩
  case round =>
    obtain ⟨i, hi9, rfl, rfl, HRw, HKw⟩ := hrel
    by_cases hin : i < N
    · have c0 := HRw.out.cell hin
      have z0 := HRw.out.frz i
      have HS := hide (HRw.out.set hin (mkB k i))
      have HK2 := hide (HKw.out.setCell (j := i) (S := fun b => b = g) rfl (mkB k i))
      unfold mkB at HS HK2
      clear HRw HKw
      go_wp2_with fail
      go_roundw
      case rel =>
        refine ⟨i + 1, by omega, by simp, by simp; omega, hide (HS.out.congr fun j hj => ?_), HK2⟩
        by_cases e : j = i
        · subst e; simp [mkB]
        · by_cases e2 : j < i
          · simp [e, e2, show j < i + 1 by omega, mkB]
          · simp [e, e2, show ¬ j < i + 1 by omega]
      case measure => show N - ivN (.int .i64 _) < N - ivN (.int .i64 _); simp [ivN]; omega
    · obtain rfl : i = N := by omega
      go_wp2_with fail
      go_ret
      exact ⟨rfl, HRw.out.congr fun j hj => by simp [hj], HKw.out⟩

set_option maxHeartbeats 800000 in
set_option maxRecDepth 100000 in
theorem heldByteS_any (g N cap k : Nat) (w : World) (hN : N ≤ 1000000000) (hk : k ≤ 1000000000) (hc : N ≤ cap) (h : RowF w 5 g N (mkB k)) :
    Calls Try.prog 12 #[.slice (some ⟨g, 0, none⟩) N cap, .int .i64 k] w fun e w' => e = .returned (.int .i64 ((k : Int) + (N : Int))) ∧ w' = w := by
  have HR := hide h
  clear h
  go_enter Try.func12, Try.ntmps12
  go_wp2
  go_loopw [1, 5] (fun kv iv wr => ∃ i : Nat, i ≤ N ∧ iv = .int .i64 i ∧ kv = .int .i64 ((k : Int) + (i : Int)) ∧ wr = w) (fun _ iv _ => N - ivN iv)
  case atStart => exact ⟨0, by omega, rfl, by simp, rfl⟩
  case round =>
    obtain ⟨i, hi9, rfl, rfl, rfl⟩ := hrel
    by_cases hin : i < N
    · have c0 := HR.out.cell hin
      unfold mkB at c0
      go_wp2_with fail
      go_roundw
      case rel => exact ⟨i + 1, by omega, by simp, by simp; omega, trivial⟩
      case measure => show N - ivN (.int .i64 _) < N - ivN (.int .i64 _); simp [ivN]; omega
    · obtain rfl : i = N := by omega
      go_wp2_with fail
      go_ret
      exact ⟨rfl, rfl⟩

end Go.Proofs.Ytplfgfdlcfdfdaa
