import Derived.Test.YtgnbhhgpaldheaaGreatKBI
namespace Go.Proofs.YtgnbhhgpaldheaaGreat
open Go Go.RowKit
set_option linter.unusedVariables false
def regsL (o a b c : Int) : List Int :=
  if o = 1 ∨ o = 25 then [] else
  if o = 2 ∨ o = 23 ∨ o = 24 ∨ o = 77 ∨ o = 78 then [a, b] else
  if o = 11 ∨ o = 12 ∨ o = 19 ∨ o = 20 ∨ o = 21 ∨ o = 22 then [a, b, c] else
  if o = 13 then [a, b] else
  if o = 14 ∨ o = 17 then [a, c] else
  if o = 15 then [a, a + 1, b] else
  if o = 35 ∨ o = 36 then [a, a + 3] else
  if o = 37 then [a, a + 5] else
  if o = 38 then [a, a + 3] else
  if 64 < o then [a, b, c] else [a]
def LstA (w : World) (v : Value) (l : List Int) : Prop := IntsA w v l.length (fun j => l.getD j 0)
theorem lst0 (w : World) : LstA w (.slice none 0 0) [] := .inl ⟨rfl, _, _, rfl⟩
theorem lst_mk (w : World) (T : Nat) (l : List Int) : LstA (w.alloc (.cells (l.map (Value.int .i64)).toArray T)) (.slice (some ⟨w.heap.size, 0, none⟩) l.length l.length) l := by
  refine .inr ⟨w.heap.size, 0, l.length, rfl, by simp, Nat.le_refl _, fun i hi => ?_⟩
  have := (RowF.mk' w T (l.map (Value.int .i64)).toArray).cell (j := i) (by simpa using hi)
  rw [Nat.zero_add, this]
  simp [hi]
theorem lst3 (w : World) (o1 o2 : Obj) (T : Nat) (l : List Int) : LstA (((w.alloc o1).alloc o2).alloc (.cells (l.map (Value.int .i64)).toArray T)) (.slice (some ⟨w.heap.size + 1 + 1, 0, none⟩) l.length l.length) l := by
  have h := lst_mk ((w.alloc o1).alloc o2) T l
  have e : ((w.alloc o1).alloc o2).heap.size = w.heap.size + 1 + 1 := by simp
  rw [e] at h
  exact h
set_option maxHeartbeats 3200000 in
set_option maxRecDepth 100000 in
theorem regs_any (v : Value) (k : Nat) (p : PV) (s4 s5 s6 s7 : Value) (o a b c : Int) (w : World) (ha0 : 0 ≤ a) (ha1 : a ≤ 255) :
    Calls Tryz.prog 68 #[XV v k p s4 s5 s6 s7, insV o a b c] w fun e w' => ∃ v', e = .returned v' ∧ LstA w' v' (regsL o a b c) ∧ Below w.heap.size w w' := by
  unfold XV insV
  go_enter Tryz.func68, Tryz.ntmps68
  go_wp2
  all_goals go_ret
  all_goals first
    | (refine ⟨_, rfl, ?_, b_2 _ _ _⟩; exact (show regsL o a b c = [] by simp_all [regsL]) ▸ lst0 _)
    | (refine ⟨_, rfl, ?_, b_3 _ _ _ _⟩; exact (show regsL o a b c = [a, b] by simp_all [regsL]) ▸ lst3 w _ _ 3 [a, b])
    | (refine ⟨_, rfl, ?_, b_3 _ _ _ _⟩; exact (show regsL o a b c = [a, b, c] by simp_all [regsL]) ▸ lst3 w _ _ 3 [a, b, c])
    | (refine ⟨_, rfl, ?_, b_3 _ _ _ _⟩; exact (show regsL o a b c = [a, c] by simp_all [regsL]) ▸ lst3 w _ _ 3 [a, c])
    | (refine ⟨_, rfl, ?_, b_3 _ _ _ _⟩; exact (show regsL o a b c = [a, a + 1, b] by simp_all [regsL]) ▸ lst3 w _ _ 3 [a, a + 1, b])
    | (refine ⟨_, rfl, ?_, b_3 _ _ _ _⟩; exact (show regsL o a b c = [a, a + 3] by simp_all [regsL]) ▸ lst3 w _ _ 3 [a, a + 3])
    | (refine ⟨_, rfl, ?_, b_3 _ _ _ _⟩; exact (show regsL o a b c = [a, a + 5] by simp_all [regsL]) ▸ lst3 w _ _ 3 [a, a + 5])
    | (refine ⟨_, rfl, ?_, b_3 _ _ _ _⟩; exact (show regsL o a b c = [a] by simp_all [regsL]) ▸ lst3 w _ _ 3 [a])
end Go.Proofs.YtgnbhhgpaldheaaGreat
