import Derived.Test.YtgnbhhgpaldheaaGreatKD10
namespace Go.Proofs.YtgnbhhgpaldheaaGreat
open Go Go.RowKit
set_option linter.unusedVariables false
def nmK (o : Int) : Int := if o = 6 ∨ o = 9 ∨ o = 10 ∨ o = 14 then 1 else if o = 13 ∨ o = 15 then 2 else 0
set_option maxHeartbeats 1600000 in
set_option maxRecDepth 100000 in
theorem names_any (o : Int) (w : World) : Calls Tryz.prog 34 #[.int .i64 o] w fun e w' => e = .returned (.int .i64 (nmK o)) ∧ w' = w := by
  obtain ⟨K, hK⟩ : ∃ K, nmK o = K := ⟨_, rfl⟩
  rw [hK]
  have HK := hide hK
  clear hK
  go_enter Tryz.func34, Tryz.ntmps34
  go_wp2
  all_goals go_ret
  all_goals refine ⟨ret_int ?_, rfl⟩
  all_goals (rw [← HK.out]; unfold nmK; simp_all)
theorem nmK_cases (o : Int) : nmK o = 0 ∨ nmK o = 1 ∨ nmK o = 2 := by
  unfold nmK
  split
  · exact .inr (.inl rfl)
  · split
    · exact .inr (.inr rfl)
    · exact .inl rfl
def nmd (p : PV) (j : Nat) : Option Nat := if nmK (p.i0 j) = 1 then some (p.i2 j).toNat else if nmK (p.i0 j) = 2 then some (p.i3 j).toNat else none
def usd (p : PV) (m : Nat) (c : Nat) : Bool := (List.range m).any (fun j => nmd p j == some c)
theorem usd_1 (p : PV) (m c : Nat) : usd p (m + 1) c = (usd p m c || (nmd p m == some c)) := by
  unfold usd
  rw [List.range_succ, List.any_append]
  simp
def PV.cst (p : PV) : PV := { p with
  nc := cnt (usd p p.ni) p.nc
  c0 := fun j => p.c0 (kpAt (usd p p.ni) p.nc j)
  c1 := fun j => p.c1 (kpAt (usd p p.ni) p.nc j)
  c2 := fun j => p.c2 (kpAt (usd p p.ni) p.nc j)
  c3 := fun j => p.c3 (kpAt (usd p p.ni) p.nc j)
  i2 := fun j => if nmK (p.i0 j) = 1 then (cnt (usd p p.ni) (p.i2 j).toNat : Int) else p.i2 j
  i3 := fun j => if nmK (p.i0 j) = 2 then (cnt (usd p p.ni) (p.i3 j).toNat : Int) else p.i3 j }
def PV.nmOk (p : PV) : Prop := ∀ j, j < p.ni → (nmK (p.i0 j) = 1 → 0 ≤ p.i2 j ∧ p.i2 j < p.nc) ∧ (nmK (p.i0 j) = 2 → 0 ≤ p.i3 j ∧ p.i3 j < p.nc)
def conC (p : PV) (k : Nat) : List Value := [.int .i64 (p.c0 k), .int .i64 (p.c1 k), .int .u64 (p.c2 k), .string (p.c3 k)]
def conK (p : PV) (s : Nat → Bool) (m : Nat) : List Value := (kp s m).flatMap (conC p)
theorem conK_1 (p : PV) (s : Nat → Bool) (m : Nat) (h : s m = true) : conK p s (m + 1) = conK p s m ++ conC p m := by
  unfold conK
  rw [kp_1, h]
  simp
theorem conK_n (p : PV) (s : Nat → Bool) (m : Nat) (h : s m = false) : conK p s (m + 1) = conK p s m := by
  unfold conK
  rw [kp_1, h]
  simp
theorem conK_at {p : PV} {s : Nat → Bool} {m j : Nat} (h : j < cnt s m) {r : Nat} (hr : r < 4) : (conK p s m).getD (j * 4 + r) (.bool false) = (conC p (kpAt s m j)).getD r (.bool false) := by
  unfold conK kpAt
  have key : ∀ (l : List Nat) (j : Nat), j < l.length → (l.flatMap (conC p)).getD (j * 4 + r) (.bool false) = (conC p (l.getD j 0)).getD r (.bool false) := by
    intro l
    induction l with
    | nil => intro j hj; simp at hj
    | cons x l ih =>
      intro j hj
      rw [List.flatMap_cons]
      have hx : (conC p x).length = 4 := rfl
      cases j with
      | zero =>
        rw [List.getD_eq_getElem?_getD, List.getElem?_append_left (by omega)]
        rw [Nat.zero_mul, Nat.zero_add]
        rfl
      | succ j =>
        rw [List.getD_eq_getElem?_getD, List.getElem?_append_right (by omega), hx, show (j + 1) * 4 + r - 4 = j * 4 + r by omega, ← List.getD_eq_getElem?_getD]
        rw [ih j (by simpa using hj)]
        rfl
  exact key _ j h
theorem InsO.set3 {w : World} {g n : Nat} {i0 i1 i2 i3 : Nat → Int} (h : InsO w g n i0 i1 i2 i3) {k : Nat} (hk : k < n) (x : Int) : InsO (w.setCell ⟨g, k * 4 + 3, none⟩ (.int .i64 x)) g n i0 i1 i2 (fun q => if q = k then x else i3 q) := by
  obtain ⟨f, h1, h2⟩ := h
  refine ⟨_, h1.set (by omega) _, fun i hi => ?_⟩
  obtain ⟨e0, e1, e2, e3⟩ := h2 i hi
  refine ⟨?_, ?_, ?_, ?_⟩
  · rw [if_neg (by omega)]; exact e0
  · rw [if_neg (by omega)]; exact e1
  · rw [if_neg (by omega)]; exact e2
  · by_cases c : i = k
    · subst c; simp
    · rw [if_neg (by omega)]; simp only [if_neg c]; exact e3
def upK (f g : Nat → Int) (k j : Nat) : Int := if j < k then f j else g j
theorem upK_0 (f g : Nat → Int) (j : Nat) : upK f g 0 j = g j := by unfold upK; rw [if_neg (by omega)]
theorem upK_k (f g : Nat → Int) (k : Nat) : upK f g k k = g k := by unfold upK; rw [if_neg (by omega)]
theorem upK_n {f g : Nat → Int} {k n j : Nat} (hk : n ≤ k) (hj : j < n) : upK f g k j = f j := by unfold upK; rw [if_pos (by omega)]
theorem upK_1 {f g : Nat → Int} {k : Nat} (j : Nat) (h : f k = g k) : upK f g (k + 1) j = upK f g k j := by
  unfold upK
  by_cases e : j = k
  · subst e; rw [if_pos (by omega), if_neg (by omega), h]
  · by_cases e2 : j < k
    · rw [if_pos (by omega), if_pos e2]
    · rw [if_neg (by omega), if_neg e2]
theorem upK_s {f g : Nat → Int} {k : Nat} (j : Nat) : upK f g (k + 1) j = if j = k then f k else upK f g k j := by
  unfold upK
  by_cases e : j = k
  · subst e; rw [if_pos (by omega), if_pos rfl]
  · rw [if_neg e]
    by_cases e2 : j < k
    · rw [if_pos (by omega), if_pos e2]
    · rw [if_neg (by omega), if_neg e2]
theorem owns_low {w w' : World} {base e size n : Nat} {v : Value} {xs : List Value} (h : w.ownsRow base e size v n xs) (hb : Below w.heap.size w w') : w'.ownsRow base e size v n xs :=
  owns_past h (Keeps.of hb (Nat.le_refl _) (fun _ => False)) (fun _ _ x => x)
end Go.Proofs.YtgnbhhgpaldheaaGreat
