import Derived.Test.YtkfbkglkcfaeeaaBF
namespace Go.Proofs.Ytkfbkglkcfaeeaa
open Go Go.RowKit
set_option linter.unusedVariables false

/-- An instruction while it is looked at: the chunk's list, the function's number, the function. -/
def XV (v : Value) (k : Nat) (p : PV) (s4 s5 s6 s7 : Value) : Value := .agg #[v, .int .i64 k, .int .i64 p.params, .int .i64 p.regs, .int .i64 p.line, .bool p.dots, s4, s5, s6, s7]
def insV (o a b c : Int) : Value := .agg #[.int .i64 o, .int .i64 a, .int .i64 b, .int .i64 c]

def makesI (o a b c : Int) : Prop := (o = 28 ∧ c = 0) ∨ (o = 31 ∧ b = 0)
def takesI (o a b c : Int) : Int := if ((o = 28 ∨ o = 29) ∧ b = 0) ∨ o = 18 then a + 1 else if o = 30 ∧ b = 0 then a else -1
def knownI (o : Int) : Prop := (1 ≤ o ∧ o ≤ 38) ∨ (65 ≤ o ∧ o ≤ 78)

theorem boolR_iff {Q : Prop} {b : Bool} (h : Q ↔ b = true) : BoolR Q b := by
  cases b
  · exact .inr ⟨rfl, fun q => by have := h.1 q; cases this⟩
  · exact .inl ⟨rfl, h.2 rfl⟩
theorem ret_int {k : IntKind} {a b : Int} (h : a = b) : Ending.returned (.int k a) = .returned (.int k b) := by rw [h]

set_option maxHeartbeats 1600000 in
set_option maxRecDepth 100000 in
theorem makes_any (o a b c : Int) (w : World) :
    Calls Try.prog 94 #[insV o a b c] w fun e w' => RetB (makesI o a b c) w e w' := by
  unfold insV
  go_enter Try.func94, Try.ntmps94
  go_wp2
  all_goals go_ret
  all_goals refine ⟨_, rfl, boolR_iff ?_, b_1 _ _⟩
  all_goals (simp_all [makesI])

set_option maxHeartbeats 1600000 in
set_option maxRecDepth 100000 in
theorem takes_any (o a b c : Int) (w : World) (ha : 0 ≤ a) (ha2 : a ≤ 255) :
    Calls Try.prog 93 #[insV o a b c] w fun e w' => e = .returned (.int .i64 (takesI o a b c)) ∧ Below w.heap.size w w' := by
  unfold insV
  go_enter Try.func93, Try.ntmps93
  go_wp2
  all_goals go_ret
  all_goals refine ⟨ret_int ?_, b_1 _ _⟩
  all_goals (simp_all [takesI])

set_option maxHeartbeats 1600000 in
set_option maxRecDepth 100000 in
theorem known_any (v : Value) (k : Nat) (p : PV) (s4 s5 s6 s7 : Value) (o a b c : Int) (w : World) :
    Calls Try.prog 63 #[XV v k p s4 s5 s6 s7, insV o a b c] w fun e w' => RetB (knownI o) w e w' := by
  unfold XV insV
  go_enter Try.func63, Try.ntmps63
  go_wp2_with (go_at_call 35; refine (l07In_any _ _ _ _).mono ?_; rintro e w' ⟨rfl, rfl⟩)
  all_goals go_ret
  all_goals refine ⟨_, rfl, boolR_iff ?_, b_2 _ _ _⟩
  all_goals (simp_all [knownI, inI])
  all_goals omega

end Go.Proofs.Ytkfbkglkcfaeeaa
