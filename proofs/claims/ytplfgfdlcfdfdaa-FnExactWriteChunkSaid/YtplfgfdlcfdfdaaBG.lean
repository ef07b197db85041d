import Derived.Test.YtplfgfdlcfdfdaaBF
namespace Go.Proofs.Ytplfgfdlcfdfdaa
open Go Go.RowKit
set_option linter.unusedVariables false

/-- An instruction while it is looked at: the chunk's list, the function's number, the function. -/
def XV (v : Value) (k : Nat) (p : PV) (s4 s5 s6 s7 : Value) : Value := .agg #[v, .int .i64 k, .int .i64 p.params, .int .i64 p.regs, .int .i64 p.line, .bool p.dots, s4, s5, s6, s7]
def insV (o a b c : Int) : Value := .agg #[.int .i64 o, .int .i64 a, .int .i64 b, .int .i64 c]

def makesI (o a b c : Int) : Prop := (o = 28 ∧ c = 0) ∨ (o = 31 ∧ b = 0)
def takesI (o a b c : Int) : Int := if ((o = 28 ∨ o = 29) ∧ b = 0) ∨ o = 18 then a + 1 else if o = 30 ∧ b = 0 then a else -1
def knownI (o : Int) : Prop := (1 ≤ o ∧ o ≤ 38) ∨ (65 ≤ o ∧ o ≤ 78)

theorem boolR_iff {Q : Prop} {b : Bool} (h : Q ↔ b = true) : BoolR Q b := by
  cases b
  · exact .inr ⟨rfl, fun q => by have := h.1 q; cases this⟩
  · exact .inl ⟨rfl, h.2 rfl⟩
theorem ret_int {k : IntKind} {a b : Int} (h : a = b) : Ending.returned (.int k a) = .returned (.int k b) := by rw [h]

end Go.Proofs.Ytplfgfdlcfdfdaa
