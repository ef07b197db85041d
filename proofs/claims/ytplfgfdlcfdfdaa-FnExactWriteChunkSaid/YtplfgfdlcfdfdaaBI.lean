import Derived.Test.YtplfgfdlcfdfdaaBH
namespace Go.Proofs.Ytplfgfdlcfdfdaa
open Go Go.RowKit
set_option linter.unusedVariables false

theorem BoolR.congr {Q Q' : Prop} {b : Bool} (h : BoolR Q b) (e : Q ↔ Q') : BoolR Q' b := by
  rcases h with ⟨h1, h2⟩ | ⟨h1, h2⟩
  · exact .inl ⟨h1, e.1 h2⟩
  · exact .inr ⟨h1, fun q => h2 (e.2 q)⟩

/-- The upvalues of q can be taken in p. -/
def upsI (p q : PV) (m : Nat) : Prop := ∀ j, j < m → (q.u0 j = true → regI p (q.u1 j)) ∧ (q.u0 j = false → q.u1 j < p.nu)

end Go.Proofs.Ytplfgfdlcfdfdaa
