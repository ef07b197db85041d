import Derived.Test.YtplfgfdlcfdfdaaBK
namespace Go.Proofs.Ytplfgfdlcfdfdaa
open Go Go.RowKit
set_option linter.unusedVariables false

/-- The first half of what is asked of open values: the instruction makes some. -/
def openA (p : PV) (j : Nat) : Prop := j + 1 < p.ni ∧ 0 ≤ tkP p (j + 1) ∧ tkP p (j + 1) ≤ p.i1 j

end Go.Proofs.Ytplfgfdlcfdfdaa
