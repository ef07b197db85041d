import Derived.Test.YtplfgfdlcfdfdaaBN
import Derived.Test.YtplfgfdlcfdfdaaBQ
namespace Go.Proofs.Ytplfgfdlcfdfdaa
open Go Go.RowKit
set_option linter.unusedVariables false

/-- What Verify is to answer, at function f. -/
def VerifyAt (f : Nat) : Prop := ∀ (v : Value) (n : Nat) (P : Nat → PV) (w : World), n ≤ 1048576 → allFit n P 1048576 → allBits n P → ProsA w v n P →
  Calls Try.prog f #[.agg #[v]] w fun e w' => ∃ a b c, e = .returned (verV a b c) ∧ VerR n P a b c ∧ Below w.heap.size w w'

theorem allFit_of {n : Nat} {P : Nat → PV} {l : Int} (h : allFit n P l.toNat) (hl : l ≤ 1048576) : allFit n P 1048576 := fun k hk => (h k hk).mono (by omega)

end Go.Proofs.Ytplfgfdlcfdfdaa
