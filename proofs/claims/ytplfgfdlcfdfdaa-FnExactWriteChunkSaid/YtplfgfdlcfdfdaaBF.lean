import Derived.Test.YtplfgfdlcfdfdaaBE
namespace Go.Proofs.Ytplfgfdlcfdfdaa
open Go Go.RowKit
set_option linter.unusedVariables false

/-- What chapter 9 asks of a function's shape, beside what files ask. -/
def shape2 (p : PV) : Prop := p.params ≤ 180 ∧ p.params ≤ p.regs ∧ inI p.regs 1 250 = true ∧ p.nu ≤ 60 ∧ p.nc ≤ 4000 ∧ inI (p.ni : Int) 1 20000 = true
def lastOk (p : PV) : Prop := p.params = 0 ∧ p.dots = true ∧ p.nu = 0
def shapeOk (n : Nat) (P : Nat → PV) (k : Nat) : Prop := plainOk (P k) ∧ shape2 (P k) ∧ (k + 1 = n → lastOk (P k))
def allBits (n : Nat) (P : Nat → PV) : Prop := ∀ k, k < n → (P k).bitsOk

end Go.Proofs.Ytplfgfdlcfdfdaa
