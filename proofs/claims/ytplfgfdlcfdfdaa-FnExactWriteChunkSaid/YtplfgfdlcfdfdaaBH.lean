import Derived.Test.YtplfgfdlcfdfdaaBG
namespace Go.Proofs.Ytplfgfdlcfdfdaa
open Go Go.RowKit
set_option linter.unusedVariables false

def regI (p : PV) (r : Int) : Prop := 0 ≤ r ∧ r < p.regs
def textI (p : PV) (k : Int) : Prop := 0 ≤ k ∧ k < p.nc ∧ p.c0 k.toNat = 6
def constsI (p : PV) (o a b c : Int) : Prop := (o = 6 → 0 ≤ b ∧ b < p.nc) ∧ (o = 9 ∨ o = 10 ∨ o = 14 → textI p b) ∧ (o = 13 ∨ o = 15 → textI p c)
def countsI (p : PV) (o a b c : Int) : Prop :=
  (o = 3 → 1 ≤ b ∧ b ≤ p.regs - a) ∧ (o = 4 → b = 0 ∨ b = 1) ∧ (o = 5 → -32768 ≤ b ∧ b ≤ 32767) ∧ (o = 17 ∨ o = 18 → 1 ≤ b) ∧ (o = 28 → 0 ≤ b ∧ 0 ≤ c ∧ b ≤ p.regs - a ∧ c ≤ p.regs - a + 1) ∧
    (o = 29 → 0 ≤ b ∧ b ≤ p.regs - a) ∧ (o = 30 ∨ o = 31 → 0 ≤ b ∧ b ≤ p.regs - a + 1) ∧ (o = 37 → 1 ≤ b ∧ b ≤ p.regs - a - 3)

end Go.Proofs.Ytplfgfdlcfdfdaa
