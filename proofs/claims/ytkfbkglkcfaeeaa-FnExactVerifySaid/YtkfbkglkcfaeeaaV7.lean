import Derived.Test.YtkfbkglkcfaeeaaV6
namespace Go.Proofs.Ytkfbkglkcfaeeaa
open Go Go.RowKit
set_option linter.unusedVariables false

theorem all4 {R : Nat → Prop} : (∀ q, q < 4 → R q) ↔ R 0 ∧ R 1 ∧ R 2 ∧ R 3 := by
  constructor
  · intro h
    exact ⟨h 0 (by omega), h 1 (by omega), h 2 (by omega), h 3 (by omega)⟩
  · rintro ⟨h0, h1, h2, h3⟩ q hq
    have : q = 0 ∨ q = 1 ∨ q = 2 ∨ q = 3 := by omega
    rcases this with rfl | rfl | rfl | rfl <;> assumption
theorem inI_lt {v : Int} {n : Nat} : inI v 0 ((n : Int) - 1) = true ↔ 0 ≤ v ∧ v < (n : Int) := by rw [inI_iff]; omega
/-- Of the four things that an instruction names, those whose lack has the code n are there. -/
def ThereC (P : Nat → PV) (k : Nat) (p : PV) (j : Nat) (n : Int) : Prop := ∀ q, q < 4 → woC (opN (nmA (p.i0 j)) (nmB (p.i0 j)) (nmC (p.i0 j)) q) = n → woQ P k p j (opN (nmA (p.i0 j)) (nmB (p.i0 j)) (nmC (p.i0 j)) q) (opV p j (nmY (p.i0 j)) q)
def FiveC (P : Nat → PV) (k : Nat) (p : PV) (j : Nat) : Prop :=
  (regsAll p (regsL (p.i0 j) (p.i1 j) (p.i2 j) (p.i3 j)) ↔ ThereC P k p j 3) ∧ (constsI p (p.i0 j) (p.i1 j) (p.i2 j) (p.i3 j) ↔ ThereC P k p j 4) ∧ (upOk p j ↔ ThereC P k p j 5) ∧ (protoOk P k p j ↔ ThereC P k p j 6) ∧ (jumpI p j ↔ ThereC P k p j 7)

theorem five1 {P : Nat → PV} {k : Nat} {p : PV} {j : Nat} (ho : p.i0 j = 1) : FiveC P k p j := by
  unfold FiveC ThereC
  rw [all4, all4, all4, all4, all4, ho]
  simp [opN, opV, nmA, nmB, nmC, nmY, woC, woQ, regsAll, regsL, constsI, upOk, protoOk, jumpI, jumpsI, ho, inI_lt]

theorem five2 {P : Nat → PV} {k : Nat} {p : PV} {j : Nat} (ho : p.i0 j = 2) : FiveC P k p j := by
  unfold FiveC ThereC
  rw [all4, all4, all4, all4, all4, ho]
  simp [opN, opV, nmA, nmB, nmC, nmY, woC, woQ, regsAll, regsL, constsI, upOk, protoOk, jumpI, jumpsI, ho, inI_lt]

theorem five3 {P : Nat → PV} {k : Nat} {p : PV} {j : Nat} (ho : p.i0 j = 3) : FiveC P k p j := by
  unfold FiveC ThereC
  rw [all4, all4, all4, all4, all4, ho]
  simp [opN, opV, nmA, nmB, nmC, nmY, woC, woQ, regsAll, regsL, constsI, upOk, protoOk, jumpI, jumpsI, ho, inI_lt]

theorem five4 {P : Nat → PV} {k : Nat} {p : PV} {j : Nat} (ho : p.i0 j = 4) : FiveC P k p j := by
  unfold FiveC ThereC
  rw [all4, all4, all4, all4, all4, ho]
  simp [opN, opV, nmA, nmB, nmC, nmY, woC, woQ, regsAll, regsL, constsI, upOk, protoOk, jumpI, jumpsI, ho, inI_lt]

theorem five5 {P : Nat → PV} {k : Nat} {p : PV} {j : Nat} (ho : p.i0 j = 5) : FiveC P k p j := by
  unfold FiveC ThereC
  rw [all4, all4, all4, all4, all4, ho]
  simp [opN, opV, nmA, nmB, nmC, nmY, woC, woQ, regsAll, regsL, constsI, upOk, protoOk, jumpI, jumpsI, ho, inI_lt]

theorem five6 {P : Nat → PV} {k : Nat} {p : PV} {j : Nat} (ho : p.i0 j = 6) : FiveC P k p j := by
  unfold FiveC ThereC
  rw [all4, all4, all4, all4, all4, ho]
  simp [opN, opV, nmA, nmB, nmC, nmY, woC, woQ, regsAll, regsL, constsI, upOk, protoOk, jumpI, jumpsI, ho, inI_lt]

theorem five7 {P : Nat → PV} {k : Nat} {p : PV} {j : Nat} (ho : p.i0 j = 7) : FiveC P k p j := by
  unfold FiveC ThereC
  rw [all4, all4, all4, all4, all4, ho]
  simp [opN, opV, nmA, nmB, nmC, nmY, woC, woQ, regsAll, regsL, constsI, upOk, protoOk, jumpI, jumpsI, ho, inI_lt]

theorem five8 {P : Nat → PV} {k : Nat} {p : PV} {j : Nat} (ho : p.i0 j = 8) : FiveC P k p j := by
  unfold FiveC ThereC
  rw [all4, all4, all4, all4, all4, ho]
  simp [opN, opV, nmA, nmB, nmC, nmY, woC, woQ, regsAll, regsL, constsI, upOk, protoOk, jumpI, jumpsI, ho, inI_lt]

theorem five9 {P : Nat → PV} {k : Nat} {p : PV} {j : Nat} (ho : p.i0 j = 9) : FiveC P k p j := by
  unfold FiveC ThereC
  rw [all4, all4, all4, all4, all4, ho]
  simp [opN, opV, nmA, nmB, nmC, nmY, woC, woQ, regsAll, regsL, constsI, upOk, protoOk, jumpI, jumpsI, ho, inI_lt]

theorem five10 {P : Nat → PV} {k : Nat} {p : PV} {j : Nat} (ho : p.i0 j = 10) : FiveC P k p j := by
  unfold FiveC ThereC
  rw [all4, all4, all4, all4, all4, ho]
  simp [opN, opV, nmA, nmB, nmC, nmY, woC, woQ, regsAll, regsL, constsI, upOk, protoOk, jumpI, jumpsI, ho, inI_lt]

theorem five11 {P : Nat → PV} {k : Nat} {p : PV} {j : Nat} (ho : p.i0 j = 11) : FiveC P k p j := by
  unfold FiveC ThereC
  rw [all4, all4, all4, all4, all4, ho]
  simp [opN, opV, nmA, nmB, nmC, nmY, woC, woQ, regsAll, regsL, constsI, upOk, protoOk, jumpI, jumpsI, ho, inI_lt]

theorem five12 {P : Nat → PV} {k : Nat} {p : PV} {j : Nat} (ho : p.i0 j = 12) : FiveC P k p j := by
  unfold FiveC ThereC
  rw [all4, all4, all4, all4, all4, ho]
  simp [opN, opV, nmA, nmB, nmC, nmY, woC, woQ, regsAll, regsL, constsI, upOk, protoOk, jumpI, jumpsI, ho, inI_lt]

theorem five13 {P : Nat → PV} {k : Nat} {p : PV} {j : Nat} (ho : p.i0 j = 13) : FiveC P k p j := by
  unfold FiveC ThereC
  rw [all4, all4, all4, all4, all4, ho]
  simp [opN, opV, nmA, nmB, nmC, nmY, woC, woQ, regsAll, regsL, constsI, upOk, protoOk, jumpI, jumpsI, ho, inI_lt]

theorem five14 {P : Nat → PV} {k : Nat} {p : PV} {j : Nat} (ho : p.i0 j = 14) : FiveC P k p j := by
  unfold FiveC ThereC
  rw [all4, all4, all4, all4, all4, ho]
  simp [opN, opV, nmA, nmB, nmC, nmY, woC, woQ, regsAll, regsL, constsI, upOk, protoOk, jumpI, jumpsI, ho, inI_lt]

theorem five15 {P : Nat → PV} {k : Nat} {p : PV} {j : Nat} (ho : p.i0 j = 15) : FiveC P k p j := by
  unfold FiveC ThereC
  rw [all4, all4, all4, all4, all4, ho]
  simp [opN, opV, nmA, nmB, nmC, nmY, woC, woQ, regsAll, regsL, constsI, upOk, protoOk, jumpI, jumpsI, ho, inI_lt]

theorem five16 {P : Nat → PV} {k : Nat} {p : PV} {j : Nat} (ho : p.i0 j = 16) : FiveC P k p j := by
  unfold FiveC ThereC
  rw [all4, all4, all4, all4, all4, ho]
  simp [opN, opV, nmA, nmB, nmC, nmY, woC, woQ, regsAll, regsL, constsI, upOk, protoOk, jumpI, jumpsI, ho, inI_lt]

theorem five17 {P : Nat → PV} {k : Nat} {p : PV} {j : Nat} (ho : p.i0 j = 17) : FiveC P k p j := by
  unfold FiveC ThereC
  rw [all4, all4, all4, all4, all4, ho]
  simp [opN, opV, nmA, nmB, nmC, nmY, woC, woQ, regsAll, regsL, constsI, upOk, protoOk, jumpI, jumpsI, ho, inI_lt]

theorem five18 {P : Nat → PV} {k : Nat} {p : PV} {j : Nat} (ho : p.i0 j = 18) : FiveC P k p j := by
  unfold FiveC ThereC
  rw [all4, all4, all4, all4, all4, ho]
  simp [opN, opV, nmA, nmB, nmC, nmY, woC, woQ, regsAll, regsL, constsI, upOk, protoOk, jumpI, jumpsI, ho, inI_lt]

theorem five19 {P : Nat → PV} {k : Nat} {p : PV} {j : Nat} (ho : p.i0 j = 19) : FiveC P k p j := by
  unfold FiveC ThereC
  rw [all4, all4, all4, all4, all4, ho]
  simp [opN, opV, nmA, nmB, nmC, nmY, woC, woQ, regsAll, regsL, constsI, upOk, protoOk, jumpI, jumpsI, ho, inI_lt]

theorem five20 {P : Nat → PV} {k : Nat} {p : PV} {j : Nat} (ho : p.i0 j = 20) : FiveC P k p j := by
  unfold FiveC ThereC
  rw [all4, all4, all4, all4, all4, ho]
  simp [opN, opV, nmA, nmB, nmC, nmY, woC, woQ, regsAll, regsL, constsI, upOk, protoOk, jumpI, jumpsI, ho, inI_lt]

theorem five21 {P : Nat → PV} {k : Nat} {p : PV} {j : Nat} (ho : p.i0 j = 21) : FiveC P k p j := by
  unfold FiveC ThereC
  rw [all4, all4, all4, all4, all4, ho]
  simp [opN, opV, nmA, nmB, nmC, nmY, woC, woQ, regsAll, regsL, constsI, upOk, protoOk, jumpI, jumpsI, ho, inI_lt]

theorem five22 {P : Nat → PV} {k : Nat} {p : PV} {j : Nat} (ho : p.i0 j = 22) : FiveC P k p j := by
  unfold FiveC ThereC
  rw [all4, all4, all4, all4, all4, ho]
  simp [opN, opV, nmA, nmB, nmC, nmY, woC, woQ, regsAll, regsL, constsI, upOk, protoOk, jumpI, jumpsI, ho, inI_lt]

theorem five23 {P : Nat → PV} {k : Nat} {p : PV} {j : Nat} (ho : p.i0 j = 23) : FiveC P k p j := by
  unfold FiveC ThereC
  rw [all4, all4, all4, all4, all4, ho]
  simp [opN, opV, nmA, nmB, nmC, nmY, woC, woQ, regsAll, regsL, constsI, upOk, protoOk, jumpI, jumpsI, ho, inI_lt]

theorem five24 {P : Nat → PV} {k : Nat} {p : PV} {j : Nat} (ho : p.i0 j = 24) : FiveC P k p j := by
  unfold FiveC ThereC
  rw [all4, all4, all4, all4, all4, ho]
  simp [opN, opV, nmA, nmB, nmC, nmY, woC, woQ, regsAll, regsL, constsI, upOk, protoOk, jumpI, jumpsI, ho, inI_lt]

theorem five25 {P : Nat → PV} {k : Nat} {p : PV} {j : Nat} (ho : p.i0 j = 25) : FiveC P k p j := by
  unfold FiveC ThereC
  rw [all4, all4, all4, all4, all4, ho]
  simp [opN, opV, nmA, nmB, nmC, nmY, woC, woQ, regsAll, regsL, constsI, upOk, protoOk, jumpI, jumpsI, ho, inI_lt]

theorem five26 {P : Nat → PV} {k : Nat} {p : PV} {j : Nat} (ho : p.i0 j = 26) : FiveC P k p j := by
  unfold FiveC ThereC
  rw [all4, all4, all4, all4, all4, ho]
  simp [opN, opV, nmA, nmB, nmC, nmY, woC, woQ, regsAll, regsL, constsI, upOk, protoOk, jumpI, jumpsI, ho, inI_lt]

theorem five27 {P : Nat → PV} {k : Nat} {p : PV} {j : Nat} (ho : p.i0 j = 27) : FiveC P k p j := by
  unfold FiveC ThereC
  rw [all4, all4, all4, all4, all4, ho]
  simp [opN, opV, nmA, nmB, nmC, nmY, woC, woQ, regsAll, regsL, constsI, upOk, protoOk, jumpI, jumpsI, ho, inI_lt]

theorem five28 {P : Nat → PV} {k : Nat} {p : PV} {j : Nat} (ho : p.i0 j = 28) : FiveC P k p j := by
  unfold FiveC ThereC
  rw [all4, all4, all4, all4, all4, ho]
  simp [opN, opV, nmA, nmB, nmC, nmY, woC, woQ, regsAll, regsL, constsI, upOk, protoOk, jumpI, jumpsI, ho, inI_lt]

theorem five29 {P : Nat → PV} {k : Nat} {p : PV} {j : Nat} (ho : p.i0 j = 29) : FiveC P k p j := by
  unfold FiveC ThereC
  rw [all4, all4, all4, all4, all4, ho]
  simp [opN, opV, nmA, nmB, nmC, nmY, woC, woQ, regsAll, regsL, constsI, upOk, protoOk, jumpI, jumpsI, ho, inI_lt]

theorem five30 {P : Nat → PV} {k : Nat} {p : PV} {j : Nat} (ho : p.i0 j = 30) : FiveC P k p j := by
  unfold FiveC ThereC
  rw [all4, all4, all4, all4, all4, ho]
  simp [opN, opV, nmA, nmB, nmC, nmY, woC, woQ, regsAll, regsL, constsI, upOk, protoOk, jumpI, jumpsI, ho, inI_lt]

theorem five31 {P : Nat → PV} {k : Nat} {p : PV} {j : Nat} (ho : p.i0 j = 31) : FiveC P k p j := by
  unfold FiveC ThereC
  rw [all4, all4, all4, all4, all4, ho]
  simp [opN, opV, nmA, nmB, nmC, nmY, woC, woQ, regsAll, regsL, constsI, upOk, protoOk, jumpI, jumpsI, ho, inI_lt]

theorem five32 {P : Nat → PV} {k : Nat} {p : PV} {j : Nat} (ho : p.i0 j = 32) : FiveC P k p j := by
  unfold FiveC ThereC
  rw [all4, all4, all4, all4, all4, ho]
  simp [opN, opV, nmA, nmB, nmC, nmY, woC, woQ, regsAll, regsL, constsI, upOk, protoOk, jumpI, jumpsI, ho, inI_lt]
  exact and_assoc

theorem five33 {P : Nat → PV} {k : Nat} {p : PV} {j : Nat} (ho : p.i0 j = 33) : FiveC P k p j := by
  unfold FiveC ThereC
  rw [all4, all4, all4, all4, all4, ho]
  simp [opN, opV, nmA, nmB, nmC, nmY, woC, woQ, regsAll, regsL, constsI, upOk, protoOk, jumpI, jumpsI, ho, inI_lt]

theorem five34 {P : Nat → PV} {k : Nat} {p : PV} {j : Nat} (ho : p.i0 j = 34) : FiveC P k p j := by
  unfold FiveC ThereC
  rw [all4, all4, all4, all4, all4, ho]
  simp [opN, opV, nmA, nmB, nmC, nmY, woC, woQ, regsAll, regsL, constsI, upOk, protoOk, jumpI, jumpsI, ho, inI_lt]

theorem five35 {P : Nat → PV} {k : Nat} {p : PV} {j : Nat} (ho : p.i0 j = 35) : FiveC P k p j := by
  unfold FiveC ThereC
  rw [all4, all4, all4, all4, all4, ho]
  simp [opN, opV, nmA, nmB, nmC, nmY, woC, woQ, regsAll, regsL, constsI, upOk, protoOk, jumpI, jumpsI, ho, inI_lt]

theorem five36 {P : Nat → PV} {k : Nat} {p : PV} {j : Nat} (ho : p.i0 j = 36) : FiveC P k p j := by
  unfold FiveC ThereC
  rw [all4, all4, all4, all4, all4, ho]
  simp [opN, opV, nmA, nmB, nmC, nmY, woC, woQ, regsAll, regsL, constsI, upOk, protoOk, jumpI, jumpsI, ho, inI_lt]

theorem five37 {P : Nat → PV} {k : Nat} {p : PV} {j : Nat} (ho : p.i0 j = 37) : FiveC P k p j := by
  unfold FiveC ThereC
  rw [all4, all4, all4, all4, all4, ho]
  simp [opN, opV, nmA, nmB, nmC, nmY, woC, woQ, regsAll, regsL, constsI, upOk, protoOk, jumpI, jumpsI, ho, inI_lt]

theorem five38 {P : Nat → PV} {k : Nat} {p : PV} {j : Nat} (ho : p.i0 j = 38) : FiveC P k p j := by
  unfold FiveC ThereC
  rw [all4, all4, all4, all4, all4, ho]
  simp [opN, opV, nmA, nmB, nmC, nmY, woC, woQ, regsAll, regsL, constsI, upOk, protoOk, jumpI, jumpsI, ho, inI_lt]

theorem five65 {P : Nat → PV} {k : Nat} {p : PV} {j : Nat} (ho : p.i0 j = 65) : FiveC P k p j := by
  unfold FiveC ThereC
  rw [all4, all4, all4, all4, all4, ho]
  simp [opN, opV, nmA, nmB, nmC, nmY, woC, woQ, regsAll, regsL, constsI, upOk, protoOk, jumpI, jumpsI, ho, inI_lt]

theorem five66 {P : Nat → PV} {k : Nat} {p : PV} {j : Nat} (ho : p.i0 j = 66) : FiveC P k p j := by
  unfold FiveC ThereC
  rw [all4, all4, all4, all4, all4, ho]
  simp [opN, opV, nmA, nmB, nmC, nmY, woC, woQ, regsAll, regsL, constsI, upOk, protoOk, jumpI, jumpsI, ho, inI_lt]

theorem five67 {P : Nat → PV} {k : Nat} {p : PV} {j : Nat} (ho : p.i0 j = 67) : FiveC P k p j := by
  unfold FiveC ThereC
  rw [all4, all4, all4, all4, all4, ho]
  simp [opN, opV, nmA, nmB, nmC, nmY, woC, woQ, regsAll, regsL, constsI, upOk, protoOk, jumpI, jumpsI, ho, inI_lt]

theorem five68 {P : Nat → PV} {k : Nat} {p : PV} {j : Nat} (ho : p.i0 j = 68) : FiveC P k p j := by
  unfold FiveC ThereC
  rw [all4, all4, all4, all4, all4, ho]
  simp [opN, opV, nmA, nmB, nmC, nmY, woC, woQ, regsAll, regsL, constsI, upOk, protoOk, jumpI, jumpsI, ho, inI_lt]

theorem five69 {P : Nat → PV} {k : Nat} {p : PV} {j : Nat} (ho : p.i0 j = 69) : FiveC P k p j := by
  unfold FiveC ThereC
  rw [all4, all4, all4, all4, all4, ho]
  simp [opN, opV, nmA, nmB, nmC, nmY, woC, woQ, regsAll, regsL, constsI, upOk, protoOk, jumpI, jumpsI, ho, inI_lt]

theorem five70 {P : Nat → PV} {k : Nat} {p : PV} {j : Nat} (ho : p.i0 j = 70) : FiveC P k p j := by
  unfold FiveC ThereC
  rw [all4, all4, all4, all4, all4, ho]
  simp [opN, opV, nmA, nmB, nmC, nmY, woC, woQ, regsAll, regsL, constsI, upOk, protoOk, jumpI, jumpsI, ho, inI_lt]

theorem five71 {P : Nat → PV} {k : Nat} {p : PV} {j : Nat} (ho : p.i0 j = 71) : FiveC P k p j := by
  unfold FiveC ThereC
  rw [all4, all4, all4, all4, all4, ho]
  simp [opN, opV, nmA, nmB, nmC, nmY, woC, woQ, regsAll, regsL, constsI, upOk, protoOk, jumpI, jumpsI, ho, inI_lt]

theorem five72 {P : Nat → PV} {k : Nat} {p : PV} {j : Nat} (ho : p.i0 j = 72) : FiveC P k p j := by
  unfold FiveC ThereC
  rw [all4, all4, all4, all4, all4, ho]
  simp [opN, opV, nmA, nmB, nmC, nmY, woC, woQ, regsAll, regsL, constsI, upOk, protoOk, jumpI, jumpsI, ho, inI_lt]

theorem five73 {P : Nat → PV} {k : Nat} {p : PV} {j : Nat} (ho : p.i0 j = 73) : FiveC P k p j := by
  unfold FiveC ThereC
  rw [all4, all4, all4, all4, all4, ho]
  simp [opN, opV, nmA, nmB, nmC, nmY, woC, woQ, regsAll, regsL, constsI, upOk, protoOk, jumpI, jumpsI, ho, inI_lt]

theorem five74 {P : Nat → PV} {k : Nat} {p : PV} {j : Nat} (ho : p.i0 j = 74) : FiveC P k p j := by
  unfold FiveC ThereC
  rw [all4, all4, all4, all4, all4, ho]
  simp [opN, opV, nmA, nmB, nmC, nmY, woC, woQ, regsAll, regsL, constsI, upOk, protoOk, jumpI, jumpsI, ho, inI_lt]

theorem five75 {P : Nat → PV} {k : Nat} {p : PV} {j : Nat} (ho : p.i0 j = 75) : FiveC P k p j := by
  unfold FiveC ThereC
  rw [all4, all4, all4, all4, all4, ho]
  simp [opN, opV, nmA, nmB, nmC, nmY, woC, woQ, regsAll, regsL, constsI, upOk, protoOk, jumpI, jumpsI, ho, inI_lt]

theorem five76 {P : Nat → PV} {k : Nat} {p : PV} {j : Nat} (ho : p.i0 j = 76) : FiveC P k p j := by
  unfold FiveC ThereC
  rw [all4, all4, all4, all4, all4, ho]
  simp [opN, opV, nmA, nmB, nmC, nmY, woC, woQ, regsAll, regsL, constsI, upOk, protoOk, jumpI, jumpsI, ho, inI_lt]

theorem five77 {P : Nat → PV} {k : Nat} {p : PV} {j : Nat} (ho : p.i0 j = 77) : FiveC P k p j := by
  unfold FiveC ThereC
  rw [all4, all4, all4, all4, all4, ho]
  simp [opN, opV, nmA, nmB, nmC, nmY, woC, woQ, regsAll, regsL, constsI, upOk, protoOk, jumpI, jumpsI, ho, inI_lt]

theorem five78 {P : Nat → PV} {k : Nat} {p : PV} {j : Nat} (ho : p.i0 j = 78) : FiveC P k p j := by
  unfold FiveC ThereC
  rw [all4, all4, all4, all4, all4, ho]
  simp [opN, opV, nmA, nmB, nmC, nmY, woC, woQ, regsAll, regsL, constsI, upOk, protoOk, jumpI, jumpsI, ho, inI_lt]

theorem five_any {P : Nat → PV} {k : Nat} {p : PV} {j : Nat} (h : knownI (p.i0 j)) : FiveC P k p j := by
  have : p.i0 j = 1 ∨ p.i0 j = 2 ∨ p.i0 j = 3 ∨ p.i0 j = 4 ∨ p.i0 j = 5 ∨ p.i0 j = 6 ∨ p.i0 j = 7 ∨ p.i0 j = 8 ∨ p.i0 j = 9 ∨ p.i0 j = 10 ∨ p.i0 j = 11 ∨ p.i0 j = 12 ∨ p.i0 j = 13 ∨ p.i0 j = 14 ∨ p.i0 j = 15 ∨ p.i0 j = 16 ∨ p.i0 j = 17 ∨ p.i0 j = 18 ∨ p.i0 j = 19 ∨ p.i0 j = 20 ∨ p.i0 j = 21 ∨ p.i0 j = 22 ∨ p.i0 j = 23 ∨ p.i0 j = 24 ∨ p.i0 j = 25 ∨ p.i0 j = 26 ∨ p.i0 j = 27 ∨ p.i0 j = 28 ∨ p.i0 j = 29 ∨ p.i0 j = 30 ∨ p.i0 j = 31 ∨ p.i0 j = 32 ∨ p.i0 j = 33 ∨ p.i0 j = 34 ∨ p.i0 j = 35 ∨ p.i0 j = 36 ∨ p.i0 j = 37 ∨ p.i0 j = 38 ∨ p.i0 j = 65 ∨ p.i0 j = 66 ∨ p.i0 j = 67 ∨ p.i0 j = 68 ∨ p.i0 j = 69 ∨ p.i0 j = 70 ∨ p.i0 j = 71 ∨ p.i0 j = 72 ∨ p.i0 j = 73 ∨ p.i0 j = 74 ∨ p.i0 j = 75 ∨ p.i0 j = 76 ∨ p.i0 j = 77 ∨ p.i0 j = 78 := by unfold knownI at h; omega
  rcases this with h | h | h | h | h | h | h | h | h | h | h | h | h | h | h | h | h | h | h | h | h | h | h | h | h | h | h | h | h | h | h | h | h | h | h | h | h | h | h | h | h | h | h | h | h | h | h | h | h | h | h | h
  · exact five1 h
  · exact five2 h
  · exact five3 h
  · exact five4 h
  · exact five5 h
  · exact five6 h
  · exact five7 h
  · exact five8 h
  · exact five9 h
  · exact five10 h
  · exact five11 h
  · exact five12 h
  · exact five13 h
  · exact five14 h
  · exact five15 h
  · exact five16 h
  · exact five17 h
  · exact five18 h
  · exact five19 h
  · exact five20 h
  · exact five21 h
  · exact five22 h
  · exact five23 h
  · exact five24 h
  · exact five25 h
  · exact five26 h
  · exact five27 h
  · exact five28 h
  · exact five29 h
  · exact five30 h
  · exact five31 h
  · exact five32 h
  · exact five33 h
  · exact five34 h
  · exact five35 h
  · exact five36 h
  · exact five37 h
  · exact five38 h
  · exact five65 h
  · exact five66 h
  · exact five67 h
  · exact five68 h
  · exact five69 h
  · exact five70 h
  · exact five71 h
  · exact five72 h
  · exact five73 h
  · exact five74 h
  · exact five75 h
  · exact five76 h
  · exact five77 h
  · exact five78 h

end Go.Proofs.Ytkfbkglkcfaeeaa
