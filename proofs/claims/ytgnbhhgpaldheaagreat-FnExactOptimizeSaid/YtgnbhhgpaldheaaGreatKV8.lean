import Derived.Test.YtgnbhhgpaldheaaGreatKV6
namespace Go.Proofs.YtgnbhhgpaldheaaGreat
open Go Go.RowKit
set_option linter.unusedVariables false
theorem all4 {R : Nat → Prop} : (∀ q, q < 4 → R q) ↔ R 0 ∧ R 1 ∧ R 2 ∧ R 3 := by
  constructor
  · intro h
    exact ⟨h 0 (by omega), h 1 (by omega), h 2 (by omega), h 3 (by omega)⟩
  · rintro ⟨h0, h1, h2, h3⟩ q hq
    have : q = 0 ∨ q = 1 ∨ q = 2 ∨ q = 3 := by omega
    rcases this with rfl | rfl | rfl | rfl <;> assumption
theorem inI_lt {v : Int} {n : Nat} : inI v 0 ((n : Int) - 1) = true ↔ 0 ≤ v ∧ v < (n : Int) := by rw [inI_iff]; omega
def ThereC (P : Nat → PV) (k : Nat) (p : PV) (j : Nat) (n : Int) : Prop := ∀ q, q < 4 → woC (opN (nmA (p.i0 j)) (nmB (p.i0 j)) (nmC (p.i0 j)) q) = n → woQ P k p j (opN (nmA (p.i0 j)) (nmB (p.i0 j)) (nmC (p.i0 j)) q) (opV p j (nmY (p.i0 j)) q)
def FiveC (P : Nat → PV) (k : Nat) (p : PV) (j : Nat) : Prop :=
  (regsAll p (regsL (p.i0 j) (p.i1 j) (p.i2 j) (p.i3 j)) ↔ ThereC P k p j 3) ∧ (constsI p (p.i0 j) (p.i1 j) (p.i2 j) (p.i3 j) ↔ ThereC P k p j 4) ∧ (upOk p j ↔ ThereC P k p j 5) ∧ (protoOk P k p j ↔ ThereC P k p j 6) ∧ (jumpI p j ↔ ThereC P k p j 7)
theorem five1 {P : Nat → PV} {k : Nat} {p : PV} {j : Nat} (ho : p.i0 j = 1) : FiveC P k p j := by
  unfold FiveC ThereC
  rw [all4, all4, all4, all4, all4, ho]
  simp [opN, opV, nmA, nmB, nmC, nmY, woC, woQ, regsAll, regsL, constsI, upOk, protoOk, jumpI, jumpsI, ho, inI_lt]
theorem five2 {P : Nat → PV} {k : Nat} {p : PV} {j : Nat} (ho : p.i0 j = 2) : FiveC P k p j := by
  unfold FiveC ThereC
  rw [all4, all4, all4, all4, all4, ho]
  simp [opN, opV, nmA, nmB, nmC, nmY, woC, woQ, regsAll, regsL, constsI, upOk, protoOk, jumpI, jumpsI, ho, inI_lt]
theorem five3 {P : Nat → PV} {k : Nat} {p : PV} {j : Nat} (ho : p.i0 j = 3) : FiveC P k p j := by
  unfold FiveC ThereC
  rw [all4, all4, all4, all4, all4, ho]
  simp [opN, opV, nmA, nmB, nmC, nmY, woC, woQ, regsAll, regsL, constsI, upOk, protoOk, jumpI, jumpsI, ho, inI_lt]
theorem five4 {P : Nat → PV} {k : Nat} {p : PV} {j : Nat} (ho : p.i0 j = 4) : FiveC P k p j := by
  unfold FiveC ThereC
  rw [all4, all4, all4, all4, all4, ho]
  simp [opN, opV, nmA, nmB, nmC, nmY, woC, woQ, regsAll, regsL, constsI, upOk, protoOk, jumpI, jumpsI, ho, inI_lt]
theorem five5 {P : Nat → PV} {k : Nat} {p : PV} {j : Nat} (ho : p.i0 j = 5) : FiveC P k p j := by
  unfold FiveC ThereC
  rw [all4, all4, all4, all4, all4, ho]
  simp [opN, opV, nmA, nmB, nmC, nmY, woC, woQ, regsAll, regsL, constsI, upOk, protoOk, jumpI, jumpsI, ho, inI_lt]
theorem five6 {P : Nat → PV} {k : Nat} {p : PV} {j : Nat} (ho : p.i0 j = 6) : FiveC P k p j := by
  unfold FiveC ThereC
  rw [all4, all4, all4, all4, all4, ho]
  simp [opN, opV, nmA, nmB, nmC, nmY, woC, woQ, regsAll, regsL, constsI, upOk, protoOk, jumpI, jumpsI, ho, inI_lt]
theorem five7 {P : Nat → PV} {k : Nat} {p : PV} {j : Nat} (ho : p.i0 j = 7) : FiveC P k p j := by
  unfold FiveC ThereC
  rw [all4, all4, all4, all4, all4, ho]
  simp [opN, opV, nmA, nmB, nmC, nmY, woC, woQ, regsAll, regsL, constsI, upOk, protoOk, jumpI, jumpsI, ho, inI_lt]
theorem five8 {P : Nat → PV} {k : Nat} {p : PV} {j : Nat} (ho : p.i0 j = 8) : FiveC P k p j := by
  unfold FiveC ThereC
  rw [all4, all4, all4, all4, all4, ho]
  simp [opN, opV, nmA, nmB, nmC, nmY, woC, woQ, regsAll, regsL, constsI, upOk, protoOk, jumpI, jumpsI, ho, inI_lt]
theorem five9 {P : Nat → PV} {k : Nat} {p : PV} {j : Nat} (ho : p.i0 j = 9) : FiveC P k p j := by
  unfold FiveC ThereC
  rw [all4, all4, all4, all4, all4, ho]
  simp [opN, opV, nmA, nmB, nmC, nmY, woC, woQ, regsAll, regsL, constsI, upOk, protoOk, jumpI, jumpsI, ho, inI_lt]
theorem five10 {P : Nat → PV} {k : Nat} {p : PV} {j : Nat} (ho : p.i0 j = 10) : FiveC P k p j := by
  unfold FiveC ThereC
  rw [all4, all4, all4, all4, all4, ho]
  simp [opN, opV, nmA, nmB, nmC, nmY, woC, woQ, regsAll, regsL, constsI, upOk, protoOk, jumpI, jumpsI, ho, inI_lt]
theorem five11 {P : Nat → PV} {k : Nat} {p : PV} {j : Nat} (ho : p.i0 j = 11) : FiveC P k p j := by
  unfold FiveC ThereC
  rw [all4, all4, all4, all4, all4, ho]
  simp [opN, opV, nmA, nmB, nmC, nmY, woC, woQ, regsAll, regsL, constsI, upOk, protoOk, jumpI, jumpsI, ho, inI_lt]
theorem five12 {P : Nat → PV} {k : Nat} {p : PV} {j : Nat} (ho : p.i0 j = 12) : FiveC P k p j := by
  unfold FiveC ThereC
  rw [all4, all4, all4, all4, all4, ho]
  simp [opN, opV, nmA, nmB, nmC, nmY, woC, woQ, regsAll, regsL, constsI, upOk, protoOk, jumpI, jumpsI, ho, inI_lt]
theorem five13 {P : Nat → PV} {k : Nat} {p : PV} {j : Nat} (ho : p.i0 j = 13) : FiveC P k p j := by
  unfold FiveC ThereC
  rw [all4, all4, all4, all4, all4, ho]
  simp [opN, opV, nmA, nmB, nmC, nmY, woC, woQ, regsAll, regsL, constsI, upOk, protoOk, jumpI, jumpsI, ho, inI_lt]
theorem five14 {P : Nat → PV} {k : Nat} {p : PV} {j : Nat} (ho : p.i0 j = 14) : FiveC P k p j := by
  unfold FiveC ThereC
  rw [all4, all4, all4, all4, all4, ho]
  simp [opN, opV, nmA, nmB, nmC, nmY, woC, woQ, regsAll, regsL, constsI, upOk, protoOk, jumpI, jumpsI, ho, inI_lt]
theorem five15 {P : Nat → PV} {k : Nat} {p : PV} {j : Nat} (ho : p.i0 j = 15) : FiveC P k p j := by
  unfold FiveC ThereC
  rw [all4, all4, all4, all4, all4, ho]
  simp [opN, opV, nmA, nmB, nmC, nmY, woC, woQ, regsAll, regsL, constsI, upOk, protoOk, jumpI, jumpsI, ho, inI_lt]
theorem five16 {P : Nat → PV} {k : Nat} {p : PV} {j : Nat} (ho : p.i0 j = 16) : FiveC P k p j := by
  unfold FiveC ThereC
  rw [all4, all4, all4, all4, all4, ho]
  simp [opN, opV, nmA, nmB, nmC, nmY, woC, woQ, regsAll, regsL, constsI, upOk, protoOk, jumpI, jumpsI, ho, inI_lt]
theorem five17 {P : Nat → PV} {k : Nat} {p : PV} {j : Nat} (ho : p.i0 j = 17) : FiveC P k p j := by
  unfold FiveC ThereC
  rw [all4, all4, all4, all4, all4, ho]
  simp [opN, opV, nmA, nmB, nmC, nmY, woC, woQ, regsAll, regsL, constsI, upOk, protoOk, jumpI, jumpsI, ho, inI_lt]
theorem five18 {P : Nat → PV} {k : Nat} {p : PV} {j : Nat} (ho : p.i0 j = 18) : FiveC P k p j := by
  unfold FiveC ThereC
  rw [all4, all4, all4, all4, all4, ho]
  simp [opN, opV, nmA, nmB, nmC, nmY, woC, woQ, regsAll, regsL, constsI, upOk, protoOk, jumpI, jumpsI, ho, inI_lt]
theorem five19 {P : Nat → PV} {k : Nat} {p : PV} {j : Nat} (ho : p.i0 j = 19) : FiveC P k p j := by
  unfold FiveC ThereC
  rw [all4, all4, all4, all4, all4, ho]
  simp [opN, opV, nmA, nmB, nmC, nmY, woC, woQ, regsAll, regsL, constsI, upOk, protoOk, jumpI, jumpsI, ho, inI_lt]
theorem five20 {P : Nat → PV} {k : Nat} {p : PV} {j : Nat} (ho : p.i0 j = 20) : FiveC P k p j := by
  unfold FiveC ThereC
  rw [all4, all4, all4, all4, all4, ho]
  simp [opN, opV, nmA, nmB, nmC, nmY, woC, woQ, regsAll, regsL, constsI, upOk, protoOk, jumpI, jumpsI, ho, inI_lt]
theorem five21 {P : Nat → PV} {k : Nat} {p : PV} {j : Nat} (ho : p.i0 j = 21) : FiveC P k p j := by
  unfold FiveC ThereC
  rw [all4, all4, all4, all4, all4, ho]
  simp [opN, opV, nmA, nmB, nmC, nmY, woC, woQ, regsAll, regsL, constsI, upOk, protoOk, jumpI, jumpsI, ho, inI_lt]
theorem five22 {P : Nat → PV} {k : Nat} {p : PV} {j : Nat} (ho : p.i0 j = 22) : FiveC P k p j := by
  unfold FiveC ThereC
  rw [all4, all4, all4, all4, all4, ho]
  simp [opN, opV, nmA, nmB, nmC, nmY, woC, woQ, regsAll, regsL, constsI, upOk, protoOk, jumpI, jumpsI, ho, inI_lt]
theorem five23 {P : Nat → PV} {k : Nat} {p : PV} {j : Nat} (ho : p.i0 j = 23) : FiveC P k p j := by
  unfold FiveC ThereC
  rw [all4, all4, all4, all4, all4, ho]
  simp [opN, opV, nmA, nmB, nmC, nmY, woC, woQ, regsAll, regsL, constsI, upOk, protoOk, jumpI, jumpsI, ho, inI_lt]
theorem five24 {P : Nat → PV} {k : Nat} {p : PV} {j : Nat} (ho : p.i0 j = 24) : FiveC P k p j := by
  unfold FiveC ThereC
  rw [all4, all4, all4, all4, all4, ho]
  simp [opN, opV, nmA, nmB, nmC, nmY, woC, woQ, regsAll, regsL, constsI, upOk, protoOk, jumpI, jumpsI, ho, inI_lt]
theorem five25 {P : Nat → PV} {k : Nat} {p : PV} {j : Nat} (ho : p.i0 j = 25) : FiveC P k p j := by
  unfold FiveC ThereC
  rw [all4, all4, all4, all4, all4, ho]
  simp [opN, opV, nmA, nmB, nmC, nmY, woC, woQ, regsAll, regsL, constsI, upOk, protoOk, jumpI, jumpsI, ho, inI_lt]
theorem five26 {P : Nat → PV} {k : Nat} {p : PV} {j : Nat} (ho : p.i0 j = 26) : FiveC P k p j := by
  unfold FiveC ThereC
  rw [all4, all4, all4, all4, all4, ho]
  simp [opN, opV, nmA, nmB, nmC, nmY, woC, woQ, regsAll, regsL, constsI, upOk, protoOk, jumpI, jumpsI, ho, inI_lt]
theorem five27 {P : Nat → PV} {k : Nat} {p : PV} {j : Nat} (ho : p.i0 j = 27) : FiveC P k p j := by
  unfold FiveC ThereC
  rw [all4, all4, all4, all4, all4, ho]
  simp [opN, opV, nmA, nmB, nmC, nmY, woC, woQ, regsAll, regsL, constsI, upOk, protoOk, jumpI, jumpsI, ho, inI_lt]
theorem five28 {P : Nat → PV} {k : Nat} {p : PV} {j : Nat} (ho : p.i0 j = 28) : FiveC P k p j := by
  unfold FiveC ThereC
  rw [all4, all4, all4, all4, all4, ho]
  simp [opN, opV, nmA, nmB, nmC, nmY, woC, woQ, regsAll, regsL, constsI, upOk, protoOk, jumpI, jumpsI, ho, inI_lt]
theorem five29 {P : Nat → PV} {k : Nat} {p : PV} {j : Nat} (ho : p.i0 j = 29) : FiveC P k p j := by
  unfold FiveC ThereC
  rw [all4, all4, all4, all4, all4, ho]
  simp [opN, opV, nmA, nmB, nmC, nmY, woC, woQ, regsAll, regsL, constsI, upOk, protoOk, jumpI, jumpsI, ho, inI_lt]
theorem five30 {P : Nat → PV} {k : Nat} {p : PV} {j : Nat} (ho : p.i0 j = 30) : FiveC P k p j := by
  unfold FiveC ThereC
  rw [all4, all4, all4, all4, all4, ho]
  simp [opN, opV, nmA, nmB, nmC, nmY, woC, woQ, regsAll, regsL, constsI, upOk, protoOk, jumpI, jumpsI, ho, inI_lt]
theorem five31 {P : Nat → PV} {k : Nat} {p : PV} {j : Nat} (ho : p.i0 j = 31) : FiveC P k p j := by
  unfold FiveC ThereC
  rw [all4, all4, all4, all4, all4, ho]
  simp [opN, opV, nmA, nmB, nmC, nmY, woC, woQ, regsAll, regsL, constsI, upOk, protoOk, jumpI, jumpsI, ho, inI_lt]
theorem five32 {P : Nat → PV} {k : Nat} {p : PV} {j : Nat} (ho : p.i0 j = 32) : FiveC P k p j := by
  unfold FiveC ThereC
  rw [all4, all4, all4, all4, all4, ho]
  simp [opN, opV, nmA, nmB, nmC, nmY, woC, woQ, regsAll, regsL, constsI, upOk, protoOk, jumpI, jumpsI, ho, inI_lt]
  exact and_assoc
theorem five33 {P : Nat → PV} {k : Nat} {p : PV} {j : Nat} (ho : p.i0 j = 33) : FiveC P k p j := by
  unfold FiveC ThereC
  rw [all4, all4, all4, all4, all4, ho]
  simp [opN, opV, nmA, nmB, nmC, nmY, woC, woQ, regsAll, regsL, constsI, upOk, protoOk, jumpI, jumpsI, ho, inI_lt]
theorem five34 {P : Nat → PV} {k : Nat} {p : PV} {j : Nat} (ho : p.i0 j = 34) : FiveC P k p j := by
  unfold FiveC ThereC
  rw [all4, all4, all4, all4, all4, ho]
  simp [opN, opV, nmA, nmB, nmC, nmY, woC, woQ, regsAll, regsL, constsI, upOk, protoOk, jumpI, jumpsI, ho, inI_lt]
theorem five35 {P : Nat → PV} {k : Nat} {p : PV} {j : Nat} (ho : p.i0 j = 35) : FiveC P k p j := by
  unfold FiveC ThereC
  rw [all4, all4, all4, all4, all4, ho]
  simp [opN, opV, nmA, nmB, nmC, nmY, woC, woQ, regsAll, regsL, constsI, upOk, protoOk, jumpI, jumpsI, ho, inI_lt]
theorem five36 {P : Nat → PV} {k : Nat} {p : PV} {j : Nat} (ho : p.i0 j = 36) : FiveC P k p j := by
  unfold FiveC ThereC
  rw [all4, all4, all4, all4, all4, ho]
  simp [opN, opV, nmA, nmB, nmC, nmY, woC, woQ, regsAll, regsL, constsI, upOk, protoOk, jumpI, jumpsI, ho, inI_lt]
theorem five37 {P : Nat → PV} {k : Nat} {p : PV} {j : Nat} (ho : p.i0 j = 37) : FiveC P k p j := by
  unfold FiveC ThereC
  rw [all4, all4, all4, all4, all4, ho]
  simp [opN, opV, nmA, nmB, nmC, nmY, woC, woQ, regsAll, regsL, constsI, upOk, protoOk, jumpI, jumpsI, ho, inI_lt]
theorem five38 {P : Nat → PV} {k : Nat} {p : PV} {j : Nat} (ho : p.i0 j = 38) : FiveC P k p j := by
  unfold FiveC ThereC
  rw [all4, all4, all4, all4, all4, ho]
  simp [opN, opV, nmA, nmB, nmC, nmY, woC, woQ, regsAll, regsL, constsI, upOk, protoOk, jumpI, jumpsI, ho, inI_lt]
theorem five65 {P : Nat → PV} {k : Nat} {p : PV} {j : Nat} (ho : p.i0 j = 65) : FiveC P k p j := by
  unfold FiveC ThereC
  rw [all4, all4, all4, all4, all4, ho]
  simp [opN, opV, nmA, nmB, nmC, nmY, woC, woQ, regsAll, regsL, constsI, upOk, protoOk, jumpI, jumpsI, ho, inI_lt]
theorem five66 {P : Nat → PV} {k : Nat} {p : PV} {j : Nat} (ho : p.i0 j = 66) : FiveC P k p j := by
  unfold FiveC ThereC
  rw [all4, all4, all4, all4, all4, ho]
  simp [opN, opV, nmA, nmB, nmC, nmY, woC, woQ, regsAll, regsL, constsI, upOk, protoOk, jumpI, jumpsI, ho, inI_lt]
theorem five67 {P : Nat → PV} {k : Nat} {p : PV} {j : Nat} (ho : p.i0 j = 67) : FiveC P k p j := by
  unfold FiveC ThereC
  rw [all4, all4, all4, all4, all4, ho]
  simp [opN, opV, nmA, nmB, nmC, nmY, woC, woQ, regsAll, regsL, constsI, upOk, protoOk, jumpI, jumpsI, ho, inI_lt]
theorem five68 {P : Nat → PV} {k : Nat} {p : PV} {j : Nat} (ho : p.i0 j = 68) : FiveC P k p j := by
  unfold FiveC ThereC
  rw [all4, all4, all4, all4, all4, ho]
  simp [opN, opV, nmA, nmB, nmC, nmY, woC, woQ, regsAll, regsL, constsI, upOk, protoOk, jumpI, jumpsI, ho, inI_lt]
theorem five69 {P : Nat → PV} {k : Nat} {p : PV} {j : Nat} (ho : p.i0 j = 69) : FiveC P k p j := by
  unfold FiveC ThereC
  rw [all4, all4, all4, all4, all4, ho]
  simp [opN, opV, nmA, nmB, nmC, nmY, woC, woQ, regsAll, regsL, constsI, upOk, protoOk, jumpI, jumpsI, ho, inI_lt]
theorem five70 {P : Nat → PV} {k : Nat} {p : PV} {j : Nat} (ho : p.i0 j = 70) : FiveC P k p j := by
  unfold FiveC ThereC
  rw [all4, all4, all4, all4, all4, ho]
  simp [opN, opV, nmA, nmB, nmC, nmY, woC, woQ, regsAll, regsL, constsI, upOk, protoOk, jumpI, jumpsI, ho, inI_lt]
theorem five71 {P : Nat → PV} {k : Nat} {p : PV} {j : Nat} (ho : p.i0 j = 71) : FiveC P k p j := by
  unfold FiveC ThereC
  rw [all4, all4, all4, all4, all4, ho]
  simp [opN, opV, nmA, nmB, nmC, nmY, woC, woQ, regsAll, regsL, constsI, upOk, protoOk, jumpI, jumpsI, ho, inI_lt]
theorem five72 {P : Nat → PV} {k : Nat} {p : PV} {j : Nat} (ho : p.i0 j = 72) : FiveC P k p j := by
  unfold FiveC ThereC
  rw [all4, all4, all4, all4, all4, ho]
  simp [opN, opV, nmA, nmB, nmC, nmY, woC, woQ, regsAll, regsL, constsI, upOk, protoOk, jumpI, jumpsI, ho, inI_lt]
theorem five73 {P : Nat → PV} {k : Nat} {p : PV} {j : Nat} (ho : p.i0 j = 73) : FiveC P k p j := by
  unfold FiveC ThereC
  rw [all4, all4, all4, all4, all4, ho]
  simp [opN, opV, nmA, nmB, nmC, nmY, woC, woQ, regsAll, regsL, constsI, upOk, protoOk, jumpI, jumpsI, ho, inI_lt]
theorem five74 {P : Nat → PV} {k : Nat} {p : PV} {j : Nat} (ho : p.i0 j = 74) : FiveC P k p j := by
  unfold FiveC ThereC
  rw [all4, all4, all4, all4, all4, ho]
  simp [opN, opV, nmA, nmB, nmC, nmY, woC, woQ, regsAll, regsL, constsI, upOk, protoOk, jumpI, jumpsI, ho, inI_lt]
theorem five75 {P : Nat → PV} {k : Nat} {p : PV} {j : Nat} (ho : p.i0 j = 75) : FiveC P k p j := by
  unfold FiveC ThereC
  rw [all4, all4, all4, all4, all4, ho]
  simp [opN, opV, nmA, nmB, nmC, nmY, woC, woQ, regsAll, regsL, constsI, upOk, protoOk, jumpI, jumpsI, ho, inI_lt]
theorem five76 {P : Nat → PV} {k : Nat} {p : PV} {j : Nat} (ho : p.i0 j = 76) : FiveC P k p j := by
  unfold FiveC ThereC
  rw [all4, all4, all4, all4, all4, ho]
  simp [opN, opV, nmA, nmB, nmC, nmY, woC, woQ, regsAll, regsL, constsI, upOk, protoOk, jumpI, jumpsI, ho, inI_lt]
theorem five77 {P : Nat → PV} {k : Nat} {p : PV} {j : Nat} (ho : p.i0 j = 77) : FiveC P k p j := by
  unfold FiveC ThereC
  rw [all4, all4, all4, all4, all4, ho]
  simp [opN, opV, nmA, nmB, nmC, nmY, woC, woQ, regsAll, regsL, constsI, upOk, protoOk, jumpI, jumpsI, ho, inI_lt]
theorem five78 {P : Nat → PV} {k : Nat} {p : PV} {j : Nat} (ho : p.i0 j = 78) : FiveC P k p j := by
  unfold FiveC ThereC
  rw [all4, all4, all4, all4, all4, ho]
  simp [opN, opV, nmA, nmB, nmC, nmY, woC, woQ, regsAll, regsL, constsI, upOk, protoOk, jumpI, jumpsI, ho, inI_lt]
theorem five_any {P : Nat → PV} {k : Nat} {p : PV} {j : Nat} (h : knownI (p.i0 j)) : FiveC P k p j := by
  have : p.i0 j = 1 ∨ p.i0 j = 2 ∨ p.i0 j = 3 ∨ p.i0 j = 4 ∨ p.i0 j = 5 ∨ p.i0 j = 6 ∨ p.i0 j = 7 ∨ p.i0 j = 8 ∨ p.i0 j = 9 ∨ p.i0 j = 10 ∨ p.i0 j = 11 ∨ p.i0 j = 12 ∨ p.i0 j = 13 ∨ p.i0 j = 14 ∨ p.i0 j = 15 ∨ p.i0 j = 16 ∨ p.i0 j = 17 ∨ p.i0 j = 18 ∨ p.i0 j = 19 ∨ p.i0 j = 20 ∨ p.i0 j = 21 ∨ p.i0 j = 22 ∨ p.i0 j = 23 ∨ p.i0 j = 24 ∨ p.i0 j = 25 ∨ p.i0 j = 26 ∨ p.i0 j = 27 ∨ p.i0 j = 28 ∨ p.i0 j = 29 ∨ p.i0 j = 30 ∨ p.i0 j = 31 ∨ p.i0 j = 32 ∨ p.i0 j = 33 ∨ p.i0 j = 34 ∨ p.i0 j = 35 ∨ p.i0 j = 36 ∨ p.i0 j = 37 ∨ p.i0 j = 38 ∨ p.i0 j = 65 ∨ p.i0 j = 66 ∨ p.i0 j = 67 ∨ p.i0 j = 68 ∨ p.i0 j = 69 ∨ p.i0 j = 70 ∨ p.i0 j = 71 ∨ p.i0 j = 72 ∨ p.i0 j = 73 ∨ p.i0 j = 74 ∨ p.i0 j = 75 ∨ p.i0 j = 76 ∨ p.i0 j = 77 ∨ p.i0 j = 78 := by unfold knownI at h; omega
  rcases this with h | h | h | h | h | h | h | h | h | h | h | h | h | h | h | h | h | h | h | h | h | h | h | h | h | h | h | h | h | h | h | h | h | h | h | h | h | h | h | h | h | h | h | h | h | h | h | h | h | h | h | h
  · exact five1 h
  · exact five2 h
  · exact five3 h
  · exact five4 h
  · exact five5 h
  · exact five6 h
  · exact five7 h
  · exact five8 h
  · exact five9 h
  · exact five10 h
  · exact five11 h
  · exact five12 h
  · exact five13 h
  · exact five14 h
  · exact five15 h
  · exact five16 h
  · exact five17 h
  · exact five18 h
  · exact five19 h
  · exact five20 h
  · exact five21 h
  · exact five22 h
  · exact five23 h
  · exact five24 h
  · exact five25 h
  · exact five26 h
  · exact five27 h
  · exact five28 h
  · exact five29 h
  · exact five30 h
  · exact five31 h
  · exact five32 h
  · exact five33 h
  · exact five34 h
  · exact five35 h
  · exact five36 h
  · exact five37 h
  · exact five38 h
  · exact five65 h
  · exact five66 h
  · exact five67 h
  · exact five68 h
  · exact five69 h
  · exact five70 h
  · exact five71 h
  · exact five72 h
  · exact five73 h
  · exact five74 h
  · exact five75 h
  · exact five76 h
  · exact five77 h
  · exact five78 h
theorem woC_le (nm : Int) : woC nm = 0 ∨ woC nm = 3 ∨ woC nm = 4 ∨ woC nm = 5 ∨ woC nm = 6 ∨ woC nm = 7 := by
  unfold woC
  repeat (first | (split; simp) | simp)
theorem mis_ok {P : Nat → PV} {k : Nat} {p : PV} {j : Nat} (hk : knownI (p.i0 j)) (h : FoldR (fun q => woQ P k p j (opN (nmA (p.i0 j)) (nmB (p.i0 j)) (nmC (p.i0 j)) q) (opV p j (nmY (p.i0 j)) q)) (fun q => woC (opN (nmA (p.i0 j)) (nmB (p.i0 j)) (nmC (p.i0 j)) q)) 4 0) :
    regsAll p (regsL (p.i0 j) (p.i1 j) (p.i2 j) (p.i3 j)) ∧ constsI p (p.i0 j) (p.i1 j) (p.i2 j) (p.i3 j) ∧ upOk p j ∧ protoOk P k p j ∧ jumpI p j := by
  obtain ⟨h3, h4, h5, h6, h7⟩ := five_any (P := P) (k := k) hk
  rcases h with ⟨_, h⟩ | ⟨h, _⟩
  · exact ⟨h3.2 fun q hq _ => h q hq, h4.2 fun q hq _ => h q hq, h5.2 fun q hq _ => h q hq, h6.2 fun q hq _ => h q hq, h7.2 fun q hq _ => h q hq⟩
  · omega
theorem mis_bad {P : Nat → PV} {k : Nat} {p : PV} {j : Nat} {r : Int} (hk : knownI (p.i0 j)) (hr : ¬ r = 0) (h : FoldR (fun q => woQ P k p j (opN (nmA (p.i0 j)) (nmB (p.i0 j)) (nmC (p.i0 j)) q) (opV p j (nmY (p.i0 j)) q)) (fun q => woC (opN (nmA (p.i0 j)) (nmB (p.i0 j)) (nmC (p.i0 j)) q)) 4 r) :
    FB (asks P k p j) r := by
  obtain ⟨h3, h4, h5, h6, h7⟩ := five_any (P := P) (k := k) hk
  rcases h with ⟨h, _⟩ | ⟨hpos, ⟨q, hq, hn, hrq⟩, hle⟩
  · exact absurd h hr
  · have hlow : ∀ n, n < r → ThereC P k p j n := fun n hn' q' hq' e => by
      by_cases hh : woQ P k p j (opN (nmA (p.i0 j)) (nmB (p.i0 j)) (nmC (p.i0 j)) q') (opV p j (nmY (p.i0 j)) q')
      · exact hh
      · have := hle q' hq' hh
        have e' : woC (opN (nmA (p.i0 j)) (nmB (p.i0 j)) (nmC (p.i0 j)) q') = n := e
        simp only at this
        omega
    have hno : ¬ ThereC P k p j r := fun ht => hn (ht q hq hrq.symm)
    have hcases := woC_le (opN (nmA (p.i0 j)) (nmB (p.i0 j)) (nmC (p.i0 j)) q)
    simp only at hrq
    rw [← hrq] at hcases
    rcases hcases with rfl | rfl | rfl | rfl | rfl | rfl
    · omega
    · exact .inl ⟨hk, .inr ⟨mt h3.1 hno, rfl⟩⟩
    · exact .inl ⟨hk, .inl ⟨h3.2 (hlow 3 (by omega)), .inr ⟨mt h4.1 hno, rfl⟩⟩⟩
    · exact .inl ⟨hk, .inl ⟨h3.2 (hlow 3 (by omega)), .inl ⟨h4.2 (hlow 4 (by omega)), .inr ⟨mt h5.1 hno, rfl⟩⟩⟩⟩
    · exact .inl ⟨hk, .inl ⟨h3.2 (hlow 3 (by omega)), .inl ⟨h4.2 (hlow 4 (by omega)), .inl ⟨h5.2 (hlow 5 (by omega)), .inr ⟨mt h6.1 hno, rfl⟩⟩⟩⟩⟩
    · exact .inl ⟨hk, .inl ⟨h3.2 (hlow 3 (by omega)), .inl ⟨h4.2 (hlow 4 (by omega)), .inl ⟨h5.2 (hlow 5 (by omega)), .inl ⟨h6.2 (hlow 6 (by omega)), .inr ⟨mt h7.1 hno, rfl⟩⟩⟩⟩⟩⟩
theorem nm_rng (o : Int) : (0 ≤ nmA o ∧ nmA o ≤ 6) ∧ (0 ≤ nmB o ∧ nmB o ≤ 6) ∧ (0 ≤ nmC o ∧ nmC o ≤ 6) ∧ (0 ≤ nmY o ∧ nmY o ≤ 5) := by
  refine ⟨?_, ?_, ?_, ?_⟩
  · unfold nmA; split <;> omega
  · unfold nmB; repeat (first | (split; omega) | omega)
  · unfold nmC; repeat (first | (split; omega) | omega)
  · unfold nmY; repeat (first | (split; omega) | omega)
theorem fb_last {P : Nat → PV} {k : Nat} {p : PV} {j : Nat} {r : Int} (hk : knownI (p.i0 j)) (h : regsAll p (regsL (p.i0 j) (p.i1 j) (p.i2 j) (p.i3 j)) ∧ constsI p (p.i0 j) (p.i1 j) (p.i2 j) (p.i3 j) ∧ upOk p j ∧ protoOk P k p j ∧ jumpI p j)
    (h2 : FB [(openI p j, 8), (endOk p j, 9), (dotsOk p j, 10), (countsI p (p.i0 j) (p.i1 j) (p.i2 j) (p.i3 j), 11)] r) : FB (asks P k p j) r :=
  .inl ⟨hk, .inl ⟨h.1, .inl ⟨h.2.1, .inl ⟨h.2.2.1, .inl ⟨h.2.2.2.1, .inl ⟨h.2.2.2.2, h2⟩⟩⟩⟩⟩⟩
set_option maxHeartbeats 3200000 in
set_option maxRecDepth 100000 in
theorem look_any (g : Nat) (P : Nat → PV) (k : Nat) (p : PV) (s4 s5 s6 s7 va : Value) (j : Nat) (w : World) (hk : k ≤ 1048576) (hj : j < p.ni) (hfa : allFit k P 1048576) (hun : upsNat k P) (hv : ProsA w va k P) (h : VX w g p s4 s5 s6 s7 va) :
    Calls Tryz.prog 39 #[.pointer (some ⟨g, 0, none⟩), .int .i64 j] w fun e w' => RetC (asks P k p j) w e w' := by
  have hni := h.ni
  have hby := h.by' j hj
  have HFA := hide hfa
  have HUN := hide hun
  obtain ⟨b, o, cap, rfl, hb, c0, c1, c2, c3⟩ := ins_at h.a.i hj
  obtain ⟨y0, y1, y2, y3, y4, y5, y6, y7, y8⟩ := h.r.cells
  have HB := hide (b_1 w (.cells #[.int .i64 (p.i0 j), .int .i64 (p.i1 j), .int .i64 (p.i2 j), .int .i64 (p.i3 j)] 51))
  have HI := hide (RowF.mk' w 51 #[.int .i64 (p.i0 j), .int .i64 (p.i1 j), .int .i64 (p.i2 j), .int .i64 (p.i3 j)])
  have HX := hide (h.low HB.out)
  have HV := hide (hv.low HB.out (Nat.le_refl _))
  clear h hv hfa hun
  go_enter Tryz.func39, Tryz.ntmps39
  go_wp2_with fail
  clear y0 y1 y2 y3 y4 y5 y6 y7 y8 c0 c1 c2 c3
  generalize w.alloc (.cells #[.int .i64 (p.i0 j), .int .i64 (p.i1 j), .int .i64 (p.i2 j), .int .i64 (p.i3 j)] 51) = w1 at HB HX HV HI ⊢
  generalize w.heap.size = gi at HI ⊢
  refine (namesOf_any (p.i0 j) w1).mono ?_
  rintro e w2 ⟨hn, hb2⟩
  rcases hn with ⟨hkn, rfl⟩ | ⟨hkn, na, nb, nc, nd, rfl⟩
  case inr =>
    have HK := hide hkn
    have HB2 := hide (HB.out.trans (hb2.mono HB.out.size))
    clear hkn hb2
    go_wp2_with fail
    go_ret
    exact ⟨_, rfl, .inr ⟨HK.out, rfl⟩, HB2.out.alloc HB2.out.size _⟩
  have HKn := hide hkn
  have HB2 := hide (HB.out.trans (hb2.mono HB.out.size))
  have HX2 := hide (HX.out.low hb2)
  have HV2 := hide (HV.out.low hb2 (Nat.le_refl _))
  have HI2 := hide (HI.out.low hb2 HI.out.lt)
  clear hkn hb2 HB HX HV HI
  unfold nmV
  have hrg := nm_rng (p.i0 j)
  have HRg := hide hrg
  clear hrg
  have hb3 := b_1 w2 (.cells #[.int .i64 (nmA (p.i0 j)), .int .i64 (nmB (p.i0 j)), .int .i64 (nmC (p.i0 j)), .int .i64 (nmY (p.i0 j))] 125)
  have HB3 := hide (HB2.out.trans (hb3.mono HB2.out.size))
  have HX3 := hide (HX2.out.low hb3)
  have HV3 := hide (HV2.out.low hb3 (Nat.le_refl _))
  have HI3 := hide (HI2.out.low hb3 HI2.out.lt)
  clear hb3 HB2 HX2 HV2 HI2
  go_wp2_with fail
  generalize w2.alloc (.cells #[.int .i64 (nmA (p.i0 j)), .int .i64 (nmB (p.i0 j)), .int .i64 (nmC (p.i0 j)), .int .i64 (nmY (p.i0 j))] 125) = w3 at HB3 HX3 HV3 HI3 ⊢
  refine (missing_any g P k p _ _ _ _ _ j _ _ _ _ w3 HRg.out.1 HRg.out.2.1 HRg.out.2.2.1 HRg.out.2.2.2 hk hj HFA.out HUN.out HV3.out HX3.out).mono ?_
  rintro e w4 ⟨r, rfl, hr, hb4⟩
  have HB4 := hide (HB3.out.trans (hb4.mono HB3.out.size))
  have HX4 := hide (HX3.out.low hb4)
  have HI4 := hide (HI3.out.low hb4 HI3.out.lt)
  clear hb4 HB3 HX3 HI3
  by_cases hr0 : r = 0
  case neg =>
    have hr1 : (r != 0) = true := by simpa using hr0
    have HR := hide hr
    clear hr
    go_wp2
    go_ret
    exact ⟨_, rfl, mis_bad HKn.out hr0 HR.out, HB4.out⟩
  subst hr0
  have HOk := hide (mis_ok HKn.out hr)
  clear hr
  go_wp2_with fail
  refine (handsOn_any g p _ _ _ _ _ j w4 hj HX4.out).mono ?_
  rintro e w5 ⟨r, rfl, hr, hb5⟩
  have HB5 := hide (HB4.out.trans (hb5.mono HB4.out.size))
  have HX5 := hide (HX4.out.low hb5)
  have HI5 := hide (HI4.out.low hb5 HI4.out.lt)
  clear hb5 HB4 HX4 HI4
  rcases hr with ⟨rfl, hr⟩ | ⟨rfl, hr⟩
  case inr =>
    have HR := hide hr
    clear hr
    go_wp2
    go_ret
    exact ⟨_, rfl, fb_last HKn.out HOk.out (.inr ⟨fun q => HR.out q.1, rfl⟩), HB5.out⟩
  have HO1 := hide hr
  clear hr
  go_wp2_with fail
  refine (isHanded_any g p _ _ _ _ _ j w5 hj HX5.out).mono ?_
  rintro e w6 ⟨r, rfl, hr, hb6⟩
  have HB6 := hide (HB5.out.trans (hb6.mono HB5.out.size))
  have HX6 := hide (HX5.out.low hb6)
  have HI6 := hide (HI5.out.low hb6 HI5.out.lt)
  clear hb6 HB5 HX5 HI5
  rcases hr with ⟨rfl, hr⟩ | ⟨rfl, hr⟩
  case inr =>
    have HR := hide hr
    clear hr
    go_wp2
    go_ret
    exact ⟨_, rfl, fb_last HKn.out HOk.out (.inr ⟨fun q => HR.out q.2, rfl⟩), HB6.out⟩
  have HO2 := hide hr
  clear hr
  obtain ⟨y0, y1, y2, y3, y4, y5, y6, y7, y8⟩ := HX6.out.r.cells
  have t0 : w6.cell? ⟨gi, 0, none⟩ = some (.int .i64 (p.i0 j)) := HI6.out.cell (j := 0) (by simp)
  have t1 : w6.cell? ⟨gi, 1, none⟩ = some (.int .i64 (p.i1 j)) := HI6.out.cell (j := 1) (by simp)
  have t2 : w6.cell? ⟨gi, 2, none⟩ = some (.int .i64 (p.i2 j)) := HI6.out.cell (j := 2) (by simp)
  have t3 : w6.cell? ⟨gi, 3, none⟩ = some (.int .i64 (p.i3 j)) := HI6.out.cell (j := 3) (by simp)
  by_cases hend : j + 1 = p.ni
  · have he1 : ((j : Int) == (p.ni : Int) - 1) = true := by simp; omega
    have HEnd := hide hend
    clear hend
    go_wp2_with fail
    clear y0 y1 y2 y3 y4 y5 y6 y7 y8 t0 t1 t2 t3
    refine (goesAway_any (p.i0 j) w6).mono ?_
    rintro e w7 ⟨r, rfl, hr, hb7⟩
    have HB7 := hide (HB6.out.trans (hb7.mono HB6.out.size))
    have HX7 := hide (HX6.out.low hb7)
    have HI7 := hide (HI6.out.low hb7 HI6.out.lt)
    clear hb7 HB6 HX6 HI6
    rcases hr with ⟨rfl, hr⟩ | ⟨rfl, hr⟩
    case inr =>
      have HR := hide hr
      clear hr
      go_wp2
      go_ret
      exact ⟨_, rfl, fb_last HKn.out HOk.out (.inl ⟨⟨HO1.out, HO2.out⟩, .inr ⟨fun q => HR.out (q HEnd.out), rfl⟩⟩), HB7.out⟩
    have HG := hide hr
    clear hr
    obtain ⟨y0, y1, y2, y3, y4, y5, y6, y7, y8⟩ := HX7.out.r.cells
    have t0 : w7.cell? ⟨gi, 0, none⟩ = some (.int .i64 (p.i0 j)) := HI7.out.cell (j := 0) (by simp)
    have t1 : w7.cell? ⟨gi, 1, none⟩ = some (.int .i64 (p.i1 j)) := HI7.out.cell (j := 1) (by simp)
    have t2 : w7.cell? ⟨gi, 2, none⟩ = some (.int .i64 (p.i2 j)) := HI7.out.cell (j := 2) (by simp)
    have t3 : w7.cell? ⟨gi, 3, none⟩ = some (.int .i64 (p.i3 j)) := HI7.out.cell (j := 3) (by simp)
    have hDots : ((p.i0 j == 31) = true ∧ p.dots = false ∧ ¬ dotsOk p j) ∨ ((p.i0 j == 31) = true ∧ p.dots = true ∧ dotsOk p j) ∨ ((p.i0 j == 31) = false ∧ dotsOk p j) := by
      by_cases e : p.i0 j = 31
      · rcases d : p.dots with _ | _
        · exact .inl ⟨by simpa using e, rfl, fun q => by have := q e; rw [d] at this; cases this⟩
        · exact .inr (.inl ⟨by simpa using e, rfl, fun _ => d⟩)
      · exact .inr (.inr ⟨by simpa using e, fun q => absurd q e⟩)
    rcases hDots with ⟨d1, d2, d3⟩ | ⟨d1, d2, d3⟩ | ⟨d1, d3⟩
    · have HD := hide d3
      clear d3
      go_wp2
      go_ret
      exact ⟨_, rfl, fb_last HKn.out HOk.out (.inl ⟨⟨HO1.out, HO2.out⟩, .inl ⟨(fun _ => HG.out), .inr ⟨HD.out, rfl⟩⟩⟩), HB7.out⟩
    · have HD := hide d3
      clear d3
      go_wp2_with fail
      clear y0 y1 y2 y3 y4 y5 y6 y7 y8 t0 t1 t2 t3
      refine (countsWell_any g p _ _ _ _ _ (p.i0 j) (p.i1 j) (p.i2 j) (p.i3 j) w7 hby.1 hby.2 HX7.out).mono ?_
      rintro e w9 ⟨r, rfl, hr, hb9⟩
      have HB9 := hide (HB7.out.trans (hb9.mono HB7.out.size))
      clear hb9
      rcases hr with ⟨rfl, hr⟩ | ⟨rfl, hr⟩
      · have HR := hide hr
        clear hr
        go_wp2
        go_ret
        exact ⟨_, rfl, fb_last HKn.out HOk.out (.inl ⟨⟨HO1.out, HO2.out⟩, .inl ⟨(fun _ => HG.out), .inl ⟨HD.out, .inl ⟨HR.out, rfl⟩⟩⟩⟩), HB9.out⟩
      · have HR := hide hr
        clear hr
        go_wp2
        go_ret
        exact ⟨_, rfl, fb_last HKn.out HOk.out (.inl ⟨⟨HO1.out, HO2.out⟩, .inl ⟨(fun _ => HG.out), .inl ⟨HD.out, .inr ⟨HR.out, rfl⟩⟩⟩⟩), HB9.out⟩
    · have HD := hide d3
      clear d3
      go_wp2_with fail
      clear y0 y1 y2 y3 y4 y5 y6 y7 y8 t0 t1 t2 t3
      refine (countsWell_any g p _ _ _ _ _ (p.i0 j) (p.i1 j) (p.i2 j) (p.i3 j) w7 hby.1 hby.2 HX7.out).mono ?_
      rintro e w9 ⟨r, rfl, hr, hb9⟩
      have HB9 := hide (HB7.out.trans (hb9.mono HB7.out.size))
      clear hb9
      rcases hr with ⟨rfl, hr⟩ | ⟨rfl, hr⟩
      · have HR := hide hr
        clear hr
        go_wp2
        go_ret
        exact ⟨_, rfl, fb_last HKn.out HOk.out (.inl ⟨⟨HO1.out, HO2.out⟩, .inl ⟨(fun _ => HG.out), .inl ⟨HD.out, .inl ⟨HR.out, rfl⟩⟩⟩⟩), HB9.out⟩
      · have HR := hide hr
        clear hr
        go_wp2
        go_ret
        exact ⟨_, rfl, fb_last HKn.out HOk.out (.inl ⟨⟨HO1.out, HO2.out⟩, .inl ⟨(fun _ => HG.out), .inl ⟨HD.out, .inr ⟨HR.out, rfl⟩⟩⟩⟩), HB9.out⟩
  · have he1 : ((j : Int) == (p.ni : Int) - 1) = false := by simp; omega
    have HEnd := hide hend
    clear hend
    have hDots : ((p.i0 j == 31) = true ∧ p.dots = false ∧ ¬ dotsOk p j) ∨ ((p.i0 j == 31) = true ∧ p.dots = true ∧ dotsOk p j) ∨ ((p.i0 j == 31) = false ∧ dotsOk p j) := by
      by_cases e : p.i0 j = 31
      · rcases d : p.dots with _ | _
        · exact .inl ⟨by simpa using e, rfl, fun q => by have := q e; rw [d] at this; cases this⟩
        · exact .inr (.inl ⟨by simpa using e, rfl, fun _ => d⟩)
      · exact .inr (.inr ⟨by simpa using e, fun q => absurd q e⟩)
    rcases hDots with ⟨d1, d2, d3⟩ | ⟨d1, d2, d3⟩ | ⟨d1, d3⟩
    · have HD := hide d3
      clear d3
      go_wp2
      go_ret
      exact ⟨_, rfl, fb_last HKn.out HOk.out (.inl ⟨⟨HO1.out, HO2.out⟩, .inl ⟨(fun q => absurd q HEnd.out), .inr ⟨HD.out, rfl⟩⟩⟩), HB6.out⟩
    · have HD := hide d3
      clear d3
      go_wp2_with fail
      clear y0 y1 y2 y3 y4 y5 y6 y7 y8 t0 t1 t2 t3
      refine (countsWell_any g p _ _ _ _ _ (p.i0 j) (p.i1 j) (p.i2 j) (p.i3 j) w6 hby.1 hby.2 HX6.out).mono ?_
      rintro e w9 ⟨r, rfl, hr, hb9⟩
      have HB9 := hide (HB6.out.trans (hb9.mono HB6.out.size))
      clear hb9
      rcases hr with ⟨rfl, hr⟩ | ⟨rfl, hr⟩
      · have HR := hide hr
        clear hr
        go_wp2
        go_ret
        exact ⟨_, rfl, fb_last HKn.out HOk.out (.inl ⟨⟨HO1.out, HO2.out⟩, .inl ⟨(fun q => absurd q HEnd.out), .inl ⟨HD.out, .inl ⟨HR.out, rfl⟩⟩⟩⟩), HB9.out⟩
      · have HR := hide hr
        clear hr
        go_wp2
        go_ret
        exact ⟨_, rfl, fb_last HKn.out HOk.out (.inl ⟨⟨HO1.out, HO2.out⟩, .inl ⟨(fun q => absurd q HEnd.out), .inl ⟨HD.out, .inr ⟨HR.out, rfl⟩⟩⟩⟩), HB9.out⟩
    · have HD := hide d3
      clear d3
      go_wp2_with fail
      clear y0 y1 y2 y3 y4 y5 y6 y7 y8 t0 t1 t2 t3
      refine (countsWell_any g p _ _ _ _ _ (p.i0 j) (p.i1 j) (p.i2 j) (p.i3 j) w6 hby.1 hby.2 HX6.out).mono ?_
      rintro e w9 ⟨r, rfl, hr, hb9⟩
      have HB9 := hide (HB6.out.trans (hb9.mono HB6.out.size))
      clear hb9
      rcases hr with ⟨rfl, hr⟩ | ⟨rfl, hr⟩
      · have HR := hide hr
        clear hr
        go_wp2
        go_ret
        exact ⟨_, rfl, fb_last HKn.out HOk.out (.inl ⟨⟨HO1.out, HO2.out⟩, .inl ⟨(fun q => absurd q HEnd.out), .inl ⟨HD.out, .inl ⟨HR.out, rfl⟩⟩⟩⟩), HB9.out⟩
      · have HR := hide hr
        clear hr
        go_wp2
        go_ret
        exact ⟨_, rfl, fb_last HKn.out HOk.out (.inl ⟨⟨HO1.out, HO2.out⟩, .inl ⟨(fun q => absurd q HEnd.out), .inl ⟨HD.out, .inr ⟨HR.out, rfl⟩⟩⟩⟩), HB9.out⟩
end Go.Proofs.YtgnbhhgpaldheaaGreat
