import Derived.Test.YtplfgfdlcfdfdaaBJ
namespace Go.Proofs.Ytplfgfdlcfdfdaa
open Go Go.RowKit
set_option linter.unusedVariables false

def mkP (p : PV) (j : Nat) : Prop := makesI (p.i0 j) (p.i1 j) (p.i2 j) (p.i3 j)
def tkP (p : PV) (j : Nat) : Int := takesI (p.i0 j) (p.i1 j) (p.i2 j) (p.i3 j)
def openI (p : PV) (j : Nat) : Prop := (mkP p j → j + 1 < p.ni ∧ 0 ≤ tkP p (j + 1) ∧ tkP p (j + 1) ≤ p.i1 j) ∧ (tkP p j < 0 ∨ (0 < j ∧ mkP p (j - 1)))
def jumpsI (o : Int) : Prop := o = 25 ∨ o = 26 ∨ o = 27 ∨ o = 35 ∨ o = 36 ∨ o = 38
def jumpI (p : PV) (j : Nat) : Prop := jumpsI (p.i0 j) → 0 ≤ p.i2 j ∧ p.i2 j < p.ni ∧ tkP p (p.i2 j).toNat < 0 ∧ ((j : Int) < p.i2 j ∨ p.i0 (p.i2 j).toNat = 1)

/-- Every instruction's A is a byte. -/
def byteA (p : PV) : Prop := ∀ j, j < p.ni → 0 ≤ p.i1 j ∧ p.i1 j ≤ 255

/-- The cells of one instruction. -/
theorem ins_at {w : World} {v : Value} {n : Nat} {x0 x1 x2 x3 : Nat → Int} (h : InsA w v n x0 x1 x2 x3) {j : Nat} (hj : j < n) : ∃ b o cap, v = .slice (some ⟨b, o, none⟩) n cap ∧ b < w.heap.size ∧
    w.cell? ⟨b, o + j * 4, none⟩ = some (.int .i64 (x0 j)) ∧ w.cell? ⟨b, o + j * 4 + 1, none⟩ = some (.int .i64 (x1 j)) ∧ w.cell? ⟨b, o + j * 4 + 2, none⟩ = some (.int .i64 (x2 j)) ∧ w.cell? ⟨b, o + j * 4 + 3, none⟩ = some (.int .i64 (x3 j)) := by
  rcases h with ⟨h9, _⟩ | ⟨b, o, cap, e, hb, hcap, hc⟩
  · omega
  · exact ⟨b, o, cap, e, hb, hc j hj⟩

theorem jump_iff {p : PV} {j m : Nat} (hm : p.i2 j = (m : Int)) (hm2 : m < p.ni) (hJ : jumpsI (p.i0 j)) : jumpI p j ↔ takesI (p.i0 m) (p.i1 m) (p.i2 m) (p.i3 m) < 0 ∧ ((j : Int) < (m : Int) ∨ p.i0 m = 1) := by
  unfold jumpI tkP
  rw [hm]
  constructor
  · intro h
    obtain ⟨_, _, h3, h4⟩ := h hJ
    exact ⟨h3, h4⟩
  · rintro ⟨h3, h4⟩ _
    exact ⟨by omega, by omega, h3, h4⟩

end Go.Proofs.Ytplfgfdlcfdfdaa
