import Derived.Test.YtplfgfdlcfdfdaaBM
namespace Go.Proofs.Ytplfgfdlcfdfdaa
open Go Go.RowKit
set_option linter.unusedVariables false

/-- Nothing is wrong with function k. -/
def fnOk (n : Nat) (P : Nat → PV) (k : Nat) : Prop := shapeOk n P k ∧ ∀ j, j < (P k).ni → FB (asks P k (P k) j) 0
/-- Something is wrong with it: the code, and at which instruction. -/
def fnBad (n : Nat) (P : Nat → PV) (k : Nat) (a c : Int) : Prop :=
  (¬ shapeOk n P k ∧ a = 1 ∧ c = 0) ∨ (shapeOk n P k ∧ ∃ j : Nat, j < (P k).ni ∧ c = j ∧ a ≠ 0 ∧ FB (asks P k (P k) j) a ∧ ∀ i, i < j → FB (asks P k (P k) i) 0)
/-- The verdict on a chunk. -/
def VerR (n : Nat) (P : Nat → PV) (a b c : Int) : Prop :=
  (¬ (1 ≤ n ∧ n ≤ 1000) ∧ a = 1 ∧ b = 0 ∧ c = 0) ∨ ((1 ≤ n ∧ n ≤ 1000) ∧ ((∃ k : Nat, k < n ∧ b = k ∧ fnBad n P k a c ∧ ∀ i, i < k → fnOk n P i) ∨ ((∀ k, k < n → fnOk n P k) ∧ a = 0 ∧ b = 0 ∧ c = 0)))

theorem fnBad_not {n : Nat} {P : Nat → PV} {k : Nat} {a c : Int} (h : fnBad n P k a c) (h' : fnOk n P k) : False := by
  rcases h with ⟨h, _⟩ | ⟨_, j, hj, _, ha, hf, _⟩
  · exact h h'.1
  · exact ha (hf.unique (h'.2 j hj))
theorem fnBad.unique {n : Nat} {P : Nat → PV} {k : Nat} {a c a' c' : Int} (h : fnBad n P k a c) (h' : fnBad n P k a' c') : a = a' ∧ c = c' := by
  rcases h with ⟨h, rfl, rfl⟩ | ⟨h, j, hj, rfl, ha, hf, hl⟩ <;> rcases h' with ⟨h2, rfl, rfl⟩ | ⟨h2, j', hj', rfl, ha', hf', hl'⟩
  · exact ⟨rfl, rfl⟩
  · exact absurd h2 h
  · exact absurd h h2
  · have : j = j' := by
      rcases Nat.lt_trichotomy j j' with c | c | c
      · exact absurd (hf.unique (hl' j c)) ha
      · exact c
      · exact absurd (hf'.unique (hl j' c)) ha'
    subst this
    exact ⟨hf.unique hf', rfl⟩
theorem VerR.unique {n : Nat} {P : Nat → PV} {a b c a' b' c' : Int} (h : VerR n P a b c) (h' : VerR n P a' b' c') : a = a' ∧ b = b' ∧ c = c' := by
  rcases h with ⟨h, rfl, rfl, rfl⟩ | ⟨h, h3⟩ <;> rcases h' with ⟨h2, rfl, rfl, rfl⟩ | ⟨h2, h4⟩
  · exact ⟨rfl, rfl, rfl⟩
  · exact absurd h2 h
  · exact absurd h h2
  · rcases h3 with ⟨k, hk, rfl, hb, hl⟩ | ⟨h3, rfl, rfl, rfl⟩ <;> rcases h4 with ⟨k', hk', rfl, hb', hl'⟩ | ⟨h4, rfl, rfl, rfl⟩
    · have : k = k' := by
        rcases Nat.lt_trichotomy k k' with c | c | c
        · exact (fnBad_not hb (hl' k c)).elim
        · exact c
        · exact (fnBad_not hb' (hl k' c)).elim
      subst this
      exact ⟨(hb.unique hb').1, rfl, (hb.unique hb').2⟩
    · exact (fnBad_not hb (h4 k hk)).elim
    · exact (fnBad_not hb' (h3 k' hk')).elim
    · exact ⟨rfl, rfl, rfl⟩

def verV (a b c : Int) : Value := .agg #[.int .i64 a, .int .i64 b, .int .i64 c]

end Go.Proofs.Ytplfgfdlcfdfdaa
