import Derived.Test.YtplfgfdlcfdfdaaBC
namespace Go.Proofs.Ytplfgfdlcfdfdaa
open Go Go.RowKit
set_option linter.unusedVariables false

/-- An answer that says whether something holds. -/
def BoolR (Q : Prop) (b : Bool) : Prop := (b = true ∧ Q) ∨ (b = false ∧ ¬ Q)
/-- A call that says whether Q holds, and turns nothing that lay there. -/
def RetB (Q : Prop) (w : World) (e : Ending) (w' : World) : Prop := ∃ r : Bool, e = .returned (.bool r) ∧ BoolR Q r ∧ Below w.heap.size w w'
def inI (v lo hi : Int) : Bool := decide (lo ≤ v ∧ v ≤ hi)
theorem inI_t {v lo hi : Int} (h : lo ≤ v ∧ v ≤ hi) : inI v lo hi = true := by simp [inI, h]
theorem inI_f {v lo hi : Int} (h : ¬ (lo ≤ v ∧ v ≤ hi)) : inI v lo hi = false := by simp [inI]; omega

set_option maxHeartbeats 1600000 in
set_option maxRecDepth 100000 in
theorem l07In_any (v lo hi : Int) (w : World) :
    Calls Try.prog 28 #[.int .i64 v, .int .i64 lo, .int .i64 hi] w fun e w' => e = .returned (.bool (inI v lo hi)) ∧ w' = w := by
  by_cases h1 : lo ≤ v
  · by_cases h2 : v ≤ hi
    · rw [inI_t ⟨h1, h2⟩]
      go_enter Try.func28, Try.ntmps28
      go_wp2
      go_ret
      exact ⟨rfl, rfl⟩
    · rw [inI_f (by omega)]
      go_enter Try.func28, Try.ntmps28
      go_wp2
      go_ret
      exact ⟨rfl, rfl⟩
  · rw [inI_f (by omega)]
    go_enter Try.func28, Try.ntmps28
    go_wp2
    go_ret
    exact ⟨rfl, rfl⟩

def isNanI (b : Int) : Bool := decide (9218868437227405312 < b % 9223372036854775808)

set_option maxHeartbeats 1600000 in
set_option maxRecDepth 100000 in
theorem isNan_any (b : Int) (w : World) (h0 : 0 ≤ b) (h1 : b < 18446744073709551616) :
    Calls Try.prog 47 #[.int .u64 b] w fun e w' => e = .returned (.bool (isNanI b)) ∧ w' = w := by
  clear h1
  go_enter Try.func47, Try.ntmps47
  go_wp2
  go_ret
  exact ⟨rfl, rfl⟩

/-- A constant is one, with nothing else in it. -/
def constOk (k i b : Int) (t : ByteArray) : Prop :=
  (k = 4 ∧ b = 0 ∧ t.toList = []) ∨ (k = 5 ∧ i = 0 ∧ t.toList = [] ∧ ¬ (isNanI b = true ∧ b ≠ 9221120237041090560)) ∨ (k = 6 ∧ i = 0 ∧ b = 0 ∧ t.size ≤ 65536)

set_option maxHeartbeats 1600000 in
set_option maxRecDepth 100000 in
theorem l07Const_any (k i b : Int) (t : ByteArray) (w : World) (h0 : 0 ≤ b) (h1 : b < 18446744073709551616) (ht : t.size ≤ 1048576) :
    Calls Try.prog 29 #[.agg #[.int .i64 k, .int .i64 i, .int .u64 b, .string t]] w fun e w' => RetB (constOk k i b t) w e w' := by
  by_cases k4 : k = 4
  · subst k4
    go_enter Try.func29, Try.ntmps29
    go_wp2
    all_goals go_ret
    all_goals refine ⟨_, rfl, ?_, b_2 _ _ _⟩
    all_goals first | exact .inl ⟨rfl, by simp_all [constOk]⟩ | exact .inr ⟨rfl, by simp_all [constOk]⟩
  by_cases k5 : k = 5
  · subst k5
    have HI := hide (isNan_any b · h0 h1)
    by_cases hn : isNanI b = true
    · go_enter Try.func29, Try.ntmps29
      go_wp2_with (go_at_call 47; refine (HI.out _).mono ?_; rintro e w' ⟨rfl, rfl⟩)
      all_goals go_ret
      all_goals refine ⟨_, rfl, ?_, b_2 _ _ _⟩
      all_goals first | exact .inl ⟨rfl, by simp_all [constOk]⟩ | exact .inr ⟨rfl, by simp_all [constOk]⟩
    · rw [Bool.not_eq_true] at hn
      go_enter Try.func29, Try.ntmps29
      go_wp2_with (go_at_call 47; refine (HI.out _).mono ?_; rintro e w' ⟨rfl, rfl⟩)
      all_goals go_ret
      all_goals refine ⟨_, rfl, ?_, b_2 _ _ _⟩
      all_goals first | exact .inl ⟨rfl, by simp_all [constOk]⟩ | exact .inr ⟨rfl, by simp_all [constOk]⟩
  by_cases k6 : k = 6
  · subst k6
    by_cases hts : t.size ≤ 65536
    · have hti : ¬ ((65536 : Int) < (t.size : Int)) := by omega
      go_enter Try.func29, Try.ntmps29
      go_wp2
      all_goals go_ret
      all_goals refine ⟨_, rfl, ?_, b_2 _ _ _⟩
      all_goals clear ht hti
      all_goals first | exact .inl ⟨rfl, by simp_all [constOk]⟩ | exact .inr ⟨rfl, by simp_all [constOk]⟩
    · have hti : ((65536 : Int) < (t.size : Int)) := by omega
      go_enter Try.func29, Try.ntmps29
      go_wp2
      go_ret
      refine ⟨_, rfl, .inr ⟨rfl, ?_⟩, b_2 _ _ _⟩
      rintro (⟨h, _⟩ | ⟨h, _⟩ | ⟨_, _, _, h⟩)
      · omega
      · omega
      · exact hts h
  · go_enter Try.func29, Try.ntmps29
    go_wp2
    all_goals go_ret
    all_goals refine ⟨_, rfl, ?_, b_2 _ _ _⟩
    all_goals exact .inr ⟨rfl, by simp_all [constOk]⟩

end Go.Proofs.Ytplfgfdlcfdfdaa
