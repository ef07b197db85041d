import Derived.Test.YtplfgfdlcfdfdaaN1
namespace Go.Proofs.Ytplfgfdlcfdfdaa
open Go Go.RowKit
set_option linter.unusedVariables false

set_option maxHeartbeats 1600000 in
set_option maxRecDepth 100000 in
theorem constHasPlace_any (k i b : Int) (t : ByteArray) (w : World) (h0 : 0 ≤ b) (h1 : b < 18446744073709551616) (ht : t.size ≤ 1048576) :
    Calls Try.prog 57 #[.agg #[.int .i64 k, .int .i64 i, .int .u64 b, .string t]] w fun e w' => RetB (constOk k i b t) w e w' := by
  clear h1
  by_cases k4 : k = 4
  · subst k4
    go_enter Try.func57, Try.ntmps57
    go_wp2
    all_goals go_ret
    all_goals refine ⟨_, rfl, ?_, b_1 _ _⟩
    all_goals first | exact .inl ⟨rfl, by simp_all [constOk]⟩ | exact .inr ⟨rfl, by simp_all [constOk]⟩
  by_cases k5 : k = 5
  · subst k5
    have HI := hide (isFloatWord_any b · h0)
    by_cases hn : (decide (b = 9221120237041090560) || !isNanI b) = true
    · rw [hn] at HI
      have HNN : Hid (¬ (isNanI b = true ∧ b ≠ 9221120237041090560)) := by
        refine hide (fun hq => ?_)
        rw [hq.1, decide_eq_false hq.2] at hn
        cases hn
      clear hn
      go_enter Try.func57, Try.ntmps57
      go_wp2_with (go_at_call 71; refine (HI.out _).mono ?_; rintro e w' ⟨rfl, rfl⟩)
      all_goals go_ret
      all_goals refine ⟨_, rfl, ?_, b_1 _ _⟩
      all_goals first | exact .inl ⟨rfl, .inr (.inl ⟨rfl, by assumption, by assumption, HNN.out⟩)⟩ | exact .inr ⟨rfl, by simp_all [constOk]⟩
    · rw [Bool.not_eq_true] at hn
      rw [hn] at HI
      go_enter Try.func57, Try.ntmps57
      go_wp2_with (go_at_call 71; refine (HI.out _).mono ?_; rintro e w' ⟨rfl, rfl⟩)
      all_goals go_ret
      all_goals refine ⟨_, rfl, ?_, b_1 _ _⟩
      all_goals first | exact .inl ⟨rfl, by simp_all [constOk]⟩ | exact .inr ⟨rfl, by simp_all [constOk]⟩
  by_cases k6 : k = 6
  · subst k6
    by_cases hts : t.size ≤ 65536
    · have hti : ((t.size : Int) ≤ 65536) := by omega
      go_enter Try.func57, Try.ntmps57
      go_wp2
      all_goals go_ret
      all_goals refine ⟨_, rfl, ?_, b_1 _ _⟩
      all_goals clear ht hti
      all_goals first | exact .inl ⟨rfl, by simp_all [constOk]⟩ | exact .inr ⟨rfl, by simp_all [constOk]⟩
    · have hti : ¬ ((t.size : Int) ≤ 65536) := by omega
      go_enter Try.func57, Try.ntmps57
      go_wp2
      all_goals go_ret
      all_goals refine ⟨_, rfl, .inr ⟨rfl, ?_⟩, b_1 _ _⟩
      all_goals rintro (⟨h, _⟩ | ⟨h, _⟩ | ⟨_, _, _, h⟩)
      all_goals first | omega | exact hts h
  · go_enter Try.func57, Try.ntmps57
    go_wp2
    all_goals go_ret
    all_goals refine ⟨_, rfl, ?_, b_1 _ _⟩
    all_goals exact .inr ⟨rfl, by simp_all [constOk]⟩

end Go.Proofs.Ytplfgfdlcfdfdaa
