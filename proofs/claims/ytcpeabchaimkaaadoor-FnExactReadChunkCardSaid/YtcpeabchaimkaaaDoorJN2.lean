import Derived.Test.YtcpeabchaimkaaaDoorBE
import Derived.Laws.Cover2
namespace Go.Proofs.YtcpeabchaimkaaaDoor
open Go Go.RowKit
set_option linter.unusedVariables false

theorem datum_self (d : Ieee.Datum) (h : ∀ s m, d ≠ .nan s m) : d.order d = some .eq := by
  cases d with
  | nan s m => exact absurd rfl (h s m)
  | infinity s => simp [Ieee.Datum.order]
  | number s m i => simp [Ieee.Datum.order]
theorem double_sign : Ieee.double.signWeight = 9223372036854775808 := by decide
theorem double_inf : Ieee.double.infRung = 9218868437227405312 := by decide
theorem self_nan (x : Nat) : (FloatKind.f64.format.order x x != some .eq) = isNanI (x : Int) := by
  have e : FloatKind.f64.format.order x x = (Ieee.double.read x).order (Ieee.double.read x) := rfl
  rw [e]
  by_cases h : 9218868437227405312 < x % 9223372036854775808
  · have hr : ∃ s m, Ieee.double.read x = .nan s m := by
      have hb : Ieee.double.binade ≤ Ieee.double.infRung := by decide
      refine ⟨(x / 9223372036854775808 % 2 == 1), x % 9223372036854775808 - 9218868437227405312, ?_⟩
      unfold Ieee.Format.read
      rw [double_sign, double_inf] at *
      dsimp only
      rw [if_neg (by omega), if_neg (by omega), if_neg (by omega)]
    obtain ⟨s, m, hr⟩ := hr
    rw [hr]
    have : isNanI (x : Int) = true := by unfold isNanI; simp; omega
    rw [this]
    rfl
  · have hr : ∀ s m, Ieee.double.read x ≠ .nan s m := by
      intro s m
      unfold Ieee.Format.read
      rw [double_sign, double_inf]
      dsimp only
      split
      · intro h; cases h
      · split
        · intro h; cases h
        · split
          · intro h; cases h
          · omega
    rw [datum_self _ hr]
    have : isNanI (x : Int) = false := by unfold isNanI; simp; omega
    rw [this]
    rfl

set_option maxHeartbeats 400000 in
set_option maxRecDepth 100000 in
theorem implIsNaN_A (A : Nat) (w : World) : Calls Tryd.prog 73 #[.float .f64 A] w fun e w' => e = .returned (.bool (FloatKind.f64.format.order A A != some .eq)) ∧ w' = w := by
  go_enter Tryd.func73, Tryd.ntmps73
  go_wp2
  all_goals go_ret
  all_goals exact ⟨rfl, rfl⟩
theorem implIsNaN_any (b : Int) (w : World) (h0 : 0 ≤ b) : Calls Tryd.prog 73 #[.float .f64 b.toNat] w fun e w' => e = .returned (.bool (isNanI b)) ∧ w' = w := by
  have h := self_nan b.toNat
  rw [show ((b.toNat : Nat) : Int) = b by omega] at h
  rw [← h]
  exact implIsNaN_A _ w

theorem run_frombits (z : Int) (w : World) : (callFunc 74 #[.int .u64 z]).run Tryd.prog w = .ok (.value (.float .f64 z.toNat)) w := by
  rw [run_callFunc_extern (e := Extern.MathFloatBits.float64frombits) Tryd.func74 (by kernel_rfl) (by kernel_rfl) (by kernel_rfl) (by kernel_rfl)]
  rfl

set_option maxHeartbeats 400000 in
set_option maxRecDepth 100000 in
theorem isFloatWord_any (b : Int) (w : World) (h0 : 0 ≤ b) : Calls Tryd.prog 72 #[.int .u64 b] w fun e w' => e = .returned (.bool (decide (b = 9221120237041090560) || !isNanI b)) ∧ w' = w := by
  have hfb := run_frombits b
  have HI := hide (implIsNaN_any b · h0)
  by_cases hb : b = 9221120237041090560
  · subst hb
    go_enter Tryd.func72, Tryd.ntmps72
    go_wp2_with (go_at_call 73; refine (HI.out _).mono ?_; rintro e w' ⟨rfl, rfl⟩)
    all_goals go_ret
    all_goals exact ⟨rfl, rfl⟩
  · rw [decide_eq_false hb, Bool.false_or]
    have hb' : (b == 9221120237041090560) = false := by simpa using hb
    go_enter Tryd.func72, Tryd.ntmps72
    go_wp2_with (go_at_call 73; refine (HI.out _).mono ?_; rintro e w' ⟨rfl, rfl⟩)
    all_goals go_ret
    all_goals exact ⟨rfl, rfl⟩

set_option maxHeartbeats 400000 in
set_option maxRecDepth 100000 in
theorem within_any (v lo hi : Int) (w : World) :
    Calls Tryd.prog 71 #[.int .i64 v, .int .i64 lo, .int .i64 hi] w fun e w' => e = .returned (.bool (inI v lo hi)) ∧ w' = w := by
  by_cases h1 : lo ≤ v
  · by_cases h2 : v ≤ hi
    · rw [inI_t ⟨h1, h2⟩]
      go_enter Tryd.func71, Tryd.ntmps71
      go_wp2
      go_ret
      exact ⟨rfl, rfl⟩
    · rw [inI_f (by omega)]
      go_enter Tryd.func71, Tryd.ntmps71
      go_wp2
      go_ret
      exact ⟨rfl, rfl⟩
  · rw [inI_f (by omega)]
    go_enter Tryd.func71, Tryd.ntmps71
    go_wp2
    go_ret
    exact ⟨rfl, rfl⟩

theorem small_eq (v : Int) : (v == v % 256) = inI v 0 255 := by
  by_cases h : 0 ≤ v ∧ v ≤ 255
  · rw [inI_t h]; simp; omega
  · rw [inI_f h]; simp; omega
theorem int32_eq (v : Int) : (v == (v + 2147483648) % 4294967296 - 2147483648) = inI v (-2147483648) 2147483647 := by
  by_cases h : -2147483648 ≤ v ∧ v ≤ 2147483647
  · rw [inI_t h]; simp; omega
  · rw [inI_f h]; simp; omega

set_option maxHeartbeats 400000 in
set_option maxRecDepth 100000 in
theorem isLine_any (v : Int) (w : World) :
    Calls Tryd.prog 65 #[.int .i64 v] w fun e w' => e = .returned (.bool (inI v 0 2147483647)) ∧ w' = w := by
  go_enter Tryd.func65, Tryd.ntmps65
  go_wp2_with (go_at_call 71; refine (within_any _ _ _ _).mono ?_; rintro e w' ⟨rfl, rfl⟩)
  go_ret
  exact ⟨rfl, rfl⟩

end Go.Proofs.YtcpeabchaimkaaaDoor
namespace Go.Proofs.YtcpeabchaimkaaaDoor
open Go Go.RowKit
set_option linter.unusedVariables false

set_option maxHeartbeats 1600000 in
set_option maxRecDepth 100000 in
theorem constHasPlace_any (k i b : Int) (t : ByteArray) (w : World) (h0 : 0 ≤ b) (h1 : b < 18446744073709551616) (ht : t.size ≤ 1048576) :
    Calls Tryd.prog 66 #[.agg #[.int .i64 k, .int .i64 i, .int .u64 b, .string t]] w fun e w' => RetB (constOk k i b t) w e w' := by
  clear h1
  by_cases k4 : k = 4
  · subst k4
    go_enter Tryd.func66, Tryd.ntmps66
    go_wp2
    all_goals go_ret
    all_goals refine ⟨_, rfl, ?_, b_1 _ _⟩
    all_goals first | exact .inl ⟨rfl, by simp_all [constOk]⟩ | exact .inr ⟨rfl, by simp_all [constOk]⟩
  by_cases k5 : k = 5
  · subst k5
    have HI := hide (isFloatWord_any b · h0)
    by_cases hn : (decide (b = 9221120237041090560) || !isNanI b) = true
    · rw [hn] at HI
      have HNN : Hid (¬ (isNanI b = true ∧ b ≠ 9221120237041090560)) := by
        refine hide (fun hq => ?_)
        rw [hq.1, decide_eq_false hq.2] at hn
        cases hn
      clear hn
      go_enter Tryd.func66, Tryd.ntmps66
      go_wp2_with (go_at_call 72; refine (HI.out _).mono ?_; rintro e w' ⟨rfl, rfl⟩)
      all_goals go_ret
      all_goals refine ⟨_, rfl, ?_, b_1 _ _⟩
      all_goals first | exact .inl ⟨rfl, .inr (.inl ⟨rfl, by assumption, by assumption, HNN.out⟩)⟩ | exact .inr ⟨rfl, by simp_all [constOk]⟩
    · rw [Bool.not_eq_true] at hn
      rw [hn] at HI
      go_enter Tryd.func66, Tryd.ntmps66
      go_wp2_with (go_at_call 72; refine (HI.out _).mono ?_; rintro e w' ⟨rfl, rfl⟩)
      all_goals go_ret
      all_goals refine ⟨_, rfl, ?_, b_1 _ _⟩
      all_goals first | exact .inl ⟨rfl, by simp_all [constOk]⟩ | exact .inr ⟨rfl, by simp_all [constOk]⟩
  by_cases k6 : k = 6
  · subst k6
    by_cases hts : t.size ≤ 65536
    · have hti : ((t.size : Int) ≤ 65536) := by omega
      go_enter Tryd.func66, Tryd.ntmps66
      go_wp2
      all_goals go_ret
      all_goals refine ⟨_, rfl, ?_, b_1 _ _⟩
      all_goals clear ht hti
      all_goals first | exact .inl ⟨rfl, by simp_all [constOk]⟩ | exact .inr ⟨rfl, by simp_all [constOk]⟩
    · have hti : ¬ ((t.size : Int) ≤ 65536) := by omega
      go_enter Tryd.func66, Tryd.ntmps66
      go_wp2
      all_goals go_ret
      all_goals refine ⟨_, rfl, .inr ⟨rfl, ?_⟩, b_1 _ _⟩
      all_goals rintro (⟨h, _⟩ | ⟨h, _⟩ | ⟨_, _, _, h⟩)
      all_goals first | omega | exact hts h
  · go_enter Tryd.func66, Tryd.ntmps66
    go_wp2
    all_goals go_ret
    all_goals refine ⟨_, rfl, ?_, b_1 _ _⟩
    all_goals exact .inr ⟨rfl, by simp_all [constOk]⟩

end Go.Proofs.YtcpeabchaimkaaaDoor
