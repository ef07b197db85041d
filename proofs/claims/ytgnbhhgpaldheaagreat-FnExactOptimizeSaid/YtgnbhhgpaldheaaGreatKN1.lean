import Derived.Test.YtgnbhhgpaldheaaGreatKBE
import Derived.Laws.Cover2
namespace Go.Proofs.YtgnbhhgpaldheaaGreat
open Go Go.RowKit
set_option linter.unusedVariables false
theorem datum_self (d : Ieee.Datum) (h : ∀ s m, d ≠ .nan s m) : d.order d = some .eq := by
  cases d with
  | nan s m => exact absurd rfl (h s m)
  | infinity s => simp [Ieee.Datum.order]
  | number s m i => simp [Ieee.Datum.order]
theorem double_sign : Ieee.double.signWeight = 9223372036854775808 := by decide
theorem double_inf : Ieee.double.infRung = 9218868437227405312 := by decide
theorem self_nan (x : Nat) : (FloatKind.f64.format.order x x != some .eq) = isNanI (x : Int) := by
  have e : FloatKind.f64.format.order x x = (Ieee.double.read x).order (Ieee.double.read x) := rfl
  rw [e]
  by_cases h : 9218868437227405312 < x % 9223372036854775808
  · have hr : ∃ s m, Ieee.double.read x = .nan s m := by
      have hb : Ieee.double.binade ≤ Ieee.double.infRung := by decide
      refine ⟨(x / 9223372036854775808 % 2 == 1), x % 9223372036854775808 - 9218868437227405312, ?_⟩
      unfold Ieee.Format.read
      rw [double_sign, double_inf] at *
      dsimp only
      rw [if_neg (by omega), if_neg (by omega), if_neg (by omega)]
    obtain ⟨s, m, hr⟩ := hr
    rw [hr]
    have : isNanI (x : Int) = true := by unfold isNanI; simp; omega
    rw [this]
    rfl
  · have hr : ∀ s m, Ieee.double.read x ≠ .nan s m := by
      intro s m
      unfold Ieee.Format.read
      rw [double_sign, double_inf]
      dsimp only
      split
      · intro h; cases h
      · split
        · intro h; cases h
        · split
          · intro h; cases h
          · omega
    rw [datum_self _ hr]
    have : isNanI (x : Int) = false := by unfold isNanI; simp; omega
    rw [this]
    rfl
set_option maxHeartbeats 400000 in
set_option maxRecDepth 100000 in
theorem implIsNaN_A (A : Nat) (w : World) : Calls Tryz.prog 140 #[.float .f64 A] w fun e w' => e = .returned (.bool (FloatKind.f64.format.order A A != some .eq)) ∧ w' = w := by
  go_enter Tryz.func140, Tryz.ntmps140
  go_wp2
  all_goals go_ret
  all_goals exact ⟨rfl, rfl⟩
theorem implIsNaN_any (b : Int) (w : World) (h0 : 0 ≤ b) : Calls Tryz.prog 140 #[.float .f64 b.toNat] w fun e w' => e = .returned (.bool (isNanI b)) ∧ w' = w := by
  have h := self_nan b.toNat
  rw [show ((b.toNat : Nat) : Int) = b by omega] at h
  rw [← h]
  exact implIsNaN_A _ w
theorem run_frombits (z : Int) (w : World) : (callFunc 141 #[.int .u64 z]).run Tryz.prog w = .ok (.value (.float .f64 z.toNat)) w := by
  rw [run_callFunc_extern (e := Extern.MathFloatBits.float64frombits) Tryz.func141 (by kernel_rfl) (by kernel_rfl) (by kernel_rfl) (by kernel_rfl)]
  rfl
set_option maxHeartbeats 400000 in
set_option maxRecDepth 100000 in
theorem isFloatWord_any (b : Int) (w : World) (h0 : 0 ≤ b) : Calls Tryz.prog 132 #[.int .u64 b] w fun e w' => e = .returned (.bool (decide (b = 9221120237041090560) || !isNanI b)) ∧ w' = w := by
  have hfb := run_frombits b
  have HI := hide (implIsNaN_any b · h0)
  by_cases hb : b = 9221120237041090560
  · subst hb
    go_enter Tryz.func132, Tryz.ntmps132
    go_wp2_with (go_at_call 140; refine (HI.out _).mono ?_; rintro e w' ⟨rfl, rfl⟩)
    all_goals go_ret
    all_goals exact ⟨rfl, rfl⟩
  · rw [decide_eq_false hb, Bool.false_or]
    have hb' : (b == 9221120237041090560) = false := by simpa using hb
    go_enter Tryz.func132, Tryz.ntmps132
    go_wp2_with (go_at_call 140; refine (HI.out _).mono ?_; rintro e w' ⟨rfl, rfl⟩)
    all_goals go_ret
    all_goals exact ⟨rfl, rfl⟩
set_option maxHeartbeats 400000 in
set_option maxRecDepth 100000 in
theorem within_any (v lo hi : Int) (w : World) :
    Calls Tryz.prog 36 #[.int .i64 v, .int .i64 lo, .int .i64 hi] w fun e w' => e = .returned (.bool (inI v lo hi)) ∧ w' = w := by
  by_cases h1 : lo ≤ v
  · by_cases h2 : v ≤ hi
    · rw [inI_t ⟨h1, h2⟩]
      go_enter Tryz.func36, Tryz.ntmps36
      go_wp2
      go_ret
      exact ⟨rfl, rfl⟩
    · rw [inI_f (by omega)]
      go_enter Tryz.func36, Tryz.ntmps36
      go_wp2
      go_ret
      exact ⟨rfl, rfl⟩
  · rw [inI_f (by omega)]
    go_enter Tryz.func36, Tryz.ntmps36
    go_wp2
    go_ret
    exact ⟨rfl, rfl⟩
theorem small_eq (v : Int) : (v == v % 256) = inI v 0 255 := by
  by_cases h : 0 ≤ v ∧ v ≤ 255
  · rw [inI_t h]; simp; omega
  · rw [inI_f h]; simp; omega
theorem int32_eq (v : Int) : (v == (v + 2147483648) % 4294967296 - 2147483648) = inI v (-2147483648) 2147483647 := by
  by_cases h : -2147483648 ≤ v ∧ v ≤ 2147483647
  · rw [inI_t h]; simp; omega
  · rw [inI_f h]; simp; omega
set_option maxHeartbeats 400000 in
set_option maxRecDepth 100000 in
theorem isSmall_any (v : Int) (w : World) :
    Calls Tryz.prog 110 #[.int .i64 v] w fun e w' => e = .returned (.bool (inI v 0 255)) ∧ w' = w := by
  rw [← small_eq]
  go_enter Tryz.func110, Tryz.ntmps110
  go_wp2
  go_ret
  exact ⟨rfl, rfl⟩
set_option maxHeartbeats 400000 in
set_option maxRecDepth 100000 in
theorem isLine_any (v : Int) (w : World) :
    Calls Tryz.prog 111 #[.int .i64 v] w fun e w' => e = .returned (.bool (inI v 0 2147483647)) ∧ w' = w := by
  go_enter Tryz.func111, Tryz.ntmps111
  go_wp2_with (go_at_call 36; refine (within_any _ _ _ _).mono ?_; rintro e w' ⟨rfl, rfl⟩)
  go_ret
  exact ⟨rfl, rfl⟩
set_option maxHeartbeats 400000 in
set_option maxRecDepth 100000 in
theorem upHasPlace_any (b : Bool) (v : Int) (w : World) :
    Calls Tryz.prog 113 #[.agg #[.bool b, .int .i64 v]] w fun e w' => e = .returned (.bool (inI v 0 255)) ∧ Below w.heap.size w w' := by
  go_enter Tryz.func113, Tryz.ntmps113
  go_wp2_with (go_at_call 110; refine (isSmall_any _ _).mono ?_; rintro e w' ⟨rfl, rfl⟩)
  go_ret
  exact ⟨rfl, b_1 _ _⟩
set_option maxHeartbeats 6400000 in
set_option maxRecDepth 100000 in
theorem instrHasPlace_any (o a b c : Int) (w : World) :
    Calls Tryz.prog 117 #[.agg #[.int .i64 o, .int .i64 a, .int .i64 b, .int .i64 c]] w fun e w' => RetB (inI o 0 255 = true ∧ inI a 0 255 = true ∧ inI b (-2147483648) 2147483647 = true ∧ inI c (-2147483648) 2147483647 = true) w e w' := by
  have k1 : ∀ v : Int, (v % 256 = v ∧ inI v 0 255 = true) ∨ ((v == v % 256) = false ∧ inI v 0 255 = false) := fun v => by
    by_cases h : 0 ≤ v ∧ v ≤ 255
    · exact .inl ⟨by omega, inI_t h⟩
    · exact .inr ⟨by rw [small_eq, inI_f h], inI_f h⟩
  have k2 : ∀ v : Int, ((wrap32 v = v ∧ wrap64 v = v) ∧ inI v (-2147483648) 2147483647 = true) ∨ ((∃ x : Int, wrap32 v = x ∧ wrap64 x = x ∧ ¬ v = x) ∧ inI v (-2147483648) 2147483647 = false) := fun v => by
    by_cases h : -2147483648 ≤ v ∧ v ≤ 2147483647
    · exact .inl ⟨⟨by unfold wrap32; omega, by unfold wrap64; omega⟩, inI_t h⟩
    · exact .inr ⟨⟨wrap32 v, rfl, by unfold wrap64 wrap32; omega, by unfold wrap32; omega⟩, inI_f h⟩
  rcases k1 o with ⟨e1, f1⟩ | ⟨e1, f1⟩ <;> rcases k1 a with ⟨e2, f2⟩ | ⟨e2, f2⟩ <;> rcases k2 b with ⟨⟨e3, g3⟩, f3⟩ | ⟨⟨x3, e3, g3, i3⟩, f3⟩ <;> rcases k2 c with ⟨⟨e4, g4⟩, f4⟩ | ⟨⟨x4, e4, g4, i4⟩, f4⟩
  all_goals rw [f1, f2, f3, f4]
  all_goals clear k1 k2 f1 f2 f3 f4
  all_goals go_enter Tryz.func117, Tryz.ntmps117
  all_goals go_wp2
  all_goals go_ret
  all_goals refine ⟨_, rfl, ?_, b_1 _ _⟩
  all_goals first | exact .inl ⟨rfl, by simp⟩ | exact .inr ⟨rfl, by simp⟩
end Go.Proofs.YtgnbhhgpaldheaaGreat
