import Derived.Test.YtkfbkglkcfaeeaaBG
namespace Go.Proofs.Ytkfbkglkcfaeeaa
open Go Go.RowKit
set_option linter.unusedVariables false

def regI (p : PV) (r : Int) : Prop := 0 ≤ r ∧ r < p.regs
def textI (p : PV) (k : Int) : Prop := 0 ≤ k ∧ k < p.nc ∧ p.c0 k.toNat = 6
def constsI (p : PV) (o a b c : Int) : Prop := (o = 6 → 0 ≤ b ∧ b < p.nc) ∧ (o = 9 ∨ o = 10 ∨ o = 14 → textI p b) ∧ (o = 13 ∨ o = 15 → textI p c)
def countsI (p : PV) (o a b c : Int) : Prop :=
  (o = 3 → 1 ≤ b ∧ b ≤ p.regs - a) ∧ (o = 4 → b = 0 ∨ b = 1) ∧ (o = 5 → -32768 ≤ b ∧ b ≤ 32767) ∧ (o = 17 ∨ o = 18 → 1 ≤ b) ∧ (o = 28 → 0 ≤ b ∧ 0 ≤ c ∧ b ≤ p.regs - a ∧ c ≤ p.regs - a + 1) ∧
    (o = 29 → 0 ≤ b ∧ b ≤ p.regs - a) ∧ (o = 30 ∨ o = 31 → 0 ≤ b ∧ b ≤ p.regs - a + 1) ∧ (o = 37 → 1 ≤ b ∧ b ≤ p.regs - a - 3)

set_option maxHeartbeats 1600000 in
set_option maxRecDepth 100000 in
theorem reg_any (v : Value) (k : Nat) (p : PV) (s4 s5 s6 s7 : Value) (r : Int) (w : World) :
    Calls Try.prog 65 #[XV v k p s4 s5 s6 s7, .int .i64 r] w fun e w' => RetB (regI p r) w e w' := by
  unfold XV
  go_enter Try.func65, Try.ntmps65
  go_wp2
  all_goals go_ret
  all_goals refine ⟨_, rfl, boolR_iff ?_, b_1 _ _⟩
  all_goals (simp_all [regI])
  all_goals omega

set_option maxHeartbeats 1600000 in
set_option maxRecDepth 100000 in
theorem text_any (v : Value) (k : Nat) (p : PV) (s4 s5 s6 s7 : Value) (j : Int) (w : World) (hnc : p.nc ≤ 1048576) (h : ConsA w s5 p.nc p.c0 p.c1 p.c2 p.c3) :
    Calls Try.prog 92 #[XV v k p s4 s5 s6 s7, .int .i64 j] w fun e w' => RetB (textI p j) w e w' := by
  by_cases hj : 0 ≤ j ∧ j < p.nc
  · rcases h with ⟨h9, _⟩ | ⟨b, o, cap, rfl, hb, hcap, hc⟩
    · omega
    · obtain ⟨m, rfl⟩ := Int.eq_ofNat_of_zero_le hj.1
      have hc0 := (hc m (by omega)).1
      have hm : m < p.nc := by omega
      clear hc
      have c0 := ((b_1 w (.cells #[v, .int .i64 k, .int .i64 p.params, .int .i64 p.regs, .int .i64 p.line, .bool p.dots, s4, .slice (some ⟨b, o, none⟩) p.nc cap, s6, s7] 73)).cell (p := ⟨b, o + m * 4, none⟩) hb).trans hc0
      clear hc0
      unfold XV
      go_enter Try.func92, Try.ntmps92
      go_wp2
      all_goals go_ret
      all_goals refine ⟨_, rfl, boolR_iff ?_, b_1 _ _⟩
      all_goals (simp_all [textI])
  · obtain ⟨a5, k5, rfl⟩ := h.val
    clear h
    unfold XV
    go_enter Try.func92, Try.ntmps92
    go_wp2
    all_goals first | (go_ret; exact ⟨_, rfl, .inr ⟨rfl, fun h => hj ⟨h.1, h.2.1⟩⟩, b_1 _ _⟩) | (exfalso; omega)

set_option maxHeartbeats 1600000 in
set_option maxRecDepth 100000 in
theorem counts_any (v : Value) (k : Nat) (p : PV) (s4 s5 s6 s7 : Value) (o a b c : Int) (w : World) (hr0 : 0 ≤ p.regs) (hr1 : p.regs ≤ 255) (ha0 : 0 ≤ a) (ha1 : a ≤ 255) :
    Calls Try.prog 70 #[XV v k p s4 s5 s6 s7, insV o a b c] w fun e w' => RetB (countsI p o a b c) w e w' := by
  unfold XV insV
  go_enter Try.func70, Try.ntmps70
  go_wp2_with (go_at_call 35; refine (l07In_any _ _ _ _).mono ?_; rintro e w' ⟨rfl, rfl⟩)
  all_goals go_ret
  all_goals refine ⟨_, rfl, boolR_iff ?_, b_2 _ _ _⟩
  all_goals (simp_all [countsI, inI])
  all_goals omega

end Go.Proofs.Ytkfbkglkcfaeeaa
