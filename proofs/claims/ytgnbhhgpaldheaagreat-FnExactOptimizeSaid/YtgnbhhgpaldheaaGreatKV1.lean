import Derived.Test.YtgnbhhgpaldheaaGreatKN4
import Derived.Test.YtgnbhhgpaldheaaGreatKBF
namespace Go.Proofs.YtgnbhhgpaldheaaGreat
open Go Go.RowKit
set_option linter.unusedVariables false
set_option maxHeartbeats 1600000 in
set_option maxRecDepth 100000 in
theorem hasShape_any (p : PV) (s4 s5 s6 s7 : Value) (w : World) (hf : p.fits 1048576) (hbit : p.bitsOk) (h : PVA w p s4 s5 s6 s7) :
    Calls Tryz.prog 37 #[p.agg s4 s5 s6 s7] w fun e w' => RetB (plainOk p ∧ shape2 p) w e w' := by
  have HF := hide hf
  have HBit := hide hbit
  obtain ⟨hs1, hs2, hs3, hs4, -⟩ := hf
  obtain ⟨a4, k4, e4⟩ := h.u.val
  obtain ⟨a5, k5, e5⟩ := h.c.val
  obtain ⟨a6, k6, e6⟩ := h.i.val
  have HA := hide h
  clear h hbit
  subst e4 e5 e6
  unfold PV.agg
  have HP1 := hide (PC.mk w 45 p (.slice a4 p.nu k4) (.slice a5 p.nc k5) (.slice a6 p.ni k6) s7)
  have HB1 := hide (b_1 w (.cells #[.int .i64 p.params, .int .i64 p.regs, .int .i64 p.line, .bool p.dots, .slice a4 p.nu k4, .slice a5 p.nc k5, .slice a6 p.ni k6, s7] 45))
  have HA1 := hide (HA.out.low HB1.out (Nat.le_refl _))
  clear HA
  go_enter Tryz.func37, Tryz.ntmps37
  go_wp2_with fail
  generalize w.alloc (.cells #[.int .i64 p.params, .int .i64 p.regs, .int .i64 p.line, .bool p.dots, .slice a4 p.nu k4, .slice a5 p.nc k5, .slice a6 p.ni k6, s7] 45) = w1 at HP1 HB1 HA1 ⊢
  refine (hasPlaces_any p _ _ _ _ w1 HF.out HBit.out HA1.out).mono ?_
  rintro e w2 ⟨r, rfl, hr, hb2⟩
  have HP2 := hide (HP1.out.low hb2 HP1.out.1)
  have HB2 := hide (HB1.out.trans (hb2.mono HB1.out.size))
  clear HP1 HB1 HA1 hb2
  rcases hr with ⟨rfl, hr⟩ | ⟨rfl, hr⟩
  case inr =>
    have HR := hide hr
    clear hr
    go_wp2
    go_ret
    exact ⟨_, rfl, .inr ⟨rfl, fun h => HR.out h.1⟩, HB2.out⟩
  have HR := hide hr
  clear hr
  obtain ⟨-, d0, d1, d2, d3, d4, d5, d6, d7⟩ := HP2.out
  have hmin : (p.params ≤ min p.regs 180) ↔ (p.params ≤ p.regs ∧ p.params ≤ 180) := by omega
  rcases x1 : inI p.regs 1 250 with _ | _ <;> rcases x2 : inI (p.ni : Int) 1 20000 with _ | _ <;> by_cases x3 : p.params ≤ min p.regs 180 <;> by_cases x4 : (p.nu : Int) ≤ 60 <;> by_cases x5 : (p.nc : Int) ≤ 4000
  all_goals clear hmin
  all_goals go_wp2_with (go_at_call 36; refine (within_any _ _ _ _).mono ?_; rintro e w' ⟨rfl, rfl⟩)
  all_goals go_ret
  all_goals refine ⟨_, rfl, ?_, HB2.out⟩
  all_goals first
    | exact .inl ⟨rfl, HR.out, by omega, by omega, x1, by omega, by omega, x2⟩
    | exact .inr ⟨rfl, fun ⟨_, q1, q2, q3, q4, q5, q6⟩ => by first | omega | exact absurd (x1.symm.trans q3) (by decide) | exact absurd (x2.symm.trans q6) (by decide)⟩
set_option maxHeartbeats 1600000 in
set_option maxRecDepth 100000 in
theorem canBeText_any (p : PV) (a4 : Option Addr) (k4 : Nat) (s5 s6 s7 : Value) (w : World) (hf : p.nu ≤ 1048576) :
    Calls Tryz.prog 38 #[p.agg (.slice a4 p.nu k4) s5 s6 s7] w fun e w' => RetB (lastOk p) w e w' := by
  unfold PV.agg
  by_cases x1 : p.params = 0 <;> by_cases x2 : (p.nu : Int) = 0 <;> rcases x3 : p.dots with _ | _
  all_goals go_enter Tryz.func38, Tryz.ntmps38
  all_goals go_wp2
  all_goals go_ret
  all_goals refine ⟨_, rfl, ?_, b_1 _ _⟩
  all_goals first | exact .inl ⟨rfl, x1, x3, by omega⟩ | exact .inr ⟨rfl, fun ⟨q1, q2, q3⟩ => by first | exact x1 q1 | exact absurd (x3.symm.trans q2) (by decide) | omega⟩
end Go.Proofs.YtgnbhhgpaldheaaGreat
