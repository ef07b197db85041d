import Derived.Test.YtgnbhhgpaldheaaGreatKN3
import Derived.Test.YtgnbhhgpaldheaaGreatKBI
namespace Go.Proofs.YtgnbhhgpaldheaaGreat
open Go Go.RowKit
set_option linter.unusedVariables false
set_option maxHeartbeats 1600000 in
set_option maxRecDepth 100000 in
theorem hasPlaces_any (p : PV) (s4 s5 s6 s7 : Value) (w : World) (hf : p.fits 1048576) (hbit : p.bitsOk) (h : PVA w p s4 s5 s6 s7) :
    Calls Tryz.prog 81 #[p.agg s4 s5 s6 s7] w fun e w' => RetB (plainOk p) w e w' := by
  obtain ⟨hs1, hs2, hs3, hs4, hs5⟩ := hf
  obtain ⟨a4, k4, e4⟩ := h.u.val
  obtain ⟨a5, k5, e5⟩ := h.c.val
  obtain ⟨a6, k6, e6⟩ := h.i.val
  obtain ⟨a7, k7, e7⟩ := h.l.val
  have HA := hide h
  have HS := hide hs5
  have HBit := hide hbit
  clear h hs5 hbit
  unfold PV.agg
  by_cases hh : ¬ headOk p
  · have HN := hide hh
    clear hh
    subst e4 e5 e6 e7
    by_cases hnl : p.nl = p.ni
    · go_enter Tryz.func81, Tryz.ntmps81
      go_wp2_with (first | (go_at_call 110; refine (isSmall_any _ _).mono ?_; rintro e w' ⟨rfl, rfl⟩) | (go_at_call 111; refine (isLine_any _ _).mono ?_; rintro e w' ⟨rfl, rfl⟩))
      all_goals first | (go_ret; exact ⟨_, rfl, .inr ⟨rfl, fun h => HN.out h.1⟩, b_1 _ _⟩) | (exfalso; apply HN.out; refine ⟨?_, ?_, ?_, ?_, ?_, ?_, ?_⟩ <;> first | assumption | omega | simpa using ‹(!inI p.line 0 2147483647) = false›)
    · have hni : ((p.nl : Int) != (p.ni : Int)) = true := by simp; omega
      go_enter Tryz.func81, Tryz.ntmps81
      go_wp2_with (first | (go_at_call 110; refine (isSmall_any _ _).mono ?_; rintro e w' ⟨rfl, rfl⟩) | (go_at_call 111; refine (isLine_any _ _).mono ?_; rintro e w' ⟨rfl, rfl⟩))
      all_goals first | (go_ret; exact ⟨_, rfl, .inr ⟨rfl, fun h => HN.out h.1⟩, b_1 _ _⟩) | (exfalso; omega)
  · replace hh := Classical.not_not.1 hh
    have HH := hide hh
    obtain ⟨h1, h2, h3, h4, h5, h6, h7⟩ := hh
    have i4 : ¬ ((255 : Int) < (p.nu : Int)) := by omega
    have i5 : ¬ ((65535 : Int) < (p.nc : Int)) := by omega
    have i6 : ¬ ((65535 : Int) < (p.ni : Int)) := by omega
    have HP1 := hide (PC.mk w 45 p s4 s5 s6 s7)
    have HB1 := hide (b_1 w (.cells #[.int .i64 p.params, .int .i64 p.regs, .int .i64 p.line, .bool p.dots, s4, s5, s6, s7] 45))
    subst e4 e5 e6 e7
    go_enter Tryz.func81, Tryz.ntmps81
    go_wp2_with (first | (go_at_call 110; refine (isSmall_any _ _).mono ?_; rintro e w' ⟨rfl, rfl⟩) | (go_at_call 111; refine (isLine_any _ _).mono ?_; rintro e w' ⟨rfl, rfl⟩))
    rw [h7] at HP1 HB1
    generalize w.alloc (.cells #[.int .i64 p.params, .int .i64 p.regs, .int .i64 p.line, .bool p.dots, .slice a4 p.nu k4, .slice a5 p.nc k5, .slice a6 p.ni k6, .slice a7 p.ni k7] 45) = w1 at HP1 HB1 ⊢
    have HA1 := hide (HA.out.low HB1.out (Nat.le_refl _))
    clear HA
    refine (allUp_any _ p.nu p.u0 p.u1 (fun k => inI (p.u1 k) 0 255 = true) w1 hs1 HA1.out.u (fun i hi w' hw => ?_)).mono ?_
    · refine (upHasPlace_any _ _ _).mono ?_
      rintro e w2 ⟨rfl, hb⟩
      exact ⟨_, rfl, boolR_iff Iff.rfl, hb⟩
    rintro e w2 ⟨r, rfl, hr, hb2⟩
    have HP2 := hide (HP1.out.low hb2 HP1.out.1)
    have HB2 := hide (HB1.out.trans (hb2.mono HB1.out.size))
    have HA2 := hide (HA1.out.low hb2 (Nat.le_refl _))
    clear HP1 HB1 HA1 hb2
    obtain ⟨-, -, -, -, -, d4, d5, d6, d7⟩ := HP2.out
    rcases hr with ⟨rfl, hr⟩ | ⟨rfl, hr⟩
    case inr =>
      have HR := hide hr
      clear hr
      go_wp2
      go_ret
      exact ⟨_, rfl, .inr ⟨rfl, fun h => HR.out h.2.1⟩, HB2.out⟩
    have HU := hide hr
    clear hr
    go_wp2_with fail
    clear d4 d5 d6 d7
    refine (allConst_any _ p.nc p.c0 p.c1 p.c2 p.c3 (fun k => constOk (p.c0 k) (p.c1 k) (p.c2 k) (p.c3 k)) w2 hs2 HA2.out.c (fun i hi w' hw => constHasPlace_any _ _ _ _ _ (HBit.out i hi).1 (HBit.out i hi).2 (HS.out i hi))).mono ?_
    rintro e w3 ⟨r, rfl, hr, hb2⟩
    have HP3 := hide (HP2.out.low hb2 HP2.out.1)
    have HB3 := hide (HB2.out.trans (hb2.mono HB2.out.size))
    have HA3 := hide (HA2.out.low hb2 (Nat.le_refl _))
    clear HP2 HB2 HA2 hb2
    obtain ⟨-, -, -, -, -, d4, d5, d6, d7⟩ := HP3.out
    rcases hr with ⟨rfl, hr⟩ | ⟨rfl, hr⟩
    case inr =>
      have HR := hide hr
      clear hr
      go_wp2
      go_ret
      exact ⟨_, rfl, .inr ⟨rfl, fun h => HR.out h.2.2.1⟩, HB3.out⟩
    have HC := hide hr
    clear hr
    go_wp2_with fail
    clear d4 d5 d6 d7
    refine (allInstr_any _ p.ni p.i0 p.i1 p.i2 p.i3 (fun k => (inI (p.i0 k) 0 255 = true ∧ inI (p.i1 k) 0 255 = true ∧ inI (p.i2 k) (-2147483648) 2147483647 = true ∧ inI (p.i3 k) (-2147483648) 2147483647 = true)) w3 hs3 HA3.out.i (fun i hi w' hw => instrHasPlace_any _ _ _ _ _)).mono ?_
    rintro e w4 ⟨r, rfl, hr, hb2⟩
    have HP4 := hide (HP3.out.low hb2 HP3.out.1)
    have HB4 := hide (HB3.out.trans (hb2.mono HB3.out.size))
    have HA4 := hide (HA3.out.low hb2 (Nat.le_refl _))
    clear HP3 HB3 HA3 hb2
    obtain ⟨-, -, -, -, -, d4, d5, d6, d7⟩ := HP4.out
    rcases hr with ⟨rfl, hr⟩ | ⟨rfl, hr⟩
    case inr =>
      have HR := hide hr
      clear hr
      go_wp2
      go_ret
      exact ⟨_, rfl, .inr ⟨rfl, fun h => HR.out (fun k hk => (h.2.2.2 k hk).1)⟩, HB4.out⟩
    have HI := hide hr
    clear hr
    go_wp2_with fail
    clear d4 d5 d6 d7
    have hl4 := HA4.out.l
    rw [h7] at hl4
    refine (allInt_any _ p.ni p.l0 (fun k => inI (p.l0 k) 0 2147483647 = true) w4 hs3 hl4 (fun i hi w' hw => ?_)).mono ?_
    · refine (isLine_any _ _).mono ?_
      rintro e w2 ⟨rfl, rfl⟩
      exact ⟨_, rfl, boolR_iff Iff.rfl, Below.refl _ _⟩
    rintro e w5 ⟨r, rfl, hr, hb2⟩
    have HB5 := hide (HB4.out.trans (hb2.mono HB4.out.size))
    clear HP4 HB4 HA4 hb2 hl4
    rcases hr with ⟨rfl, hr⟩ | ⟨rfl, hr⟩
    case inr =>
      have HR := hide hr
      clear hr
      go_wp2
      go_ret
      exact ⟨_, rfl, .inr ⟨rfl, fun h => HR.out (fun k hk => (h.2.2.2 k hk).2)⟩, HB5.out⟩
    have HL := hide hr
    clear hr
    go_wp2
    go_ret
    exact ⟨_, rfl, .inl ⟨rfl, HH.out, HU.out, HC.out, fun k hk => ⟨HI.out k hk, HL.out k hk⟩⟩, HB5.out⟩
end Go.Proofs.YtgnbhhgpaldheaaGreat
