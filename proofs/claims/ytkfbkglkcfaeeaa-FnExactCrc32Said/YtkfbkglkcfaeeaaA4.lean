import Derived.Test.YtkfbkglkcfaeeaaA3
import Derived.Test.YtkfbkglkcfaeeaaM2
namespace Go.Proofs.Ytkfbkglkcfaeeaa
open Go Go.RowKit
set_option linter.unusedVariables false

set_option maxHeartbeats 400000 in
set_option maxRecDepth 100000 in
theorem crcLaw_any (v : Value) (n : Nat) (f : Nat → Nat) (w : World) (h : ByA w v n f) :
    Calls Try.prog 3 #[v] w fun e w' => e = .returned (.bool true) ∧ Below w.heap.size w w' := by
  have HA := hide h
  obtain ⟨a, cap, rfl⟩ := h.val
  clear h
  by_cases hn : n ≤ 1048576
  · have hlen : ¬ ((1048576 : Int) < (n : Int)) := by omega
    go_enter Try.func3, Try.ntmps3
    go_wp2_with fail
    refine (toByteS_any _ n f w hn HA.out).mono ?_
    rintro e w1 ⟨v1, rfl, ho1, hb1⟩
    have hA1 := HA.out.low hb1 (Nat.le_refl _)
    have HB1 := hide hb1
    have HO1 := hide ho1
    clear hb1 ho1
    go_wp2_with fail
    refine (specCrc_any v1 n f w1 (by omega) HO1.out.by).mono ?_
    rintro e w2 ⟨rfl, hb2⟩
    have HB2 := hide (HB1.out.trans (hb2.mono HB1.out.size))
    have HA2 := hide (hA1.low hb2 (Nat.le_refl _))
    clear hA1 HB1 HO1 hb2
    go_wp2_with fail
    refine (toByteS_any _ n f w2 hn HA2.out).mono ?_
    rintro e w3 ⟨v3, rfl, ho3, hb3⟩
    have HB3 := hide (HB2.out.trans (hb3.mono HB2.out.size))
    have HA3 := hide (HA2.out.low hb3 (Nat.le_refl _))
    have HO3 := hide ho3.by
    clear HB2 HA2 hb3 ho3
    go_wp2_with fail
    refine (implCrc_any v3 n f w3 (by omega) HO3.out).mono ?_
    rintro e w4 ⟨rfl, hb4⟩
    have HB4 := hide (HB3.out.trans (hb4.mono HB3.out.size))
    have HA4 := hide (HA3.out.low hb4 (Nat.le_refl _))
    have HO4 := hide (HO3.out.low hb4 (Nat.le_refl _))
    clear HB3 HA3 HO3 hb4
    generalize crcN f n ^^^ 4294967295 = C
    go_wp2_with fail
    refine (toByteS_any _ n f w4 hn HA4.out).mono ?_
    rintro e w5 ⟨v5, rfl, ho5, hb5⟩
    have HB5 := hide (HB4.out.trans (hb5.mono HB4.out.size))
    have HO5 := hide (HO4.out.low hb5 (Nat.le_refl _))
    have HN5 := hide ho5.by
    clear HB4 HA4 HO4 hb5 ho5
    go_wp2_with fail
    refine (eqByteS_any v3 v5 n f w5 hn HO5.out HN5.out).mono ?_
    rintro e w6 ⟨rfl, hb6⟩
    have HB6 := hide (HB5.out.trans (hb6.mono HB5.out.size))
    clear HB5 HO5 HN5 hb6
    go_wp2
    go_ret
    exact ⟨rfl, HB6.out⟩
  · have hlen : ((1048576 : Int) < (n : Int)) := by omega
    go_enter Try.func3, Try.ntmps3
    go_wp2
    go_ret
    exact ⟨rfl, Below.refl _ _⟩

end Go.Proofs.Ytkfbkglkcfaeeaa
