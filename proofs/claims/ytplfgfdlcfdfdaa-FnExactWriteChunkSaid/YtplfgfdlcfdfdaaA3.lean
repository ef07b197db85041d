import Derived.Test.YtplfgfdlcfdfdaaA2
namespace Go.Proofs.Ytplfgfdlcfdfdaa
open Go Go.RowKit
set_option linter.unusedVariables false

theorem below_drw {B : Nat} {a w : World} (h : Below B a w) (n : Nat) : Below B a (w.drewN n) := ⟨h.os, h.tape, h.output, h.size, h.block⟩

set_option maxHeartbeats 400000 in
set_option maxRecDepth 100000 in
theorem eqByteS_any (v v' : Value) (n : Nat) (f : Nat → Nat) (w : World) (hn : n ≤ 1048576) (h : ByA w v n f) (h' : ByA w v' n f) :
    Calls Try.prog 8 #[v, v'] w fun e w' => e = .returned (.bool true) ∧ Below w.heap.size w w' := by
  by_cases h0 : n = 0
  · subst h0
    have e1 : ∃ a cap, v = .slice a 0 cap := by
      rcases h with ⟨_, a, cap, rfl⟩ | ⟨b, o, cap, rfl, _⟩
      · exact ⟨a, cap, rfl⟩
      · exact ⟨_, cap, rfl⟩
    have e2 : ∃ a cap, v' = .slice a 0 cap := by
      rcases h' with ⟨_, a, cap, rfl⟩ | ⟨b, o, cap, rfl, _⟩
      · exact ⟨a, cap, rfl⟩
      · exact ⟨_, cap, rfl⟩
    obtain ⟨a, cap, rfl⟩ := e1
    obtain ⟨a', cap', rfl⟩ := e2
    clear h h'
    go_enter Try.func8, Try.ntmps8
    go_wp2
    go_loopw [5] (fun iv wr => iv = .int .i64 0 ∧ wr = w) (fun _ _ => 0)
    case atStart => exact ⟨rfl, rfl⟩
    case round =>
      obtain ⟨rfl, rfl⟩ := hrel
      go_wp2
      go_ret
      exact ⟨rfl, Below.refl _ _⟩
  · rcases h with ⟨h9, _⟩ | ⟨b, o, cap, rfl, hb, hcap, hc⟩
    · exact absurd h9 h0
    rcases h' with ⟨h9, _⟩ | ⟨b', o', cap', rfl, hb', hcap', hc'⟩
    · exact absurd h9 h0
    have HC := hide hc
    have HC' := hide hc'
    clear hc hc'
    go_enter Try.func8, Try.ntmps8
    go_wp2
    go_loopw [5] (fun iv wr => ∃ i : Nat, i ≤ n ∧ iv = .int .i64 i ∧ Below w.heap.size w wr) (fun iv _ => match iv with | .int _ x => n - x.toNat | _ => 0)
    case atStart => exact ⟨0, by omega, rfl, Below.refl _ _⟩
    case round =>
      obtain ⟨i, hi9, rfl, hbw⟩ := hrel
      by_cases hin : i < n
      · have c1 := (hbw.cell (p := ⟨b, o + i, none⟩) hb).trans (HC.out i hin).2
        have c2 := (hbw.cell (p := ⟨b', o' + i, none⟩) hb').trans (HC'.out i hin).2
        go_wp2
        go_quiet (fail)
        go_wp2
        go_roundw
        case rel => exact ⟨i + 1, by omega, by simp, below_drw hbw _⟩
        case measure => simp; omega
      · obtain rfl : i = n := by omega
        go_wp2
        go_ret
        exact ⟨rfl, hbw⟩

end Go.Proofs.Ytplfgfdlcfdfdaa
