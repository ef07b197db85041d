import Derived.Test.YtplfgfdlcfdfdaaBB
namespace Go.Proofs.Ytplfgfdlcfdfdaa
open Go Go.RowKit
set_option linter.unusedVariables false

set_option maxHeartbeats 1600000 in
set_option maxRecDepth 100000 in
theorem eqChunk_any (v v' : Value) (n : Nat) (P : Nat → PV) (w : World) (hn : n ≤ 1048576) (hf : allFit n P 1048576) (h : ProsA w v n P) (h' : ProsA w v' n P) :
    Calls Try.prog 9 #[.agg #[v], .agg #[v']] w fun e w' => e = .returned (.bool true) ∧ Below w.heap.size w w' := by
  have HB := hide (b_2 w (.cells #[v] 31) (.cells #[v'] 31))
  have HA := hide (h.low HB.out (Nat.le_refl _))
  have HA' := hide (h'.low HB.out (Nat.le_refl _))
  have HF := hide hf
  clear h h' hf
  go_enter Try.func9, Try.ntmps9
  go_wp2_with fail
  refine (eqProtoS_any v v' n P _ hn HF.out HA.out HA'.out).mono ?_
  rintro e w2 ⟨rfl, hb⟩
  have HB2 := hide (HB.out.trans (hb.mono HB.out.size))
  clear hb
  go_wp2
  go_ret
  exact ⟨rfl, HB2.out⟩

end Go.Proofs.Ytplfgfdlcfdfdaa
