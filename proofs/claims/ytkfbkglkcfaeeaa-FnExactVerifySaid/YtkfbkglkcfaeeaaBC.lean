import Derived.Test.YtkfbkglkcfaeeaaBB
namespace Go.Proofs.Ytkfbkglkcfaeeaa
open Go Go.RowKit
set_option linter.unusedVariables false

set_option maxHeartbeats 1600000 in
set_option maxRecDepth 100000 in
theorem eqChunk_any (v v' : Value) (n : Nat) (P : Nat → PV) (w : World) (hn : n ≤ 1048576) (hf : allFit n P 1048576) (h : ProsA w v n P) (h' : ProsA w v' n P) :
    Calls Try.prog 14 #[.agg #[v], .agg #[v']] w fun e w' => e = .returned (.bool true) ∧ Below w.heap.size w w' := by
  have HB := hide (b_2 w (.cells #[v] 36) (.cells #[v'] 36))
  have HA := hide (h.low HB.out (Nat.le_refl _))
  have HA' := hide (h'.low HB.out (Nat.le_refl _))
  have HF := hide hf
  clear h h' hf
  go_enter Try.func14, Try.ntmps14
  go_wp2_with fail
  refine (eqProtoS_any v v' n P _ hn HF.out HA.out HA'.out).mono ?_
  rintro e w2 ⟨rfl, hb⟩
  have HB2 := hide (HB.out.trans (hb.mono HB.out.size))
  clear hb
  go_wp2
  go_ret
  exact ⟨rfl, HB2.out⟩

set_option maxHeartbeats 1600000 in
set_option maxRecDepth 100000 in
theorem eqVerdict_any (a b c : Int) (w : World) :
    Calls Try.prog 20 #[.agg #[.int .i64 a, .int .i64 b, .int .i64 c], .agg #[.int .i64 a, .int .i64 b, .int .i64 c]] w fun e w' => e = .returned (.bool true) ∧ Below w.heap.size w w' := by
  go_enter Try.func20, Try.ntmps20
  go_wp2
  go_ret
  exact ⟨rfl, b_2 _ _ _⟩

end Go.Proofs.Ytkfbkglkcfaeeaa
