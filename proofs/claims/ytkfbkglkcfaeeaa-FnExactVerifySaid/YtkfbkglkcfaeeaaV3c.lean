import Derived.Test.YtkfbkglkcfaeeaaV3
namespace Go.Proofs.Ytkfbkglkcfaeeaa
open Go Go.RowKit
set_option linter.unusedVariables false

set_option maxHeartbeats 1600000 in
set_option maxRecDepth 100000 in
theorem names23_any (w : World) : Calls Try.prog 71 #[.int .i64 23] w fun e w' => e = .returned (.tuple #[.agg #[.int .i64 1, .int .i64 1, .int .i64 0, .int .i64 0], .bool true]) ∧ Below w.heap.size w w' := by
  go_enter Try.func71, Try.ntmps71
  go_wp2
  refine bodyPost_ret (v := .tuple #[.agg #[.int .i64 1, .int .i64 1, .int .i64 0, .int .i64 0], .bool true]) ?_ rfl ⟨rfl, ?_⟩
  · exact res_names _ w.heap.size _ _ _ _ _ _ rfl rfl (by simp) (by simp) (by simp) (by simp)
  · exact b_1 _ _

set_option maxHeartbeats 1600000 in
set_option maxRecDepth 100000 in
theorem names24_any (w : World) : Calls Try.prog 71 #[.int .i64 24] w fun e w' => e = .returned (.tuple #[.agg #[.int .i64 1, .int .i64 1, .int .i64 0, .int .i64 0], .bool true]) ∧ Below w.heap.size w w' := by
  go_enter Try.func71, Try.ntmps71
  go_wp2
  refine bodyPost_ret (v := .tuple #[.agg #[.int .i64 1, .int .i64 1, .int .i64 0, .int .i64 0], .bool true]) ?_ rfl ⟨rfl, ?_⟩
  · exact res_names _ w.heap.size _ _ _ _ _ _ rfl rfl (by simp) (by simp) (by simp) (by simp)
  · exact b_1 _ _

set_option maxHeartbeats 1600000 in
set_option maxRecDepth 100000 in
theorem names25_any (w : World) : Calls Try.prog 71 #[.int .i64 25] w fun e w' => e = .returned (.tuple #[.agg #[.int .i64 0, .int .i64 6, .int .i64 0, .int .i64 0], .bool true]) ∧ Below w.heap.size w w' := by
  go_enter Try.func71, Try.ntmps71
  go_wp2
  refine bodyPost_ret (v := .tuple #[.agg #[.int .i64 0, .int .i64 6, .int .i64 0, .int .i64 0], .bool true]) ?_ rfl ⟨rfl, ?_⟩
  · exact res_names _ w.heap.size _ _ _ _ _ _ rfl rfl (by simp) (by simp) (by simp) (by simp)
  · exact b_1 _ _

set_option maxHeartbeats 1600000 in
set_option maxRecDepth 100000 in
theorem names26_any (w : World) : Calls Try.prog 71 #[.int .i64 26] w fun e w' => e = .returned (.tuple #[.agg #[.int .i64 1, .int .i64 6, .int .i64 0, .int .i64 0], .bool true]) ∧ Below w.heap.size w w' := by
  go_enter Try.func71, Try.ntmps71
  go_wp2
  refine bodyPost_ret (v := .tuple #[.agg #[.int .i64 1, .int .i64 6, .int .i64 0, .int .i64 0], .bool true]) ?_ rfl ⟨rfl, ?_⟩
  · exact res_names _ w.heap.size _ _ _ _ _ _ rfl rfl (by simp) (by simp) (by simp) (by simp)
  · exact b_1 _ _

set_option maxHeartbeats 1600000 in
set_option maxRecDepth 100000 in
theorem names27_any (w : World) : Calls Try.prog 71 #[.int .i64 27] w fun e w' => e = .returned (.tuple #[.agg #[.int .i64 1, .int .i64 6, .int .i64 0, .int .i64 0], .bool true]) ∧ Below w.heap.size w w' := by
  go_enter Try.func71, Try.ntmps71
  go_wp2
  refine bodyPost_ret (v := .tuple #[.agg #[.int .i64 1, .int .i64 6, .int .i64 0, .int .i64 0], .bool true]) ?_ rfl ⟨rfl, ?_⟩
  · exact res_names _ w.heap.size _ _ _ _ _ _ rfl rfl (by simp) (by simp) (by simp) (by simp)
  · exact b_1 _ _

set_option maxHeartbeats 1600000 in
set_option maxRecDepth 100000 in
theorem names28_any (w : World) : Calls Try.prog 71 #[.int .i64 28] w fun e w' => e = .returned (.tuple #[.agg #[.int .i64 1, .int .i64 0, .int .i64 0, .int .i64 0], .bool true]) ∧ Below w.heap.size w w' := by
  go_enter Try.func71, Try.ntmps71
  go_wp2
  refine bodyPost_ret (v := .tuple #[.agg #[.int .i64 1, .int .i64 0, .int .i64 0, .int .i64 0], .bool true]) ?_ rfl ⟨rfl, ?_⟩
  · exact res_names _ w.heap.size _ _ _ _ _ _ rfl rfl (by simp) (by simp) (by simp) (by simp)
  · exact b_1 _ _

set_option maxHeartbeats 1600000 in
set_option maxRecDepth 100000 in
theorem names29_any (w : World) : Calls Try.prog 71 #[.int .i64 29] w fun e w' => e = .returned (.tuple #[.agg #[.int .i64 1, .int .i64 0, .int .i64 0, .int .i64 0], .bool true]) ∧ Below w.heap.size w w' := by
  go_enter Try.func71, Try.ntmps71
  go_wp2
  refine bodyPost_ret (v := .tuple #[.agg #[.int .i64 1, .int .i64 0, .int .i64 0, .int .i64 0], .bool true]) ?_ rfl ⟨rfl, ?_⟩
  · exact res_names _ w.heap.size _ _ _ _ _ _ rfl rfl (by simp) (by simp) (by simp) (by simp)
  · exact b_1 _ _

set_option maxHeartbeats 1600000 in
set_option maxRecDepth 100000 in
theorem names30_any (w : World) : Calls Try.prog 71 #[.int .i64 30] w fun e w' => e = .returned (.tuple #[.agg #[.int .i64 1, .int .i64 0, .int .i64 0, .int .i64 0], .bool true]) ∧ Below w.heap.size w w' := by
  go_enter Try.func71, Try.ntmps71
  go_wp2
  refine bodyPost_ret (v := .tuple #[.agg #[.int .i64 1, .int .i64 0, .int .i64 0, .int .i64 0], .bool true]) ?_ rfl ⟨rfl, ?_⟩
  · exact res_names _ w.heap.size _ _ _ _ _ _ rfl rfl (by simp) (by simp) (by simp) (by simp)
  · exact b_1 _ _

set_option maxHeartbeats 1600000 in
set_option maxRecDepth 100000 in
theorem names31_any (w : World) : Calls Try.prog 71 #[.int .i64 31] w fun e w' => e = .returned (.tuple #[.agg #[.int .i64 1, .int .i64 0, .int .i64 0, .int .i64 0], .bool true]) ∧ Below w.heap.size w w' := by
  go_enter Try.func71, Try.ntmps71
  go_wp2
  refine bodyPost_ret (v := .tuple #[.agg #[.int .i64 1, .int .i64 0, .int .i64 0, .int .i64 0], .bool true]) ?_ rfl ⟨rfl, ?_⟩
  · exact res_names _ w.heap.size _ _ _ _ _ _ rfl rfl (by simp) (by simp) (by simp) (by simp)
  · exact b_1 _ _

end Go.Proofs.Ytkfbkglkcfaeeaa
