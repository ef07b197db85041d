import Derived.Test.YtkfbkglkcfaeeaaV3
namespace Go.Proofs.Ytkfbkglkcfaeeaa
open Go Go.RowKit
set_option linter.unusedVariables false

set_option maxHeartbeats 1600000 in
set_option maxRecDepth 100000 in
theorem names1_any (w : World) : Calls Try.prog 71 #[.int .i64 1] w fun e w' => e = .returned (.tuple #[.agg #[.int .i64 0, .int .i64 0, .int .i64 0, .int .i64 0], .bool true]) ∧ Below w.heap.size w w' := by
  go_enter Try.func71, Try.ntmps71
  go_wp2
  refine bodyPost_ret (v := .tuple #[.agg #[.int .i64 0, .int .i64 0, .int .i64 0, .int .i64 0], .bool true]) ?_ rfl ⟨rfl, ?_⟩
  · exact res_names _ w.heap.size _ _ _ _ _ _ rfl rfl (by simp) (by simp) (by simp) (by simp)
  · exact b_1 _ _

set_option maxHeartbeats 1600000 in
set_option maxRecDepth 100000 in
theorem names2_any (w : World) : Calls Try.prog 71 #[.int .i64 2] w fun e w' => e = .returned (.tuple #[.agg #[.int .i64 1, .int .i64 1, .int .i64 0, .int .i64 0], .bool true]) ∧ Below w.heap.size w w' := by
  go_enter Try.func71, Try.ntmps71
  go_wp2
  refine bodyPost_ret (v := .tuple #[.agg #[.int .i64 1, .int .i64 1, .int .i64 0, .int .i64 0], .bool true]) ?_ rfl ⟨rfl, ?_⟩
  · exact res_names _ w.heap.size _ _ _ _ _ _ rfl rfl (by simp) (by simp) (by simp) (by simp)
  · exact b_1 _ _

set_option maxHeartbeats 1600000 in
set_option maxRecDepth 100000 in
theorem names3_any (w : World) : Calls Try.prog 71 #[.int .i64 3] w fun e w' => e = .returned (.tuple #[.agg #[.int .i64 1, .int .i64 0, .int .i64 0, .int .i64 0], .bool true]) ∧ Below w.heap.size w w' := by
  go_enter Try.func71, Try.ntmps71
  go_wp2
  refine bodyPost_ret (v := .tuple #[.agg #[.int .i64 1, .int .i64 0, .int .i64 0, .int .i64 0], .bool true]) ?_ rfl ⟨rfl, ?_⟩
  · exact res_names _ w.heap.size _ _ _ _ _ _ rfl rfl (by simp) (by simp) (by simp) (by simp)
  · exact b_1 _ _

set_option maxHeartbeats 1600000 in
set_option maxRecDepth 100000 in
theorem names4_any (w : World) : Calls Try.prog 71 #[.int .i64 4] w fun e w' => e = .returned (.tuple #[.agg #[.int .i64 1, .int .i64 0, .int .i64 0, .int .i64 0], .bool true]) ∧ Below w.heap.size w w' := by
  go_enter Try.func71, Try.ntmps71
  go_wp2
  refine bodyPost_ret (v := .tuple #[.agg #[.int .i64 1, .int .i64 0, .int .i64 0, .int .i64 0], .bool true]) ?_ rfl ⟨rfl, ?_⟩
  · exact res_names _ w.heap.size _ _ _ _ _ _ rfl rfl (by simp) (by simp) (by simp) (by simp)
  · exact b_1 _ _

set_option maxHeartbeats 1600000 in
set_option maxRecDepth 100000 in
theorem names5_any (w : World) : Calls Try.prog 71 #[.int .i64 5] w fun e w' => e = .returned (.tuple #[.agg #[.int .i64 1, .int .i64 0, .int .i64 0, .int .i64 0], .bool true]) ∧ Below w.heap.size w w' := by
  go_enter Try.func71, Try.ntmps71
  go_wp2
  refine bodyPost_ret (v := .tuple #[.agg #[.int .i64 1, .int .i64 0, .int .i64 0, .int .i64 0], .bool true]) ?_ rfl ⟨rfl, ?_⟩
  · exact res_names _ w.heap.size _ _ _ _ _ _ rfl rfl (by simp) (by simp) (by simp) (by simp)
  · exact b_1 _ _

set_option maxHeartbeats 1600000 in
set_option maxRecDepth 100000 in
theorem names6_any (w : World) : Calls Try.prog 71 #[.int .i64 6] w fun e w' => e = .returned (.tuple #[.agg #[.int .i64 1, .int .i64 2, .int .i64 0, .int .i64 0], .bool true]) ∧ Below w.heap.size w w' := by
  go_enter Try.func71, Try.ntmps71
  go_wp2
  refine bodyPost_ret (v := .tuple #[.agg #[.int .i64 1, .int .i64 2, .int .i64 0, .int .i64 0], .bool true]) ?_ rfl ⟨rfl, ?_⟩
  · exact res_names _ w.heap.size _ _ _ _ _ _ rfl rfl (by simp) (by simp) (by simp) (by simp)
  · exact b_1 _ _

set_option maxHeartbeats 1600000 in
set_option maxRecDepth 100000 in
theorem names7_any (w : World) : Calls Try.prog 71 #[.int .i64 7] w fun e w' => e = .returned (.tuple #[.agg #[.int .i64 1, .int .i64 4, .int .i64 0, .int .i64 0], .bool true]) ∧ Below w.heap.size w w' := by
  go_enter Try.func71, Try.ntmps71
  go_wp2
  refine bodyPost_ret (v := .tuple #[.agg #[.int .i64 1, .int .i64 4, .int .i64 0, .int .i64 0], .bool true]) ?_ rfl ⟨rfl, ?_⟩
  · exact res_names _ w.heap.size _ _ _ _ _ _ rfl rfl (by simp) (by simp) (by simp) (by simp)
  · exact b_1 _ _

set_option maxHeartbeats 1600000 in
set_option maxRecDepth 100000 in
theorem names8_any (w : World) : Calls Try.prog 71 #[.int .i64 8] w fun e w' => e = .returned (.tuple #[.agg #[.int .i64 1, .int .i64 4, .int .i64 0, .int .i64 0], .bool true]) ∧ Below w.heap.size w w' := by
  go_enter Try.func71, Try.ntmps71
  go_wp2
  refine bodyPost_ret (v := .tuple #[.agg #[.int .i64 1, .int .i64 4, .int .i64 0, .int .i64 0], .bool true]) ?_ rfl ⟨rfl, ?_⟩
  · exact res_names _ w.heap.size _ _ _ _ _ _ rfl rfl (by simp) (by simp) (by simp) (by simp)
  · exact b_1 _ _

set_option maxHeartbeats 1600000 in
set_option maxRecDepth 100000 in
theorem names9_any (w : World) : Calls Try.prog 71 #[.int .i64 9] w fun e w' => e = .returned (.tuple #[.agg #[.int .i64 1, .int .i64 3, .int .i64 0, .int .i64 0], .bool true]) ∧ Below w.heap.size w w' := by
  go_enter Try.func71, Try.ntmps71
  go_wp2
  refine bodyPost_ret (v := .tuple #[.agg #[.int .i64 1, .int .i64 3, .int .i64 0, .int .i64 0], .bool true]) ?_ rfl ⟨rfl, ?_⟩
  · exact res_names _ w.heap.size _ _ _ _ _ _ rfl rfl (by simp) (by simp) (by simp) (by simp)
  · exact b_1 _ _

set_option maxHeartbeats 1600000 in
set_option maxRecDepth 100000 in
theorem names10_any (w : World) : Calls Try.prog 71 #[.int .i64 10] w fun e w' => e = .returned (.tuple #[.agg #[.int .i64 1, .int .i64 3, .int .i64 0, .int .i64 0], .bool true]) ∧ Below w.heap.size w w' := by
  go_enter Try.func71, Try.ntmps71
  go_wp2
  refine bodyPost_ret (v := .tuple #[.agg #[.int .i64 1, .int .i64 3, .int .i64 0, .int .i64 0], .bool true]) ?_ rfl ⟨rfl, ?_⟩
  · exact res_names _ w.heap.size _ _ _ _ _ _ rfl rfl (by simp) (by simp) (by simp) (by simp)
  · exact b_1 _ _

set_option maxHeartbeats 1600000 in
set_option maxRecDepth 100000 in
theorem names11_any (w : World) : Calls Try.prog 71 #[.int .i64 11] w fun e w' => e = .returned (.tuple #[.agg #[.int .i64 1, .int .i64 1, .int .i64 1, .int .i64 0], .bool true]) ∧ Below w.heap.size w w' := by
  go_enter Try.func71, Try.ntmps71
  go_wp2
  refine bodyPost_ret (v := .tuple #[.agg #[.int .i64 1, .int .i64 1, .int .i64 1, .int .i64 0], .bool true]) ?_ rfl ⟨rfl, ?_⟩
  · exact res_names _ w.heap.size _ _ _ _ _ _ rfl rfl (by simp) (by simp) (by simp) (by simp)
  · exact b_1 _ _

set_option maxHeartbeats 1600000 in
set_option maxRecDepth 100000 in
theorem names12_any (w : World) : Calls Try.prog 71 #[.int .i64 12] w fun e w' => e = .returned (.tuple #[.agg #[.int .i64 1, .int .i64 1, .int .i64 1, .int .i64 0], .bool true]) ∧ Below w.heap.size w w' := by
  go_enter Try.func71, Try.ntmps71
  go_wp2
  refine bodyPost_ret (v := .tuple #[.agg #[.int .i64 1, .int .i64 1, .int .i64 1, .int .i64 0], .bool true]) ?_ rfl ⟨rfl, ?_⟩
  · exact res_names _ w.heap.size _ _ _ _ _ _ rfl rfl (by simp) (by simp) (by simp) (by simp)
  · exact b_1 _ _

end Go.Proofs.Ytkfbkglkcfaeeaa
