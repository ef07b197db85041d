import Derived.Test.YtgnbhhgpaldheaaGreatKV3
namespace Go.Proofs.YtgnbhhgpaldheaaGreat
open Go Go.RowKit
set_option linter.unusedVariables false
set_option maxHeartbeats 1600000 in
set_option maxRecDepth 100000 in
theorem names13_any (w : World) : Calls Tryz.prog 82 #[.int .i64 13] w fun e w' => e = .returned (.tuple #[.agg #[.int .i64 1, .int .i64 1, .int .i64 3, .int .i64 0], .bool true]) ∧ Below w.heap.size w w' := by
  go_enter Tryz.func82, Tryz.ntmps82
  go_wp2
  refine bodyPost_ret (v := .tuple #[.agg #[.int .i64 1, .int .i64 1, .int .i64 3, .int .i64 0], .bool true]) ?_ rfl ⟨rfl, ?_⟩
  · exact res_names _ w.heap.size _ _ _ _ _ _ rfl rfl (by simp) (by simp) (by simp) (by simp)
  · exact b_1 _ _
set_option maxHeartbeats 1600000 in
set_option maxRecDepth 100000 in
theorem names14_any (w : World) : Calls Tryz.prog 82 #[.int .i64 14] w fun e w' => e = .returned (.tuple #[.agg #[.int .i64 1, .int .i64 3, .int .i64 1, .int .i64 0], .bool true]) ∧ Below w.heap.size w w' := by
  go_enter Tryz.func82, Tryz.ntmps82
  go_wp2
  refine bodyPost_ret (v := .tuple #[.agg #[.int .i64 1, .int .i64 3, .int .i64 1, .int .i64 0], .bool true]) ?_ rfl ⟨rfl, ?_⟩
  · exact res_names _ w.heap.size _ _ _ _ _ _ rfl rfl (by simp) (by simp) (by simp) (by simp)
  · exact b_1 _ _
set_option maxHeartbeats 1600000 in
set_option maxRecDepth 100000 in
theorem names15_any (w : World) : Calls Tryz.prog 82 #[.int .i64 15] w fun e w' => e = .returned (.tuple #[.agg #[.int .i64 1, .int .i64 1, .int .i64 3, .int .i64 1], .bool true]) ∧ Below w.heap.size w w' := by
  go_enter Tryz.func82, Tryz.ntmps82
  go_wp2
  refine bodyPost_ret (v := .tuple #[.agg #[.int .i64 1, .int .i64 1, .int .i64 3, .int .i64 1], .bool true]) ?_ rfl ⟨rfl, ?_⟩
  · exact res_names _ w.heap.size _ _ _ _ _ _ rfl rfl (by simp) (by simp) (by simp) (by simp)
  · exact b_1 _ _
set_option maxHeartbeats 1600000 in
set_option maxRecDepth 100000 in
theorem names16_any (w : World) : Calls Tryz.prog 82 #[.int .i64 16] w fun e w' => e = .returned (.tuple #[.agg #[.int .i64 1, .int .i64 0, .int .i64 0, .int .i64 0], .bool true]) ∧ Below w.heap.size w w' := by
  go_enter Tryz.func82, Tryz.ntmps82
  go_wp2
  refine bodyPost_ret (v := .tuple #[.agg #[.int .i64 1, .int .i64 0, .int .i64 0, .int .i64 0], .bool true]) ?_ rfl ⟨rfl, ?_⟩
  · exact res_names _ w.heap.size _ _ _ _ _ _ rfl rfl (by simp) (by simp) (by simp) (by simp)
  · exact b_1 _ _
set_option maxHeartbeats 1600000 in
set_option maxRecDepth 100000 in
theorem names17_any (w : World) : Calls Tryz.prog 82 #[.int .i64 17] w fun e w' => e = .returned (.tuple #[.agg #[.int .i64 1, .int .i64 0, .int .i64 1, .int .i64 0], .bool true]) ∧ Below w.heap.size w w' := by
  go_enter Tryz.func82, Tryz.ntmps82
  go_wp2
  refine bodyPost_ret (v := .tuple #[.agg #[.int .i64 1, .int .i64 0, .int .i64 1, .int .i64 0], .bool true]) ?_ rfl ⟨rfl, ?_⟩
  · exact res_names _ w.heap.size _ _ _ _ _ _ rfl rfl (by simp) (by simp) (by simp) (by simp)
  · exact b_1 _ _
set_option maxHeartbeats 1600000 in
set_option maxRecDepth 100000 in
theorem names18_any (w : World) : Calls Tryz.prog 82 #[.int .i64 18] w fun e w' => e = .returned (.tuple #[.agg #[.int .i64 1, .int .i64 0, .int .i64 0, .int .i64 0], .bool true]) ∧ Below w.heap.size w w' := by
  go_enter Tryz.func82, Tryz.ntmps82
  go_wp2
  refine bodyPost_ret (v := .tuple #[.agg #[.int .i64 1, .int .i64 0, .int .i64 0, .int .i64 0], .bool true]) ?_ rfl ⟨rfl, ?_⟩
  · exact res_names _ w.heap.size _ _ _ _ _ _ rfl rfl (by simp) (by simp) (by simp) (by simp)
  · exact b_1 _ _
set_option maxHeartbeats 1600000 in
set_option maxRecDepth 100000 in
theorem names19_any (w : World) : Calls Tryz.prog 82 #[.int .i64 19] w fun e w' => e = .returned (.tuple #[.agg #[.int .i64 1, .int .i64 1, .int .i64 1, .int .i64 0], .bool true]) ∧ Below w.heap.size w w' := by
  go_enter Tryz.func82, Tryz.ntmps82
  go_wp2
  refine bodyPost_ret (v := .tuple #[.agg #[.int .i64 1, .int .i64 1, .int .i64 1, .int .i64 0], .bool true]) ?_ rfl ⟨rfl, ?_⟩
  · exact res_names _ w.heap.size _ _ _ _ _ _ rfl rfl (by simp) (by simp) (by simp) (by simp)
  · exact b_1 _ _
set_option maxHeartbeats 1600000 in
set_option maxRecDepth 100000 in
theorem names20_any (w : World) : Calls Tryz.prog 82 #[.int .i64 20] w fun e w' => e = .returned (.tuple #[.agg #[.int .i64 1, .int .i64 1, .int .i64 1, .int .i64 0], .bool true]) ∧ Below w.heap.size w w' := by
  go_enter Tryz.func82, Tryz.ntmps82
  go_wp2
  refine bodyPost_ret (v := .tuple #[.agg #[.int .i64 1, .int .i64 1, .int .i64 1, .int .i64 0], .bool true]) ?_ rfl ⟨rfl, ?_⟩
  · exact res_names _ w.heap.size _ _ _ _ _ _ rfl rfl (by simp) (by simp) (by simp) (by simp)
  · exact b_1 _ _
set_option maxHeartbeats 1600000 in
set_option maxRecDepth 100000 in
theorem names21_any (w : World) : Calls Tryz.prog 82 #[.int .i64 21] w fun e w' => e = .returned (.tuple #[.agg #[.int .i64 1, .int .i64 1, .int .i64 1, .int .i64 0], .bool true]) ∧ Below w.heap.size w w' := by
  go_enter Tryz.func82, Tryz.ntmps82
  go_wp2
  refine bodyPost_ret (v := .tuple #[.agg #[.int .i64 1, .int .i64 1, .int .i64 1, .int .i64 0], .bool true]) ?_ rfl ⟨rfl, ?_⟩
  · exact res_names _ w.heap.size _ _ _ _ _ _ rfl rfl (by simp) (by simp) (by simp) (by simp)
  · exact b_1 _ _
set_option maxHeartbeats 1600000 in
set_option maxRecDepth 100000 in
theorem names22_any (w : World) : Calls Tryz.prog 82 #[.int .i64 22] w fun e w' => e = .returned (.tuple #[.agg #[.int .i64 1, .int .i64 1, .int .i64 1, .int .i64 0], .bool true]) ∧ Below w.heap.size w w' := by
  go_enter Tryz.func82, Tryz.ntmps82
  go_wp2
  refine bodyPost_ret (v := .tuple #[.agg #[.int .i64 1, .int .i64 1, .int .i64 1, .int .i64 0], .bool true]) ?_ rfl ⟨rfl, ?_⟩
  · exact res_names _ w.heap.size _ _ _ _ _ _ rfl rfl (by simp) (by simp) (by simp) (by simp)
  · exact b_1 _ _
set_option maxHeartbeats 1600000 in
set_option maxRecDepth 100000 in
theorem names32_any (w : World) : Calls Tryz.prog 82 #[.int .i64 32] w fun e w' => e = .returned (.tuple #[.agg #[.int .i64 1, .int .i64 5, .int .i64 0, .int .i64 0], .bool true]) ∧ Below w.heap.size w w' := by
  go_enter Tryz.func82, Tryz.ntmps82
  go_wp2
  refine bodyPost_ret (v := .tuple #[.agg #[.int .i64 1, .int .i64 5, .int .i64 0, .int .i64 0], .bool true]) ?_ rfl ⟨rfl, ?_⟩
  · exact res_names _ w.heap.size _ _ _ _ _ _ rfl rfl (by simp) (by simp) (by simp) (by simp)
  · exact b_1 _ _
set_option maxHeartbeats 1600000 in
set_option maxRecDepth 100000 in
theorem names33_any (w : World) : Calls Tryz.prog 82 #[.int .i64 33] w fun e w' => e = .returned (.tuple #[.agg #[.int .i64 1, .int .i64 0, .int .i64 0, .int .i64 0], .bool true]) ∧ Below w.heap.size w w' := by
  go_enter Tryz.func82, Tryz.ntmps82
  go_wp2
  refine bodyPost_ret (v := .tuple #[.agg #[.int .i64 1, .int .i64 0, .int .i64 0, .int .i64 0], .bool true]) ?_ rfl ⟨rfl, ?_⟩
  · exact res_names _ w.heap.size _ _ _ _ _ _ rfl rfl (by simp) (by simp) (by simp) (by simp)
  · exact b_1 _ _
set_option maxHeartbeats 1600000 in
set_option maxRecDepth 100000 in
theorem names34_any (w : World) : Calls Tryz.prog 82 #[.int .i64 34] w fun e w' => e = .returned (.tuple #[.agg #[.int .i64 1, .int .i64 0, .int .i64 0, .int .i64 0], .bool true]) ∧ Below w.heap.size w w' := by
  go_enter Tryz.func82, Tryz.ntmps82
  go_wp2
  refine bodyPost_ret (v := .tuple #[.agg #[.int .i64 1, .int .i64 0, .int .i64 0, .int .i64 0], .bool true]) ?_ rfl ⟨rfl, ?_⟩
  · exact res_names _ w.heap.size _ _ _ _ _ _ rfl rfl (by simp) (by simp) (by simp) (by simp)
  · exact b_1 _ _
set_option maxHeartbeats 1600000 in
set_option maxRecDepth 100000 in
theorem names35_any (w : World) : Calls Tryz.prog 82 #[.int .i64 35] w fun e w' => e = .returned (.tuple #[.agg #[.int .i64 1, .int .i64 6, .int .i64 0, .int .i64 3], .bool true]) ∧ Below w.heap.size w w' := by
  go_enter Tryz.func82, Tryz.ntmps82
  go_wp2
  refine bodyPost_ret (v := .tuple #[.agg #[.int .i64 1, .int .i64 6, .int .i64 0, .int .i64 3], .bool true]) ?_ rfl ⟨rfl, ?_⟩
  · exact res_names _ w.heap.size _ _ _ _ _ _ rfl rfl (by simp) (by simp) (by simp) (by simp)
  · exact b_1 _ _
set_option maxHeartbeats 1600000 in
set_option maxRecDepth 100000 in
theorem names36_any (w : World) : Calls Tryz.prog 82 #[.int .i64 36] w fun e w' => e = .returned (.tuple #[.agg #[.int .i64 1, .int .i64 6, .int .i64 0, .int .i64 3], .bool true]) ∧ Below w.heap.size w w' := by
  go_enter Tryz.func82, Tryz.ntmps82
  go_wp2
  refine bodyPost_ret (v := .tuple #[.agg #[.int .i64 1, .int .i64 6, .int .i64 0, .int .i64 3], .bool true]) ?_ rfl ⟨rfl, ?_⟩
  · exact res_names _ w.heap.size _ _ _ _ _ _ rfl rfl (by simp) (by simp) (by simp) (by simp)
  · exact b_1 _ _
set_option maxHeartbeats 1600000 in
set_option maxRecDepth 100000 in
theorem names37_any (w : World) : Calls Tryz.prog 82 #[.int .i64 37] w fun e w' => e = .returned (.tuple #[.agg #[.int .i64 1, .int .i64 0, .int .i64 0, .int .i64 5], .bool true]) ∧ Below w.heap.size w w' := by
  go_enter Tryz.func82, Tryz.ntmps82
  go_wp2
  refine bodyPost_ret (v := .tuple #[.agg #[.int .i64 1, .int .i64 0, .int .i64 0, .int .i64 5], .bool true]) ?_ rfl ⟨rfl, ?_⟩
  · exact res_names _ w.heap.size _ _ _ _ _ _ rfl rfl (by simp) (by simp) (by simp) (by simp)
  · exact b_1 _ _
set_option maxHeartbeats 1600000 in
set_option maxRecDepth 100000 in
theorem names38_any (w : World) : Calls Tryz.prog 82 #[.int .i64 38] w fun e w' => e = .returned (.tuple #[.agg #[.int .i64 1, .int .i64 6, .int .i64 0, .int .i64 3], .bool true]) ∧ Below w.heap.size w w' := by
  go_enter Tryz.func82, Tryz.ntmps82
  go_wp2
  refine bodyPost_ret (v := .tuple #[.agg #[.int .i64 1, .int .i64 6, .int .i64 0, .int .i64 3], .bool true]) ?_ rfl ⟨rfl, ?_⟩
  · exact res_names _ w.heap.size _ _ _ _ _ _ rfl rfl (by simp) (by simp) (by simp) (by simp)
  · exact b_1 _ _
set_option maxHeartbeats 1600000 in
set_option maxRecDepth 100000 in
theorem names77_any (w : World) : Calls Tryz.prog 82 #[.int .i64 77] w fun e w' => e = .returned (.tuple #[.agg #[.int .i64 1, .int .i64 1, .int .i64 0, .int .i64 0], .bool true]) ∧ Below w.heap.size w w' := by
  go_enter Tryz.func82, Tryz.ntmps82
  go_wp2
  refine bodyPost_ret (v := .tuple #[.agg #[.int .i64 1, .int .i64 1, .int .i64 0, .int .i64 0], .bool true]) ?_ rfl ⟨rfl, ?_⟩
  · exact res_names _ w.heap.size _ _ _ _ _ _ rfl rfl (by simp) (by simp) (by simp) (by simp)
  · exact b_1 _ _
set_option maxHeartbeats 1600000 in
set_option maxRecDepth 100000 in
theorem names78_any (w : World) : Calls Tryz.prog 82 #[.int .i64 78] w fun e w' => e = .returned (.tuple #[.agg #[.int .i64 1, .int .i64 1, .int .i64 0, .int .i64 0], .bool true]) ∧ Below w.heap.size w w' := by
  go_enter Tryz.func82, Tryz.ntmps82
  go_wp2
  refine bodyPost_ret (v := .tuple #[.agg #[.int .i64 1, .int .i64 1, .int .i64 0, .int .i64 0], .bool true]) ?_ rfl ⟨rfl, ?_⟩
  · exact res_names _ w.heap.size _ _ _ _ _ _ rfl rfl (by simp) (by simp) (by simp) (by simp)
  · exact b_1 _ _
end Go.Proofs.YtgnbhhgpaldheaaGreat
