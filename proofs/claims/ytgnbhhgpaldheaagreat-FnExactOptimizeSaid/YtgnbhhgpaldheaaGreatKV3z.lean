import Derived.Test.YtgnbhhgpaldheaaGreatKV3
import Derived.Test.YtgnbhhgpaldheaaGreatKV5
import Derived.Test.YtgnbhhgpaldheaaGreatKV3d
namespace Go.Proofs.YtgnbhhgpaldheaaGreat
open Go Go.RowKit
set_option linter.unusedVariables false
set_option maxHeartbeats 1600000 in
set_option maxRecDepth 100000 in
theorem names23_any (w : World) : Calls Tryz.prog 82 #[.int .i64 23] w fun e w' => e = .returned (.tuple #[.agg #[.int .i64 1, .int .i64 1, .int .i64 0, .int .i64 0], .bool true]) ∧ Below w.heap.size w w' := by
  go_enter Tryz.func82, Tryz.ntmps82
  go_wp2
  refine bodyPost_ret (v := .tuple #[.agg #[.int .i64 1, .int .i64 1, .int .i64 0, .int .i64 0], .bool true]) ?_ rfl ⟨rfl, ?_⟩
  · exact res_names _ w.heap.size _ _ _ _ _ _ rfl rfl (by simp) (by simp) (by simp) (by simp)
  · exact b_1 _ _
set_option maxHeartbeats 1600000 in
set_option maxRecDepth 100000 in
theorem names24_any (w : World) : Calls Tryz.prog 82 #[.int .i64 24] w fun e w' => e = .returned (.tuple #[.agg #[.int .i64 1, .int .i64 1, .int .i64 0, .int .i64 0], .bool true]) ∧ Below w.heap.size w w' := by
  go_enter Tryz.func82, Tryz.ntmps82
  go_wp2
  refine bodyPost_ret (v := .tuple #[.agg #[.int .i64 1, .int .i64 1, .int .i64 0, .int .i64 0], .bool true]) ?_ rfl ⟨rfl, ?_⟩
  · exact res_names _ w.heap.size _ _ _ _ _ _ rfl rfl (by simp) (by simp) (by simp) (by simp)
  · exact b_1 _ _
set_option maxHeartbeats 1600000 in
set_option maxRecDepth 100000 in
theorem names25_any (w : World) : Calls Tryz.prog 82 #[.int .i64 25] w fun e w' => e = .returned (.tuple #[.agg #[.int .i64 0, .int .i64 6, .int .i64 0, .int .i64 0], .bool true]) ∧ Below w.heap.size w w' := by
  go_enter Tryz.func82, Tryz.ntmps82
  go_wp2
  refine bodyPost_ret (v := .tuple #[.agg #[.int .i64 0, .int .i64 6, .int .i64 0, .int .i64 0], .bool true]) ?_ rfl ⟨rfl, ?_⟩
  · exact res_names _ w.heap.size _ _ _ _ _ _ rfl rfl (by simp) (by simp) (by simp) (by simp)
  · exact b_1 _ _
set_option maxHeartbeats 1600000 in
set_option maxRecDepth 100000 in
theorem names26_any (w : World) : Calls Tryz.prog 82 #[.int .i64 26] w fun e w' => e = .returned (.tuple #[.agg #[.int .i64 1, .int .i64 6, .int .i64 0, .int .i64 0], .bool true]) ∧ Below w.heap.size w w' := by
  go_enter Tryz.func82, Tryz.ntmps82
  go_wp2
  refine bodyPost_ret (v := .tuple #[.agg #[.int .i64 1, .int .i64 6, .int .i64 0, .int .i64 0], .bool true]) ?_ rfl ⟨rfl, ?_⟩
  · exact res_names _ w.heap.size _ _ _ _ _ _ rfl rfl (by simp) (by simp) (by simp) (by simp)
  · exact b_1 _ _
set_option maxHeartbeats 1600000 in
set_option maxRecDepth 100000 in
theorem names27_any (w : World) : Calls Tryz.prog 82 #[.int .i64 27] w fun e w' => e = .returned (.tuple #[.agg #[.int .i64 1, .int .i64 6, .int .i64 0, .int .i64 0], .bool true]) ∧ Below w.heap.size w w' := by
  go_enter Tryz.func82, Tryz.ntmps82
  go_wp2
  refine bodyPost_ret (v := .tuple #[.agg #[.int .i64 1, .int .i64 6, .int .i64 0, .int .i64 0], .bool true]) ?_ rfl ⟨rfl, ?_⟩
  · exact res_names _ w.heap.size _ _ _ _ _ _ rfl rfl (by simp) (by simp) (by simp) (by simp)
  · exact b_1 _ _
set_option maxHeartbeats 1600000 in
set_option maxRecDepth 100000 in
theorem names28_any (w : World) : Calls Tryz.prog 82 #[.int .i64 28] w fun e w' => e = .returned (.tuple #[.agg #[.int .i64 1, .int .i64 0, .int .i64 0, .int .i64 0], .bool true]) ∧ Below w.heap.size w w' := by
  go_enter Tryz.func82, Tryz.ntmps82
  go_wp2
  refine bodyPost_ret (v := .tuple #[.agg #[.int .i64 1, .int .i64 0, .int .i64 0, .int .i64 0], .bool true]) ?_ rfl ⟨rfl, ?_⟩
  · exact res_names _ w.heap.size _ _ _ _ _ _ rfl rfl (by simp) (by simp) (by simp) (by simp)
  · exact b_1 _ _
set_option maxHeartbeats 1600000 in
set_option maxRecDepth 100000 in
theorem names29_any (w : World) : Calls Tryz.prog 82 #[.int .i64 29] w fun e w' => e = .returned (.tuple #[.agg #[.int .i64 1, .int .i64 0, .int .i64 0, .int .i64 0], .bool true]) ∧ Below w.heap.size w w' := by
  go_enter Tryz.func82, Tryz.ntmps82
  go_wp2
  refine bodyPost_ret (v := .tuple #[.agg #[.int .i64 1, .int .i64 0, .int .i64 0, .int .i64 0], .bool true]) ?_ rfl ⟨rfl, ?_⟩
  · exact res_names _ w.heap.size _ _ _ _ _ _ rfl rfl (by simp) (by simp) (by simp) (by simp)
  · exact b_1 _ _
set_option maxHeartbeats 1600000 in
set_option maxRecDepth 100000 in
theorem names30_any (w : World) : Calls Tryz.prog 82 #[.int .i64 30] w fun e w' => e = .returned (.tuple #[.agg #[.int .i64 1, .int .i64 0, .int .i64 0, .int .i64 0], .bool true]) ∧ Below w.heap.size w w' := by
  go_enter Tryz.func82, Tryz.ntmps82
  go_wp2
  refine bodyPost_ret (v := .tuple #[.agg #[.int .i64 1, .int .i64 0, .int .i64 0, .int .i64 0], .bool true]) ?_ rfl ⟨rfl, ?_⟩
  · exact res_names _ w.heap.size _ _ _ _ _ _ rfl rfl (by simp) (by simp) (by simp) (by simp)
  · exact b_1 _ _
set_option maxHeartbeats 1600000 in
set_option maxRecDepth 100000 in
theorem names31_any (w : World) : Calls Tryz.prog 82 #[.int .i64 31] w fun e w' => e = .returned (.tuple #[.agg #[.int .i64 1, .int .i64 0, .int .i64 0, .int .i64 0], .bool true]) ∧ Below w.heap.size w w' := by
  go_enter Tryz.func82, Tryz.ntmps82
  go_wp2
  refine bodyPost_ret (v := .tuple #[.agg #[.int .i64 1, .int .i64 0, .int .i64 0, .int .i64 0], .bool true]) ?_ rfl ⟨rfl, ?_⟩
  · exact res_names _ w.heap.size _ _ _ _ _ _ rfl rfl (by simp) (by simp) (by simp) (by simp)
  · exact b_1 _ _
set_option maxHeartbeats 1600000 in
set_option maxRecDepth 100000 in
theorem namesX_any (o : Int) (w : World) (h : ¬ o = 1 ∧ ¬ o = 2 ∧ ¬ o = 3 ∧ ¬ o = 4 ∧ ¬ o = 5 ∧ ¬ o = 6 ∧ ¬ o = 7 ∧ ¬ o = 8 ∧ ¬ o = 9 ∧ ¬ o = 10 ∧ ¬ o = 11 ∧ ¬ o = 12 ∧ ¬ o = 13 ∧ ¬ o = 14 ∧ ¬ o = 15 ∧ ¬ o = 16 ∧ ¬ o = 17 ∧ ¬ o = 18 ∧ ¬ o = 19 ∧ ¬ o = 20 ∧ ¬ o = 21 ∧ ¬ o = 22 ∧ ¬ o = 23 ∧ ¬ o = 24 ∧ ¬ o = 25 ∧ ¬ o = 26 ∧ ¬ o = 27 ∧ ¬ o = 28 ∧ ¬ o = 29 ∧ ¬ o = 30 ∧ ¬ o = 31 ∧ ¬ o = 32 ∧ ¬ o = 33 ∧ ¬ o = 34 ∧ ¬ o = 35 ∧ ¬ o = 36 ∧ ¬ o = 37 ∧ ¬ o = 38 ∧ ¬ o = 77 ∧ ¬ o = 78) : Calls Tryz.prog 82 #[.int .i64 o] w fun e w' => e = .returned (.tuple #[.agg #[.int .i64 1, .int .i64 1, .int .i64 1, .int .i64 0], .bool (inI o 65 76)]) ∧ Below w.heap.size w w' := by
  obtain ⟨n1, n2, n3, n4, n5, n6, n7, n8, n9, n10, n11, n12, n13, n14, n15, n16, n17, n18, n19, n20, n21, n22, n23, n24, n25, n26, n27, n28, n29, n30, n31, n32, n33, n34, n35, n36, n37, n38, n77, n78⟩ := h
  go_enter Tryz.func82, Tryz.ntmps82
  go_wp2_with (go_at_call 36; refine (within_any _ _ _ _).mono ?_; rintro e w' ⟨rfl, rfl⟩)
  refine bodyPost_ret (v := .tuple #[.agg #[.int .i64 1, .int .i64 1, .int .i64 1, .int .i64 0], .bool (inI o 65 76)]) ?_ rfl ⟨rfl, ?_⟩
  · exact res_names _ w.heap.size _ _ _ _ _ _ rfl rfl (by simp) (by simp) (by simp) (by simp)
  · exact b_1 _ _
theorem names_of_known {o : Int} {w : World} {e : Ending} {w' : World} {a b c d : Int} (hk : knownI o) (ha : nmA o = a) (hb : nmB o = b) (hc : nmC o = c) (hd : nmY o = d) (h : e = .returned (.tuple #[.agg #[.int .i64 a, .int .i64 b, .int .i64 c, .int .i64 d], .bool true]) ∧ Below w.heap.size w w') : NmR o w e w' := by
  subst ha hb hc hd
  exact ⟨.inl ⟨hk, h.1⟩, h.2⟩
theorem namesOf_any (o : Int) (w : World) : Calls Tryz.prog 82 #[.int .i64 o] w fun e w' => NmR o w e w' := by
  by_cases n1 : o = 1
  · subst n1
    exact (names1_any w).mono fun e w' h => names_of_known (by simp [knownI]) (by decide) (by decide) (by decide) (by decide) h
  by_cases n2 : o = 2
  · subst n2
    exact (names2_any w).mono fun e w' h => names_of_known (by simp [knownI]) (by decide) (by decide) (by decide) (by decide) h
  by_cases n3 : o = 3
  · subst n3
    exact (names3_any w).mono fun e w' h => names_of_known (by simp [knownI]) (by decide) (by decide) (by decide) (by decide) h
  by_cases n4 : o = 4
  · subst n4
    exact (names4_any w).mono fun e w' h => names_of_known (by simp [knownI]) (by decide) (by decide) (by decide) (by decide) h
  by_cases n5 : o = 5
  · subst n5
    exact (names5_any w).mono fun e w' h => names_of_known (by simp [knownI]) (by decide) (by decide) (by decide) (by decide) h
  by_cases n6 : o = 6
  · subst n6
    exact (names6_any w).mono fun e w' h => names_of_known (by simp [knownI]) (by decide) (by decide) (by decide) (by decide) h
  by_cases n7 : o = 7
  · subst n7
    exact (names7_any w).mono fun e w' h => names_of_known (by simp [knownI]) (by decide) (by decide) (by decide) (by decide) h
  by_cases n8 : o = 8
  · subst n8
    exact (names8_any w).mono fun e w' h => names_of_known (by simp [knownI]) (by decide) (by decide) (by decide) (by decide) h
  by_cases n9 : o = 9
  · subst n9
    exact (names9_any w).mono fun e w' h => names_of_known (by simp [knownI]) (by decide) (by decide) (by decide) (by decide) h
  by_cases n10 : o = 10
  · subst n10
    exact (names10_any w).mono fun e w' h => names_of_known (by simp [knownI]) (by decide) (by decide) (by decide) (by decide) h
  by_cases n11 : o = 11
  · subst n11
    exact (names11_any w).mono fun e w' h => names_of_known (by simp [knownI]) (by decide) (by decide) (by decide) (by decide) h
  by_cases n12 : o = 12
  · subst n12
    exact (names12_any w).mono fun e w' h => names_of_known (by simp [knownI]) (by decide) (by decide) (by decide) (by decide) h
  by_cases n13 : o = 13
  · subst n13
    exact (names13_any w).mono fun e w' h => names_of_known (by simp [knownI]) (by decide) (by decide) (by decide) (by decide) h
  by_cases n14 : o = 14
  · subst n14
    exact (names14_any w).mono fun e w' h => names_of_known (by simp [knownI]) (by decide) (by decide) (by decide) (by decide) h
  by_cases n15 : o = 15
  · subst n15
    exact (names15_any w).mono fun e w' h => names_of_known (by simp [knownI]) (by decide) (by decide) (by decide) (by decide) h
  by_cases n16 : o = 16
  · subst n16
    exact (names16_any w).mono fun e w' h => names_of_known (by simp [knownI]) (by decide) (by decide) (by decide) (by decide) h
  by_cases n17 : o = 17
  · subst n17
    exact (names17_any w).mono fun e w' h => names_of_known (by simp [knownI]) (by decide) (by decide) (by decide) (by decide) h
  by_cases n18 : o = 18
  · subst n18
    exact (names18_any w).mono fun e w' h => names_of_known (by simp [knownI]) (by decide) (by decide) (by decide) (by decide) h
  by_cases n19 : o = 19
  · subst n19
    exact (names19_any w).mono fun e w' h => names_of_known (by simp [knownI]) (by decide) (by decide) (by decide) (by decide) h
  by_cases n20 : o = 20
  · subst n20
    exact (names20_any w).mono fun e w' h => names_of_known (by simp [knownI]) (by decide) (by decide) (by decide) (by decide) h
  by_cases n21 : o = 21
  · subst n21
    exact (names21_any w).mono fun e w' h => names_of_known (by simp [knownI]) (by decide) (by decide) (by decide) (by decide) h
  by_cases n22 : o = 22
  · subst n22
    exact (names22_any w).mono fun e w' h => names_of_known (by simp [knownI]) (by decide) (by decide) (by decide) (by decide) h
  by_cases n23 : o = 23
  · subst n23
    exact (names23_any w).mono fun e w' h => names_of_known (by simp [knownI]) (by decide) (by decide) (by decide) (by decide) h
  by_cases n24 : o = 24
  · subst n24
    exact (names24_any w).mono fun e w' h => names_of_known (by simp [knownI]) (by decide) (by decide) (by decide) (by decide) h
  by_cases n25 : o = 25
  · subst n25
    exact (names25_any w).mono fun e w' h => names_of_known (by simp [knownI]) (by decide) (by decide) (by decide) (by decide) h
  by_cases n26 : o = 26
  · subst n26
    exact (names26_any w).mono fun e w' h => names_of_known (by simp [knownI]) (by decide) (by decide) (by decide) (by decide) h
  by_cases n27 : o = 27
  · subst n27
    exact (names27_any w).mono fun e w' h => names_of_known (by simp [knownI]) (by decide) (by decide) (by decide) (by decide) h
  by_cases n28 : o = 28
  · subst n28
    exact (names28_any w).mono fun e w' h => names_of_known (by simp [knownI]) (by decide) (by decide) (by decide) (by decide) h
  by_cases n29 : o = 29
  · subst n29
    exact (names29_any w).mono fun e w' h => names_of_known (by simp [knownI]) (by decide) (by decide) (by decide) (by decide) h
  by_cases n30 : o = 30
  · subst n30
    exact (names30_any w).mono fun e w' h => names_of_known (by simp [knownI]) (by decide) (by decide) (by decide) (by decide) h
  by_cases n31 : o = 31
  · subst n31
    exact (names31_any w).mono fun e w' h => names_of_known (by simp [knownI]) (by decide) (by decide) (by decide) (by decide) h
  by_cases n32 : o = 32
  · subst n32
    exact (names32_any w).mono fun e w' h => names_of_known (by simp [knownI]) (by decide) (by decide) (by decide) (by decide) h
  by_cases n33 : o = 33
  · subst n33
    exact (names33_any w).mono fun e w' h => names_of_known (by simp [knownI]) (by decide) (by decide) (by decide) (by decide) h
  by_cases n34 : o = 34
  · subst n34
    exact (names34_any w).mono fun e w' h => names_of_known (by simp [knownI]) (by decide) (by decide) (by decide) (by decide) h
  by_cases n35 : o = 35
  · subst n35
    exact (names35_any w).mono fun e w' h => names_of_known (by simp [knownI]) (by decide) (by decide) (by decide) (by decide) h
  by_cases n36 : o = 36
  · subst n36
    exact (names36_any w).mono fun e w' h => names_of_known (by simp [knownI]) (by decide) (by decide) (by decide) (by decide) h
  by_cases n37 : o = 37
  · subst n37
    exact (names37_any w).mono fun e w' h => names_of_known (by simp [knownI]) (by decide) (by decide) (by decide) (by decide) h
  by_cases n38 : o = 38
  · subst n38
    exact (names38_any w).mono fun e w' h => names_of_known (by simp [knownI]) (by decide) (by decide) (by decide) (by decide) h
  by_cases n77 : o = 77
  · subst n77
    exact (names77_any w).mono fun e w' h => names_of_known (by simp [knownI]) (by decide) (by decide) (by decide) (by decide) h
  by_cases n78 : o = 78
  · subst n78
    exact (names78_any w).mono fun e w' h => names_of_known (by simp [knownI]) (by decide) (by decide) (by decide) (by decide) h
  refine (namesX_any o w ⟨n1, n2, n3, n4, n5, n6, n7, n8, n9, n10, n11, n12, n13, n14, n15, n16, n17, n18, n19, n20, n21, n22, n23, n24, n25, n26, n27, n28, n29, n30, n31, n32, n33, n34, n35, n36, n37, n38, n77, n78⟩).mono fun e w' h => ?_
  by_cases hk : 65 ≤ o ∧ o ≤ 76
  · rw [inI_t hk] at h
    refine names_of_known (.inr (by omega)) ?_ ?_ ?_ ?_ h
    · unfold nmA; rw [if_neg (by omega)]
    · unfold nmB; rw [if_pos (.inr hk)]
    · unfold nmC; rw [if_pos (.inr hk)]
    · unfold nmY; rw [if_neg (by omega), if_neg (by omega), if_neg (by omega)]
  · rw [inI_f hk] at h
    exact ⟨.inr ⟨fun hq => by unfold knownI at hq; omega, _, _, _, _, h.1⟩, h.2⟩
end Go.Proofs.YtgnbhhgpaldheaaGreat
