import Derived.Test.YtamdnnkdnhkghaaGreatDoorT29
namespace Go.Proofs.YtamdnnkdnhkghaaGreatDoor

open Go Go.RowKit

set_option linter.unusedVariables false

set_option maxHeartbeats 1600000 in
set_option maxRecDepth 100000 in
theorem efg_1p (d k g base : Nat) (w w0 : World) (v : Value) (he : Efg w0 base g (digL d 1) w v []) (hk : k ≤ 400) :
    Calls Tryz.prog 207 #[v, .bool false, .slice (some ⟨g, 0, none⟩) 24 24, .int .i64 ((k : Int) + 1), .int .i64 1, .int .i64 0, .int .u8 101, .bool false] w fun r w' => ∃ v', r = .returned v' ∧ Efg w0 base g (digL d 1) w' v' (eTxt d 1 (k : Int)) := by
  have hc0 : w.cell? ⟨g, 0, none⟩ = some (.int .u8 (dgA d 1 0)) := by
    rw [he.cells 0 (by rw [digL_len]; omega), digL_getD (by omega)]
  rw [eTxt_pos]
  by_cases h1 : k < 10
  · rw [expL_a h1]
    go_enter Tryz.func207, Tryz.ntmps207
    go_wp2_with (first | (at_builtin; (first | (refine efg_one _ (by assumption) rfl _ _ rfl rfl rfl (by first | (simp; done) | (simp; omega) | (simp [digL_len]; done) | (simp [digL_len]; omega)) ?_; intro zv9 zw9 zh9) | (refine efg_two _ _ (by assumption) rfl _ _ rfl rfl rfl (by first | (simp; done) | (simp; omega) | (simp [digL_len]; done) | (simp [digL_len]; omega)) ?_; intro zv9 zw9 zh9) | (refine efg_three _ _ _ (by assumption) rfl _ _ rfl rfl rfl (by first | (simp; done) | (simp; omega) | (simp [digL_len]; done) | (simp [digL_len]; omega)) ?_; intro zv9 zw9 zh9))) | go_in)
    go_ret
    exact ⟨_, rfl, Efg.cast (by assumption) rfl⟩
  · by_cases h2 : k < 100
    · rw [expL_b h1 h2]
      go_enter Tryz.func207, Tryz.ntmps207
      go_wp2_with (first | (at_builtin; (first | (refine efg_one _ (by assumption) rfl _ _ rfl rfl rfl (by first | (simp; done) | (simp; omega) | (simp [digL_len]; done) | (simp [digL_len]; omega)) ?_; intro zv9 zw9 zh9) | (refine efg_two _ _ (by assumption) rfl _ _ rfl rfl rfl (by first | (simp; done) | (simp; omega) | (simp [digL_len]; done) | (simp [digL_len]; omega)) ?_; intro zv9 zw9 zh9) | (refine efg_three _ _ _ (by assumption) rfl _ _ rfl rfl rfl (by first | (simp; done) | (simp; omega) | (simp [digL_len]; done) | (simp [digL_len]; omega)) ?_; intro zv9 zw9 zh9))) | go_in)
      go_ret
      exact ⟨_, rfl, Efg.cast (by assumption) rfl⟩
    · rw [expL_c h1 h2]
      go_enter Tryz.func207, Tryz.ntmps207
      go_wp2_with (first | (at_builtin; (first | (refine efg_one _ (by assumption) rfl _ _ rfl rfl rfl (by first | (simp; done) | (simp; omega) | (simp [digL_len]; done) | (simp [digL_len]; omega)) ?_; intro zv9 zw9 zh9) | (refine efg_two _ _ (by assumption) rfl _ _ rfl rfl rfl (by first | (simp; done) | (simp; omega) | (simp [digL_len]; done) | (simp [digL_len]; omega)) ?_; intro zv9 zw9 zh9) | (refine efg_three _ _ _ (by assumption) rfl _ _ rfl rfl rfl (by first | (simp; done) | (simp; omega) | (simp [digL_len]; done) | (simp [digL_len]; omega)) ?_; intro zv9 zw9 zh9))) | go_in)
      go_ret
      exact ⟨_, rfl, Efg.cast (by assumption) rfl⟩

set_option maxHeartbeats 1600000 in
set_option maxRecDepth 100000 in
theorem efg_1n (d k g base : Nat) (w w0 : World) (v : Value) (he : Efg w0 base g (digL d 1) w v []) (hk : k ≤ 400) (hk0 : 0 < k) :
    Calls Tryz.prog 207 #[v, .bool false, .slice (some ⟨g, 0, none⟩) 24 24, .int .i64 ((-(k : Int)) + 1), .int .i64 1, .int .i64 0, .int .u8 101, .bool false] w fun r w' => ∃ v', r = .returned v' ∧ Efg w0 base g (digL d 1) w' v' (eTxt d 1 (-(k : Int))) := by
  have hc0 : w.cell? ⟨g, 0, none⟩ = some (.int .u8 (dgA d 1 0)) := by
    rw [he.cells 0 (by rw [digL_len]; omega), digL_getD (by omega)]
  rw [eTxt_neg hk0]
  by_cases h1 : k < 10
  · rw [expL_a h1]
    go_enter Tryz.func207, Tryz.ntmps207
    go_wp2_with (first | (at_builtin; (first | (refine efg_one _ (by assumption) rfl _ _ rfl rfl rfl (by first | (simp; done) | (simp; omega) | (simp [digL_len]; done) | (simp [digL_len]; omega)) ?_; intro zv9 zw9 zh9) | (refine efg_two _ _ (by assumption) rfl _ _ rfl rfl rfl (by first | (simp; done) | (simp; omega) | (simp [digL_len]; done) | (simp [digL_len]; omega)) ?_; intro zv9 zw9 zh9) | (refine efg_three _ _ _ (by assumption) rfl _ _ rfl rfl rfl (by first | (simp; done) | (simp; omega) | (simp [digL_len]; done) | (simp [digL_len]; omega)) ?_; intro zv9 zw9 zh9))) | go_in)
    go_ret
    exact ⟨_, rfl, Efg.cast (by assumption) rfl⟩
  · by_cases h2 : k < 100
    · rw [expL_b h1 h2]
      go_enter Tryz.func207, Tryz.ntmps207
      go_wp2_with (first | (at_builtin; (first | (refine efg_one _ (by assumption) rfl _ _ rfl rfl rfl (by first | (simp; done) | (simp; omega) | (simp [digL_len]; done) | (simp [digL_len]; omega)) ?_; intro zv9 zw9 zh9) | (refine efg_two _ _ (by assumption) rfl _ _ rfl rfl rfl (by first | (simp; done) | (simp; omega) | (simp [digL_len]; done) | (simp [digL_len]; omega)) ?_; intro zv9 zw9 zh9) | (refine efg_three _ _ _ (by assumption) rfl _ _ rfl rfl rfl (by first | (simp; done) | (simp; omega) | (simp [digL_len]; done) | (simp [digL_len]; omega)) ?_; intro zv9 zw9 zh9))) | go_in)
      go_ret
      exact ⟨_, rfl, Efg.cast (by assumption) rfl⟩
    · rw [expL_c h1 h2]
      go_enter Tryz.func207, Tryz.ntmps207
      go_wp2_with (first | (at_builtin; (first | (refine efg_one _ (by assumption) rfl _ _ rfl rfl rfl (by first | (simp; done) | (simp; omega) | (simp [digL_len]; done) | (simp [digL_len]; omega)) ?_; intro zv9 zw9 zh9) | (refine efg_two _ _ (by assumption) rfl _ _ rfl rfl rfl (by first | (simp; done) | (simp; omega) | (simp [digL_len]; done) | (simp [digL_len]; omega)) ?_; intro zv9 zw9 zh9) | (refine efg_three _ _ _ (by assumption) rfl _ _ rfl rfl rfl (by first | (simp; done) | (simp; omega) | (simp [digL_len]; done) | (simp [digL_len]; omega)) ?_; intro zv9 zw9 zh9))) | go_in)
      go_ret
      exact ⟨_, rfl, Efg.cast (by assumption) rfl⟩

end Go.Proofs.YtamdnnkdnhkghaaGreatDoor
