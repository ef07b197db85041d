import Derived.Test.YtgnbhhgpaldheaaGreatKV3
import Derived.Test.YtgnbhhgpaldheaaGreatKV4
import Derived.Test.YtgnbhhgpaldheaaGreatKBM
namespace Go.Proofs.YtgnbhhgpaldheaaGreat
open Go Go.RowKit
set_option linter.unusedVariables false
set_option maxHeartbeats 1600000 in
set_option maxRecDepth 100000 in
theorem names1_any (w : World) : Calls Tryz.prog 82 #[.int .i64 1] w fun e w' => e = .returned (.tuple #[.agg #[.int .i64 0, .int .i64 0, .int .i64 0, .int .i64 0], .bool true]) ∧ Below w.heap.size w w' := by
  go_enter Tryz.func82, Tryz.ntmps82
  go_wp2
  refine bodyPost_ret (v := .tuple #[.agg #[.int .i64 0, .int .i64 0, .int .i64 0, .int .i64 0], .bool true]) ?_ rfl ⟨rfl, ?_⟩
  · exact res_names _ w.heap.size _ _ _ _ _ _ rfl rfl (by simp) (by simp) (by simp) (by simp)
  · exact b_1 _ _
set_option maxHeartbeats 1600000 in
set_option maxRecDepth 100000 in
theorem names2_any (w : World) : Calls Tryz.prog 82 #[.int .i64 2] w fun e w' => e = .returned (.tuple #[.agg #[.int .i64 1, .int .i64 1, .int .i64 0, .int .i64 0], .bool true]) ∧ Below w.heap.size w w' := by
  go_enter Tryz.func82, Tryz.ntmps82
  go_wp2
  refine bodyPost_ret (v := .tuple #[.agg #[.int .i64 1, .int .i64 1, .int .i64 0, .int .i64 0], .bool true]) ?_ rfl ⟨rfl, ?_⟩
  · exact res_names _ w.heap.size _ _ _ _ _ _ rfl rfl (by simp) (by simp) (by simp) (by simp)
  · exact b_1 _ _
set_option maxHeartbeats 1600000 in
set_option maxRecDepth 100000 in
theorem names3_any (w : World) : Calls Tryz.prog 82 #[.int .i64 3] w fun e w' => e = .returned (.tuple #[.agg #[.int .i64 1, .int .i64 0, .int .i64 0, .int .i64 0], .bool true]) ∧ Below w.heap.size w w' := by
  go_enter Tryz.func82, Tryz.ntmps82
  go_wp2
  refine bodyPost_ret (v := .tuple #[.agg #[.int .i64 1, .int .i64 0, .int .i64 0, .int .i64 0], .bool true]) ?_ rfl ⟨rfl, ?_⟩
  · exact res_names _ w.heap.size _ _ _ _ _ _ rfl rfl (by simp) (by simp) (by simp) (by simp)
  · exact b_1 _ _
set_option maxHeartbeats 1600000 in
set_option maxRecDepth 100000 in
theorem names4_any (w : World) : Calls Tryz.prog 82 #[.int .i64 4] w fun e w' => e = .returned (.tuple #[.agg #[.int .i64 1, .int .i64 0, .int .i64 0, .int .i64 0], .bool true]) ∧ Below w.heap.size w w' := by
  go_enter Tryz.func82, Tryz.ntmps82
  go_wp2
  refine bodyPost_ret (v := .tuple #[.agg #[.int .i64 1, .int .i64 0, .int .i64 0, .int .i64 0], .bool true]) ?_ rfl ⟨rfl, ?_⟩
  · exact res_names _ w.heap.size _ _ _ _ _ _ rfl rfl (by simp) (by simp) (by simp) (by simp)
  · exact b_1 _ _
set_option maxHeartbeats 1600000 in
set_option maxRecDepth 100000 in
theorem names5_any (w : World) : Calls Tryz.prog 82 #[.int .i64 5] w fun e w' => e = .returned (.tuple #[.agg #[.int .i64 1, .int .i64 0, .int .i64 0, .int .i64 0], .bool true]) ∧ Below w.heap.size w w' := by
  go_enter Tryz.func82, Tryz.ntmps82
  go_wp2
  refine bodyPost_ret (v := .tuple #[.agg #[.int .i64 1, .int .i64 0, .int .i64 0, .int .i64 0], .bool true]) ?_ rfl ⟨rfl, ?_⟩
  · exact res_names _ w.heap.size _ _ _ _ _ _ rfl rfl (by simp) (by simp) (by simp) (by simp)
  · exact b_1 _ _
set_option maxHeartbeats 1600000 in
set_option maxRecDepth 100000 in
theorem names6_any (w : World) : Calls Tryz.prog 82 #[.int .i64 6] w fun e w' => e = .returned (.tuple #[.agg #[.int .i64 1, .int .i64 2, .int .i64 0, .int .i64 0], .bool true]) ∧ Below w.heap.size w w' := by
  go_enter Tryz.func82, Tryz.ntmps82
  go_wp2
  refine bodyPost_ret (v := .tuple #[.agg #[.int .i64 1, .int .i64 2, .int .i64 0, .int .i64 0], .bool true]) ?_ rfl ⟨rfl, ?_⟩
  · exact res_names _ w.heap.size _ _ _ _ _ _ rfl rfl (by simp) (by simp) (by simp) (by simp)
  · exact b_1 _ _
set_option maxHeartbeats 1600000 in
set_option maxRecDepth 100000 in
theorem names7_any (w : World) : Calls Tryz.prog 82 #[.int .i64 7] w fun e w' => e = .returned (.tuple #[.agg #[.int .i64 1, .int .i64 4, .int .i64 0, .int .i64 0], .bool true]) ∧ Below w.heap.size w w' := by
  go_enter Tryz.func82, Tryz.ntmps82
  go_wp2
  refine bodyPost_ret (v := .tuple #[.agg #[.int .i64 1, .int .i64 4, .int .i64 0, .int .i64 0], .bool true]) ?_ rfl ⟨rfl, ?_⟩
  · exact res_names _ w.heap.size _ _ _ _ _ _ rfl rfl (by simp) (by simp) (by simp) (by simp)
  · exact b_1 _ _
set_option maxHeartbeats 1600000 in
set_option maxRecDepth 100000 in
theorem names8_any (w : World) : Calls Tryz.prog 82 #[.int .i64 8] w fun e w' => e = .returned (.tuple #[.agg #[.int .i64 1, .int .i64 4, .int .i64 0, .int .i64 0], .bool true]) ∧ Below w.heap.size w w' := by
  go_enter Tryz.func82, Tryz.ntmps82
  go_wp2
  refine bodyPost_ret (v := .tuple #[.agg #[.int .i64 1, .int .i64 4, .int .i64 0, .int .i64 0], .bool true]) ?_ rfl ⟨rfl, ?_⟩
  · exact res_names _ w.heap.size _ _ _ _ _ _ rfl rfl (by simp) (by simp) (by simp) (by simp)
  · exact b_1 _ _
set_option maxHeartbeats 1600000 in
set_option maxRecDepth 100000 in
theorem names9_any (w : World) : Calls Tryz.prog 82 #[.int .i64 9] w fun e w' => e = .returned (.tuple #[.agg #[.int .i64 1, .int .i64 3, .int .i64 0, .int .i64 0], .bool true]) ∧ Below w.heap.size w w' := by
  go_enter Tryz.func82, Tryz.ntmps82
  go_wp2
  refine bodyPost_ret (v := .tuple #[.agg #[.int .i64 1, .int .i64 3, .int .i64 0, .int .i64 0], .bool true]) ?_ rfl ⟨rfl, ?_⟩
  · exact res_names _ w.heap.size _ _ _ _ _ _ rfl rfl (by simp) (by simp) (by simp) (by simp)
  · exact b_1 _ _
set_option maxHeartbeats 1600000 in
set_option maxRecDepth 100000 in
theorem names10_any (w : World) : Calls Tryz.prog 82 #[.int .i64 10] w fun e w' => e = .returned (.tuple #[.agg #[.int .i64 1, .int .i64 3, .int .i64 0, .int .i64 0], .bool true]) ∧ Below w.heap.size w w' := by
  go_enter Tryz.func82, Tryz.ntmps82
  go_wp2
  refine bodyPost_ret (v := .tuple #[.agg #[.int .i64 1, .int .i64 3, .int .i64 0, .int .i64 0], .bool true]) ?_ rfl ⟨rfl, ?_⟩
  · exact res_names _ w.heap.size _ _ _ _ _ _ rfl rfl (by simp) (by simp) (by simp) (by simp)
  · exact b_1 _ _
set_option maxHeartbeats 1600000 in
set_option maxRecDepth 100000 in
theorem names11_any (w : World) : Calls Tryz.prog 82 #[.int .i64 11] w fun e w' => e = .returned (.tuple #[.agg #[.int .i64 1, .int .i64 1, .int .i64 1, .int .i64 0], .bool true]) ∧ Below w.heap.size w w' := by
  go_enter Tryz.func82, Tryz.ntmps82
  go_wp2
  refine bodyPost_ret (v := .tuple #[.agg #[.int .i64 1, .int .i64 1, .int .i64 1, .int .i64 0], .bool true]) ?_ rfl ⟨rfl, ?_⟩
  · exact res_names _ w.heap.size _ _ _ _ _ _ rfl rfl (by simp) (by simp) (by simp) (by simp)
  · exact b_1 _ _
set_option maxHeartbeats 1600000 in
set_option maxRecDepth 100000 in
theorem names12_any (w : World) : Calls Tryz.prog 82 #[.int .i64 12] w fun e w' => e = .returned (.tuple #[.agg #[.int .i64 1, .int .i64 1, .int .i64 1, .int .i64 0], .bool true]) ∧ Below w.heap.size w w' := by
  go_enter Tryz.func82, Tryz.ntmps82
  go_wp2
  refine bodyPost_ret (v := .tuple #[.agg #[.int .i64 1, .int .i64 1, .int .i64 1, .int .i64 0], .bool true]) ?_ rfl ⟨rfl, ?_⟩
  · exact res_names _ w.heap.size _ _ _ _ _ _ rfl rfl (by simp) (by simp) (by simp) (by simp)
  · exact b_1 _ _
def upsNat (k : Nat) (P : Nat → PV) : Prop := ∀ i, i < k → ∀ q, q < (P i).nu → 0 ≤ (P i).u1 q
def woQ (P : Nat → PV) (k : Nat) (p : PV) (j : Nat) (nm v : Int) : Prop :=
  (nm = 1 → regI p v) ∧ (nm = 2 → 0 ≤ v ∧ v < p.nc) ∧ (nm = 3 → textI p v) ∧ (nm = 4 → 0 ≤ v ∧ v < p.nu) ∧ (nm = 5 → 0 ≤ v ∧ v < k ∧ upsI p (P v.toNat) (P v.toNat).nu) ∧ (nm = 6 → 0 ≤ v ∧ v < p.ni ∧ tkP p v.toNat < 0 ∧ ((j : Int) < v ∨ p.i0 v.toNat = 1))
def woC (nm : Int) : Int := if nm = 0 then 0 else if nm = 1 then 3 else if nm = 2 ∨ nm = 3 then 4 else if nm = 4 then 5 else if nm = 5 then 6 else 7
def WoR (P : Nat → PV) (k : Nat) (p : PV) (j : Nat) (nm v : Int) (w : World) (e : Ending) (w' : World) : Prop := ∃ c : Int, e = .returned (.int .i64 c) ∧ ((woQ P k p j nm v ∧ c = 0) ∨ (¬ woQ P k p j nm v ∧ c = woC nm)) ∧ Below w.heap.size w w'
theorem wo_yes {P : Nat → PV} {k : Nat} {p : PV} {j : Nat} {nm v : Int} {w w' : World} (hq : woQ P k p j nm v) (hb : Below w.heap.size w w') : WoR P k p j nm v w (.returned (.int .i64 0)) w' := ⟨0, rfl, .inl ⟨hq, rfl⟩, hb⟩
theorem wo_no {P : Nat → PV} {k : Nat} {p : PV} {j : Nat} {nm v : Int} {w w' : World} {n : Int} (hq : ¬ woQ P k p j nm v) (hn : n = woC nm) (hb : Below w.heap.size w w') : WoR P k p j nm v w (.returned (.int .i64 n)) w' := ⟨n, rfl, .inr ⟨hq, hn⟩, hb⟩
theorem wo1 {P : Nat → PV} {k : Nat} {p : PV} {j : Nat} {v : Int} : woQ P k p j 1 v ↔ regI p v := by simp [woQ]
theorem wo2 {P : Nat → PV} {k : Nat} {p : PV} {j : Nat} {v : Int} : woQ P k p j 2 v ↔ 0 ≤ v ∧ v < p.nc := by simp [woQ]
theorem wo3 {P : Nat → PV} {k : Nat} {p : PV} {j : Nat} {v : Int} : woQ P k p j 3 v ↔ textI p v := by simp [woQ]
theorem wo4 {P : Nat → PV} {k : Nat} {p : PV} {j : Nat} {v : Int} : woQ P k p j 4 v ↔ 0 ≤ v ∧ v < p.nu := by simp [woQ]
theorem wo5 {P : Nat → PV} {k : Nat} {p : PV} {j : Nat} {v : Int} : woQ P k p j 5 v ↔ 0 ≤ v ∧ v < k ∧ upsI p (P v.toNat) (P v.toNat).nu := by simp [woQ]
theorem wo6 {P : Nat → PV} {k : Nat} {p : PV} {j : Nat} {v : Int} : woQ P k p j 6 v ↔ 0 ≤ v ∧ v < p.ni ∧ tkP p v.toNat < 0 ∧ ((j : Int) < v ∨ p.i0 v.toNat = 1) := by simp [woQ]
set_option maxHeartbeats 1600000 in
set_option maxRecDepth 100000 in
theorem without0_any (g : Nat) (P : Nat → PV) (k : Nat) (p : PV) (s4 s5 s6 s7 va : Value) (j : Nat) (v : Int) (w : World) (hk : k ≤ 1048576) (hj : j < p.ni) (hfa : allFit k P 1048576) (hun : upsNat k P) (hv : ProsA w va k P) (h : VX w g p s4 s5 s6 s7 va) :
    Calls Tryz.prog 119 #[.pointer (some ⟨g, 0, none⟩), .int .i64 j, .int .i64 0, .int .i64 v] w fun e w' => WoR P k p j 0 v w e w' := by
  have hni := h.ni
  have hnc := h.nc
  have hnu := h.nu
  have hr0 := h.r0
  have hr1 := h.r1
  have HX := hide h
  have HV := hide hv
  have HFA := hide hfa
  have HUN := hide hun
  obtain ⟨a4, k4, rfl⟩ := h.a.u.val
  obtain ⟨a5, k5, rfl⟩ := h.a.c.val
  obtain ⟨a6, k6, rfl⟩ := h.a.i.val
  obtain ⟨a8, k8, rfl⟩ := hv.val
  obtain ⟨y0, y1, y2, y3, y4, y5, y6, y7, y8⟩ := h.r.cells
  clear h hv hfa hun
  go_enter Tryz.func119, Tryz.ntmps119
  go_wp2
  go_ret
  exact ⟨0, rfl, .inl ⟨by simp [woQ], rfl⟩, Below.refl _ _⟩
set_option maxHeartbeats 1600000 in
set_option maxRecDepth 100000 in
theorem without1_any (g : Nat) (P : Nat → PV) (k : Nat) (p : PV) (s4 s5 s6 s7 va : Value) (j : Nat) (v : Int) (w : World) (hk : k ≤ 1048576) (hj : j < p.ni) (hfa : allFit k P 1048576) (hun : upsNat k P) (hv : ProsA w va k P) (h : VX w g p s4 s5 s6 s7 va) :
    Calls Tryz.prog 119 #[.pointer (some ⟨g, 0, none⟩), .int .i64 j, .int .i64 1, .int .i64 v] w fun e w' => WoR P k p j 1 v w e w' := by
  have hni := h.ni
  have hnc := h.nc
  have hnu := h.nu
  have hr0 := h.r0
  have hr1 := h.r1
  have HX := hide h
  have HV := hide hv
  have HFA := hide hfa
  have HUN := hide hun
  obtain ⟨a4, k4, rfl⟩ := h.a.u.val
  obtain ⟨a5, k5, rfl⟩ := h.a.c.val
  obtain ⟨a6, k6, rfl⟩ := h.a.i.val
  obtain ⟨a8, k8, rfl⟩ := hv.val
  obtain ⟨y0, y1, y2, y3, y4, y5, y6, y7, y8⟩ := h.r.cells
  clear h hv hfa hun
  by_cases hx : 0 ≤ v ∧ v ≤ p.regs - 1
  · have hxI := inI_t hx
    have HQ : Hid (woQ P k p j 1 v) := hide (wo1.2 (by unfold regI; omega))
    go_enter Tryz.func119, Tryz.ntmps119
    go_wp2_with (first | (go_at_call 36; refine (within_any _ _ _ _).mono ?_; rintro e w' ⟨rfl, hw⟩; obtain rfl := hw.symm) | (go_at_call 133; refine (codeUnless_any _ _ _).mono ?_; rintro e w' ⟨rfl, hw⟩; obtain rfl := hw.symm))
    go_ret
    exact wo_yes HQ.out (Below.refl _ _)
  · have hxI := inI_f hx
    have HQ : Hid (¬ woQ P k p j 1 v) := hide (mt wo1.1 (by unfold regI; omega))
    go_enter Tryz.func119, Tryz.ntmps119
    go_wp2_with (first | (go_at_call 36; refine (within_any _ _ _ _).mono ?_; rintro e w' ⟨rfl, hw⟩; obtain rfl := hw.symm) | (go_at_call 133; refine (codeUnless_any _ _ _).mono ?_; rintro e w' ⟨rfl, hw⟩; obtain rfl := hw.symm))
    go_ret
    exact wo_no HQ.out rfl (Below.refl _ _)
set_option maxHeartbeats 1600000 in
set_option maxRecDepth 100000 in
theorem without2_any (g : Nat) (P : Nat → PV) (k : Nat) (p : PV) (s4 s5 s6 s7 va : Value) (j : Nat) (v : Int) (w : World) (hk : k ≤ 1048576) (hj : j < p.ni) (hfa : allFit k P 1048576) (hun : upsNat k P) (hv : ProsA w va k P) (h : VX w g p s4 s5 s6 s7 va) :
    Calls Tryz.prog 119 #[.pointer (some ⟨g, 0, none⟩), .int .i64 j, .int .i64 2, .int .i64 v] w fun e w' => WoR P k p j 2 v w e w' := by
  have hni := h.ni
  have hnc := h.nc
  have hnu := h.nu
  have hr0 := h.r0
  have hr1 := h.r1
  have HX := hide h
  have HV := hide hv
  have HFA := hide hfa
  have HUN := hide hun
  obtain ⟨a4, k4, rfl⟩ := h.a.u.val
  obtain ⟨a5, k5, rfl⟩ := h.a.c.val
  obtain ⟨a6, k6, rfl⟩ := h.a.i.val
  obtain ⟨a8, k8, rfl⟩ := hv.val
  obtain ⟨y0, y1, y2, y3, y4, y5, y6, y7, y8⟩ := h.r.cells
  clear h hv hfa hun
  by_cases hx : 0 ≤ v ∧ v ≤ (p.nc : Int) - 1
  · have hxI := inI_t hx
    have HQ : Hid (woQ P k p j 2 v) := hide (wo2.2 (by omega))
    go_enter Tryz.func119, Tryz.ntmps119
    go_wp2_with (first | (go_at_call 36; refine (within_any _ _ _ _).mono ?_; rintro e w' ⟨rfl, hw⟩; obtain rfl := hw.symm) | (go_at_call 133; refine (codeUnless_any _ _ _).mono ?_; rintro e w' ⟨rfl, hw⟩; obtain rfl := hw.symm))
    go_ret
    exact wo_yes HQ.out (Below.refl _ _)
  · have hxI := inI_f hx
    have HQ : Hid (¬ woQ P k p j 2 v) := hide (mt wo2.1 (by omega))
    go_enter Tryz.func119, Tryz.ntmps119
    go_wp2_with (first | (go_at_call 36; refine (within_any _ _ _ _).mono ?_; rintro e w' ⟨rfl, hw⟩; obtain rfl := hw.symm) | (go_at_call 133; refine (codeUnless_any _ _ _).mono ?_; rintro e w' ⟨rfl, hw⟩; obtain rfl := hw.symm))
    go_ret
    exact wo_no HQ.out rfl (Below.refl _ _)
set_option maxHeartbeats 1600000 in
set_option maxRecDepth 100000 in
theorem without4_any (g : Nat) (P : Nat → PV) (k : Nat) (p : PV) (s4 s5 s6 s7 va : Value) (j : Nat) (v : Int) (w : World) (hk : k ≤ 1048576) (hj : j < p.ni) (hfa : allFit k P 1048576) (hun : upsNat k P) (hv : ProsA w va k P) (h : VX w g p s4 s5 s6 s7 va) :
    Calls Tryz.prog 119 #[.pointer (some ⟨g, 0, none⟩), .int .i64 j, .int .i64 4, .int .i64 v] w fun e w' => WoR P k p j 4 v w e w' := by
  have hni := h.ni
  have hnc := h.nc
  have hnu := h.nu
  have hr0 := h.r0
  have hr1 := h.r1
  have HX := hide h
  have HV := hide hv
  have HFA := hide hfa
  have HUN := hide hun
  obtain ⟨a4, k4, rfl⟩ := h.a.u.val
  obtain ⟨a5, k5, rfl⟩ := h.a.c.val
  obtain ⟨a6, k6, rfl⟩ := h.a.i.val
  obtain ⟨a8, k8, rfl⟩ := hv.val
  obtain ⟨y0, y1, y2, y3, y4, y5, y6, y7, y8⟩ := h.r.cells
  clear h hv hfa hun
  by_cases hx : 0 ≤ v ∧ v ≤ (p.nu : Int) - 1
  · have hxI := inI_t hx
    have HQ : Hid (woQ P k p j 4 v) := hide (wo4.2 (by omega))
    go_enter Tryz.func119, Tryz.ntmps119
    go_wp2_with (first | (go_at_call 36; refine (within_any _ _ _ _).mono ?_; rintro e w' ⟨rfl, hw⟩; obtain rfl := hw.symm) | (go_at_call 133; refine (codeUnless_any _ _ _).mono ?_; rintro e w' ⟨rfl, hw⟩; obtain rfl := hw.symm))
    go_ret
    exact wo_yes HQ.out (Below.refl _ _)
  · have hxI := inI_f hx
    have HQ : Hid (¬ woQ P k p j 4 v) := hide (mt wo4.1 (by omega))
    go_enter Tryz.func119, Tryz.ntmps119
    go_wp2_with (first | (go_at_call 36; refine (within_any _ _ _ _).mono ?_; rintro e w' ⟨rfl, hw⟩; obtain rfl := hw.symm) | (go_at_call 133; refine (codeUnless_any _ _ _).mono ?_; rintro e w' ⟨rfl, hw⟩; obtain rfl := hw.symm))
    go_ret
    exact wo_no HQ.out rfl (Below.refl _ _)
set_option maxHeartbeats 1600000 in
set_option maxRecDepth 100000 in
theorem without3_any (g : Nat) (P : Nat → PV) (k : Nat) (p : PV) (s4 s5 s6 s7 va : Value) (j : Nat) (v : Int) (w : World) (hk : k ≤ 1048576) (hj : j < p.ni) (hfa : allFit k P 1048576) (hun : upsNat k P) (hv : ProsA w va k P) (h : VX w g p s4 s5 s6 s7 va) :
    Calls Tryz.prog 119 #[.pointer (some ⟨g, 0, none⟩), .int .i64 j, .int .i64 3, .int .i64 v] w fun e w' => WoR P k p j 3 v w e w' := by
  have hni := h.ni
  have hnc := h.nc
  have hnu := h.nu
  have hr0 := h.r0
  have hr1 := h.r1
  have HX := hide h
  have HV := hide hv
  have HFA := hide hfa
  have HUN := hide hun
  obtain ⟨a4, k4, rfl⟩ := h.a.u.val
  obtain ⟨a5, k5, rfl⟩ := h.a.c.val
  obtain ⟨a6, k6, rfl⟩ := h.a.i.val
  obtain ⟨a8, k8, rfl⟩ := hv.val
  obtain ⟨y0, y1, y2, y3, y4, y5, y6, y7, y8⟩ := h.r.cells
  clear h hv hfa hun
  by_cases hx : 0 ≤ v ∧ v ≤ (p.nc : Int) - 1
  · have hxI := inI_t hx
    obtain ⟨m, rfl⟩ : ∃ m : Nat, v = (m : Int) := ⟨v.toNat, by omega⟩
    have hm : m < p.nc := by omega
    rcases HX.out.a.c with ⟨h9, _⟩ | ⟨b, o, cap, e, hb, hcap, hc⟩
    · omega
    cases e
    have c0 := (hc m hm).1
    clear hc
    have hin : (m : Int) < (p.nc : Int) := by omega
    by_cases h6 : p.c0 m = 6
    · have HQ : Hid (woQ P k p j 3 (m : Int)) := hide (wo3.2 ⟨by omega, by omega, by rw [Int.toNat_natCast]; exact h6⟩)
      go_enter Tryz.func119, Tryz.ntmps119
      go_wp2_with (first | (go_at_call 36; refine (within_any _ _ _ _).mono ?_; rintro e w' ⟨rfl, hw⟩; obtain rfl := hw.symm) | (go_at_call 133; refine (codeUnless_any _ _ _).mono ?_; rintro e w' ⟨rfl, hw⟩; obtain rfl := hw.symm))
      go_ret
      exact wo_yes HQ.out (Below.refl _ _)
    · have HQ : Hid (¬ woQ P k p j 3 (m : Int)) := hide (mt wo3.1 (fun q => h6 (by have := q.2.2; rw [Int.toNat_natCast] at this; exact this)))
      go_enter Tryz.func119, Tryz.ntmps119
      go_wp2_with (first | (go_at_call 36; refine (within_any _ _ _ _).mono ?_; rintro e w' ⟨rfl, hw⟩; obtain rfl := hw.symm) | (go_at_call 133; refine (codeUnless_any _ _ _).mono ?_; rintro e w' ⟨rfl, hw⟩; obtain rfl := hw.symm))
      go_ret
      exact wo_no HQ.out rfl (Below.refl _ _)
  · have hxI := inI_f hx
    have HQ : Hid (¬ woQ P k p j 3 v) := hide (mt wo3.1 (by unfold textI; omega))
    go_enter Tryz.func119, Tryz.ntmps119
    go_wp2_with (first | (go_at_call 36; refine (within_any _ _ _ _).mono ?_; rintro e w' ⟨rfl, hw⟩; obtain rfl := hw.symm) | (go_at_call 133; refine (codeUnless_any _ _ _).mono ?_; rintro e w' ⟨rfl, hw⟩; obtain rfl := hw.symm))
    go_ret
    exact wo_no HQ.out rfl (Below.refl _ _)
set_option maxHeartbeats 1600000 in
set_option maxRecDepth 100000 in
theorem without5_any (g : Nat) (P : Nat → PV) (k : Nat) (p : PV) (s4 s5 s6 s7 va : Value) (j : Nat) (v : Int) (w : World) (hk : k ≤ 1048576) (hj : j < p.ni) (hfa : allFit k P 1048576) (hun : upsNat k P) (hv : ProsA w va k P) (h : VX w g p s4 s5 s6 s7 va) :
    Calls Tryz.prog 119 #[.pointer (some ⟨g, 0, none⟩), .int .i64 j, .int .i64 5, .int .i64 v] w fun e w' => WoR P k p j 5 v w e w' := by
  have hni := h.ni
  have hnc := h.nc
  have hnu := h.nu
  have hr0 := h.r0
  have hr1 := h.r1
  have HX := hide h
  have HV := hide hv
  have HFA := hide hfa
  have HUN := hide hun
  obtain ⟨a4, k4, rfl⟩ := h.a.u.val
  obtain ⟨a5, k5, rfl⟩ := h.a.c.val
  obtain ⟨a6, k6, rfl⟩ := h.a.i.val
  obtain ⟨a8, k8, rfl⟩ := hv.val
  obtain ⟨y0, y1, y2, y3, y4, y5, y6, y7, y8⟩ := h.r.cells
  clear h hv hfa hun
  by_cases hx : 0 ≤ v ∧ v ≤ (k : Int) - 1
  · have hxI := inI_t hx
    obtain ⟨m, rfl⟩ : ∃ m : Nat, v = (m : Int) := ⟨v.toNat, by omega⟩
    have hm : m < k := by omega
    rcases HV.out with ⟨h9, _⟩ | ⟨b, o, cap, e, hb, hcap, hc⟩
    · omega
    cases e
    obtain ⟨t4, t5, t6, t7, h8, hp8⟩ := hc m hm
    have c4 := h8.2.2.2.2.1
    have HU := hide hp8.u
    clear hc h8 hp8
    have hin : (m : Int) < (k : Int) := by omega
    have hmf : ∀ (fn : Fn) (first cap : Array Value) (w : World), (Instr.makeFunc fn first cap).run Tryz.prog w = .ok (.func fn first cap) w := fun _ _ _ _ => rfl
    go_enter Tryz.func119, Tryz.ntmps119
    go_wp2_with (first | (go_at_call 36; refine (within_any _ _ _ _).mono ?_; rintro e w' ⟨rfl, hw⟩; obtain rfl := hw.symm) | (go_at_call 133; refine (codeUnless_any _ _ _).mono ?_; rintro e w' ⟨rfl, hw⟩; obtain rfl := hw.symm))
    clear y0 y1 y2 y3 y4 y5 y6 y7 y8 c4 hmf
    refine (allGives_any _ (P m).nu (P m).u0 (P m).u1 (fun q => ((P m).u0 q = true → regI p ((P m).u1 q)) ∧ ((P m).u0 q = false → (P m).u1 q < p.nu)) g w (HFA.out m hm).1 HU.out (fun i hi w' hw => gives_any g p a4 k4 _ _ _ _ _ _ w' (HUN.out m hm i hi) (HX.out.low hw).r)).mono ?_
    rintro e w2 ⟨r, rfl, hr, hb2⟩
    have HB := hide hb2
    clear hb2
    rcases hr with ⟨rfl, hr⟩ | ⟨rfl, hr⟩
    · have HR := hide hr
      clear hr
      go_wp2_with (first | (go_at_call 36; refine (within_any _ _ _ _).mono ?_; rintro e w' ⟨rfl, hw⟩; obtain rfl := hw.symm) | (go_at_call 133; refine (codeUnless_any _ _ _).mono ?_; rintro e w' ⟨rfl, hw⟩; obtain rfl := hw.symm))
      go_ret
      exact wo_yes (wo5.2 ⟨by omega, by omega, by rw [Int.toNat_natCast]; exact HR.out⟩) HB.out
    · have HR := hide hr
      clear hr
      go_wp2_with (first | (go_at_call 36; refine (within_any _ _ _ _).mono ?_; rintro e w' ⟨rfl, hw⟩; obtain rfl := hw.symm) | (go_at_call 133; refine (codeUnless_any _ _ _).mono ?_; rintro e w' ⟨rfl, hw⟩; obtain rfl := hw.symm))
      go_ret
      exact wo_no (mt wo5.1 (fun q => HR.out (by have := q.2.2; rw [Int.toNat_natCast] at this; exact this))) rfl HB.out
  · have hxI := inI_f hx
    go_enter Tryz.func119, Tryz.ntmps119
    go_wp2_with (first | (go_at_call 36; refine (within_any _ _ _ _).mono ?_; rintro e w' ⟨rfl, hw⟩; obtain rfl := hw.symm) | (go_at_call 133; refine (codeUnless_any _ _ _).mono ?_; rintro e w' ⟨rfl, hw⟩; obtain rfl := hw.symm))
    go_ret
    exact wo_no (mt wo5.1 (fun q => by have h1 := q.1; have h2 := q.2.1; omega)) rfl (Below.refl _ _)
set_option maxHeartbeats 1600000 in
set_option maxRecDepth 100000 in
theorem without6_any (g : Nat) (P : Nat → PV) (k : Nat) (p : PV) (s4 s5 s6 s7 va : Value) (j : Nat) (v : Int) (w : World) (hk : k ≤ 1048576) (hj : j < p.ni) (hfa : allFit k P 1048576) (hun : upsNat k P) (hv : ProsA w va k P) (h : VX w g p s4 s5 s6 s7 va) :
    Calls Tryz.prog 119 #[.pointer (some ⟨g, 0, none⟩), .int .i64 j, .int .i64 6, .int .i64 v] w fun e w' => WoR P k p j 6 v w e w' := by
  have hni := h.ni
  have hnc := h.nc
  have hnu := h.nu
  have hr0 := h.r0
  have hr1 := h.r1
  have HX := hide h
  have HV := hide hv
  have HFA := hide hfa
  have HUN := hide hun
  obtain ⟨a4, k4, rfl⟩ := h.a.u.val
  obtain ⟨a5, k5, rfl⟩ := h.a.c.val
  obtain ⟨a6, k6, rfl⟩ := h.a.i.val
  obtain ⟨a8, k8, rfl⟩ := hv.val
  obtain ⟨y0, y1, y2, y3, y4, y5, y6, y7, y8⟩ := h.r.cells
  clear h hv hfa hun
  by_cases hx : 0 ≤ v ∧ v ≤ (p.ni : Int) - 1
  · have hxI := inI_t hx
    obtain ⟨m, rfl⟩ : ∃ m : Nat, v = (m : Int) := ⟨v.toNat, by omega⟩
    have hm : m < p.ni := by omega
    go_enter Tryz.func119, Tryz.ntmps119
    go_wp2_with (first | (go_at_call 36; refine (within_any _ _ _ _).mono ?_; rintro e w' ⟨rfl, hw⟩; obtain rfl := hw.symm) | (go_at_call 133; refine (codeUnless_any _ _ _).mono ?_; rintro e w' ⟨rfl, hw⟩; obtain rfl := hw.symm))
    clear y0 y1 y2 y3 y4 y5 y6 y7 y8
    refine (canGo_any g p _ _ _ _ _ j m w hm HX.out).mono ?_
    rintro e w2 ⟨r, rfl, hr, hb2⟩
    have HB := hide hb2
    clear hb2
    rcases hr with ⟨rfl, hr⟩ | ⟨rfl, hr⟩
    · have HR := hide hr
      clear hr
      go_wp2_with (first | (go_at_call 36; refine (within_any _ _ _ _).mono ?_; rintro e w' ⟨rfl, hw⟩; obtain rfl := hw.symm) | (go_at_call 133; refine (codeUnless_any _ _ _).mono ?_; rintro e w' ⟨rfl, hw⟩; obtain rfl := hw.symm))
      go_ret
      exact wo_yes (wo6.2 ⟨by omega, by omega, by rw [Int.toNat_natCast]; exact HR.out⟩) HB.out
    · have HR := hide hr
      clear hr
      go_wp2_with (first | (go_at_call 36; refine (within_any _ _ _ _).mono ?_; rintro e w' ⟨rfl, hw⟩; obtain rfl := hw.symm) | (go_at_call 133; refine (codeUnless_any _ _ _).mono ?_; rintro e w' ⟨rfl, hw⟩; obtain rfl := hw.symm))
      go_ret
      exact wo_no (mt wo6.1 (fun q => HR.out (by have := q.2.2; rw [Int.toNat_natCast] at this; exact this))) rfl HB.out
  · have hxI := inI_f hx
    go_enter Tryz.func119, Tryz.ntmps119
    go_wp2_with (first | (go_at_call 36; refine (within_any _ _ _ _).mono ?_; rintro e w' ⟨rfl, hw⟩; obtain rfl := hw.symm) | (go_at_call 133; refine (codeUnless_any _ _ _).mono ?_; rintro e w' ⟨rfl, hw⟩; obtain rfl := hw.symm))
    go_ret
    exact wo_no (mt wo6.1 (fun q => by have h1 := q.1; have h2 := q.2.1; omega)) rfl (Below.refl _ _)
theorem without_any (g : Nat) (P : Nat → PV) (k : Nat) (p : PV) (s4 s5 s6 s7 va : Value) (j : Nat) (nm v : Int) (w : World) (hnm : 0 ≤ nm ∧ nm ≤ 6) (hk : k ≤ 1048576) (hj : j < p.ni) (hfa : allFit k P 1048576) (hun : upsNat k P) (hv : ProsA w va k P) (h : VX w g p s4 s5 s6 s7 va) :
    Calls Tryz.prog 119 #[.pointer (some ⟨g, 0, none⟩), .int .i64 j, .int .i64 nm, .int .i64 v] w fun e w' => WoR P k p j nm v w e w' := by
  have : nm = 0 ∨ nm = 1 ∨ nm = 2 ∨ nm = 3 ∨ nm = 4 ∨ nm = 5 ∨ nm = 6 := by omega
  rcases this with rfl | rfl | rfl | rfl | rfl | rfl | rfl
  · exact without0_any g P k p s4 s5 s6 s7 va j v w hk hj hfa hun hv h
  · exact without1_any g P k p s4 s5 s6 s7 va j v w hk hj hfa hun hv h
  · exact without2_any g P k p s4 s5 s6 s7 va j v w hk hj hfa hun hv h
  · exact without3_any g P k p s4 s5 s6 s7 va j v w hk hj hfa hun hv h
  · exact without4_any g P k p s4 s5 s6 s7 va j v w hk hj hfa hun hv h
  · exact without5_any g P k p s4 s5 s6 s7 va j v w hk hj hfa hun hv h
  · exact without6_any g P k p s4 s5 s6 s7 va j v w hk hj hfa hun hv h
end Go.Proofs.YtgnbhhgpaldheaaGreat
