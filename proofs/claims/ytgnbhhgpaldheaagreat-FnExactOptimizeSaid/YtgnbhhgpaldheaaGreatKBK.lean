import Derived.Test.YtgnbhhgpaldheaaGreatKBJ
namespace Go.Proofs.YtgnbhhgpaldheaaGreat
open Go Go.RowKit
set_option linter.unusedVariables false
def mkP (p : PV) (j : Nat) : Prop := makesI (p.i0 j) (p.i1 j) (p.i2 j) (p.i3 j)
def tkP (p : PV) (j : Nat) : Int := takesI (p.i0 j) (p.i1 j) (p.i2 j) (p.i3 j)
def openI (p : PV) (j : Nat) : Prop := (mkP p j → j + 1 < p.ni ∧ 0 ≤ tkP p (j + 1) ∧ tkP p (j + 1) ≤ p.i1 j) ∧ (tkP p j < 0 ∨ (0 < j ∧ mkP p (j - 1)))
def jumpsI (o : Int) : Prop := o = 25 ∨ o = 26 ∨ o = 27 ∨ o = 35 ∨ o = 36 ∨ o = 38
def jumpI (p : PV) (j : Nat) : Prop := jumpsI (p.i0 j) → 0 ≤ p.i2 j ∧ p.i2 j < p.ni ∧ tkP p (p.i2 j).toNat < 0 ∧ ((j : Int) < p.i2 j ∨ p.i0 (p.i2 j).toNat = 1)
def byteA (p : PV) : Prop := ∀ j, j < p.ni → 0 ≤ p.i1 j ∧ p.i1 j ≤ 255
structure XI (w : World) (g : Nat) (v : Value) (k : Nat) (p : PV) (s4 s5 s6 s7 : Value) (j : Nat) : Prop where
  x : RowF w 73 g 10 (fun q => (#[v, .int .i64 k, .int .i64 p.params, .int .i64 p.regs, .int .i64 p.line, .bool p.dots, s4, s5, s6, s7] : Array Value).getD q (.bool false))
  i : RowF w 51 (g + 1) 4 (fun q => (#[.int .i64 (p.i0 j), .int .i64 (p.i1 j), .int .i64 (p.i2 j), .int .i64 (p.i3 j)] : Array Value).getD q (.bool false))
theorem XI.low {w w' : World} {g k j : Nat} {v : Value} {p : PV} {s4 s5 s6 s7 : Value} (h : XI w g v k p s4 s5 s6 s7 j) (hb : Below w.heap.size w w') : XI w' g v k p s4 s5 s6 s7 j :=
  ⟨h.x.low hb h.x.lt, h.i.low hb h.i.lt⟩
theorem XI.mk' (w : World) (v : Value) (k : Nat) (p : PV) (s4 s5 s6 s7 : Value) (j : Nat) : XI ((w.alloc (.cells #[v, .int .i64 k, .int .i64 p.params, .int .i64 p.regs, .int .i64 p.line, .bool p.dots, s4, s5, s6, s7] 73)).alloc (.cells #[.int .i64 (p.i0 j), .int .i64 (p.i1 j), .int .i64 (p.i2 j), .int .i64 (p.i3 j)] 51)) w.heap.size v k p s4 s5 s6 s7 j := by
  have h1 := RowF.mk' w 73 #[v, .int .i64 k, .int .i64 p.params, .int .i64 p.regs, .int .i64 p.line, .bool p.dots, s4, s5, s6, s7]
  have h2 := RowF.mk' (w.alloc (.cells #[v, .int .i64 k, .int .i64 p.params, .int .i64 p.regs, .int .i64 p.line, .bool p.dots, s4, s5, s6, s7] 73)) 51 #[.int .i64 (p.i0 j), .int .i64 (p.i1 j), .int .i64 (p.i2 j), .int .i64 (p.i3 j)]
  have e : (w.alloc (.cells #[v, .int .i64 k, .int .i64 p.params, .int .i64 p.regs, .int .i64 p.line, .bool p.dots, s4, s5, s6, s7] 73)).heap.size = w.heap.size + 1 := by simp
  rw [e] at h2
  exact ⟨h1.low (b_1 _ _) h1.lt, h2⟩
theorem ins_at {w : World} {v : Value} {n : Nat} {x0 x1 x2 x3 : Nat → Int} (h : InsA w v n x0 x1 x2 x3) {j : Nat} (hj : j < n) : ∃ b o cap, v = .slice (some ⟨b, o, none⟩) n cap ∧ b < w.heap.size ∧
    w.cell? ⟨b, o + j * 4, none⟩ = some (.int .i64 (x0 j)) ∧ w.cell? ⟨b, o + j * 4 + 1, none⟩ = some (.int .i64 (x1 j)) ∧ w.cell? ⟨b, o + j * 4 + 2, none⟩ = some (.int .i64 (x2 j)) ∧ w.cell? ⟨b, o + j * 4 + 3, none⟩ = some (.int .i64 (x3 j)) := by
  rcases h with ⟨h9, _⟩ | ⟨b, o, cap, e, hb, hcap, hc⟩
  · omega
  · exact ⟨b, o, cap, e, hb, hc j hj⟩
theorem jump_iff {p : PV} {j m : Nat} (hm : p.i2 j = (m : Int)) (hm2 : m < p.ni) (hJ : jumpsI (p.i0 j)) : jumpI p j ↔ takesI (p.i0 m) (p.i1 m) (p.i2 m) (p.i3 m) < 0 ∧ ((j : Int) < (m : Int) ∨ p.i0 m = 1) := by
  unfold jumpI tkP
  rw [hm]
  constructor
  · intro h
    obtain ⟨_, _, h3, h4⟩ := h hJ
    exact ⟨h3, h4⟩
  · rintro ⟨h3, h4⟩ _
    exact ⟨by omega, by omega, h3, h4⟩
set_option maxHeartbeats 1600000 in
set_option maxRecDepth 100000 in
theorem jump_any (v : Value) (k : Nat) (p : PV) (s4 s5 s6 s7 : Value) (j : Nat) (w : World) (hj : j < p.ni) (hni : p.ni ≤ 1048576) (hby : byteA p) (h : InsA w s6 p.ni p.i0 p.i1 p.i2 p.i3) :
    Calls Tryz.prog 72 #[XV v k p s4 s5 s6 s7, .int .i64 j] w fun e w' => RetB (jumpI p j) w e w' := by
  have HA := hide h
  obtain ⟨b, o, cap, rfl, hb, c0, c1, c2, c3⟩ := ins_at h hj
  clear h
  have hB := b_1 w (.cells #[v, .int .i64 k, .int .i64 p.params, .int .i64 p.regs, .int .i64 p.line, .bool p.dots, s4, s5, .slice (some ⟨b, o, none⟩) p.ni cap, s7] 73)
  have d0 := (hB.cell (p := ⟨b, o + j * 4, none⟩) hb).trans c0
  have d1 := (hB.cell (p := ⟨b, o + j * 4 + 1, none⟩) hb).trans c1
  have d2 := (hB.cell (p := ⟨b, o + j * 4 + 2, none⟩) hb).trans c2
  have d3 := (hB.cell (p := ⟨b, o + j * 4 + 3, none⟩) hb).trans c3
  clear c0 c1 c2 c3 hB
  have HX := hide (XI.mk' w v k p s4 s5 (.slice (some ⟨b, o, none⟩) p.ni cap) s7 j)
  have HB := hide (b_2 w (.cells #[v, .int .i64 k, .int .i64 p.params, .int .i64 p.regs, .int .i64 p.line, .bool p.dots, s4, s5, .slice (some ⟨b, o, none⟩) p.ni cap, s7] 73) (.cells #[.int .i64 (p.i0 j), .int .i64 (p.i1 j), .int .i64 (p.i2 j), .int .i64 (p.i3 j)] 51))
  unfold XV
  by_cases hbr : 0 ≤ p.i2 j ∧ p.i2 j < p.ni
  · obtain ⟨m, hm⟩ := Int.eq_ofNat_of_zero_le hbr.1
    have hm2 : m < p.ni := by omega
    obtain ⟨b', o', cap', e', hb', e0, e1, e2, e3⟩ := ins_at HA.out hm2
    cases e'
    rw [hm] at d2 HX HB
    have f0 := (HB.out.cell (p := ⟨b, o + m * 4, none⟩) hb).trans e0
    have f1 := (HB.out.cell (p := ⟨b, o + m * 4 + 1, none⟩) hb).trans e1
    have f2 := (HB.out.cell (p := ⟨b, o + m * 4 + 2, none⟩) hb).trans e2
    have f3 := (HB.out.cell (p := ⟨b, o + m * 4 + 3, none⟩) hb).trans e3
    clear e0 e1 e2 e3
    have HBy := hide (hby m hm2)
    have HM := hide hm
    clear hm
    go_enter Tryz.func72, Tryz.ntmps72
    go_wp2_with fail
    all_goals first
      | (go_ret; refine ⟨_, rfl, boolR_iff ?_, HB.out⟩; clear HX HB HA d0 d1 d2 d3 f0 f1 f2 f3 hby HBy HM; simp_all [jumpI, jumpsI]; done)
      | (refine (takes_any (p.i0 m) (p.i1 m) (p.i2 m) (p.i3 m) _ HBy.out.1 HBy.out.2).mono ?_
         rintro e w2 ⟨rfl, hb2⟩
         have HJ : Hid (jumpsI (p.i0 j)) := hide (by clear HX HB HA d0 d1 d2 d3 f0 f1 f2 f3 hby HBy HM hb2; simp_all [jumpsI])
         have hx := HX.out.low hb2
         have y8 : w2.cell? ⟨w.heap.size, 8, none⟩ = some (.slice (some ⟨b, o, none⟩) p.ni cap) := hx.x.cell (j := 8) (by omega)
         have y2 : w2.cell? ⟨w.heap.size + 1, 2, none⟩ = some (.int .i64 m) := (hx.i.cell (j := 2) (by omega)).trans (by rw [← HM.out]; rfl)
         have g0 := (hb2.cell (p := ⟨b, o + m * 4, none⟩) (Nat.lt_of_lt_of_le hb HB.out.size)).trans f0
         have HB2 := hide (HB.out.trans (hb2.mono HB.out.size))
         clear hx hb2 d0 d1 d2 d3 f0 f1 f2 f3 HX HB HA hby HBy
         have HI := hide (jump_iff HM.out hm2 HJ.out)
         generalize takesI (p.i0 m) (p.i1 m) (p.i2 m) (p.i3 m) = T at *
         go_wp2
         all_goals go_ret
         all_goals refine ⟨_, rfl, boolR_iff (HI.out.trans ?_), HB2.out⟩
         all_goals clear HI HB2 HM HJ y8 y2 g0
         all_goals simp_all
         all_goals omega)
  · go_enter Tryz.func72, Tryz.ntmps72
    go_wp2_with fail
    all_goals first
      | (go_ret; refine ⟨_, rfl, boolR_iff ?_, HB.out⟩; clear HX HB HA d0 d1 d2 d3 hby; simp_all [jumpI, jumpsI]; done)
      | (go_ret; refine ⟨_, rfl, boolR_iff ?_, HB.out⟩; clear HX HB HA d0 d1 d2 d3 hby; simp_all [jumpI, jumpsI]; omega)
      | (exfalso; omega)
end Go.Proofs.YtgnbhhgpaldheaaGreat
