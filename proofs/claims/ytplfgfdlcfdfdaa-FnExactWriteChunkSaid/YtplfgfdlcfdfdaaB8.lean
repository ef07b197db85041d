import Derived.Test.YtplfgfdlcfdfdaaB7
namespace Go.Proofs.Ytplfgfdlcfdfdaa
open Go Go.RowKit
set_option linter.unusedVariables false

def sl (g n : Nat) : Value := .slice (some ⟨g, 0, none⟩) n n

abbrev nilS : Value := .slice none 0 0

theorem PC.other {w : World} {g g' j : Nat} {p : PV} {s4 s5 s6 s7 x : Value} (h : PC w g p s4 s5 s6 s7) (hn : g ≠ g') : PC (w.setCell ⟨g', j, none⟩ x) g p s4 s5 s6 s7 := by
  obtain ⟨h, h0, h1, h2, h3, h4, h5, h6, h7⟩ := h
  have e : ∀ k, (w.setCell ⟨g', j, none⟩ x).cell? ⟨g, k, none⟩ = w.cell? ⟨g, k, none⟩ := fun k => World.cell?_setCell_other _ _ _ _ (fun e => hn (by injection e with e1; exact e1.symm))
  exact ⟨by simpa using h, (e 0).trans h0, (e 1).trans h1, (e 2).trans h2, (e 3).trans h3, (e 4).trans h4, (e 5).trans h5, (e 6).trans h6, (e 7).trans h7⟩

/-- While a function is copied: what came in, the result, and the copy so far. -/
structure TP (w wr : World) (p : PV) (s4 s5 s6 s7 : Value) (fo : Nat → Value) : Prop where
  pc : PC wr w.heap.size p s4 s5 s6 s7
  rz : ∃ fz, RowF wr 46 (w.heap.size + 1) 8 fz
  ro : RowF wr 46 (w.heap.size + 1 + 1) 8 fo
  be : Below w.heap.size w wr
theorem TP.call {w wr w2 : World} {p : PV} {s4 s5 s6 s7 : Value} {fo : Nat → Value} (h : TP w wr p s4 s5 s6 s7 fo) (hb : Below wr.heap.size wr w2) : TP w w2 p s4 s5 s6 s7 fo := by
  obtain ⟨h1, ⟨fz, h2⟩, h3, h4⟩ := h
  exact ⟨h1.low hb h1.1, ⟨fz, h2.low hb h2.lt⟩, h3.low hb h3.lt, h4.trans (hb.mono h4.size)⟩
theorem TP.put {w wr : World} {p : PV} {s4 s5 s6 s7 : Value} {fo : Nat → Value} (h : TP w wr p s4 s5 s6 s7 fo) {j : Nat} (hj : j < 8) (x : Value) : TP w (wr.setCell ⟨w.heap.size + 1 + 1, j, none⟩ x) p s4 s5 s6 s7 (fun i => if i = j then x else fo i) := by
  obtain ⟨h1, ⟨fz, h2⟩, h3, h4⟩ := h
  exact ⟨h1.other (by omega), ⟨fz, h2.other (by omega)⟩, h3.set hj x, h4.setCell (by show w.heap.size ≤ w.heap.size + 1 + 1; omega) _⟩
theorem TP.start (w : World) (p : PV) (s4 s5 s6 s7 : Value) (zs os : Array Value) (hz : zs.size = 8) (ho : os.size = 8) :
    TP w (((w.alloc (.cells #[.int .i64 p.params, .int .i64 p.regs, .int .i64 p.line, .bool p.dots, s4, s5, s6, s7] 66)).alloc (.cells zs 46)).alloc (.cells os 46)) p s4 s5 s6 s7 (fun j => os.getD j (.bool false)) := by
  have h1 := PC.mk w 66 p s4 s5 s6 s7
  have h3 := b_3 w (.cells #[.int .i64 p.params, .int .i64 p.regs, .int .i64 p.line, .bool p.dots, s4, s5, s6, s7] 66) (.cells zs 46) (.cells os 46)
  have e1 : (w.alloc (.cells #[.int .i64 p.params, .int .i64 p.regs, .int .i64 p.line, .bool p.dots, s4, s5, s6, s7] 66)).heap.size = w.heap.size + 1 := by simp
  generalize w.alloc (.cells #[.int .i64 p.params, .int .i64 p.regs, .int .i64 p.line, .bool p.dots, s4, s5, s6, s7] 66) = wa at *
  have z1 := RowF.mk' wa 46 zs
  have e2 : (wa.alloc (.cells zs 46)).heap.size = wa.heap.size + 1 := by simp
  have z2 := RowF.mk' (wa.alloc (.cells zs 46)) 46 os
  have z3 := z1.low (b_1 _ (.cells os 46)) z1.lt
  rw [e2, e1, ho] at z2
  rw [e1, hz] at z3
  exact ⟨h1.low (b_2 _ _ _) (by omega), ⟨_, z3⟩, z2, h3⟩

set_option maxHeartbeats 800000 in
set_option maxRecDepth 100000 in
theorem toProto_any (p : PV) (s4 s5 s6 s7 : Value) (w : World) (hf : p.fits 1048576) (h : PVA w p s4 s5 s6 s7) :
    Calls Try.prog 31 #[p.agg s4 s5 s6 s7] w fun e w' => ∃ g4 g5 g6 g7, e = .returned (p.agg (sl g4 p.nu) (sl g5 p.nc) (sl g6 p.ni) (sl g7 p.nl)) ∧ w.heap.size ≤ g4 ∧ g4 < g5 ∧ g5 < g6 ∧ g6 < g7 ∧ g7 < w'.heap.size ∧ PVO w' p g4 g5 g6 g7 ∧ Below w.heap.size w w' := by
  obtain ⟨hs1, hs2, hs3, hs4, -⟩ := hf
  have HA := hide h
  clear h
  have HT := hide (TP.start w p s4 s5 s6 s7 #[.int .i64 0, .int .i64 0, .int .i64 0, .bool false, nilS, nilS, nilS, nilS] #[.int .i64 p.params, .int .i64 p.regs, .int .i64 p.line, .bool p.dots, nilS, nilS, nilS, nilS] rfl rfl)
  unfold PV.agg
  go_enter Try.func31, Try.ntmps31
  go_wp2_with fail
  generalize ((w.alloc (.cells #[.int .i64 p.params, .int .i64 p.regs, .int .i64 p.line, .bool p.dots, s4, s5, s6, s7] 66)).alloc (.cells #[.int .i64 0, .int .i64 0, .int .i64 0, .bool false, nilS, nilS, nilS, nilS] 46)).alloc (.cells #[.int .i64 p.params, .int .i64 p.regs, .int .i64 p.line, .bool p.dots, nilS, nilS, nilS, nilS] 46) = w1 at HT ⊢
  refine (toUpS_any s4 p.nu p.u0 p.u1 w1 hs1 (HA.out.u.low HT.out.be (Nat.le_refl _))).mono ?_
  rintro e w2 ⟨rfl, hU, hb4⟩
  have hT := HT.out.call hb4
  have q4 : w.heap.size + 1 + 1 < w1.heap.size := HT.out.ro.lt
  have l4 := hU.lt
  have HU := hide (hU.other (g' := w.heap.size + 1 + 1) (j := 4) (x := .slice (some ⟨w1.heap.size, 0, none⟩) p.nu p.nu) (by omega))
  clear hU hb4 HT
  generalize w1.heap.size = g4 at *
  have d4 := hT.ro.cell (j := 4) (by omega)
  have z4 := hT.ro.frz 4
  have HT := hide (hT.put (j := 4) (by omega) (.slice (some ⟨g4, 0, none⟩) p.nu p.nu))
  clear hT
  have l4' : g4 < (w2.setCell ⟨w.heap.size + 1 + 1, 4, none⟩ (.slice (some ⟨g4, 0, none⟩) p.nu p.nu)).heap.size := by simpa using l4
  have e5 := HT.out.pc.2.2.2.2.2.2.1
  go_wp2_with fail
  clear d4 z4 e5 l4
  generalize w2.setCell ⟨w.heap.size + 1 + 1, 4, none⟩ (.slice (some ⟨g4, 0, none⟩) p.nu p.nu) = w3 at *
  refine (toConstS_any s5 p.nc p.c0 p.c1 p.c2 p.c3 w3 hs2 (HA.out.c.low HT.out.be (Nat.le_refl _))).mono ?_
  rintro e w4 ⟨rfl, hC, hb5⟩
  have hT := HT.out.call hb5
  have q5 : w.heap.size + 1 + 1 < w3.heap.size := HT.out.ro.lt
  have l5 := hC.lt
  have HU := hide ((HU.out.low hb5 HU.out.lt).other (g' := w.heap.size + 1 + 1) (j := 5) (x := .slice (some ⟨w3.heap.size, 0, none⟩) p.nc p.nc) (by omega))
  have HC := hide (hC.other (g' := w.heap.size + 1 + 1) (j := 5) (x := .slice (some ⟨w3.heap.size, 0, none⟩) p.nc p.nc) (by omega))
  clear hC hb5 HT
  generalize w3.heap.size = g5 at *
  have d5 := hT.ro.cell (j := 5) (by omega)
  have z5 := hT.ro.frz 5
  have HT := hide (hT.put (j := 5) (by omega) (.slice (some ⟨g5, 0, none⟩) p.nc p.nc))
  clear hT
  have l5' : g5 < (w4.setCell ⟨w.heap.size + 1 + 1, 5, none⟩ (.slice (some ⟨g5, 0, none⟩) p.nc p.nc)).heap.size := by simpa using l5
  have e6 := HT.out.pc.2.2.2.2.2.2.2.1
  go_wp2_with fail
  clear d5 z5 e6 l5
  generalize w4.setCell ⟨w.heap.size + 1 + 1, 5, none⟩ (.slice (some ⟨g5, 0, none⟩) p.nc p.nc) = w5 at *
  refine (toInstrS_any s6 p.ni p.i0 p.i1 p.i2 p.i3 w5 hs3 (HA.out.i.low HT.out.be (Nat.le_refl _))).mono ?_
  rintro e w6 ⟨rfl, hI, hb6⟩
  have hT := HT.out.call hb6
  have q6 : w.heap.size + 1 + 1 < w5.heap.size := HT.out.ro.lt
  have l6 := hI.lt
  have HU := hide ((HU.out.low hb6 HU.out.lt).other (g' := w.heap.size + 1 + 1) (j := 6) (x := .slice (some ⟨w5.heap.size, 0, none⟩) p.ni p.ni) (by omega))
  have HC := hide ((HC.out.low hb6 HC.out.lt).other (g' := w.heap.size + 1 + 1) (j := 6) (x := .slice (some ⟨w5.heap.size, 0, none⟩) p.ni p.ni) (by omega))
  have HI := hide (hI.other (g' := w.heap.size + 1 + 1) (j := 6) (x := .slice (some ⟨w5.heap.size, 0, none⟩) p.ni p.ni) (by omega))
  clear hI hb6 HT
  generalize w5.heap.size = g6 at *
  have d6 := hT.ro.cell (j := 6) (by omega)
  have z6 := hT.ro.frz 6
  have HT := hide (hT.put (j := 6) (by omega) (.slice (some ⟨g6, 0, none⟩) p.ni p.ni))
  clear hT
  have l6' : g6 < (w6.setCell ⟨w.heap.size + 1 + 1, 6, none⟩ (.slice (some ⟨g6, 0, none⟩) p.ni p.ni)).heap.size := by simpa using l6
  have e7 := HT.out.pc.2.2.2.2.2.2.2.2
  go_wp2_with fail
  clear d6 z6 e7 l6
  generalize w6.setCell ⟨w.heap.size + 1 + 1, 6, none⟩ (.slice (some ⟨g6, 0, none⟩) p.ni p.ni) = w7 at *
  refine (toIntS_any s7 p.nl p.l0 w7 hs4 (HA.out.l.low HT.out.be (Nat.le_refl _))).mono ?_
  rintro e w8 ⟨rfl, hL, hb7⟩
  have hT := HT.out.call hb7
  have q7 : w.heap.size + 1 + 1 < w7.heap.size := HT.out.ro.lt
  have l7 := hL.lt
  have HU := hide ((HU.out.low hb7 HU.out.lt).other (g' := w.heap.size + 1 + 1) (j := 7) (x := .slice (some ⟨w7.heap.size, 0, none⟩) p.nl p.nl) (by omega))
  have HC := hide ((HC.out.low hb7 HC.out.lt).other (g' := w.heap.size + 1 + 1) (j := 7) (x := .slice (some ⟨w7.heap.size, 0, none⟩) p.nl p.nl) (by omega))
  have HI := hide ((HI.out.low hb7 HI.out.lt).other (g' := w.heap.size + 1 + 1) (j := 7) (x := .slice (some ⟨w7.heap.size, 0, none⟩) p.nl p.nl) (by omega))
  have HL := hide (hL.other (g' := w.heap.size + 1 + 1) (j := 7) (x := .slice (some ⟨w7.heap.size, 0, none⟩) p.nl p.nl) (by omega))
  clear hL hb7 HT
  generalize w7.heap.size = g7 at *
  have d7 := hT.ro.cell (j := 7) (by omega)
  have z7 := hT.ro.frz 7
  have HT := hide (hT.put (j := 7) (by omega) (.slice (some ⟨g7, 0, none⟩) p.nl p.nl))
  clear hT
  have l7' : g7 < (w8.setCell ⟨w.heap.size + 1 + 1, 7, none⟩ (.slice (some ⟨g7, 0, none⟩) p.nl p.nl)).heap.size := by simpa using l7
  obtain ⟨fz, hz⟩ := HT.out.rz
  have ho := HT.out.ro
  have y0 := ho.cell (j := 0) (by omega)
  have x0 := hz.cell (j := 0) (by omega)
  have t0 := hz.frz 0
  have y1 := ho.cell (j := 1) (by omega)
  have x1 := hz.cell (j := 1) (by omega)
  have t1 := hz.frz 1
  have y2 := ho.cell (j := 2) (by omega)
  have x2 := hz.cell (j := 2) (by omega)
  have t2 := hz.frz 2
  have y3 := ho.cell (j := 3) (by omega)
  have x3 := hz.cell (j := 3) (by omega)
  have t3 := hz.frz 3
  have y4 := ho.cell (j := 4) (by omega)
  have x4 := hz.cell (j := 4) (by omega)
  have t4 := hz.frz 4
  have y5 := ho.cell (j := 5) (by omega)
  have x5 := hz.cell (j := 5) (by omega)
  have t5 := hz.frz 5
  have y6 := ho.cell (j := 6) (by omega)
  have x6 := hz.cell (j := 6) (by omega)
  have t6 := hz.frz 6
  have y7 := ho.cell (j := 7) (by omega)
  have x7 := hz.cell (j := 7) (by omega)
  have t7 := hz.frz 7
  simp only [Nat.reduceEqDiff, if_true, if_false] at y0 y1 y2 y3 y4 y5 y6 y7
  clear l7 hz ho
  go_wp2
  clear d7 z7 y0 y1 y2 y3 y4 y5 y6 y7
  generalize w8.setCell ⟨w.heap.size + 1 + 1, 7, none⟩ (.slice (some ⟨g7, 0, none⟩) p.nl p.nl) = w9 at *
  have n4 : g4 ≠ w.heap.size + 1 := by omega
  have n5 : g5 ≠ w.heap.size + 1 := by omega
  have n6 : g6 ≠ w.heap.size + 1 := by omega
  have n7 : g7 ≠ w.heap.size + 1 := by omega
  have nb : w.heap.size ≤ w.heap.size + 1 := by omega
  refine bodyPost_ret (v := .agg #[.int .i64 p.params, .int .i64 p.regs, .int .i64 p.line, .bool p.dots, .slice (some ⟨g4, 0, none⟩) p.nu p.nu, .slice (some ⟨g5, 0, none⟩) p.nc p.nc, .slice (some ⟨g6, 0, none⟩) p.ni p.ni, .slice (some ⟨g7, 0, none⟩) p.nl p.nl]) ?_ rfl
    ⟨g4, g5, g6, g7, rfl, by omega, by omega, by omega, by omega, by simpa using l7', ⟨(((((((HU.out.other n4).other n4).other n4).other n4).other n4).other n4).other n4).other n4, (((((((HC.out.other n5).other n5).other n5).other n5).other n5).other n5).other n5).other n5, (((((((HI.out.other n6).other n6).other n6).other n6).other n6).other n6).other n6).other n6, (((((((HL.out.other n7).other n7).other n7).other n7).other n7).other n7).other n7).other n7⟩, (((((((HT.out.be.setCell nb _).setCell nb _).setCell nb _).setCell nb _).setCell nb _).setCell nb _).setCell nb _).setCell nb _⟩
  simp [results, Try.results31, go_sem, x0, x1, x2, x3, x4, x5, x6, x7]

end Go.Proofs.Ytplfgfdlcfdfdaa
