import Derived.Test.YtkfbkglkcfaeeaaV7
namespace Go.Proofs.Ytkfbkglkcfaeeaa
open Go Go.RowKit
set_option linter.unusedVariables false

theorem woC_le (nm : Int) : woC nm = 0 ∨ woC nm = 3 ∨ woC nm = 4 ∨ woC nm = 5 ∨ woC nm = 6 ∨ woC nm = 7 := by
  unfold woC
  repeat (first | (split; simp) | simp)

theorem mis_ok {P : Nat → PV} {k : Nat} {p : PV} {j : Nat} (hk : knownI (p.i0 j)) (h : FoldR (fun q => woQ P k p j (opN (nmA (p.i0 j)) (nmB (p.i0 j)) (nmC (p.i0 j)) q) (opV p j (nmY (p.i0 j)) q)) (fun q => woC (opN (nmA (p.i0 j)) (nmB (p.i0 j)) (nmC (p.i0 j)) q)) 4 0) :
    regsAll p (regsL (p.i0 j) (p.i1 j) (p.i2 j) (p.i3 j)) ∧ constsI p (p.i0 j) (p.i1 j) (p.i2 j) (p.i3 j) ∧ upOk p j ∧ protoOk P k p j ∧ jumpI p j := by
  obtain ⟨h3, h4, h5, h6, h7⟩ := five_any (P := P) (k := k) hk
  rcases h with ⟨_, h⟩ | ⟨h, _⟩
  · exact ⟨h3.2 fun q hq _ => h q hq, h4.2 fun q hq _ => h q hq, h5.2 fun q hq _ => h q hq, h6.2 fun q hq _ => h q hq, h7.2 fun q hq _ => h q hq⟩
  · omega

theorem mis_bad {P : Nat → PV} {k : Nat} {p : PV} {j : Nat} {r : Int} (hk : knownI (p.i0 j)) (hr : ¬ r = 0) (h : FoldR (fun q => woQ P k p j (opN (nmA (p.i0 j)) (nmB (p.i0 j)) (nmC (p.i0 j)) q) (opV p j (nmY (p.i0 j)) q)) (fun q => woC (opN (nmA (p.i0 j)) (nmB (p.i0 j)) (nmC (p.i0 j)) q)) 4 r) :
    FB (asks P k p j) r := by
  obtain ⟨h3, h4, h5, h6, h7⟩ := five_any (P := P) (k := k) hk
  rcases h with ⟨h, _⟩ | ⟨hpos, ⟨q, hq, hn, hrq⟩, hle⟩
  · exact absurd h hr
  · have hlow : ∀ n, n < r → ThereC P k p j n := fun n hn' q' hq' e => by
      by_cases hh : woQ P k p j (opN (nmA (p.i0 j)) (nmB (p.i0 j)) (nmC (p.i0 j)) q') (opV p j (nmY (p.i0 j)) q')
      · exact hh
      · have := hle q' hq' hh
        have e' : woC (opN (nmA (p.i0 j)) (nmB (p.i0 j)) (nmC (p.i0 j)) q') = n := e
        simp only at this
        omega
    have hno : ¬ ThereC P k p j r := fun ht => hn (ht q hq hrq.symm)
    have hcases := woC_le (opN (nmA (p.i0 j)) (nmB (p.i0 j)) (nmC (p.i0 j)) q)
    simp only at hrq
    rw [← hrq] at hcases
    rcases hcases with rfl | rfl | rfl | rfl | rfl | rfl
    · omega
    · exact .inl ⟨hk, .inr ⟨mt h3.1 hno, rfl⟩⟩
    · exact .inl ⟨hk, .inl ⟨h3.2 (hlow 3 (by omega)), .inr ⟨mt h4.1 hno, rfl⟩⟩⟩
    · exact .inl ⟨hk, .inl ⟨h3.2 (hlow 3 (by omega)), .inl ⟨h4.2 (hlow 4 (by omega)), .inr ⟨mt h5.1 hno, rfl⟩⟩⟩⟩
    · exact .inl ⟨hk, .inl ⟨h3.2 (hlow 3 (by omega)), .inl ⟨h4.2 (hlow 4 (by omega)), .inl ⟨h5.2 (hlow 5 (by omega)), .inr ⟨mt h6.1 hno, rfl⟩⟩⟩⟩⟩
    · exact .inl ⟨hk, .inl ⟨h3.2 (hlow 3 (by omega)), .inl ⟨h4.2 (hlow 4 (by omega)), .inl ⟨h5.2 (hlow 5 (by omega)), .inl ⟨h6.2 (hlow 6 (by omega)), .inr ⟨mt h7.1 hno, rfl⟩⟩⟩⟩⟩⟩

theorem nm_rng (o : Int) : (0 ≤ nmA o ∧ nmA o ≤ 6) ∧ (0 ≤ nmB o ∧ nmB o ≤ 6) ∧ (0 ≤ nmC o ∧ nmC o ≤ 6) ∧ (0 ≤ nmY o ∧ nmY o ≤ 5) := by
  refine ⟨?_, ?_, ?_, ?_⟩
  · unfold nmA; split <;> omega
  · unfold nmB; repeat (first | (split; omega) | omega)
  · unfold nmC; repeat (first | (split; omega) | omega)
  · unfold nmY; repeat (first | (split; omega) | omega)

/-- Behind the things that are named: what is asked last. -/
theorem fb_last {P : Nat → PV} {k : Nat} {p : PV} {j : Nat} {r : Int} (hk : knownI (p.i0 j)) (h : regsAll p (regsL (p.i0 j) (p.i1 j) (p.i2 j) (p.i3 j)) ∧ constsI p (p.i0 j) (p.i1 j) (p.i2 j) (p.i3 j) ∧ upOk p j ∧ protoOk P k p j ∧ jumpI p j)
    (h2 : FB [(openI p j, 8), (endOk p j, 9), (dotsOk p j, 10), (countsI p (p.i0 j) (p.i1 j) (p.i2 j) (p.i3 j), 11)] r) : FB (asks P k p j) r :=
  .inl ⟨hk, .inl ⟨h.1, .inl ⟨h.2.1, .inl ⟨h.2.2.1, .inl ⟨h.2.2.2.1, .inl ⟨h.2.2.2.2, h2⟩⟩⟩⟩⟩⟩

set_option maxHeartbeats 3200000 in
set_option maxRecDepth 100000 in
theorem look_any (g : Nat) (P : Nat → PV) (k : Nat) (p : PV) (s4 s5 s6 s7 va : Value) (j : Nat) (w : World) (hk : k ≤ 1048576) (hj : j < p.ni) (hfa : allFit k P 1048576) (hun : upsNat k P) (hv : ProsA w va k P) (h : VX w g p s4 s5 s6 s7 va) :
    Calls Try.prog 41 #[.pointer (some ⟨g, 0, none⟩), .int .i64 j] w fun e w' => RetC (asks P k p j) w e w' := by
  have hni := h.ni
  have hby := h.by' j hj
  have HFA := hide hfa
  have HUN := hide hun
  obtain ⟨b, o, cap, rfl, hb, c0, c1, c2, c3⟩ := ins_at h.a.i hj
  obtain ⟨y0, y1, y2, y3, y4, y5, y6, y7, y8⟩ := h.r.cells
  have HB := hide (b_1 w (.cells #[.int .i64 (p.i0 j), .int .i64 (p.i1 j), .int .i64 (p.i2 j), .int .i64 (p.i3 j)] 92))
  have HI := hide (RowF.mk' w 92 #[.int .i64 (p.i0 j), .int .i64 (p.i1 j), .int .i64 (p.i2 j), .int .i64 (p.i3 j)])
  have HX := hide (h.low HB.out)
  have HV := hide (hv.low HB.out (Nat.le_refl _))
  clear h hv hfa hun
  go_enter Try.func41, Try.ntmps41
  go_wp2_with fail
  clear y0 y1 y2 y3 y4 y5 y6 y7 y8 c0 c1 c2 c3
  generalize w.alloc (.cells #[.int .i64 (p.i0 j), .int .i64 (p.i1 j), .int .i64 (p.i2 j), .int .i64 (p.i3 j)] 92) = w1 at HB HX HV HI ⊢
  generalize w.heap.size = gi at HI ⊢
  refine (namesOf_any (p.i0 j) w1).mono ?_
  rintro e w2 ⟨hn, hb2⟩
  rcases hn with ⟨hkn, rfl⟩ | ⟨hkn, na, nb, nc, nd, rfl⟩
  case inr =>
    have HK := hide hkn
    have HB2 := hide (HB.out.trans (hb2.mono HB.out.size))
    clear hkn hb2
    go_wp2_with fail
    go_ret
    exact ⟨_, rfl, .inr ⟨HK.out, rfl⟩, HB2.out.alloc HB2.out.size _⟩
  have HKn := hide hkn
  have HB2 := hide (HB.out.trans (hb2.mono HB.out.size))
  have HX2 := hide (HX.out.low hb2)
  have HV2 := hide (HV.out.low hb2 (Nat.le_refl _))
  have HI2 := hide (HI.out.low hb2 HI.out.lt)
  clear hkn hb2 HB HX HV HI
  unfold nmV
  have hrg := nm_rng (p.i0 j)
  have HRg := hide hrg
  clear hrg
  have hb3 := b_1 w2 (.cells #[.int .i64 (nmA (p.i0 j)), .int .i64 (nmB (p.i0 j)), .int .i64 (nmC (p.i0 j)), .int .i64 (nmY (p.i0 j))] 112)
  have HB3 := hide (HB2.out.trans (hb3.mono HB2.out.size))
  have HX3 := hide (HX2.out.low hb3)
  have HV3 := hide (HV2.out.low hb3 (Nat.le_refl _))
  have HI3 := hide (HI2.out.low hb3 HI2.out.lt)
  clear hb3 HB2 HX2 HV2 HI2
  go_wp2_with fail
  generalize w2.alloc (.cells #[.int .i64 (nmA (p.i0 j)), .int .i64 (nmB (p.i0 j)), .int .i64 (nmC (p.i0 j)), .int .i64 (nmY (p.i0 j))] 112) = w3 at HB3 HX3 HV3 HI3 ⊢
  refine (missing_any g P k p _ _ _ _ _ j _ _ _ _ w3 HRg.out.1 HRg.out.2.1 HRg.out.2.2.1 HRg.out.2.2.2 hk hj HFA.out HUN.out HV3.out HX3.out).mono ?_
  rintro e w4 ⟨r, rfl, hr, hb4⟩
  have HB4 := hide (HB3.out.trans (hb4.mono HB3.out.size))
  have HX4 := hide (HX3.out.low hb4)
  have HI4 := hide (HI3.out.low hb4 HI3.out.lt)
  clear hb4 HB3 HX3 HI3
  by_cases hr0 : r = 0
  case neg =>
    have hr1 : (r != 0) = true := by simpa using hr0
    have HR := hide hr
    clear hr
    go_wp2
    go_ret
    exact ⟨_, rfl, mis_bad HKn.out hr0 HR.out, HB4.out⟩
  subst hr0
  have HOk := hide (mis_ok HKn.out hr)
  clear hr
  go_wp2_with fail
  refine (handsOn_any g p _ _ _ _ _ j w4 hj HX4.out).mono ?_
  rintro e w5 ⟨r, rfl, hr, hb5⟩
  have HB5 := hide (HB4.out.trans (hb5.mono HB4.out.size))
  have HX5 := hide (HX4.out.low hb5)
  have HI5 := hide (HI4.out.low hb5 HI4.out.lt)
  clear hb5 HB4 HX4 HI4
  rcases hr with ⟨rfl, hr⟩ | ⟨rfl, hr⟩
  case inr =>
    have HR := hide hr
    clear hr
    go_wp2
    go_ret
    exact ⟨_, rfl, fb_last HKn.out HOk.out (.inr ⟨fun q => HR.out q.1, rfl⟩), HB5.out⟩
  have HO1 := hide hr
  clear hr
  go_wp2_with fail
  refine (isHanded_any g p _ _ _ _ _ j w5 hj HX5.out).mono ?_
  rintro e w6 ⟨r, rfl, hr, hb6⟩
  have HB6 := hide (HB5.out.trans (hb6.mono HB5.out.size))
  have HX6 := hide (HX5.out.low hb6)
  have HI6 := hide (HI5.out.low hb6 HI5.out.lt)
  clear hb6 HB5 HX5 HI5
  rcases hr with ⟨rfl, hr⟩ | ⟨rfl, hr⟩
  case inr =>
    have HR := hide hr
    clear hr
    go_wp2
    go_ret
    exact ⟨_, rfl, fb_last HKn.out HOk.out (.inr ⟨fun q => HR.out q.2, rfl⟩), HB6.out⟩
  have HO2 := hide hr
  clear hr
  obtain ⟨y0, y1, y2, y3, y4, y5, y6, y7, y8⟩ := HX6.out.r.cells
  have t0 : w6.cell? ⟨gi, 0, none⟩ = some (.int .i64 (p.i0 j)) := HI6.out.cell (j := 0) (by simp)
  have t1 : w6.cell? ⟨gi, 1, none⟩ = some (.int .i64 (p.i1 j)) := HI6.out.cell (j := 1) (by simp)
  have t2 : w6.cell? ⟨gi, 2, none⟩ = some (.int .i64 (p.i2 j)) := HI6.out.cell (j := 2) (by simp)
  have t3 : w6.cell? ⟨gi, 3, none⟩ = some (.int .i64 (p.i3 j)) := HI6.out.cell (j := 3) (by simp)
  by_cases hend : j + 1 = p.ni
  · have he1 : ((j : Int) == (p.ni : Int) - 1) = true := by simp; omega
    have HEnd := hide hend
    clear hend
    go_wp2_with fail
    clear y0 y1 y2 y3 y4 y5 y6 y7 y8 t0 t1 t2 t3
    refine (goesAway_any (p.i0 j) w6).mono ?_
    rintro e w7 ⟨r, rfl, hr, hb7⟩
    have HB7 := hide (HB6.out.trans (hb7.mono HB6.out.size))
    have HX7 := hide (HX6.out.low hb7)
    have HI7 := hide (HI6.out.low hb7 HI6.out.lt)
    clear hb7 HB6 HX6 HI6
    rcases hr with ⟨rfl, hr⟩ | ⟨rfl, hr⟩
    case inr =>
      have HR := hide hr
      clear hr
      go_wp2
      go_ret
      exact ⟨_, rfl, fb_last HKn.out HOk.out (.inl ⟨⟨HO1.out, HO2.out⟩, .inr ⟨fun q => HR.out (q HEnd.out), rfl⟩⟩), HB7.out⟩
    have HG := hide hr
    clear hr
    obtain ⟨y0, y1, y2, y3, y4, y5, y6, y7, y8⟩ := HX7.out.r.cells
    have t0 : w7.cell? ⟨gi, 0, none⟩ = some (.int .i64 (p.i0 j)) := HI7.out.cell (j := 0) (by simp)
    have t1 : w7.cell? ⟨gi, 1, none⟩ = some (.int .i64 (p.i1 j)) := HI7.out.cell (j := 1) (by simp)
    have t2 : w7.cell? ⟨gi, 2, none⟩ = some (.int .i64 (p.i2 j)) := HI7.out.cell (j := 2) (by simp)
    have t3 : w7.cell? ⟨gi, 3, none⟩ = some (.int .i64 (p.i3 j)) := HI7.out.cell (j := 3) (by simp)
    have hDots : ((p.i0 j == 31) = true ∧ p.dots = false ∧ ¬ dotsOk p j) ∨ ((p.i0 j == 31) = true ∧ p.dots = true ∧ dotsOk p j) ∨ ((p.i0 j == 31) = false ∧ dotsOk p j) := by
      by_cases e : p.i0 j = 31
      · rcases d : p.dots with _ | _
        · exact .inl ⟨by simpa using e, rfl, fun q => by have := q e; rw [d] at this; cases this⟩
        · exact .inr (.inl ⟨by simpa using e, rfl, fun _ => d⟩)
      · exact .inr (.inr ⟨by simpa using e, fun q => absurd q e⟩)
    rcases hDots with ⟨d1, d2, d3⟩ | ⟨d1, d2, d3⟩ | ⟨d1, d3⟩
    · have HD := hide d3
      clear d3
      go_wp2
      go_ret
      exact ⟨_, rfl, fb_last HKn.out HOk.out (.inl ⟨⟨HO1.out, HO2.out⟩, .inl ⟨(fun _ => HG.out), .inr ⟨HD.out, rfl⟩⟩⟩), HB7.out⟩
    · have HD := hide d3
      clear d3
      go_wp2_with fail
      clear y0 y1 y2 y3 y4 y5 y6 y7 y8 t0 t1 t2 t3
      refine (countsWell_any g p _ _ _ _ _ (p.i0 j) (p.i1 j) (p.i2 j) (p.i3 j) w7 hby.1 hby.2 HX7.out).mono ?_
      rintro e w9 ⟨r, rfl, hr, hb9⟩
      have HB9 := hide (HB7.out.trans (hb9.mono HB7.out.size))
      clear hb9
      rcases hr with ⟨rfl, hr⟩ | ⟨rfl, hr⟩
      · have HR := hide hr
        clear hr
        go_wp2
        go_ret
        exact ⟨_, rfl, fb_last HKn.out HOk.out (.inl ⟨⟨HO1.out, HO2.out⟩, .inl ⟨(fun _ => HG.out), .inl ⟨HD.out, .inl ⟨HR.out, rfl⟩⟩⟩⟩), HB9.out⟩
      · have HR := hide hr
        clear hr
        go_wp2
        go_ret
        exact ⟨_, rfl, fb_last HKn.out HOk.out (.inl ⟨⟨HO1.out, HO2.out⟩, .inl ⟨(fun _ => HG.out), .inl ⟨HD.out, .inr ⟨HR.out, rfl⟩⟩⟩⟩), HB9.out⟩
    · have HD := hide d3
      clear d3
      go_wp2_with fail
      clear y0 y1 y2 y3 y4 y5 y6 y7 y8 t0 t1 t2 t3
      refine (countsWell_any g p _ _ _ _ _ (p.i0 j) (p.i1 j) (p.i2 j) (p.i3 j) w7 hby.1 hby.2 HX7.out).mono ?_
      rintro e w9 ⟨r, rfl, hr, hb9⟩
      have HB9 := hide (HB7.out.trans (hb9.mono HB7.out.size))
      clear hb9
      rcases hr with ⟨rfl, hr⟩ | ⟨rfl, hr⟩
      · have HR := hide hr
        clear hr
        go_wp2
        go_ret
        exact ⟨_, rfl, fb_last HKn.out HOk.out (.inl ⟨⟨HO1.out, HO2.out⟩, .inl ⟨(fun _ => HG.out), .inl ⟨HD.out, .inl ⟨HR.out, rfl⟩⟩⟩⟩), HB9.out⟩
      · have HR := hide hr
        clear hr
        go_wp2
        go_ret
        exact ⟨_, rfl, fb_last HKn.out HOk.out (.inl ⟨⟨HO1.out, HO2.out⟩, .inl ⟨(fun _ => HG.out), .inl ⟨HD.out, .inr ⟨HR.out, rfl⟩⟩⟩⟩), HB9.out⟩
  · have he1 : ((j : Int) == (p.ni : Int) - 1) = false := by simp; omega
    have HEnd := hide hend
    clear hend
    have hDots : ((p.i0 j == 31) = true ∧ p.dots = false ∧ ¬ dotsOk p j) ∨ ((p.i0 j == 31) = true ∧ p.dots = true ∧ dotsOk p j) ∨ ((p.i0 j == 31) = false ∧ dotsOk p j) := by
      by_cases e : p.i0 j = 31
      · rcases d : p.dots with _ | _
        · exact .inl ⟨by simpa using e, rfl, fun q => by have := q e; rw [d] at this; cases this⟩
        · exact .inr (.inl ⟨by simpa using e, rfl, fun _ => d⟩)
      · exact .inr (.inr ⟨by simpa using e, fun q => absurd q e⟩)
    rcases hDots with ⟨d1, d2, d3⟩ | ⟨d1, d2, d3⟩ | ⟨d1, d3⟩
    · have HD := hide d3
      clear d3
      go_wp2
      go_ret
      exact ⟨_, rfl, fb_last HKn.out HOk.out (.inl ⟨⟨HO1.out, HO2.out⟩, .inl ⟨(fun q => absurd q HEnd.out), .inr ⟨HD.out, rfl⟩⟩⟩), HB6.out⟩
    · have HD := hide d3
      clear d3
      go_wp2_with fail
      clear y0 y1 y2 y3 y4 y5 y6 y7 y8 t0 t1 t2 t3
      refine (countsWell_any g p _ _ _ _ _ (p.i0 j) (p.i1 j) (p.i2 j) (p.i3 j) w6 hby.1 hby.2 HX6.out).mono ?_
      rintro e w9 ⟨r, rfl, hr, hb9⟩
      have HB9 := hide (HB6.out.trans (hb9.mono HB6.out.size))
      clear hb9
      rcases hr with ⟨rfl, hr⟩ | ⟨rfl, hr⟩
      · have HR := hide hr
        clear hr
        go_wp2
        go_ret
        exact ⟨_, rfl, fb_last HKn.out HOk.out (.inl ⟨⟨HO1.out, HO2.out⟩, .inl ⟨(fun q => absurd q HEnd.out), .inl ⟨HD.out, .inl ⟨HR.out, rfl⟩⟩⟩⟩), HB9.out⟩
      · have HR := hide hr
        clear hr
        go_wp2
        go_ret
        exact ⟨_, rfl, fb_last HKn.out HOk.out (.inl ⟨⟨HO1.out, HO2.out⟩, .inl ⟨(fun q => absurd q HEnd.out), .inl ⟨HD.out, .inr ⟨HR.out, rfl⟩⟩⟩⟩), HB9.out⟩
    · have HD := hide d3
      clear d3
      go_wp2_with fail
      clear y0 y1 y2 y3 y4 y5 y6 y7 y8 t0 t1 t2 t3
      refine (countsWell_any g p _ _ _ _ _ (p.i0 j) (p.i1 j) (p.i2 j) (p.i3 j) w6 hby.1 hby.2 HX6.out).mono ?_
      rintro e w9 ⟨r, rfl, hr, hb9⟩
      have HB9 := hide (HB6.out.trans (hb9.mono HB6.out.size))
      clear hb9
      rcases hr with ⟨rfl, hr⟩ | ⟨rfl, hr⟩
      · have HR := hide hr
        clear hr
        go_wp2
        go_ret
        exact ⟨_, rfl, fb_last HKn.out HOk.out (.inl ⟨⟨HO1.out, HO2.out⟩, .inl ⟨(fun q => absurd q HEnd.out), .inl ⟨HD.out, .inl ⟨HR.out, rfl⟩⟩⟩⟩), HB9.out⟩
      · have HR := hide hr
        clear hr
        go_wp2
        go_ret
        exact ⟨_, rfl, fb_last HKn.out HOk.out (.inl ⟨⟨HO1.out, HO2.out⟩, .inl ⟨(fun q => absurd q HEnd.out), .inl ⟨HD.out, .inr ⟨HR.out, rfl⟩⟩⟩⟩), HB9.out⟩

end Go.Proofs.Ytkfbkglkcfaeeaa
