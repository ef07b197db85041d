import Derived.Test.YtgnbhhgpaldheaaGreatKD9
namespace Go.Proofs.YtgnbhhgpaldheaaGreat
open Go Go.RowKit
set_option linter.unusedVariables false
def PV.hd (p q : PV) : Prop := q.params = p.params ∧ q.regs = p.regs ∧ q.line = p.line ∧ q.dots = p.dots ∧ q.nu = p.nu ∧ q.u0 = p.u0 ∧ q.u1 = p.u1 ∧ q.nc = p.nc ∧ q.c0 = p.c0 ∧ q.c1 = p.c1 ∧ q.c2 = p.c2 ∧ q.c3 = p.c3
theorem goals_Tn {p : PV} (h : p.Good) : (∃ k, k < p.ni ∧ goals p.i0 p.i2 (cfI p.ni p.i0 p.i1 p.i2).all k ≠ p.i2 k) ↔ p.cf.Tn := by
  constructor
  · rintro ⟨k, hk, hn⟩
    unfold goals at hn
    cases hj : jmp (p.i0 k) with
    | false => rw [hj] at hn; exact (hn rfl).elim
    | true =>
      rw [if_pos hj] at hn
      refine ⟨k, cf_L.2 hk, hj, fun e => hn ?_⟩
      have h0 := h.pos k hk hj
      have e' : (cfI p.ni p.i0 p.i1 p.i2).all.b k = (p.i2 k).toNat := e
      rw [e']
      omega
  · rintro ⟨k, hk, hj, hn⟩
    have hj' : jmp (p.i0 k) = true := hj
    refine ⟨k, cf_L.1 hk, fun e => hn ?_⟩
    unfold goals at e
    rw [if_pos hj'] at e
    show p.cf.all.b k = (p.i2 k).toNat
    rw [← e]
    exact (Int.toNat_natCast _).symm
theorem nx_one {c : Cf} (hl : ∀ k, k < c.n → c.lf k = true) {k : Nat} (hk : k < c.n) : c.nx k = k + 1 := by
  by_cases e : k + 1 < c.n
  · exact Cf.nf_self ⟨e, hl _ e⟩
  · have : c.nf (k + 1) = c.n := Cf.nf_past (by omega)
    show c.nf (k + 1) = _
    omega
theorem idl_eq {q : PV} (h : q.Good) {k : Nat} (hk : k < q.ni) : idlI (q.i0 k) (q.i1 k) (q.i2 k) k = q.cf.idl k := by
  unfold idlI Cf.idl
  rw [nx_one (c := q.cf) (fun _ _ => rfl) hk]
  show _ = ((q.i0 k == 2 && q.i1 k == q.i2 k) || ((q.i0 k == 25 || chs (q.i0 k)) && (q.i2 k).toNat == k + 1))
  by_cases e : q.i0 k = 2
  · rw [if_pos e, e]
    simp [chs]
  · rw [if_neg e, beq_eq_false_iff_ne.2 e, Bool.false_and, Bool.false_or]
    cases hj : (q.i0 k == 25 || chs (q.i0 k)) with
    | false => simp
    | true =>
      have hjm : jmp (q.i0 k) = true := by
        rw [Bool.or_eq_true] at hj
        rcases hj with z | z
        · have : q.i0 k = 25 := by simpa using z
          rw [this]; rfl
        · exact chs_jmp z
      have h0 := h.pos k hk hjm
      rw [Bool.true_and, Bool.true_and]
      by_cases e2 : q.i2 k = (k : Int) + 1
      · rw [beq_iff_eq.2 e2, Eq.comm, beq_iff_eq]; omega
      · rw [beq_eq_false_iff_ne.2 e2, Eq.comm, beq_eq_false_iff_ne]; omega
theorem PV.Good.rng {q : PV} (h : q.Good) {k : Nat} (hk : k < q.ni) (hj : jmp (q.i0 k) = true) : 0 ≤ q.i2 k ∧ q.i2 k ≤ q.ni := by
  have h1 := h.pos k hk hj
  have h2 := (h.ok.j k (cf_L.2 hk) hj).1.1
  have h3 : (q.i2 k).toNat < q.ni := h2
  omega
def RoundR (p : PV) (s4 s5 : Value) (w : World) (e : Ending) (w' : World) : Prop :=
  ∃ (q : PV) (v6 v7 : Value) (b : Bool), e = .returned (.tuple #[q.agg s4 s5 v6 v7, .bool b]) ∧ p.hd q ∧ SpP p.cf p.pay q.cf q.pay ∧ (b = true ↔ SpT p.cf q.cf) ∧ q.Good ∧ InsF w' v6 q.ni q.i0 q.i1 q.i2 q.i3 ∧ LinF w' v7 q.nl q.l0 ∧ Below w.heap.size w w'
set_option maxHeartbeats 3200000 in
set_option maxRecDepth 100000 in
theorem round_any (p : PV) (s4 s5 s6 s7 : Value) (w : World) (hg : p.Good) (h : PVA w p s4 s5 s6 s7) :
    Calls Tryz.prog 14 #[p.agg s4 s5 s6 s7] w fun e w' => RoundR p s4 s5 w e w' := by
  have HG := hide hg
  have HA := hide h
  obtain ⟨a4, k4, rfl⟩ := h.u.val
  obtain ⟨a5, k5, rfl⟩ := h.c.val
  obtain ⟨a6, k6, rfl⟩ := h.i.val
  obtain ⟨a7, k7, rfl⟩ := h.l.val
  have hn := hg.le
  have hp0 := RowF.mk' w 45 (p.arr (.slice a4 p.nu k4) (.slice a5 p.nc k5) (.slice a6 p.ni k6) (.slice a7 p.nl k7))
  have HP0 := hide (hp0.low (b_1 _ (.cells #[.int .i64 0, .int .i64 0, .int .i64 0, .bool false, nilS, nilS, nilS, nilS] 45)) hp0.lt)
  have hq0 := RowF.mk' (w.alloc (.cells (p.arr (.slice a4 p.nu k4) (.slice a5 p.nc k5) (.slice a6 p.ni k6) (.slice a7 p.nl k7)) 45)) 45 #[.int .i64 0, .int .i64 0, .int .i64 0, .bool false, nilS, nilS, nilS, nilS]
  rw [show (w.alloc (.cells (p.arr (.slice a4 p.nu k4) (.slice a5 p.nc k5) (.slice a6 p.ni k6) (.slice a7 p.nl k7)) 45)).heap.size = w.heap.size + 1 by simp] at hq0
  have HQ0 := hide hq0
  have HB0 := hide (b_2 w (.cells (p.arr (.slice a4 p.nu k4) (.slice a5 p.nc k5) (.slice a6 p.ni k6) (.slice a7 p.nl k7)) 45) (.cells #[.int .i64 0, .int .i64 0, .int .i64 0, .bool false, nilS, nilS, nilS, nilS] 45))
  clear hp0 hq0 hg h
  unfold PV.agg
  unfold PV.arr at *
  go_enter Tryz.func14, Tryz.ntmps14
  go_wp2_with fail
  have HSz := hide (show ((w.alloc (.cells #[.int .i64 p.params, .int .i64 p.regs, .int .i64 p.line, .bool p.dots, .slice a4 p.nu k4, .slice a5 p.nc k5, .slice a6 p.ni k6, .slice a7 p.nl k7] 45)).alloc (.cells #[.int .i64 0, .int .i64 0, .int .i64 0, .bool false, nilS, nilS, nilS, nilS] 45)).heap.size = w.heap.size + 1 + 1 by simp)
  generalize (w.alloc (.cells #[.int .i64 p.params, .int .i64 p.regs, .int .i64 p.line, .bool p.dots, .slice a4 p.nu k4, .slice a5 p.nc k5, .slice a6 p.ni k6, .slice a7 p.nl k7] 45)).alloc (.cells #[.int .i64 0, .int .i64 0, .int .i64 0, .bool false, nilS, nilS, nilS, nilS] 45) = w1 at *
  refine (thread_any _ p.ni p.i0 p.i1 p.i2 p.i3 w1 hn (HA.out.i.low HB0.out (Nat.le_refl _)) HG.out.ok HG.out.pos).mono ?_
  rintro e w2 ⟨g, cap, rfl, hg1, hcap, hI, hb⟩
  have HI := hide hI
  have HB2 := hide (HB0.out.trans (hb.mono HB0.out.size))
  have HP2 := hide (HP0.out.low hb HP0.out.lt)
  have HQ2 := hide (HQ0.out.low hb HQ0.out.lt)
  clear hI hb HP0 HQ0
  have p6 : w2.cell? ⟨w.heap.size, 6, none⟩ = some (.slice a6 p.ni k6) := HP2.out.cell (j := 6) (by simp)
  go_wp2_with fail
  clear p6
  go_loopw [6, 19] (fun bv iv wr => ∃ (i : Nat) (b : Bool), i ≤ p.ni ∧ iv = .int .i64 i ∧ bv = .bool b ∧ Hid (b = true ↔ ∃ k, k < i ∧ goals p.i0 p.i2 (cfI p.ni p.i0 p.i1 p.i2).all k ≠ p.i2 k) ∧ Hid (Below w2.heap.size w2 wr)) (fun _ iv _ => p.ni - ivN iv)
  case atStart => exact ⟨0, false, by omega, rfl, rfl, hide (Iff.intro (fun h => by cases h) (fun h => by obtain ⟨k, h, _⟩ := h; omega)), hide (Below.refl _ _)⟩
  case round =>
    obtain ⟨i, b, hi, rfl, rfl, HBo, HX⟩ := hrel
    by_cases hin : i < p.ni
    · have hP := HP2.out.low HX.out HP2.out.lt
      have p6 : wr.cell? ⟨w.heap.size, 6, none⟩ = some (.slice a6 p.ni k6) := hP.cell (j := 6) (by simp)
      obtain ⟨b0, o0, cp, hve, hb0, c0, c1, c2, c3⟩ := ins_at HA.out.i hin
      cases hve
      have hBa := HB2.out.trans (HX.out.mono HB2.out.size)
      have d0 := (hBa.cell (p := ⟨b0, o0 + i * 4, none⟩) hb0).trans c0
      have d1 := (hBa.cell (p := ⟨b0, o0 + i * 4 + 1, none⟩) hb0).trans c1
      have d2 := (hBa.cell (p := ⟨b0, o0 + i * 4 + 2, none⟩) hb0).trans c2
      have d3 := (hBa.cell (p := ⟨b0, o0 + i * 4 + 3, none⟩) hb0).trans c3
      obtain ⟨e0, e1, e2, e3⟩ := (HI.out.low HX.out HI.out.lt).cells hin
      clear c0 c1 c2 c3 hP hBa
      generalize hgo : goals p.i0 p.i2 (cfI p.ni p.i0 p.i1 p.i2).all i = y at *
      have HGo := hide hgo
      clear hgo
      cases b with
      | true =>
        go_wp2_with fail
        go_quiet (fail)
        go_wp2_with fail
        go_roundw
        case rel => exact ⟨i + 1, true, by omega, by simp, rfl, hide (Iff.intro (fun _ => by obtain ⟨k, h1, h2⟩ := HBo.out.1 (by trivial); exact ⟨k, by omega, h2⟩) (fun _ => rfl)), hide (below_drw HX.out _)⟩
        case measure => simp [ivN]; omega
      | false =>
        by_cases hy : y = p.i2 i
        · subst hy
          go_wp2_with fail
          go_quiet (fail)
          go_wp2_with fail
          go_roundw
          case rel => exact ⟨i + 1, false, by omega, by simp, rfl, hide (Iff.intro (fun h => by cases h) (fun h => by
            obtain ⟨k, h1, h2⟩ := h
            by_cases e : k = i
            · subst e; exact (h2 HGo.out).elim
            · exact HBo.out.2 ⟨k, by omega, h2⟩)), hide (below_drw HX.out _)⟩
          case measure => simp [ivN]; omega
        · go_wp2_with fail
          go_quiet (fail)
          go_wp2_with fail
          go_roundw
          case rel => exact ⟨i + 1, true, by omega, by simp, rfl, hide (Iff.intro (fun _ => ⟨i, by omega, by rw [HGo.out]; exact hy⟩) (fun _ => rfl)), hide (below_drw HX.out _)⟩
          case measure => simp [ivN]; omega
    · obtain rfl : i = p.ni := by omega
      have hP := HP2.out.low HX.out HP2.out.lt
      have hKP : Keeps wr (wr.setCell ⟨w.heap.size, 6, none⟩ (.slice (some ⟨g, 0, none⟩) p.ni cap)) (fun b => b = w.heap.size) := (Keeps.refl wr (fun b => b = w.heap.size)).setCell (j := 6) rfl (.slice (some ⟨g, 0, none⟩) p.ni cap)
      have HQ3 := hide ((HQ2.out.low HX.out HQ2.out.lt).keep hKP (fun e => by omega))
      have HI3 := hide ((HI.out.low HX.out HI.out.lt).keep hKP (fun e => by have h1 := HSz.out; have h2 : w1.heap.size ≤ g := hg1; omega))
      have HP3 := hide ((hP.set (j := 6) (by simp) (.slice (some ⟨g, 0, none⟩) p.ni cap)).congr (f' := fun j => (#[.int .i64 p.params, .int .i64 p.regs, .int .i64 p.line, .bool p.dots, .slice a4 p.nu k4, .slice a5 p.nc k5, .slice (some ⟨g, 0, none⟩) p.ni cap, .slice a7 p.nl k7] : Array Value).getD j (.bool false)) (fun j hj => by
        simp at hj
        rcases (show j = 0 ∨ j = 1 ∨ j = 2 ∨ j = 3 ∨ j = 4 ∨ j = 5 ∨ j = 6 ∨ j = 7 by omega) with rfl | rfl | rfl | rfl | rfl | rfl | rfl | rfl <;> rfl))
      have HB3 := hide ((HB2.out.trans (HX.out.mono HB2.out.size)).trans (hKP.below (B := w.heap.size) (by have := HB2.out.size; have := HX.out.size; omega) (fun b e => by omega)))
      have p6 : wr.cell? ⟨w.heap.size, 6, none⟩ = some (.slice a6 p.ni k6) := hP.cell (j := 6) (by simp)
      have f6 := hP.frz 6
      clear hP hKP HQ2 HI HP2 HX HB2
      go_upto_region 10 with (fail)
      clear p6 f6
      generalize wr.setCell ⟨w.heap.size, 6, none⟩ (.slice (some ⟨g, 0, none⟩) p.ni cap) = w3 at *
      have c0 : w3.cell? ⟨w.heap.size, 0, none⟩ = some (.int .i64 p.params) := HP3.out.cell (j := 0) (by simp)
      have c1 : w3.cell? ⟨w.heap.size, 1, none⟩ = some (.int .i64 p.regs) := HP3.out.cell (j := 1) (by simp)
      have c2 : w3.cell? ⟨w.heap.size, 2, none⟩ = some (.int .i64 p.line) := HP3.out.cell (j := 2) (by simp)
      have c3 : w3.cell? ⟨w.heap.size, 3, none⟩ = some (.bool p.dots) := HP3.out.cell (j := 3) (by simp)
      have c4 : w3.cell? ⟨w.heap.size, 4, none⟩ = some (.slice a4 p.nu k4) := HP3.out.cell (j := 4) (by simp)
      have c5 : w3.cell? ⟨w.heap.size, 5, none⟩ = some (.slice a5 p.nc k5) := HP3.out.cell (j := 5) (by simp)
      have c6 : w3.cell? ⟨w.heap.size, 6, none⟩ = some (.slice (some ⟨g, 0, none⟩) p.ni cap) := HP3.out.cell (j := 6) (by simp)
      have c7 : w3.cell? ⟨w.heap.size, 7, none⟩ = some (.slice a7 p.nl k7) := HP3.out.cell (j := 7) (by simp)
      have z0 := HP3.out.frz 0
      have z1 := HP3.out.frz 1
      have z2 := HP3.out.frz 2
      have z3 := HP3.out.frz 3
      have z4 := HP3.out.frz 4
      have z5 := HP3.out.frz 5
      have z6 := HP3.out.frz 6
      have z7 := HP3.out.frz 7
      have HGt := hide HG.out.thr
      go_cut [] from 38 to 42 (fun wc => ∃ (sk : Nat → Bool) (v6 v7 : Value), Hid (∀ k, sk k = true ↔ p.thr.cf.R k) ∧ Hid (RowF wc 45 w.heap.size 8 (fun j => (#[.int .i64 p.params, .int .i64 p.regs, .int .i64 p.line, .bool p.dots, .slice a4 p.nu k4, .slice a5 p.nc k5, v6, v7] : Array Value).getD j (.bool false))) ∧ Hid (wc.ownsRow (w.heap.size + 1 + 1) 51 4 v6 (cnt sk p.thr.ni) (codeK sk p.thr.i0 p.thr.i1 p.thr.i2 p.thr.i3 p.thr.ni)) ∧ Hid (wc.ownsRow (w.heap.size + 1 + 1) 3 1 v7 (cnt sk p.thr.ni) (lineK sk p.thr.l0 p.thr.ni)) ∧ Hid (RowF wc 45 (w.heap.size + 1) 8 (fun j => (#[.int .i64 0, .int .i64 0, .int .i64 0, .bool false, nilS, nilS, nilS, nilS] : Array Value).getD j (.bool false))) ∧ Hid (Below w.heap.size w wc))
      case first =>
        have HRe := hide (reached_any (.slice (some ⟨g, 0, none⟩) p.ni cap) p.ni p.i0 p.i1 (goals p.i0 p.i2 p.cf.all) p.i3 w3.drew hn (InsA.low (HI3.out.a hcap) (Below.refl w3.heap.size w3).drew (Nat.le_refl _)) HGt.out.ok HGt.out.pos)
        go_region_with (first
          | (go_at_call 32
             refine HRe.out.mono ?_
             rintro e w4 ⟨gk, sk, rfl, hgk, hsk, hbo, hb4⟩
             have hb4' : Below w3.heap.size w3 w4 := ((Below.refl w3.heap.size w3).drew).trans hb4
             have HP4 := hide (HP3.out.low hb4' HP3.out.lt)
             have HQ4 := hide (HQ3.out.low hb4' HQ3.out.lt)
             have HI4 := hide (HI3.out.low hb4' HI3.out.lt)
             have HB4 := hide (HB3.out.trans (hb4'.mono HB3.out.size))
             have HSk := hide hsk
             have HBo4 := hide hbo
             have d0 : w4.cell? ⟨w.heap.size, 0, none⟩ = some (.int .i64 p.params) := HP4.out.cell (j := 0) (by simp)
             have d1 : w4.cell? ⟨w.heap.size, 1, none⟩ = some (.int .i64 p.regs) := HP4.out.cell (j := 1) (by simp)
             have d2 : w4.cell? ⟨w.heap.size, 2, none⟩ = some (.int .i64 p.line) := HP4.out.cell (j := 2) (by simp)
             have d3 : w4.cell? ⟨w.heap.size, 3, none⟩ = some (.bool p.dots) := HP4.out.cell (j := 3) (by simp)
             have d4 : w4.cell? ⟨w.heap.size, 4, none⟩ = some (.slice a4 p.nu k4) := HP4.out.cell (j := 4) (by simp)
             have d5 : w4.cell? ⟨w.heap.size, 5, none⟩ = some (.slice a5 p.nc k5) := HP4.out.cell (j := 5) (by simp)
             have d6 : w4.cell? ⟨w.heap.size, 6, none⟩ = some (.slice (some ⟨g, 0, none⟩) p.ni cap) := HP4.out.cell (j := 6) (by simp)
             have d7 : w4.cell? ⟨w.heap.size, 7, none⟩ = some (.slice a7 p.nl k7) := HP4.out.cell (j := 7) (by simp)
             have y0 := HP4.out.frz 0
             have y1 := HP4.out.frz 1
             have y2 := HP4.out.frz 2
             have y3 := HP4.out.frz 3
             have y4 := HP4.out.frz 4
             have y5 := HP4.out.frz 5
             have y6 := HP4.out.frz 6
             have y7 := HP4.out.frz 7
             clear hb4 hb4' hsk hbo)
          | (go_at_call 31
             have hke := keep_any p.thr (.slice a4 p.nu k4) (.slice a5 p.nc k5) (.slice (some ⟨g, 0, none⟩) p.ni cap) (.slice a7 p.nl k7) gk sk w4 hn HG.out.nl (PVA.mk (HA.out.u.low HB4.out (Nat.le_refl _)) (HA.out.c.low HB4.out (Nat.le_refl _)) (HI4.out.a hcap) (HA.out.l.low HB4.out (Nat.le_refl _))) HBo4.out (fun k hk _ hj => HGt.out.rng hk hj)
             refine hke.mono ?_
             clear hke
             rintro e w5 ⟨v6, v7, he5, hv6, hv7, hb5⟩
             obtain rfl : e = .returned (.agg #[.int .i64 p.params, .int .i64 p.regs, .int .i64 p.line, .bool p.dots, .slice a4 p.nu k4, .slice a5 p.nc k5, v6, v7]) := he5
             obtain ⟨x6, y6, rfl⟩ := owns_val hv6
             obtain ⟨x7, y7, rfl⟩ := owns_val hv7
             have HP5 := hide (HP4.out.low hb5 HP4.out.lt)
             have HQ5 := hide (HQ4.out.low hb5 HQ4.out.lt)
             have HB5 := hide (HB4.out.trans (hb5.mono HB4.out.size))
             have HV6 := hide hv6
             have HV7 := hide hv7
             have HL4 := hide (show w.heap.size + 1 < w4.heap.size from HQ4.out.lt)
             have e0 : w5.cell? ⟨w.heap.size, 0, none⟩ = some (.int .i64 p.params) := HP5.out.cell (j := 0) (by simp)
             have e1 : w5.cell? ⟨w.heap.size, 1, none⟩ = some (.int .i64 p.regs) := HP5.out.cell (j := 1) (by simp)
             have e2 : w5.cell? ⟨w.heap.size, 2, none⟩ = some (.int .i64 p.line) := HP5.out.cell (j := 2) (by simp)
             have e3 : w5.cell? ⟨w.heap.size, 3, none⟩ = some (.bool p.dots) := HP5.out.cell (j := 3) (by simp)
             have e4 : w5.cell? ⟨w.heap.size, 4, none⟩ = some (.slice a4 p.nu k4) := HP5.out.cell (j := 4) (by simp)
             have e5 : w5.cell? ⟨w.heap.size, 5, none⟩ = some (.slice a5 p.nc k5) := HP5.out.cell (j := 5) (by simp)
             have e6 : w5.cell? ⟨w.heap.size, 6, none⟩ = some (.slice (some ⟨g, 0, none⟩) p.ni cap) := HP5.out.cell (j := 6) (by simp)
             have e7 : w5.cell? ⟨w.heap.size, 7, none⟩ = some (.slice a7 p.nl k7) := HP5.out.cell (j := 7) (by simp)
             have f0 := HP5.out.frz 0
             have f1 := HP5.out.frz 1
             have f2 := HP5.out.frz 2
             have f3 := HP5.out.frz 3
             have f4 := HP5.out.frz 4
             have f5 := HP5.out.frz 5
             have f6 := HP5.out.frz 6
             have f7 := HP5.out.frz 7
             clear hb5 hv6 hv7))
        all_goals
          have hKp := put8_keeps w5 w.heap.size (.int .i64 p.params) (.int .i64 p.regs) (.int .i64 p.line) (.bool p.dots) (.slice a4 p.nu k4) (.slice a5 p.nc k5) (.slice x6 (cnt sk p.thr.ni) y6) (.slice x7 (cnt sk p.thr.ni) y7)
          have hR := HP5.out.put8 (q := 0) (by simp) (.int .i64 p.params) (.int .i64 p.regs) (.int .i64 p.line) (.bool p.dots) (.slice a4 p.nu k4) (.slice a5 p.nc k5) (.slice x6 (cnt sk p.thr.ni) y6) (.slice x7 (cnt sk p.thr.ni) y7)
          have G1 := hide (hR.congr (f' := fun j => (#[.int .i64 p.params, .int .i64 p.regs, .int .i64 p.line, .bool p.dots, .slice a4 p.nu k4, .slice a5 p.nc k5, .slice x6 (cnt sk p.thr.ni) y6, .slice x7 (cnt sk p.thr.ni) y7] : Array Value).getD j (.bool false)) (fun j hj => by
            simp at hj
            rcases (show j = 0 ∨ j = 1 ∨ j = 2 ∨ j = 3 ∨ j = 4 ∨ j = 5 ∨ j = 6 ∨ j = 7 by omega) with rfl | rfl | rfl | rfl | rfl | rfl | rfl | rfl <;> rfl))
          have G6 := hide (owns_less (base' := w.heap.size + 1 + 1) (owns_past HV6.out hKp (fun g e hg => by have := (owns_blk HV6.out e).1; have := HL4.out; omega)) (by have := HL4.out; omega))
          have G7 := hide (owns_less (base' := w.heap.size + 1 + 1) (owns_past HV7.out hKp (fun g e hg => by have := (owns_blk HV7.out e).1; have := HL4.out; omega)) (by have := HL4.out; omega))
          have GQ := hide (HQ5.out.keep hKp (fun e => by omega))
          have GB := hide (HB5.out.trans (hKp.below (B := w.heap.size) HB5.out.size (fun b e => by omega)))
          clear hKp hR
          go_wp2_with fail
          go_meet
          case rel => exact ⟨sk, _, _, HSk, G1, G6, G7, GQ, GB⟩
      case rest =>
        obtain ⟨sk, v6, v7, HSk, HP5, HV6, HV7, HQ5, HB5⟩ := hcut
        have HQv : Hid ((p.thr.kep sk).Good ∧ Cmp (p.cf.all.cut p.cf.all.un) (p.thr.kep sk).cf ∧ (∀ q, (p.cf.all.cut p.cf.all.un).L q → (p.thr.kep sk).pay ((p.cf.all.cut p.cf.all.un).rk q) = p.pay q)) := hide (by
          have hd : ∀ k, k < p.thr.ni → sk k = !p.thr.cf.un k := fun k _ => by
            cases e : p.thr.cf.un k with
            | true =>
              have := (un_iff k).1 e
              cases e2 : sk k with
              | false => rfl
              | true => exact (this ((HSk.out k).1 e2)).elim
            | false =>
              have : p.thr.cf.R k := Classical.byContradiction fun z => by rw [(un_iff k).2 z] at e; cases e
              exact (HSk.out k).2 this
          obtain ⟨k1, k2⟩ := kep_cmp HG.out.thr hd
          rw [thr_cf] at k1 k2
          rw [thr_pay] at k2
          have ok1 := (all_St HG.out.ok).1
          exact ⟨HG.out.thr.kep (k1.ok (ok1.cutR (D := p.cf.all.un) (fun p _ => un_iff p)).1), k1, k2⟩)
        obtain ⟨x6, y6, rfl⟩ := owns_val HV6.out
        obtain ⟨x7, y7, rfl⟩ := owns_val HV7.out
        have HI6 := hide (kep_ins HV6.out)
        have HI7 := hide (kep_lines HV7.out)
        have hm : cnt sk p.thr.ni ≤ 1048576 := HQv.out.1.le
        obtain ⟨q, hq⟩ : ∃ q, p.thr.kep sk = q := ⟨_, rfl⟩
        have hqm : cnt sk p.thr.ni = q.ni := by rw [← hq]; rfl
        have HQh := hide (show p.hd q from by rw [← hq]; exact ⟨rfl, rfl, rfl, rfl, rfl, rfl, rfl, rfl, rfl, rfl, rfl, rfl⟩)
        rw [hqm] at HP5 hm
        rw [hq] at HI6 HI7 HQv
        rw [hqm] at HI6 HI7
        have HQm := hide hqm
        clear HV6 HV7 HSk hqm hq
        rename World => wd
        have p6 : wd.cell? ⟨w.heap.size, 6, none⟩ = some (.slice x6 q.ni y6) := HP5.out.cell (j := 6) (by simp)
        obtain ⟨i9, hi0, hz0, hz1, hz2⟩ := info_parts Tryz.info4
        have HI0 := hide (And.intro hi0 (And.intro hz0 (And.intro hz1 hz2)))
        clear hi0 hz0 hz1 hz2
        go_upto_region 12 with (first
          | (at_make
             refine wpList_make_full _ rfl _ _ 49 rfl w.heap.size 4 i9 (.bool false) 1 Tryz.underlying49 HI0.out.1 HI0.out.2.1 HI0.out.2.2.1 _ _ _ _ q.ni rfl rfl rfl rfl (by rw [HI0.out.2.2.2]; omega) (by unfold maxLen; omega) HB5.out.size ?_
             intro we hown hgrow
             have hbe : Below wd.heap.size wd we := (Below.refl _ _).grown hgrow (Nat.le_refl _) (fun _ h => by cases h)
             have HK0 : Hid (BoolO we wd.heap.size q.ni (fun _ => false)) := hide ((rowF_owns hown).congr (fun j hj => by
               rw [Nat.mul_one] at hj ⊢
               exact made_bool q.ni hj))
             have HPe := hide (HP5.out.low hbe HP5.out.lt)
             have HQe := hide (HQ5.out.low hbe HQ5.out.lt)
             have HBe := hide (HB5.out.trans (hbe.mono HB5.out.size))
             have HI6e := hide (HI6.out.low hbe (Nat.le_refl _))
             have HI7e := hide (HI7.out.low hbe (Nat.le_refl _))
             have hlq : w.heap.size + 1 < wd.heap.size := HQ5.out.lt
             have HBde := hide hbe
             clear hown hgrow hbe)
          | fail)
        have e6 : we.cell? ⟨w.heap.size, 6, none⟩ = some (.slice x6 q.ni y6) := HPe.out.cell (j := 6) (by simp)
        generalize hgK : wd.heap.size = gK at *
        have HGK := hide hgK
        clear hgK p6 HP5 HQ5
        go_wp2_with fail
        clear e6
        have HK0l := hide (show gK < we.heap.size from RowF.lt HK0.out)
        go_loopw [50] (fun iv wr => ∃ i : Nat, i ≤ q.ni ∧ iv = .int .i64 i ∧ Hid (BoolO wr gK q.ni (fun j => if j < i then !q.cf.idl j else false)) ∧ Hid (Keeps we wr (fun b => b = gK))) (fun iv _ => q.ni - ivN iv)
        case atStart => exact ⟨0, by omega, rfl, hide (by simpa using HK0.out), hide (Keeps.refl _ _)⟩
        case round =>
          clear HK0
          obtain ⟨i, hi, rfl, HK, HX⟩ := hrel
          have HBr := hide (HBe.out.trans (HX.out.below (B := w.heap.size) HBe.out.size (fun b e => by omega)))
          by_cases hin : i < q.ni
          · obtain ⟨b0, o0, cp, hve, hb0, c0, c1, c2, c3⟩ := ins_at HI6e.out hin
            cases hve
            have hbn : b0 ≠ gK := by
              obtain ⟨b1, o1, cp1, hve1, hb1, _⟩ := ins_at HI6.out hin
              cases hve1
              have := HGK.out
              omega
            have kc : ∀ j, wr.cell? ⟨b0, j, none⟩ = we.cell? ⟨b0, j, none⟩ := fun j => World.cell?_of_block (a := ⟨b0, j, none⟩) (HX.out.block b0 hb0 hbn)
            have d0 := (kc _).trans c0
            have d1 := (kc _).trans c1
            have d2 := (kc _).trans c2
            have d3 := (kc _).trans c3
            have hA := RowF.mk' wr 51 #[.int .i64 (q.i0 i), .int .i64 (q.i1 i), .int .i64 (q.i2 i), .int .i64 (q.i3 i)]
            have hbA := b_1 wr (.cells #[.int .i64 (q.i0 i), .int .i64 (q.i1 i), .int .i64 (q.i2 i), .int .i64 (q.i3 i)] 51)
            have HKA := hide (show BoolO _ gK q.ni (fun j => if j < i then !q.cf.idl j else false) from RowF.low HK.out hbA HK.out.lt)
            have HXA := hide (HX.out.trans (Keeps.of hbA (Nat.le_refl _) (fun b => b = gK)))
            clear hbA c0 c1 c2 c3 kc
            have hlt : gK < wr.heap.size := HK.out.lt
            go_upto_region 15 with (fail)
            clear d0 d1 d2 d3
            generalize wr.alloc (.cells #[.int .i64 (q.i0 i), .int .i64 (q.i1 i), .int .i64 (q.i2 i), .int .i64 (q.i3 i)] 51) = wa at *
            generalize wr.heap.size = X at *
            have d0 : wa.cell? ⟨X, 0, none⟩ = some (.int .i64 (q.i0 i)) := hA.cell (j := 0) (by simp)
            have d1 : wa.cell? ⟨X, 1, none⟩ = some (.int .i64 (q.i1 i)) := hA.cell (j := 1) (by simp)
            have d2 : wa.cell? ⟨X, 2, none⟩ = some (.int .i64 (q.i2 i)) := hA.cell (j := 2) (by simp)
            have d3 : wa.cell? ⟨X, 3, none⟩ = some (.int .i64 (q.i3 i)) := hA.cell (j := 3) (by simp)
            clear hA
            go_wp2_with (first
              | (go_at_call 33
                 refine (idle_any (q.i0 i) (q.i1 i) (q.i2 i) (q.i3 i) i wa (by omega)).mono ?_
                 rintro e wb ⟨rfl, hbb⟩
                 rw [idl_eq HQv.out.1 hin]
                 have HKb := hide (show BoolO wb gK q.ni (fun j => if j < i then !q.cf.idl j else false) from RowF.low HKA.out hbb HKA.out.lt)
                 have HXb := hide (HXA.out.trans (Keeps.of hbb (Nat.le_refl _) (fun b => b = gK)))
                 have g0 : wb.cell? ⟨gK, i, none⟩ = some (.bool (if i < i then !q.cf.idl i else false)) := RowF.cell HKb.out (j := i) (by omega)
                 have z0 := RowF.frz HKb.out i
                 clear hbb)
              | fail)
            go_roundw
            case rel => exact ⟨i + 1, by omega, by simp, hide ((HKb.out.set hin (!q.cf.idl i)).congr (fun j hj => by
              by_cases e : j = i
              · subst e; simp
              · by_cases e2 : j < i
                · simp [e, e2, Nat.lt_succ_of_lt e2]
                · have e3 : ¬ j < i + 1 := by omega
                  simp [e, e2, e3])), hide (HXb.out.setCell (j := i) rfl _)⟩
            case measure => simp [ivN]; omega
          · obtain rfl : i = q.ni := by omega
            have HP9 := hide (HPe.out.keep HX.out (fun e => by omega))
            have HQ9 := hide (HQe.out.keep HX.out (fun e => by omega))
            have HK9 := hide (show BoolO wr gK q.ni (fun k => !q.cf.idl k) from RowF.congr HK.out (fun j hj => by simp at hj; simp [hj]))
            have HBd9 := hide (HBde.out.trans (HX.out.below (B := gK) (Nat.le_of_lt HK0l.out) (fun b e => by omega)))
            obtain ⟨f1, f2, f3, f4, f5, f6, f7, f8, f9, fa, fb, fc⟩ := HQh.out
            have hun : q.nl = q.ni := HQv.out.1.nl
            have HI9 := hide (show PVA wr q (.slice a4 p.nu k4) (.slice a5 p.nc k5) (.slice x6 q.ni y6) (.slice x7 q.ni y7) from ⟨by rw [f5, f6, f7]; exact HA.out.u.low HBr.out (Nat.le_refl _), by rw [f8, f9, fa, fb, fc]; exact HA.out.c.low HBr.out (Nat.le_refl _), HI6.out.low HBd9.out (Nat.le_of_eq HGK.out), by have := HI7.out.low HBd9.out (Nat.le_of_eq HGK.out); rw [hun] at this ⊢; exact this⟩)
            have hke := keep_any q (.slice a4 p.nu k4) (.slice a5 p.nc k5) (.slice x6 q.ni y6) (.slice x7 q.ni y7) gK (fun k => !q.cf.idl k) wr hm hun HI9.out HK9.out (fun k hk _ hj => HQv.out.1.rng hk hj)
            unfold PV.agg at hke
            rw [f1, f2, f3, f4] at hke
            have HKe := hide hke
            clear f1 f2 f3 f4 f5 f6 f7 f8 f9 fa fb fc hke
            have c0 : wr.cell? ⟨w.heap.size, 0, none⟩ = some (.int .i64 p.params) := HP9.out.cell (j := 0) (by simp)
            have c1 : wr.cell? ⟨w.heap.size, 1, none⟩ = some (.int .i64 p.regs) := HP9.out.cell (j := 1) (by simp)
            have c2 : wr.cell? ⟨w.heap.size, 2, none⟩ = some (.int .i64 p.line) := HP9.out.cell (j := 2) (by simp)
            have c3 : wr.cell? ⟨w.heap.size, 3, none⟩ = some (.bool p.dots) := HP9.out.cell (j := 3) (by simp)
            have c4 : wr.cell? ⟨w.heap.size, 4, none⟩ = some (.slice a4 p.nu k4) := HP9.out.cell (j := 4) (by simp)
            have c5 : wr.cell? ⟨w.heap.size, 5, none⟩ = some (.slice a5 p.nc k5) := HP9.out.cell (j := 5) (by simp)
            have c6 : wr.cell? ⟨w.heap.size, 6, none⟩ = some (.slice x6 q.ni y6) := HP9.out.cell (j := 6) (by simp)
            have c7 : wr.cell? ⟨w.heap.size, 7, none⟩ = some (.slice x7 q.ni y7) := HP9.out.cell (j := 7) (by simp)
            have z0 := HP9.out.frz 0
            have z1 := HP9.out.frz 1
            have z2 := HP9.out.frz 2
            have z3 := HP9.out.frz 3
            have z4 := HP9.out.frz 4
            have z5 := HP9.out.frz 5
            have z6 := HP9.out.frz 6
            have z7 := HP9.out.frz 7
            go_wp2_with fail
            refine HKe.out.mono ?_
            rintro e wf ⟨v6, v7, rfl, hv6, hv7, hbf⟩
            obtain ⟨m6, n6, rfl⟩ := owns_val hv6
            obtain ⟨m7, n7, rfl⟩ := owns_val hv7
            have HV6 := hide hv6
            have HV7 := hide hv7
            have hPf := HP9.out.low hbf HP9.out.lt
            have hKp := put8_keeps wf w.heap.size (.int .i64 p.params) (.int .i64 p.regs) (.int .i64 p.line) (.bool p.dots) (.slice a4 p.nu k4) (.slice a5 p.nc k5) (.slice m6 (cnt (fun k => !q.cf.idl k) q.ni) n6) (.slice m7 (cnt (fun k => !q.cf.idl k) q.ni) n7)
            have hR := hPf.put8 (q := 0) (by simp) (.int .i64 p.params) (.int .i64 p.regs) (.int .i64 p.line) (.bool p.dots) (.slice a4 p.nu k4) (.slice a5 p.nc k5) (.slice m6 (cnt (fun k => !q.cf.idl k) q.ni) n6) (.slice m7 (cnt (fun k => !q.cf.idl k) q.ni) n7)
            have HRr := hide (hR.congr (f' := fun j => (#[.int .i64 p.params, .int .i64 p.regs, .int .i64 p.line, .bool p.dots, .slice a4 p.nu k4, .slice a5 p.nc k5, .slice m6 (cnt (fun k => !q.cf.idl k) q.ni) n6, .slice m7 (cnt (fun k => !q.cf.idl k) q.ni) n7] : Array Value).getD j (.bool false)) (fun j hj => by
              try simp at hj
              rcases (show j = 0 ∨ j = 1 ∨ j = 2 ∨ j = 3 ∨ j = 4 ∨ j = 5 ∨ j = 6 ∨ j = 7 by omega) with rfl | rfl | rfl | rfl | rfl | rfl | rfl | rfl <;> rfl))
            have hl2 : w.heap.size + 1 < wr.heap.size := HQ9.out.lt
            have G6 := hide (owns_past HV6.out hKp (fun g e hg => by have := (owns_blk HV6.out e).1; omega))
            have G7 := hide (owns_past HV7.out hKp (fun g e hg => by have := (owns_blk HV7.out e).1; omega))
            have GQ := hide ((HQ9.out.low hbf HQ9.out.lt).keep hKp (fun e => by omega))
            have GB := hide ((HBr.out.trans (hbf.mono HBr.out.size)).trans (hKp.below (B := w.heap.size) (by have := HBr.out.size; have := hbf.size; omega) (fun b e => by omega)))
            clear c0 c1 c2 c3 c4 c5 c6 c7 z0 z1 z2 z3 z4 z5 z6 z7
            have c0 : wf.cell? ⟨w.heap.size, 0, none⟩ = some (.int .i64 p.params) := hPf.cell (j := 0) (by simp)
            have c1 : wf.cell? ⟨w.heap.size, 1, none⟩ = some (.int .i64 p.regs) := hPf.cell (j := 1) (by simp)
            have c2 : wf.cell? ⟨w.heap.size, 2, none⟩ = some (.int .i64 p.line) := hPf.cell (j := 2) (by simp)
            have c3 : wf.cell? ⟨w.heap.size, 3, none⟩ = some (.bool p.dots) := hPf.cell (j := 3) (by simp)
            have c4 : wf.cell? ⟨w.heap.size, 4, none⟩ = some (.slice a4 p.nu k4) := hPf.cell (j := 4) (by simp)
            have c5 : wf.cell? ⟨w.heap.size, 5, none⟩ = some (.slice a5 p.nc k5) := hPf.cell (j := 5) (by simp)
            have c6 : wf.cell? ⟨w.heap.size, 6, none⟩ = some (.slice x6 q.ni y6) := hPf.cell (j := 6) (by simp)
            have c7 : wf.cell? ⟨w.heap.size, 7, none⟩ = some (.slice x7 q.ni y7) := hPf.cell (j := 7) (by simp)
            have z0 := hPf.frz 0
            have z1 := hPf.frz 1
            have z2 := hPf.frz 2
            have z3 := hPf.frz 3
            have z4 := hPf.frz 4
            have z5 := hPf.frz 5
            have z6 := hPf.frz 6
            have z7 := hPf.frz 7
            clear hPf hKp hR hv6 hv7 hbf
            go_upto_region 18 with (fail)
            clear c0 c1 c2 c3 c4 c5 c6 c7 z0 z1 z2 z3 z4 z5 z6 z7
            obtain ⟨M, hM⟩ : ∃ M, cnt (fun k => !q.cf.idl k) q.ni = M := ⟨_, rfl⟩
            rw [hM] at HRr
            have HM := hide hM
            have I6 := hide (kep_ins G6.out)
            have I7 := hide (kep_lines G7.out)
            rw [hM] at I6 I7 ⊢
            obtain ⟨k1, k2⟩ := kep_cmp HQv.out.1 (D := q.cf.idl) (s := fun k => !q.cf.idl k) (fun _ _ => rfl)
            have HSp : Hid (SpP p.cf p.pay (q.kep (fun k => !q.cf.idl k)).cf (q.kep (fun k => !q.cf.idl k)).pay) := hide ⟨q.cf, q.pay, HQv.out.2.1, HQv.out.2.2, k1, k2⟩
            have HGd := hide (HQv.out.1.kep (k1.ok HQv.out.1.ok.cutI.1))
            have HHd := hide (show p.hd (q.kep (fun k => !q.cf.idl k)) from HQh.out)
            clear k1 k2
            rw [hM] at GQ GB G6 G7
            rw [show ((((((((wf.setCell ⟨w.heap.size, 0, none⟩ (.int .i64 p.params)).setCell ⟨w.heap.size, 1, none⟩ (.int .i64 p.regs)).setCell ⟨w.heap.size, 2, none⟩ (.int .i64 p.line)).setCell ⟨w.heap.size, 3, none⟩ (.bool p.dots)).setCell ⟨w.heap.size, 4, none⟩ (.slice a4 p.nu k4)).setCell ⟨w.heap.size, 5, none⟩ (.slice a5 p.nc k5)).setCell ⟨w.heap.size, 6, none⟩ (.slice m6 M n6)).setCell ⟨w.heap.size, 7, none⟩ (.slice m7 M n7)) = put8 wf w.heap.size 0 (.int .i64 p.params) (.int .i64 p.regs) (.int .i64 p.line) (.bool p.dots) (.slice a4 p.nu k4) (.slice a5 p.nc k5) (.slice m6 M n6) (.slice m7 M n7) from rfl]
            generalize put8 wf w.heap.size 0 (.int .i64 p.params) (.int .i64 p.regs) (.int .i64 p.line) (.bool p.dots) (.slice a4 p.nu k4) (.slice a5 p.nc k5) (.slice m6 M n6) (.slice m7 M n7) = wg at *
            have c0 : wg.cell? ⟨w.heap.size, 0, none⟩ = some (.int .i64 p.params) := HRr.out.cell (j := 0) (by simp)
            have c1 : wg.cell? ⟨w.heap.size, 1, none⟩ = some (.int .i64 p.regs) := HRr.out.cell (j := 1) (by simp)
            have c2 : wg.cell? ⟨w.heap.size, 2, none⟩ = some (.int .i64 p.line) := HRr.out.cell (j := 2) (by simp)
            have c3 : wg.cell? ⟨w.heap.size, 3, none⟩ = some (.bool p.dots) := HRr.out.cell (j := 3) (by simp)
            have c4 : wg.cell? ⟨w.heap.size, 4, none⟩ = some (.slice a4 p.nu k4) := HRr.out.cell (j := 4) (by simp)
            have c5 : wg.cell? ⟨w.heap.size, 5, none⟩ = some (.slice a5 p.nc k5) := HRr.out.cell (j := 5) (by simp)
            have c6 : wg.cell? ⟨w.heap.size, 6, none⟩ = some (.slice m6 M n6) := HRr.out.cell (j := 6) (by simp)
            have c7 : wg.cell? ⟨w.heap.size, 7, none⟩ = some (.slice m7 M n7) := HRr.out.cell (j := 7) (by simp)
            have hPk := put8_keeps wg (w.heap.size + 1) (.int .i64 p.params) (.int .i64 p.regs) (.int .i64 p.line) (.bool p.dots) (.slice a4 p.nu k4) (.slice a5 p.nc k5) (.slice m6 M n6) (.slice m7 M n7)
            have GBq := hide (GB.out.trans (hPk.below (B := w.heap.size) GB.out.size (fun b e => by omega)))
            have HN6s := hide hM
            have HN6 : Hid (M = (q.kep (fun k => !q.cf.idl k)).ni) := hide hM.symm
            clear hM
            have hBo := HBo.out
            rw [goals_Tn HG.out] at hBo
            have HTn := hide hBo
            clear hBo
            have r0 := GQ.out.cell (j := 0) (by simp)
            have z0 := GQ.out.frz 0
            have r1 := GQ.out.cell (j := 1) (by simp)
            have z1 := GQ.out.frz 1
            have r2 := GQ.out.cell (j := 2) (by simp)
            have z2 := GQ.out.frz 2
            have r3 := GQ.out.cell (j := 3) (by simp)
            have z3 := GQ.out.frz 3
            have r4 := GQ.out.cell (j := 4) (by simp)
            have z4 := GQ.out.frz 4
            have r5 := GQ.out.cell (j := 5) (by simp)
            have z5 := GQ.out.frz 5
            have r6 := GQ.out.cell (j := 6) (by simp)
            have z6 := GQ.out.frz 6
            have r7 := GQ.out.cell (j := 7) (by simp)
            have z7 := GQ.out.frz 7
            have HE := hide (show ∀ b : Bool, Ending.returned (.tuple #[.agg #[.int .i64 p.params, .int .i64 p.regs, .int .i64 p.line, .bool p.dots, .slice a4 p.nu k4, .slice a5 p.nc k5, .slice m6 M n6, .slice m7 M n7], .bool b]) = Ending.returned (.tuple #[.agg #[.int .i64 (q.kep (fun k => !q.cf.idl k)).params, .int .i64 (q.kep (fun k => !q.cf.idl k)).regs, .int .i64 (q.kep (fun k => !q.cf.idl k)).line, .bool (q.kep (fun k => !q.cf.idl k)).dots, .slice a4 p.nu k4, .slice a5 p.nc k5, .slice m6 M n6, .slice m7 M n7], .bool b]) from fun b => by rw [HHd.out.1, HHd.out.2.1, HHd.out.2.2.1, HHd.out.2.2.2.1])
            have hw6 := owns_past G6.out hPk (fun g e hg => by have := (owns_blk G6.out e).1; omega)
            have hw7 := owns_past G7.out hPk (fun g e hg => by have := (owns_blk G7.out e).1; omega)
            have H6s := hide (kep_insF HN6s.out hw6)
            have H7s := hide (kep_linesF HN6s.out hw7)
            clear hw6 hw7
            unfold put8 at H6s H7s GBq
            simp only [Nat.zero_add] at H6s H7s GBq
            have hne1 : w.heap.size + 1 ≠ w.heap.size := by omega
            have hne2 : w.heap.size ≠ w.heap.size + 1 := by omega
            cases b with
            | true =>
              go_region
              all_goals
                go_wp2_with fail
                refine bodyPost_ret (v := .tuple #[.agg #[.int .i64 p.params, .int .i64 p.regs, .int .i64 p.line, .bool p.dots, .slice a4 p.nu k4, .slice a5 p.nc k5, .slice m6 M n6, .slice m7 M n7], .bool true]) ?_ rfl
                  ⟨q.kep (fun k => !q.cf.idl k), (.slice m6 M n6), (.slice m7 M n7), true, HE.out _, HHd.out, HSp.out, by exact Iff.intro (fun _ => .inl (HTn.out.1 trivial)) (fun _ => rfl), HGd.out, SlF.low H6s.out ((Below.refl _ _).drew) (Nat.le_refl _), SlF.low H7s.out ((Below.refl _ _).drew) (Nat.le_refl _), GBq.out.drew⟩
                simp [results, Tryz.results14, go_sem, r0, r1, r2, r3, r4, r5, r6, r7]
            | false =>
              have HFalse := hide (show M = p.ni → (false = true ↔ SpT p.cf (q.kep (fun k => !q.cf.idl k)).cf) from fun e => Iff.intro (fun h => by cases h) (fun h => by
                rcases h with h | h
                · have := HTn.out.2 h; simp at this
                · exact (h (HN6.out.symm.trans e)).elim))
              by_cases hMn : M = p.ni
              · have hMb : ((M : Int) != (p.ni : Int)) = false := by simp [hMn]
                have HMn := hide hMn
                clear hMn
                go_region_held3 (fun w9 => w9.cell? ⟨w.heap.size, 0, none⟩ = some (.int .i64 p.params) ∧ w9.cell? ⟨w.heap.size, 1, none⟩ = some (.int .i64 p.regs) ∧ w9.cell? ⟨w.heap.size, 2, none⟩ = some (.int .i64 p.line) ∧ w9.cell? ⟨w.heap.size, 3, none⟩ = some (.bool p.dots) ∧ w9.cell? ⟨w.heap.size, 4, none⟩ = some (.slice a4 p.nu k4) ∧ w9.cell? ⟨w.heap.size, 5, none⟩ = some (.slice a5 p.nc k5) ∧ w9.cell? ⟨w.heap.size, 6, none⟩ = some (.slice m6 M n6) ∧ w9.cell? ⟨w.heap.size, 7, none⟩ = some (.slice m7 M n7)) (go_keep) (fail)
                all_goals
                  go_wp2_with fail
                  refine bodyPost_ret (v := .tuple #[.agg #[.int .i64 p.params, .int .i64 p.regs, .int .i64 p.line, .bool p.dots, .slice a4 p.nu k4, .slice a5 p.nc k5, .slice m6 M n6, .slice m7 M n7], .bool false]) ?_ rfl
                    ⟨q.kep (fun k => !q.cf.idl k), (.slice m6 M n6), (.slice m7 M n7), false, HE.out _, HHd.out, HSp.out, by exact HFalse.out HMn.out, HGd.out, SlF.low H6s.out ((Below.refl _ _).drew) (Nat.le_refl _), SlF.low H7s.out ((Below.refl _ _).drew) (Nat.le_refl _), GBq.out.drew⟩
                  simp [results, Tryz.results14, go_sem, r0, r1, r2, r3, r4, r5, r6, r7]
              · have hMb : ((M : Int) != (p.ni : Int)) = true := by simp; omega
                have HMn := hide hMn
                clear hMn
                go_region_held3 (fun w9 => w9.cell? ⟨w.heap.size, 0, none⟩ = some (.int .i64 p.params) ∧ w9.cell? ⟨w.heap.size, 1, none⟩ = some (.int .i64 p.regs) ∧ w9.cell? ⟨w.heap.size, 2, none⟩ = some (.int .i64 p.line) ∧ w9.cell? ⟨w.heap.size, 3, none⟩ = some (.bool p.dots) ∧ w9.cell? ⟨w.heap.size, 4, none⟩ = some (.slice a4 p.nu k4) ∧ w9.cell? ⟨w.heap.size, 5, none⟩ = some (.slice a5 p.nc k5) ∧ w9.cell? ⟨w.heap.size, 6, none⟩ = some (.slice m6 M n6) ∧ w9.cell? ⟨w.heap.size, 7, none⟩ = some (.slice m7 M n7)) (go_keep) (fail)
                all_goals
                  go_wp2_with fail
                  refine bodyPost_ret (v := .tuple #[.agg #[.int .i64 p.params, .int .i64 p.regs, .int .i64 p.line, .bool p.dots, .slice a4 p.nu k4, .slice a5 p.nc k5, .slice m6 M n6, .slice m7 M n7], .bool true]) ?_ rfl
                    ⟨q.kep (fun k => !q.cf.idl k), (.slice m6 M n6), (.slice m7 M n7), true, HE.out _, HHd.out, HSp.out, by exact Iff.intro (fun _ => .inr (fun e => HMn.out (HN6.out.trans e))) (fun _ => rfl), HGd.out, SlF.low H6s.out ((Below.refl _ _).drew) (Nat.le_refl _), SlF.low H7s.out ((Below.refl _ _).drew) (Nat.le_refl _), GBq.out.drew⟩
                  simp [results, Tryz.results14, go_sem, r0, r1, r2, r3, r4, r5, r6, r7]
end Go.Proofs.YtgnbhhgpaldheaaGreat
