import Derived.Test.YtgnbhhgpaldheaaGreatKD11
namespace Go.Proofs.YtgnbhhgpaldheaaGreat
open Go Go.RowKit
set_option linter.unusedVariables false
set_option maxHeartbeats 6400000 in
set_option maxRecDepth 100000 in
theorem sconsts_any (p : PV) (s4 s5 s6 s7 : Value) (w : World) (hg : p.Good) (hnc : p.nc ≤ 1048576) (hno : p.nmOk) (h : PVA w p s4 s5 s6 s7) :
    Calls Tryz.prog 15 #[p.agg s4 s5 s6 s7] w fun e w' => ∃ v5 g6 c6, e = .returned (p.agg s4 v5 (.slice (some ⟨g6, 0, none⟩) p.ni c6) s7) ∧ w'.ownsRow w.heap.size 81 4 v5 (cnt (usd p p.ni) p.nc) (conK p (usd p p.ni) p.nc) ∧ w.heap.size ≤ g6 ∧ p.ni ≤ c6 ∧ InsO w' g6 p.ni p.cst.i0 p.cst.i1 p.cst.i2 p.cst.i3 ∧ Below w.heap.size w w' := by
  have HG := hide hg
  have HNo := hide hno
  have HA := hide h
  obtain ⟨a4, k4, rfl⟩ := h.u.val
  obtain ⟨a5, k5, rfl⟩ := h.c.val
  obtain ⟨a6, k6, rfl⟩ := h.i.val
  obtain ⟨a7, k7, rfl⟩ := h.l.val
  have hn := hg.le
  obtain ⟨i9, hi0, hz0, hz1, hz2⟩ := info_parts Tryz.info4
  have HI0 := hide (And.intro hi0 (And.intro hz0 (And.intro hz1 hz2)))
  clear hi0 hz0 hz1 hz2
  obtain ⟨j9, hi0, hz0, hz1, hz2⟩ := info_parts Tryz.info3
  have HJ0 := hide (And.intro hi0 (And.intro hz0 (And.intro hz1 hz2)))
  have hp0 := RowF.mk' w 45 #[.int .i64 p.params, .int .i64 p.regs, .int .i64 p.line, .bool p.dots, .slice a4 p.nu k4, .slice a5 p.nc k5, .slice a6 p.ni k6, .slice a7 p.nl k7]
  have HP0 := hide (hp0.low (b_1 _ (.cells #[.int .i64 0, .int .i64 0, .int .i64 0, .bool false, nilS, nilS, nilS, nilS] 45)) hp0.lt)
  have hq0 := RowF.mk' (w.alloc (.cells #[.int .i64 p.params, .int .i64 p.regs, .int .i64 p.line, .bool p.dots, .slice a4 p.nu k4, .slice a5 p.nc k5, .slice a6 p.ni k6, .slice a7 p.nl k7] 45)) 45 #[.int .i64 0, .int .i64 0, .int .i64 0, .bool false, nilS, nilS, nilS, nilS]
  rw [show (w.alloc (.cells #[.int .i64 p.params, .int .i64 p.regs, .int .i64 p.line, .bool p.dots, .slice a4 p.nu k4, .slice a5 p.nc k5, .slice a6 p.ni k6, .slice a7 p.nl k7] 45)).heap.size = w.heap.size + 1 by simp] at hq0
  have HQ0 := hide hq0
  have HB0 := hide (b_2 w (.cells #[.int .i64 p.params, .int .i64 p.regs, .int .i64 p.line, .bool p.dots, .slice a4 p.nu k4, .slice a5 p.nc k5, .slice a6 p.ni k6, .slice a7 p.nl k7] 45) (.cells #[.int .i64 0, .int .i64 0, .int .i64 0, .bool false, nilS, nilS, nilS, nilS] 45))
  have HSZ := hide (show ((w.alloc (.cells #[.int .i64 p.params, .int .i64 p.regs, .int .i64 p.line, .bool p.dots, .slice a4 p.nu k4, .slice a5 p.nc k5, .slice a6 p.ni k6, .slice a7 p.nl k7] 45)).alloc (.cells #[.int .i64 0, .int .i64 0, .int .i64 0, .bool false, nilS, nilS, nilS, nilS] 45)).heap.size = w.heap.size + 1 + 1 by simp)
  clear hp0 hq0 hg hno h hi0 hz0 hz1 hz2
  unfold PV.agg
  go_enter Tryz.func15, Tryz.ntmps15
  go_upto_region 2 with (first
      | (at_make
         refine wpList_make_full _ rfl _ _ 49 rfl w.heap.size 4 i9 (.bool false) 1 Tryz.underlying49 HI0.out.1 HI0.out.2.1 HI0.out.2.2.1 _ _ _ _ p.nc rfl rfl rfl rfl (by rw [HI0.out.2.2.2]; omega) (by unfold maxLen; omega) HB0.out.size ?_
         intro w1 hown hgrow
         have HB1 := hide (HB0.out.grown hgrow HB0.out.size (fun _ h => by cases h))
         have hB1 : Below (w.heap.size + 1 + 1) _ w1 := (Below.refl _ _).grown hgrow (by simp) (fun _ h => by cases h)
         have HP1 := hide (HP0.out.low hB1 (by omega))
         have HQ1 := hide (HQ0.out.low hB1 (by omega))
         have hr := rowF_owns hown
         rw [HSZ.out] at hr
         have HU1 : Hid (BoolO w1 (w.heap.size + 1 + 1) p.nc (usd p 0)) := hide (hr.congr (fun j hj => by
           rw [Nat.mul_one] at hj ⊢
           exact made_bool p.nc hj))
         clear hB1 hown hgrow hr)
      | fail)
  clear HP0 HQ0 HB0
  have c6 : w1.cell? ⟨w.heap.size, 6, none⟩ = some (.slice a6 p.ni k6) := HP1.out.cell (j := 6) (by simp)
  obtain ⟨gU, hgU⟩ : ∃ gU, w.heap.size + 1 + 1 = gU := ⟨_, rfl⟩
  rw [hgU] at HU1 ⊢
  have HGU := hide hgU
  clear hgU
  go_wp2_with fail
  clear c6
  go_loopw [20] (fun iv wr => ∃ i : Nat, i ≤ p.ni ∧ iv = .int .i64 i ∧ Hid (BoolO wr gU p.nc (usd p i)) ∧ Hid (Below gU w1 wr)) (fun iv _ => p.ni - ivN iv)
  case atStart => exact ⟨0, by omega, rfl, HU1, hide (Below.refl _ _)⟩
  case round =>
    clear HU1
    obtain ⟨i, hi, rfl, HU, HX⟩ := hrel
    have HBr := hide (HB1.out.trans (HX.out.mono (by have := HGU.out; omega)))
    by_cases hin : i < p.ni
    · obtain ⟨b0, o0, cp, hve, hb0, c0, c1, c2, c3⟩ := ins_at HA.out.i hin
      cases hve
      have d0 := (HBr.out.cell (p := ⟨b0, o0 + i * 4, none⟩) hb0).trans c0
      have d1 := (HBr.out.cell (p := ⟨b0, o0 + i * 4 + 1, none⟩) hb0).trans c1
      have d2 := (HBr.out.cell (p := ⟨b0, o0 + i * 4 + 2, none⟩) hb0).trans c2
      have d3 := (HBr.out.cell (p := ⟨b0, o0 + i * 4 + 3, none⟩) hb0).trans c3
      have hA := RowF.mk' wr 51 #[.int .i64 (p.i0 i), .int .i64 (p.i1 i), .int .i64 (p.i2 i), .int .i64 (p.i3 i)]
      have hbA := b_1 wr (.cells #[.int .i64 (p.i0 i), .int .i64 (p.i1 i), .int .i64 (p.i2 i), .int .i64 (p.i3 i)] 51)
      have HUX := hide (show BoolO _ gU p.nc (usd p i) from RowF.low HU.out hbA HU.out.lt)
      have HXX := hide (HX.out.trans (hbA.mono (by have := HU.out.lt; omega)))
      clear hbA c0 c1 c2 c3
      go_upto_region 5 with (fail)
      clear d0 d1 d2 d3
      generalize wr.alloc (.cells #[.int .i64 (p.i0 i), .int .i64 (p.i1 i), .int .i64 (p.i2 i), .int .i64 (p.i3 i)] 51) = wX at *
      generalize wr.heap.size = X at *
      have t0 : wX.cell? ⟨X, 0, none⟩ = some (.int .i64 (p.i0 i)) := hA.cell (j := 0) (by simp)
      have t2 : wX.cell? ⟨X, 2, none⟩ = some (.int .i64 (p.i2 i)) := hA.cell (j := 2) (by simp)
      have t3 : wX.cell? ⟨X, 3, none⟩ = some (.int .i64 (p.i3 i)) := hA.cell (j := 3) (by simp)
      clear hA
      obtain ⟨r1, r2⟩ := HNo.out i hin
      rcases nmK_cases (p.i0 i) with hk | hk | hk
      · have HND : Hid (nmd p i = none) := hide (by unfold nmd; rw [hk]; rfl)
        clear r1 r2
        go_wp2_with (first
          | (go_at_call 34; refine (names_any _ _).mono ?_; rintro e w' ⟨rfl, hw⟩; obtain rfl := hw.symm; rw [hk])
          | fail)
        go_roundw
        case rel => exact ⟨i + 1, by omega, by simp, hide (HUX.out.congr (fun j _ => by rw [usd_1, HND.out]; simp)), HXX⟩
        case measure => simp [ivN]; omega
      · obtain ⟨q1, q2⟩ := r1 hk
        clear r1 r2
        obtain ⟨m, hm⟩ : ∃ m : Nat, p.i2 i = (m : Int) := ⟨(p.i2 i).toNat, by omega⟩
        have hmn : m < p.nc := by omega
        have hnd : nmd p i = some m := by unfold nmd; rw [if_pos hk, hm]; rfl
        rw [hm] at t2
        have hu : wX.cell? ⟨gU, m, none⟩ = some (.bool (usd p i m)) := HUX.out.cell (j := m) (by omega)
        have zu := RowF.frz HUX.out m
        have HND := hide hnd
        clear hm hnd q1 q2
        go_wp2_with (first
          | (go_at_call 34; refine (names_any _ _).mono ?_; rintro e w' ⟨rfl, hw⟩; obtain rfl := hw.symm; rw [hk])
          | fail)
        go_roundw
        case rel => exact ⟨i + 1, by omega, by simp, hide ((HUX.out.set hmn true).congr (fun j _ => by
          rw [usd_1, HND.out]
          by_cases e : j = m
          · subst e; simp
          · have e2 : ¬ (some m == some j) = true := by simp; omega
            simp [e, e2])), hide (HXX.out.setCell (Nat.le_refl _) _)⟩
        case measure => simp [ivN]; omega
      · obtain ⟨q1, q2⟩ := r2 hk
        clear r1 r2
        obtain ⟨m, hm⟩ : ∃ m : Nat, p.i3 i = (m : Int) := ⟨(p.i3 i).toNat, by omega⟩
        have hmn : m < p.nc := by omega
        have hnd : nmd p i = some m := by unfold nmd; rw [if_neg (by rw [hk]; decide), if_pos hk, hm]; rfl
        rw [hm] at t3
        have hu : wX.cell? ⟨gU, m, none⟩ = some (.bool (usd p i m)) := HUX.out.cell (j := m) (by omega)
        have zu := RowF.frz HUX.out m
        have HND := hide hnd
        clear hm hnd q1 q2
        go_wp2_with (first
          | (go_at_call 34; refine (names_any _ _).mono ?_; rintro e w' ⟨rfl, hw⟩; obtain rfl := hw.symm; rw [hk])
          | fail)
        go_roundw
        case rel => exact ⟨i + 1, by omega, by simp, hide ((HUX.out.set hmn true).congr (fun j _ => by
          rw [usd_1, HND.out]
          by_cases e : j = m
          · subst e; simp
          · have e2 : ¬ (some m == some j) = true := by simp; omega
            simp [e, e2])), hide (HXX.out.setCell (Nat.le_refl _) _)⟩
        case measure => simp [ivN]; omega
    · obtain rfl : i = p.ni := by omega
      have HPw := hide (HP1.out.low HX.out (by have := HGU.out; omega))
      have HQw := hide (HQ1.out.low HX.out (by have := HGU.out; omega))
      have hlt : gU < wr.heap.size := HU.out.lt
      have e5 : wr.cell? ⟨w.heap.size, 5, none⟩ = some (.slice a5 p.nc k5) := HPw.out.cell (j := 5) (by simp)
      clear HX HB1 HP1 HQ1
      go_upto_region 12 with (first
        | (at_make
           refine wpList_make_full _ rfl _ _ 43 rfl w.heap.size 3 j9 (.int .i64 0) 1 Tryz.underlying43 HJ0.out.1 HJ0.out.2.1 HJ0.out.2.2.1 _ _ _ _ p.nc rfl rfl rfl rfl (by rw [HJ0.out.2.2.2]; omega) (by unfold maxLen; omega) HBr.out.size ?_
           intro w2 hown hgrow
           have hB2 : Below wr.heap.size wr w2 := (Below.refl _ _).grown hgrow (Nat.le_refl _) (fun _ h => by cases h)
           have HP2 := hide (HPw.out.low hB2 HPw.out.lt)
           have HQ2 := hide (HQw.out.low hB2 HQw.out.lt)
           have HU2 := hide (show BoolO w2 gU p.nc (usd p p.ni) from RowF.low HU.out hB2 hlt)
           have HB2 := hide (HBr.out.trans (hB2.mono HBr.out.size))
           have HT2 : Hid (RowF w2 3 wr.heap.size (p.nc * 1) (fun j => .int .i64 (if j < 0 then (cnt (usd p p.ni) j : Int) else 0))) := hide ((rowF_owns hown).congr (fun j hj => by
             rw [Nat.mul_one] at hj
             rw [Nat.mul_one, made_int p.nc hj]
             simp))
           clear hB2 hown hgrow)
        | fail)
      clear e5 HPw HQw HU HBr
      generalize wr.heap.size = G2 at *
      have hl2 : G2 < w2.heap.size := HT2.out.lt
      have e5 : (w2.alloc (.cells #[] 81)).cell? ⟨w.heap.size, 5, none⟩ = some (.slice a5 p.nc k5) := ((b_1 w2 _).cell (p := ⟨w.heap.size, 5, none⟩) HP2.out.lt).trans (HP2.out.cell (j := 5) (by simp))
      obtain ⟨s, hs⟩ : ∃ s, usd p p.ni = s := ⟨_, rfl⟩
      rw [hs] at HU2 HT2
      have HSs := hide hs
      clear hs
      have HN0 : Hid ((w2.alloc (.cells #[] 81)).ownsRow (G2 + 1) 81 4 (.slice (some ⟨w2.heap.size, 0, none⟩) 0 0) (cnt s 0) (conK p s 0)) := hide ⟨by simp [cnt_0, conK, kp], .inr ⟨w2.heap.size, 0, #[], rfl, hl2, heap_alloc_new w2 _, Nat.le_refl _, by unfold maxLen; omega, by simp, by simp [conK, kp]⟩⟩
      have HT3 := hide (HT2.out.low (b_1 w2 (.cells #[] 81)) hl2)
      have hb3 := b_1 w2 (.cells #[] 81)
      have HX3 := hide (hb3.mono (B' := G2) (Nat.le_of_lt hl2))
      clear hb3 HT2
      go_wp2_with fail
      clear e5
      go_loopw [7, 48] (fun lv kv wq => ∃ k : Nat, k ≤ p.nc ∧ kv = .int .i64 k ∧ Hid (wq.ownsRow (G2 + 1) 81 4 lv (cnt s k) (conK p s k)) ∧ Hid (RowF wq 3 G2 (p.nc * 1) (fun j => .int .i64 (if j < k then (cnt s j : Int) else 0))) ∧ Hid (Below G2 w2 wq)) (fun _ kv _ => p.nc - ivN kv)
      case atStart => exact ⟨0, by omega, rfl, HN0, HT3, HX3⟩
      case round =>
        clear HN0 HT3 HX3
        obtain ⟨k, hk, rfl, HL, HT, HX⟩ := hrel
        obtain ⟨la, lc, rfl⟩ := owns_val HL.out
        have HBr := hide (HB2.out.trans (HX.out.mono (by have := HGU.out; omega)))
        by_cases hin : k < p.nc
        · rcases HA.out.c with ⟨h9, _⟩ | ⟨bc, oc, cc, hve, hbc, hcp, hcc⟩
          · omega
          cases hve
          obtain ⟨x0, x1, x2, x3⟩ := hcc k hin
          have d0 := (HBr.out.cell (p := ⟨bc, oc + k * 4, none⟩) hbc).trans x0
          have d1 := (HBr.out.cell (p := ⟨bc, oc + k * 4 + 1, none⟩) hbc).trans x1
          have d2 := (HBr.out.cell (p := ⟨bc, oc + k * 4 + 2, none⟩) hbc).trans x2
          have d3 := (HBr.out.cell (p := ⟨bc, oc + k * 4 + 3, none⟩) hbc).trans x3
          clear x0 x1 x2 x3 hcc hcp
          have hA := RowF.mk' wr 81 #[.int .i64 (p.c0 k), .int .i64 (p.c1 k), .int .u64 (p.c2 k), .string (p.c3 k)]
          have hbA := b_1 wr (.cells #[.int .i64 (p.c0 k), .int .i64 (p.c1 k), .int .u64 (p.c2 k), .string (p.c3 k)] 81)
          have hgt : G2 < wr.heap.size := HT.out.lt
          have hTA := HT.out.low hbA hgt
          have HLA := hide (HL.out.alloc (.cells #[.int .i64 (p.c0 k), .int .i64 (p.c1 k), .int .u64 (p.c2 k), .string (p.c3 k)] 81))
          have HLb := hide (fun g (e : (Value.slice la (cnt s k) lc).ownBlock = some g) => (owns_blk HL.out e).2)
          have HXA := hide (HX.out.trans (hbA.mono (B' := G2) (Nat.le_of_lt hgt)))
          have hcl := cnt_le s k
          have hc1 := cnt_1 s k
          clear hbA
          go_upto_region 16 with (fail)
          clear d0 d1 d2 d3
          generalize wr.alloc (.cells #[.int .i64 (p.c0 k), .int .i64 (p.c1 k), .int .u64 (p.c2 k), .string (p.c3 k)] 81) = wX at *
          generalize wr.heap.size = X at *
          have g0 : wX.cell? ⟨G2, k, none⟩ = some (.int .i64 (if k < k then (cnt s k : Int) else 0)) := hTA.cell (j := k) (by omega)
          have z0 := hTA.frz k
          go_upto_region 17 with (fail)
          have hKp : Keeps wX (wX.setCell ⟨G2, k, none⟩ (.int .i64 (cnt s k : Int))) (fun b => b = G2) := (Keeps.refl wX (fun b => b = G2)).setCell (j := k) rfl (.int .i64 (cnt s k : Int))
          have HTB := hide ((hTA.set (j := k) (by omega) (.int .i64 (cnt s k : Int))).congr (f' := fun j => .int .i64 (if j < k + 1 then (cnt s j : Int) else 0)) (fun j _ => by
            by_cases e : j = k
            · subst e; simp
            · by_cases e2 : j < k
              · simp only [if_neg e, if_pos e2, if_pos (show j < k + 1 by omega)]
              · simp only [if_neg e, if_neg e2, if_neg (show ¬ j < k + 1 by omega)]))
          have HLB := hide (owns_past HLA.out hKp (fun g e hg => by have := (owns_blk HLA.out e).1; omega))
          have hXn : X ≠ G2 := by omega
          have hB := hA.keep hKp (fun e => hXn e)
          have HXB := hide (HXA.out.setCell (p := ⟨G2, k, none⟩) (Nat.le_refl _) (.int .i64 (cnt s k : Int)))
          clear g0 z0 hTA hKp HLA HXA hA
          generalize wX.setCell ⟨G2, k, none⟩ (.int .i64 (cnt s k : Int)) = wY at *
          have ck : wY.cell? ⟨gU, k, none⟩ = some (.bool (s k)) := (HXB.out.cell (p := ⟨gU, k, none⟩) (by omega)).trans (RowF.cell HU2.out (j := k) (by omega))
          cases hs : s k with
          | false =>
            rw [hs] at ck hc1
            have HC := hide hc1
            have HSk := hide hs
            clear hc1 hs hB
            go_wp2_with fail
            go_roundw
            case rel => exact ⟨k + 1, by omega, by simp, hide (by rw [conK_n _ _ _ HSk.out, HC.out]; exact HLB.out), HTB, HXB⟩
            case measure => simp [ivN]; omega
          | true =>
            rw [hs] at ck hc1
            have HC := hide hc1
            have HSk := hide hs
            clear hc1 hs
            have y0 : wY.cell? ⟨X, 0, none⟩ = some (.int .i64 (p.c0 k)) := hB.cell (j := 0) (by simp)
            have y1 : wY.cell? ⟨X, 1, none⟩ = some (.int .i64 (p.c1 k)) := hB.cell (j := 1) (by simp)
            have y2 : wY.cell? ⟨X, 2, none⟩ = some (.int .u64 (p.c2 k)) := hB.cell (j := 2) (by simp)
            have y3 : wY.cell? ⟨X, 3, none⟩ = some (.string (p.c3 k)) := hB.cell (j := 3) (by simp)
            clear hB
            go_wp2_with (first
              | (at_builtin
                 refine app_k rfl (.tmp 62) (.tmp 64) 41 81 4 40 _ rfl Tryz.underlying41 Tryz.info81 rfl (by decide) (G2 + 1) (.slice la (cnt s k) lc) (cnt s k) (conK p s k) [.int .i64 (p.c0 k), .int .i64 (p.c1 k), .int .u64 (p.c2 k), .string (p.c3 k)] HLB.out rfl rfl rfl (by simp [Value.oneCell']) (by omega) (by decide) (by have := HTB.out.lt; omega) ?_
                 intro v6 w6 hv6 hk6 hg6
                 have HT6 := hide (HTB.out.keep hk6 (fun e => by have := (owns_blk HLB.out e).1; omega))
                 have HX6 := hide (HXB.out.trans (hk6.below (B := G2) (by have := HTB.out.lt; omega) (fun b e => by have := (owns_blk HLB.out e).1; omega)))
                 have HV6 := hide hv6
                 clear hv6 hk6 hg6)
              | fail)
            go_roundw
            case rel => exact ⟨k + 1, by omega, by simp, hide (by rw [conK_1 _ _ _ HSk.out, HC.out]; exact HV6.out), HT6, HX6⟩
            case measure => simp [ivN]; omega
        · obtain rfl : k = p.nc := by omega
          have HPw := hide (HP2.out.low HX.out (by have := HGU.out; omega))
          have HQw := hide (HQ2.out.low HX.out (by have := HGU.out; omega))
          have hgE : G2 < wr.heap.size := HT.out.lt
          have hn1 : 0 < p.ni := by have := (Cf.nf_L HG.out.ok.e).1.1; exact Nat.lt_of_le_of_lt (Nat.zero_le _) this
          have HT9 := hide (HT.out.congr (f' := fun j => .int .i64 (if j < p.nc then (cnt s j : Int) else 0)) (fun _ _ => rfl))
          clear HP2 HQ2 HT HX HB2 HU2
          obtain ⟨wE, rfl⟩ : ∃ wE, wE = wr := ⟨_, rfl⟩
          have HLL := hide HL.out
          rcases HA.out.i with ⟨h9, _⟩ | ⟨bi, oi, ci, hve, hbi, hcapi, hci⟩
          · omega
          cases hve
          have HCi := hide (fun j (hj : j < p.ni * 4) => ins_cells hci hj)
          clear hci
          obtain ⟨q9, hi0, hz0, hz1, hz2⟩ := info_parts Tryz.info51
          have HI9 := hide (And.intro hi0 (And.intro hz0 (And.intro hz1 hz2)))
          clear hi0 hz0 hz1 hz2
          have HBe := hide (b_1 wE (.cells #[] 51))
          have HE0 := hide (show (wE.alloc (.cells #[] 51)).ownsRow wE.heap.size 51 4 (.slice (some ⟨wE.heap.size, 0, none⟩) 0 0) 0 [] from ⟨by simp, .inr ⟨wE.heap.size, 0, #[], rfl, Nat.le_refl _, heap_alloc_new wE _, Nat.le_refl _, by unfold maxLen; omega, by simp, by simp⟩⟩)
          have e6 : (wE.alloc (.cells #[] 51)).cell? ⟨w.heap.size, 6, none⟩ = some (.slice (some ⟨bi, oi, none⟩) p.ni k6) := (HBe.out.cell (p := ⟨w.heap.size, 6, none⟩) HPw.out.lt).trans (HPw.out.cell (j := 6) (by simp))
          have HBi := hide (HBr.out.trans (HBe.out.mono HBr.out.size))
          go_upto_region 21 with (first
            | (at_builtin
               refine wpList_append_at _ rfl (.tmp 67) (.tmp 69) 42 rfl wE.heap.size 51 q9 (.agg #[.int .i64 0, .int .i64 0, .int .i64 0, .int .i64 0]) 4 32 Tryz.underlying42 HI9.out.1 HI9.out.2.1 HI9.out.2.2.1 HI9.out.2.2.2 rfl (by decide) (.slice (some ⟨wE.heap.size, 0, none⟩) 0 0) 0 [] rfl HE0.out ⟨bi, oi, none⟩ p.ni k6 ((List.range (p.ni * 4)).map (insC p.i0 p.i1 p.i2 p.i3)) rfl (by simp) (fun j u hj => ?_) (fun u hu => ?_) (by unfold maxLen; omega) (by omega) HBe.out.size hn1 ?_
               · have hjl : j < p.ni * 4 := by have := (List.getElem?_eq_some_iff.1 hj).1; simpa using this
                 rw [add_none', HBi.out.cell (p := ⟨bi, oi + j, none⟩) hbi, HCi.out j hjl]
                 simp [hjl] at hj
                 rw [hj]
               · simp only [List.mem_map] at hu
                 obtain ⟨c, _, rfl⟩ := hu
                 exact insC_one _ _ _ _ _
               intro v' w3 hv1 hv2 hv3
               rw [Nat.zero_add, List.nil_append] at hv1
               obtain ⟨Gx, cap1, hvf⟩ := owns_val hv1
               subst hvf)
            | fail)
          rcases hv1.2 with ⟨h9, h9'⟩ | ⟨G3, capx, cur, hvv, hGl, hGh, hcap1, hr2⟩
          · omega
          simp only [Value.slice.injEq, true_and] at hvv
          obtain ⟨rfl, rfl⟩ := hvv
          have HI3 := hide (InsO.of_row (rowF_owns hv1) (fun j hj => by simp [hj]) : InsO w3 G3 p.ni p.i0 p.i1 p.i2 p.i3)
          have HX3 := hide (HBe.out.grown hv2 HBe.out.size (fun x e => by simp [Value.ownBlock] at e; omega))
          have HG3 := hide hGl
          have HCap := hide hcap1
          clear hv1 hv2 hv3 hGh hr2 HE0 HCi HI9 e6 HBe HBi hGl hcap1
          go_wp2_with fail
          go_loopw [73] (fun kv wq => ∃ k : Nat, k ≤ p.ni ∧ kv = .int .i64 k ∧ Hid (InsO wq G3 p.ni p.i0 p.i1 (upK p.cst.i2 p.i2 k) (upK p.cst.i3 p.i3 k)) ∧ Hid (Below wE.heap.size wE wq)) (fun kv _ => p.ni - ivN kv)
          case atStart => exact ⟨0, by omega, rfl, hide (HI3.out.congr (fun _ _ => rfl) (fun _ _ => rfl) (fun j _ => upK_0 _ _ j) (fun j _ => upK_0 _ _ j)), HX3⟩
          case round =>
            clear HI3 HX3
            obtain ⟨k, hk, rfl, HI, HX⟩ := hrel
            by_cases hin : k < p.ni
            · obtain ⟨d0, d1, d2, d3⟩ := HI.out.cells hin
              rw [upK_k] at d2 d3
              have hA := RowF.mk' wr 51 #[.int .i64 (p.i0 k), .int .i64 (p.i1 k), .int .i64 (p.i2 k), .int .i64 (p.i3 k)]
              have hbA := b_1 wr (.cells #[.int .i64 (p.i0 k), .int .i64 (p.i1 k), .int .i64 (p.i2 k), .int .i64 (p.i3 k)] 51)
              have hgl : G3 < wr.heap.size := HI.out.lt
              have HIX := hide (HI.out.low hbA hgl)
              have HXX := hide (HX.out.trans (hbA.mono (by have := HG3.out; omega)))
              have hTX := HT9.out.low HXX.out hgE
              clear hbA
              go_upto_region 24 with (fail)
              clear d0 d1 d2 d3
              generalize wr.alloc (.cells #[.int .i64 (p.i0 k), .int .i64 (p.i1 k), .int .i64 (p.i2 k), .int .i64 (p.i3 k)] 51) = wX at *
              generalize wr.heap.size = X at *
              have t0 : wX.cell? ⟨X, 0, none⟩ = some (.int .i64 (p.i0 k)) := hA.cell (j := 0) (by simp)
              have t2 : wX.cell? ⟨X, 2, none⟩ = some (.int .i64 (p.i2 k)) := hA.cell (j := 2) (by simp)
              have t3 : wX.cell? ⟨X, 3, none⟩ = some (.int .i64 (p.i3 k)) := hA.cell (j := 3) (by simp)
              obtain ⟨d0, d1, d2, d3⟩ := HIX.out.cells hin
              rw [upK_k] at d2 d3
              have z2 := HIX.out.frz (k * 4 + 2)
              have z3 := HIX.out.frz (k * 4 + 3)
              clear hA
              obtain ⟨r1, r2⟩ := HNo.out k hin
              rcases nmK_cases (p.i0 k) with hkk | hkk | hkk
              · have HE2 : Hid (p.cst.i2 k = p.i2 k) := hide (by show (if nmK (p.i0 k) = 1 then _ else p.i2 k) = _; rw [if_neg (by rw [hkk]; decide)])
                have HE3 : Hid (p.cst.i3 k = p.i3 k) := hide (by show (if nmK (p.i0 k) = 2 then _ else p.i3 k) = _; rw [if_neg (by rw [hkk]; decide)])
                clear r1 r2 hTX
                go_wp2_with (first
                  | (go_at_call 34; refine (names_any _ _).mono ?_; rintro e w' ⟨rfl, hw⟩; obtain rfl := hw.symm; rw [hkk])
                  | fail)
                go_roundw
                case rel => exact ⟨k + 1, by omega, by simp, hide (HIX.out.congr (fun _ _ => rfl) (fun _ _ => rfl) (fun j _ => upK_1 j HE2.out) (fun j _ => upK_1 j HE3.out)), HXX⟩
                case measure => simp [ivN]; omega
              · obtain ⟨q1, q2⟩ := r1 hkk
                clear r1 r2
                obtain ⟨m, hm⟩ : ∃ m : Nat, p.i2 k = (m : Int) := ⟨(p.i2 k).toNat, by omega⟩
                have hmn : m < p.nc := by omega
                have HV : Hid (p.cst.i2 k = (cnt s m : Int)) := hide (by show (if nmK (p.i0 k) = 1 then (cnt (usd p p.ni) (p.i2 k).toNat : Int) else p.i2 k) = _; rw [if_pos hkk, hm, HSs.out]; rfl)
                have HE : Hid (p.cst.i3 k = p.i3 k) := hide (by show (if nmK (p.i0 k) = 2 then _ else p.i3 k) = _; rw [if_neg (by rw [hkk]; decide)])
                rw [hm] at t2
                have hto : wX.cell? ⟨G2, m, none⟩ = some (.int .i64 (cnt s m : Int)) := by rw [hTX.cell (j := m) (by omega), if_pos hmn]
                clear hm q1 q2
                go_wp2_with (first
                  | (go_at_call 34; refine (names_any _ _).mono ?_; rintro e w' ⟨rfl, hw⟩; obtain rfl := hw.symm; rw [hkk])
                  | fail)
                go_roundw
                case rel => exact ⟨k + 1, by omega, by simp, hide ((HIX.out.set2 hin (cnt s m : Int)).congr (fun _ _ => rfl) (fun _ _ => rfl) (fun j _ => by rw [upK_s]; by_cases e : j = k <;> simp [e, HV.out]) (fun j _ => upK_1 j HE.out)), hide (HXX.out.setCell (p := ⟨G3, k * 4 + 2, none⟩) HG3.out _)⟩
                case measure => simp [ivN]; omega
              · obtain ⟨q1, q2⟩ := r2 hkk
                clear r1 r2
                obtain ⟨m, hm⟩ : ∃ m : Nat, p.i3 k = (m : Int) := ⟨(p.i3 k).toNat, by omega⟩
                have hmn : m < p.nc := by omega
                have HV : Hid (p.cst.i3 k = (cnt s m : Int)) := hide (by show (if nmK (p.i0 k) = 2 then (cnt (usd p p.ni) (p.i3 k).toNat : Int) else p.i3 k) = _; rw [if_pos hkk, hm, HSs.out]; rfl)
                have HE : Hid (p.cst.i2 k = p.i2 k) := hide (by show (if nmK (p.i0 k) = 1 then _ else p.i2 k) = _; rw [if_neg (by rw [hkk]; decide)])
                rw [hm] at t3
                have hto : wX.cell? ⟨G2, m, none⟩ = some (.int .i64 (cnt s m : Int)) := by rw [hTX.cell (j := m) (by omega), if_pos hmn]
                clear hm q1 q2
                go_wp2_with (first
                  | (go_at_call 34; refine (names_any _ _).mono ?_; rintro e w' ⟨rfl, hw⟩; obtain rfl := hw.symm; rw [hkk])
                  | fail)
                go_roundw
                case rel => exact ⟨k + 1, by omega, by simp, hide ((HIX.out.set3 hin (cnt s m : Int)).congr (fun _ _ => rfl) (fun _ _ => rfl) (fun j _ => upK_1 j HE.out) (fun j _ => by rw [upK_s]; by_cases e : j = k <;> simp [e, HV.out])), hide (HXX.out.setCell (p := ⟨G3, k * 4 + 3, none⟩) HG3.out _)⟩
                case measure => simp [ivN]; omega
            · obtain rfl : k = p.ni := by omega
              have hP := HPw.out.low HX.out HPw.out.lt
              have hlE : w.heap.size + 1 < wE.heap.size := HQw.out.lt
              have f5 := hP.frz 5
              have f6 := hP.frz 6
              have o5 : wr.cell? ⟨w.heap.size, 5, none⟩ = some (.slice a5 p.nc k5) := hP.cell (j := 5) (by simp)
              have o6 : wr.cell? ⟨w.heap.size, 6, none⟩ = some (.slice (some ⟨bi, oi, none⟩) p.ni k6) := hP.cell (j := 6) (by simp)
              have HR := hide (((hP.set (j := 5) (by simp) (.slice la (cnt s p.nc) lc)).set (j := 6) (by simp) (.slice (some ⟨G3, 0, none⟩) p.ni cap1)).congr (f' := fun j => (#[.int .i64 p.params, .int .i64 p.regs, .int .i64 p.line, .bool p.dots, .slice a4 p.nu k4, .slice la (cnt s p.nc) lc, .slice (some ⟨G3, 0, none⟩) p.ni cap1, .slice a7 p.nl k7] : Array Value).getD j (.bool false)) (fun j hj => by
                try simp at hj
                rcases (show j = 0 ∨ j = 1 ∨ j = 2 ∨ j = 3 ∨ j = 4 ∨ j = 5 ∨ j = 6 ∨ j = 7 by omega) with rfl | rfl | rfl | rfl | rfl | rfl | rfl | rfl <;> rfl))
              have hK : Keeps wr ((wr.setCell ⟨w.heap.size, 5, none⟩ (.slice la (cnt s p.nc) lc)).setCell ⟨w.heap.size, 6, none⟩ (.slice (some ⟨G3, 0, none⟩) p.ni cap1)) (fun b => b = w.heap.size) := ((Keeps.refl wr (fun b => b = w.heap.size)).setCell (j := 5) rfl _).setCell (j := 6) rfl _
              have HK := hide hK
              have HLe := hide (owns_past (owns_low HLL.out HX.out) hK (fun g e hg => by have := (owns_blk HLL.out e).1; have := HGU.out; omega))
              have HIe := hide (HI.out.keep hK (fun e => by have := HG3.out; omega))
              have HQe := hide ((HQw.out.low HX.out HQw.out.lt).keep hK (fun e => by omega))
              have HBe := hide ((HBr.out.trans (HX.out.mono (by omega))).trans (hK.below (B := w.heap.size) (by have := HX.out.size; omega) (fun b e => by omega)))
              clear hP hK
              go_upto_region 32 with (fail)
              clear o5 o6 f5 f6
              generalize (wr.setCell ⟨w.heap.size, 5, none⟩ (.slice la (cnt s p.nc) lc)).setCell ⟨w.heap.size, 6, none⟩ (.slice (some ⟨G3, 0, none⟩) p.ni cap1) = wf at *
              have e0 : wf.cell? ⟨w.heap.size, 0, none⟩ = some (.int .i64 p.params) := HR.out.cell (j := 0) (by simp)
              have q0 := HQe.out.cell (j := 0) (by simp)
              have z0 := HQe.out.frz 0
              have e1 : wf.cell? ⟨w.heap.size, 1, none⟩ = some (.int .i64 p.regs) := HR.out.cell (j := 1) (by simp)
              have q1 := HQe.out.cell (j := 1) (by simp)
              have z1 := HQe.out.frz 1
              have e2 : wf.cell? ⟨w.heap.size, 2, none⟩ = some (.int .i64 p.line) := HR.out.cell (j := 2) (by simp)
              have q2 := HQe.out.cell (j := 2) (by simp)
              have z2 := HQe.out.frz 2
              have e3 : wf.cell? ⟨w.heap.size, 3, none⟩ = some (.bool p.dots) := HR.out.cell (j := 3) (by simp)
              have q3 := HQe.out.cell (j := 3) (by simp)
              have z3 := HQe.out.frz 3
              have e4 : wf.cell? ⟨w.heap.size, 4, none⟩ = some (.slice a4 p.nu k4) := HR.out.cell (j := 4) (by simp)
              have q4 := HQe.out.cell (j := 4) (by simp)
              have z4 := HQe.out.frz 4
              have e5 : wf.cell? ⟨w.heap.size, 5, none⟩ = some (.slice la (cnt s p.nc) lc) := HR.out.cell (j := 5) (by simp)
              have q5 := HQe.out.cell (j := 5) (by simp)
              have z5 := HQe.out.frz 5
              have e6 : wf.cell? ⟨w.heap.size, 6, none⟩ = some (.slice (some ⟨G3, 0, none⟩) p.ni cap1) := HR.out.cell (j := 6) (by simp)
              have q6 := HQe.out.cell (j := 6) (by simp)
              have z6 := HQe.out.frz 6
              have e7 : wf.cell? ⟨w.heap.size, 7, none⟩ = some (.slice a7 p.nl k7) := HR.out.cell (j := 7) (by simp)
              have q7 := HQe.out.cell (j := 7) (by simp)
              have z7 := HQe.out.frz 7
              have HKp := hide (put8_keeps wf (w.heap.size + 1) (.int .i64 p.params) (.int .i64 p.regs) (.int .i64 p.line) (.bool p.dots) (.slice a4 p.nu k4) (.slice la (cnt s p.nc) lc) (.slice (some ⟨G3, 0, none⟩) p.ni cap1) (.slice a7 p.nl k7))
              go_wp2_with fail
              refine bodyPost_ret (v := .agg #[.int .i64 p.params, .int .i64 p.regs, .int .i64 p.line, .bool p.dots, .slice a4 p.nu k4, .slice la (cnt s p.nc) lc, .slice (some ⟨G3, 0, none⟩) p.ni cap1, .slice a7 p.nl k7]) ?_ rfl
                ⟨_, G3, cap1, rfl, by rw [HSs.out]; exact owns_less (owns_past HLe.out HKp.out (fun g e hg => by have := (owns_blk HLe.out e).1; have := HGU.out; omega)) (by have := HGU.out; omega), by have := HG3.out; omega, HCap.out, (HIe.out.keep HKp.out (fun e => by have := HG3.out; omega)).congr (fun _ _ => rfl) (fun _ _ => rfl) (fun j hj => (upK_n (Nat.le_refl _) hj).symm) (fun j hj => (upK_n (Nat.le_refl _) hj).symm), HBe.out.trans (HKp.out.below (B := w.heap.size) HBe.out.size (fun b e => by omega))⟩
              simp [results, Tryz.results15, go_sem, q0, q1, q2, q3, q4, q5, q6, q7]
end Go.Proofs.YtgnbhhgpaldheaaGreat
