import Derived.Test.YtgnbhhgpaldheaaGreatKD19
namespace Go.Proofs.YtgnbhhgpaldheaaGreat
open Go Go.RowKit
set_option linter.unusedVariables false
set_option maxHeartbeats 3200000 in
set_option maxRecDepth 100000 in
theorem soptimize_any (v : Value) (n : Nat) (P : Nat → PV) (w : World) (hn : n ≤ 1048576) (hf : allFit n P 1048576) (hbit : allBits n P) (h : ProsA w v n P) :
    Calls Tryz.prog 5 #[.agg #[v]] w fun e w' => OptR n P w e w' := by
  have HA := hide h
  obtain ⟨a0, k0, rfl⟩ := h.val
  have HF := hide hf
  have HBit := hide hbit
  clear h hf hbit
  have HB0 := hide (b_3 w (.cells #[.slice a0 n k0] 28) (.cells #[nilS] 28) (.cells #[.int .i64 0, .int .i64 0, .int .i64 0] 30))
  have hC := RowF.mk' w 28 #[.slice a0 n k0]
  have HC0 := hide (hC.low (b_2 _ (.cells #[nilS] 28) (.cells #[.int .i64 0, .int .i64 0, .int .i64 0] 30)) hC.lt)
  have hR := RowF.mk' (w.alloc (.cells #[.slice a0 n k0] 28)) 28 #[nilS]
  have HR0 := hide (hR.low (b_1 _ (.cells #[.int .i64 0, .int .i64 0, .int .i64 0] 30)) hR.lt)
  have HV0 := hide (RowF.mk' ((w.alloc (.cells #[.slice a0 n k0] 28)).alloc (.cells #[nilS] 28)) 30 #[.int .i64 0, .int .i64 0, .int .i64 0])
  rw [show (w.alloc (.cells #[.slice a0 n k0] 28)).heap.size = w.heap.size + 1 by simp] at HR0
  rw [show ((w.alloc (.cells #[.slice a0 n k0] 28)).alloc (.cells #[nilS] 28)).heap.size = w.heap.size + 1 + 1 by simp] at HV0
  clear hC hR
  go_enter Tryz.func5, Tryz.ntmps5
  go_upto_region 2 with (first
    | (go_at_call 13
       refine (specVerify_any _ n P _ hn HF.out HBit.out (HA.out.low HB0.out (Nat.le_refl _))).mono ?_
       rintro e w1 ⟨va, vb, vc, rfl, hV, hb1⟩
       unfold verV
       have HV := hide hV
       have HB1 := hide (HB0.out.trans (hb1.mono HB0.out.size))
       have HC1 := hide (HC0.out.low hb1 HC0.out.lt)
       have HR1 := hide (HR0.out.low hb1 HR0.out.lt)
       have HV1 := hide (HV0.out.low hb1 HV0.out.lt)
       clear hV hb1)
    | fail)
  have hX := RowF.mk' w1 30 #[.int .i64 va, .int .i64 vb, .int .i64 vc]
  have hbX := b_1 w1 (.cells #[.int .i64 va, .int .i64 vb, .int .i64 vc] 30)
  have HB2 := hide (HB1.out.trans (hbX.mono HB1.out.size))
  have HC2 := hide (HC1.out.low hbX HC1.out.lt)
  have HR2 := hide (HR1.out.low hbX HR1.out.lt)
  have HV2 := hide (HV1.out.low hbX HV1.out.lt)
  have HX2 := hide hX
  have HX1 := hide HV1.out.lt
  clear hX hbX HB1 HC1 HR1 HV1 HB0 HC0 HR0 HV0
  have hx1 : w1.heap.size < (w1.alloc (.cells #[.int .i64 va, .int .i64 vb, .int .i64 vc] 30)).heap.size := HX2.out.lt
  generalize w1.alloc (.cells #[.int .i64 va, .int .i64 vb, .int .i64 vc] 30) = w2 at *
  generalize w1.heap.size = X at *
  have x0 : w2.cell? ⟨X, 0, none⟩ = some (.int .i64 va) := HX2.out.cell (j := 0) (by simp)
  have x1 : w2.cell? ⟨X, 1, none⟩ = some (.int .i64 vb) := HX2.out.cell (j := 1) (by simp)
  have x2 : w2.cell? ⟨X, 2, none⟩ = some (.int .i64 vc) := HX2.out.cell (j := 2) (by simp)
  have r0 : w2.cell? ⟨w.heap.size + 1, 0, none⟩ = some nilS := HR2.out.cell (j := 0) (by simp)
  have v0 : w2.cell? ⟨w.heap.size + 1 + 1, 0, none⟩ = some (.int .i64 0) := HV2.out.cell (j := 0) (by simp)
  have v1 : w2.cell? ⟨w.heap.size + 1 + 1, 1, none⟩ = some (.int .i64 0) := HV2.out.cell (j := 1) (by simp)
  have v2 : w2.cell? ⟨w.heap.size + 1 + 1, 2, none⟩ = some (.int .i64 0) := HV2.out.cell (j := 2) (by simp)
  have fr := HR2.out.frz 0
  have fv0 := HV2.out.frz 0
  have fv1 := HV2.out.frz 1
  have fv2 := HV2.out.frz 2
  by_cases ha : va = 0
  · obtain ⟨hn1, hn2, hok⟩ := verR_ok (ha ▸ HV.out)
    have HVz := hide (show VerR n P 0 0 0 from .inr ⟨⟨hn1, hn2⟩, .inr ⟨hok, rfl, rfl, rfl⟩⟩)
    have HOk := hide hok
    subst ha
    clear hok v0 v1 v2 fr fv0 fv1 fv2 r0 x1 x2
    go_upto_region 4 with (fail)
    clear x0
    have c0 : w2.cell? ⟨w.heap.size, 0, none⟩ = some (.slice a0 n k0) := HC2.out.cell (j := 0) (by simp)
    have HBp := hide (b_1 w2 (.cells #[] 45))
    have c0' : (w2.alloc (.cells #[] 45)).cell? ⟨w.heap.size, 0, none⟩ = some (.slice a0 n k0) := (HBp.out.cell (p := ⟨w.heap.size, 0, none⟩) HC2.out.lt).trans c0
    have HN0 : Hid (FMs (w2.alloc (.cells #[] 45)) w2.heap.size (.slice (some ⟨w2.heap.size, 0, none⟩) 0 0) 0 (fun i => (P i).cst) (fun _ => nilS) (fun _ => nilS) (fun _ => 0) (fun _ => 0) (fun _ => nilS)) :=
      hide ⟨⟨by simp, .inr ⟨w2.heap.size, 0, #[], rfl, Nat.le_refl _, heap_alloc_new w2 _, by omega, by unfold maxLen; omega, by simp, by simp⟩⟩, fun i hi => by omega, fun i j _ hj => by omega, fun i hi => by omega⟩
    go_wp2_with fail
    clear c0 c0'
    go_loopw [5, 30] (fun pv iv wr => ∃ k : Nat, k ≤ n ∧ iv = .int .i64 k ∧ Hid (L1 P w2.heap.size pv k wr) ∧ Hid (Below w2.heap.size w2 wr)) (fun _ iv _ => n - ivN iv)
    case atStart => exact ⟨0, by omega, rfl, hide ⟨P, _, _, _, _, _, fun i hi => by omega, HN0.out⟩, HBp⟩
    case round =>
      clear HN0 HBp
      obtain ⟨k, hk, rfl, HL, HX⟩ := hrel
      have HBr := hide (HB2.out.trans (HX.out.mono HB2.out.size))
      by_cases hin : k < n
      · rcases HA.out with ⟨h9, _⟩ | ⟨b, o, cap, e9, hb, hcap, hc⟩
        · omega
        cases e9
        obtain ⟨s4, s5, s6, s7, hc8, hpva⟩ := hc k hin
        obtain ⟨d0, d1, d2, d3, d4, d5, d6, d7⟩ := hc8.low HBr.out hb
        obtain ⟨a4, k4, rfl⟩ := hpva.u.val
        obtain ⟨a5, k5, rfl⟩ := hpva.c.val
        obtain ⟨a6, k6, rfl⟩ := hpva.i.val
        obtain ⟨a7, k7, rfl⟩ := hpva.l.val
        have hP := RowF.mk' wr 45 #[.int .i64 (P k).params, .int .i64 (P k).regs, .int .i64 (P k).line, .bool (P k).dots, .slice a4 (P k).nu k4, .slice a5 (P k).nc k5, .slice a6 (P k).ni k6, .slice a7 (P k).nl k7]
        have hbP := b_1 wr (.cells #[.int .i64 (P k).params, .int .i64 (P k).regs, .int .i64 (P k).line, .bool (P k).dots, .slice a4 (P k).nu k4, .slice a5 (P k).nc k5, .slice a6 (P k).ni k6, .slice a7 (P k).nl k7] 45)
        have HPA := hide ((hpva.low HBr.out (Nat.le_refl _)).low hbP (Nat.le_refl _))
        have HPW := hide hpva
        have HBZ := hide hbP
        have HP := hide hP
        clear hc hc8 hpva hP hbP
        go_upto_region 8 with (fail)
        clear d0 d1 d2 d3 d4 d5 d6 d7
        have hZlt := HP.out.lt
        generalize hwZ : wr.alloc (.cells #[.int .i64 (P k).params, .int .i64 (P k).regs, .int .i64 (P k).line, .bool (P k).dots, .slice a4 (P k).nu k4, .slice a5 (P k).nc k5, .slice a6 (P k).ni k6, .slice a7 (P k).nl k7] 45) = wZ at *
        clear hwZ
        obtain ⟨Z, hZ⟩ : ∃ Z, wr.heap.size = Z := ⟨_, rfl⟩
        rw [hZ] at HP HBZ hZlt ⊢
        have HZ := hide hZ
        have c4 : (wZ.alloc (.cells #[] 104)).cell? ⟨Z, 4, none⟩ = some (.slice a4 (P k).nu k4) := ((b_1 wZ _).cell (p := ⟨Z, 4, none⟩) hZlt).trans (HP.out.cell (j := 4) (by simp))
        have HG := hide (good_of (HOk.out k hin))
        have hnu : (P k).nu ≤ 1048576 := by have := (HOk.out k hin).1.1.1.2.2.2.1; omega
        clear hZ
        go_upto_region 9 with (first
          | (at_builtin
             refine app_ups rfl (.tmp 34) (.tmp 36) rfl (P k) (.slice a4 (P k).nu k4) HPA.out.u rfl rfl hnu ?_
             intro v4 w4 h4 hb4
             have HP4 := hide (HP.out.low hb4 hZlt)
             have HB4 := hide (HBZ.out.trans (hb4.mono (Nat.le_of_lt hZlt)))
             have HA4 := hide (HPA.out.low hb4 (Nat.le_refl _))
             obtain ⟨x4, y4, rfl, hc4⟩ := h4
             have H4 : Hid (SlF w4 104 2 (.slice x4 (P k).nu y4) (P k).nu (upF (P k))) := hide ⟨x4, y4, rfl, hc4⟩
             have f4 := HP4.out.frz 4
             have e4 : w4.cell? ⟨Z, 4, none⟩ = some (.slice a4 (P k).nu k4) := HP4.out.cell (j := 4) (by simp)
             clear hc4 hb4 c4)
          | fail)
        clear e4 f4 HPA HP HBZ hZlt
        have HI0 : Hid (InnR w (P k) Z wr (P k) true (.slice x4 (P k).nu y4) (.slice a5 (P k).nc k5) (.slice a6 (P k).ni k6) (.slice a7 (P k).nl k7) (w4.setCell ⟨Z, 4, none⟩ (.slice x4 (P k).nu y4))) := hide (InnR.start HP4.out H4.out HPW.out HG.out.1 (by have := HBr.out.size; have := HZ.out; omega) (HBr.out.trans (HB4.out.mono (by have := HBr.out.size; have := HZ.out; omega))) HB4.out)
        generalize w4.setCell ⟨Z, 4, none⟩ (.slice x4 (P k).nu y4) = w5 at *
        clear HB4 HP4 HA4 H4
        go_wp2_with fail
        generalize wr = wo at *
        go_loopg [8] (meI (P k) true) (fun m bv ws => ∃ (q : PV) (b : Bool) (s4 s5 s6 s7 : Value), bv = .bool b ∧ Hid (meI q b = m) ∧ Hid (InnR w (P k) Z wo q b s4 s5 s6 s7 ws))
        case atStart => exact ⟨P k, true, _, _, _, _, rfl, hide rfl, HI0⟩
        case round =>
          clear HI0
          obtain ⟨q, bq, s4, s5, s6, s7, rfl, HM, HI⟩ := hrel
          obtain ⟨b4, m4, rfl⟩ := HI.out.pva.u.val
          obtain ⟨b5, m5, rfl⟩ := HI.out.pva.c.val
          obtain ⟨b6, m6, rfl⟩ := HI.out.pva.i.val
          obtain ⟨b7, m7, rfl⟩ := HI.out.pva.l.val
          have c0 : wr.cell? ⟨Z, 0, none⟩ = some (.int .i64 q.params) := HI.out.row.cell (j := 0) (by simp)
          have c1 : wr.cell? ⟨Z, 1, none⟩ = some (.int .i64 q.regs) := HI.out.row.cell (j := 1) (by simp)
          have c2 : wr.cell? ⟨Z, 2, none⟩ = some (.int .i64 q.line) := HI.out.row.cell (j := 2) (by simp)
          have c3 : wr.cell? ⟨Z, 3, none⟩ = some (.bool q.dots) := HI.out.row.cell (j := 3) (by simp)
          have c4 : wr.cell? ⟨Z, 4, none⟩ = some (.slice b4 q.nu m4) := HI.out.row.cell (j := 4) (by simp)
          have c5 : wr.cell? ⟨Z, 5, none⟩ = some (.slice b5 q.nc m5) := HI.out.row.cell (j := 5) (by simp)
          have c6 : wr.cell? ⟨Z, 6, none⟩ = some (.slice b6 q.ni m6) := HI.out.row.cell (j := 6) (by simp)
          have c7 : wr.cell? ⟨Z, 7, none⟩ = some (.slice b7 q.nl m7) := HI.out.row.cell (j := 7) (by simp)
          cases bq with
          | true =>
            have z0 := HI.out.row.frz 0
            have z1 := HI.out.row.frz 1
            have z2 := HI.out.row.frz 2
            have z3 := HI.out.row.frz 3
            have z4 := HI.out.row.frz 4
            have z5 := HI.out.row.frz 5
            have z6 := HI.out.row.frz 6
            have z7 := HI.out.row.frz 7
            have HRd := hide (round_any q (.slice b4 q.nu m4) (.slice b5 q.nc m5) (.slice b6 q.ni m6) (.slice b7 q.nl m7) wr (HI.out.run rfl).2.1 HI.out.pva)
            unfold PV.agg at HRd
            go_wp2_with (first
              | (go_at_call 14
                 refine HRd.out.mono ?_
                 rintro e w6 ⟨r, v6, v7, bb, he, hd6, sp6, hb6, g6, i6, l6, low6⟩
                 unfold PV.agg at he
                 obtain ⟨n6, o6, rfl⟩ := i6.a.val
                 obtain ⟨n7, o7, rfl⟩ := l6.a.val
                 obtain rfl := he
                 have hrow := HI.out.row.low low6 HI.out.row.lt
                 have y0 := hrow.cell (j := 0) (by simp)
                 have y1 := hrow.cell (j := 1) (by simp)
                 have y2 := hrow.cell (j := 2) (by simp)
                 have y3 := hrow.cell (j := 3) (by simp)
                 have y4 := hrow.cell (j := 4) (by simp)
                 have y5 := hrow.cell (j := 5) (by simp)
                 have y6 := hrow.cell (j := 6) (by simp)
                 have y7 := hrow.cell (j := 7) (by simp)
                 have q0 := hrow.frz 0
                 have q1 := hrow.frz 1
                 have q2 := hrow.frz 2
                 have q3 := hrow.frz 3
                 have q4 := hrow.frz 4
                 have q5 := hrow.frz 5
                 have q6 := hrow.frz 6
                 have q7 := hrow.frz 7
                 have HR := hide (show q.hd r ∧ SpP q.cf q.pay r.cf r.pay ∧ (bb = true ↔ SpT q.cf r.cf) ∧ r.Good ∧ InsF w6 (.slice n6 r.ni o6) r.ni r.i0 r.i1 r.i2 r.i3 ∧ LinF w6 (.slice n7 r.nl o7) r.nl r.l0 ∧ Below wr.heap.size wr w6 from ⟨hd6, sp6, hb6, g6, i6, l6, low6⟩)
                 clear hd6 sp6 hb6 g6 i6 l6 low6 hrow c0 c1 c2 c3 c4 c5 c6 c7 z0 z1 z2 z3 z4 z5 z6 z7 HRd)
              | fail)
            go_roundg (meI r bb)
            case rel => exact ⟨r, bb, .slice b4 q.nu m4, .slice b5 q.nc m5, .slice n6 r.ni o6, .slice n7 r.nl o7, rfl, hide rfl, hide (HI.out.round (by have := HBr.out.size; have := HZ.out; omega) HR.out).1⟩
            case measure => have h1 := HM.out; have h2 := (HI.out.round (by have := HBr.out.size; have := HZ.out; omega) HR.out).2; omega
          | false =>
            obtain ⟨hfin, hlin⟩ := HI.out.fin rfl
            have HFi := hide hfin
            have HLi := hide hlin
            have HGd := hide (show q.Good ∧ q.nc ≤ 1048576 ∧ q.nmOk from ⟨hfin.2.2, by have h1 := hfin.2.1.2.2.2.2.2.2.2.1; have h2 := HG.out.2.2.2.2.2; omega, hfin.nm HG.out.2.1⟩)
            obtain ⟨F, S4, S5, G6, C6, S7, hF, hM⟩ := HL.out
            have HF1 := hide hF
            have HM1 := hide hM
            have HSl := hide (hM.row)
            have HLow := hide HI.out.low
            have HSC := hide (sconsts_any q (.slice b4 q.nu m4) (.slice b5 q.nc m5) (.slice b6 q.ni m6) (.slice b7 q.nl m7) wr HGd.out.1 HGd.out.2.1 HGd.out.2.2 HI.out.pva)
            unfold PV.agg at HSC
            clear hfin hlin hF hM
            have hbnd : (k + 1) * 128 ≤ 140737488355328 := by omega
            go_wp2_with fail
            refine HSC.out.mono ?_
            rintro e w6 ⟨v5, g9, k9, he, ho6, hg6, hc6, hi6, hl6⟩
            obtain ⟨n5, o5, rfl⟩ := owns_val ho6
            obtain rfl := he
            have HR6 := hide (owns_low (owns_low HSl.out (by rw [HZ.out]; exact HLow.out)) hl6)
            have HFM : Hid (FM w6 q.cst (.slice b4 q.nu m4) (.slice n5 (cnt (usd q q.ni) q.nc) o5) g9 k9 (.slice b7 q.nl m7)) := hide (by
              obtain ⟨e5, ef⟩ := upF_hd HFi.out.2.1
              have hu := HI.out.up.low hl6 (Nat.le_refl _)
              rw [← e5, ← ef] at hu
              exact ⟨hu, con_F ho6, hi6, hc6, SlF.low HLi.out hl6 (Nat.le_refl _)⟩)
            have HLw := hide (HI.out.low.trans (hl6.mono (Nat.le_of_lt HI.out.row.lt)))
            have HG9 := hide (show Z ≤ g9 by have := HI.out.row.lt; omega)
            have HBs := hide (show w2.heap.size ≤ w6.heap.size by have h1 := HX.out.size; have h2 := HLw.out.size; omega)
            clear ho6 hi6 hg6 hc6 hl6 c0 c1 c2 c3 c4 c5 c6 c7 HSC HI HGd HSl HLow HPW
            go_wp2_with (first
              | (at_builtin
                 refine app_k rfl (.tmp 45) (.tmp 48) 26 45 8 128 _ rfl Tryz.underlying26 Tryz.info45 rfl (by decide) w2.heap.size u5 k ((List.range k).flatMap fun i => fnC ((F i).cst) (S4 i) (S5 i) (G6 i) (C6 i) (S7 i)) [.int .i64 q.params, .int .i64 q.regs, .int .i64 q.line, .bool q.dots, .slice b4 q.nu m4, .slice n5 (cnt (usd q q.ni) q.nc) o5, .slice (some ⟨g9, 0, none⟩) q.ni k9, .slice b7 q.nl m7] HR6.out rfl rfl rfl (by simp [Value.oneCell']) hbnd (by decide) HBs.out ?_
                 intro v7 w7 ho7 hk7 hg7
                 have HL7 : Hid (L1 P w2.heap.size v7 (k + 1) w7) := hide (L1.push HF1.out HM1.out (by rw [HZ.out]; exact HLw.out) HFi.out HFM.out (by rw [HZ.out]; exact HG9.out) HX.out.size ho7 hk7)
                 have HX7 := hide (HX.out.trans ((HLw.out.mono (by have := HX.out.size; have := HZ.out; omega)).trans (hk7.below HBs.out (fun b e => (owns_blk HR6.out e).1))))
                 clear ho7 hk7 hg7)
              | fail)
            go_roundw
            case rel => exact ⟨k + 1, by omega, by simp, HL7, HX7⟩
            case measure => simp [ivN]; omega
      · obtain rfl : n = k := by omega
        obtain ⟨F, S4, S5, G6, C6, S7, hF, hM⟩ := HL.out
        obtain ⟨g5, cp5, rfl, hg5, hcp5, hMr⟩ := hM.to_r hn1
        have HFd := hide hF
        have HMr := hide hMr
        have HMs := hide hM.ge
        have HG5 := hide (And.intro hg5 hcp5)
        have HCl := hide (show ∀ k, k < n → (F k).cst.clOk k from fun k hk => cst_cl ((hF k hk).cl (good_of (HOk.out k hk)).2.2.1))
        have HNi := hide (show ∀ k, k < n → (F k).cst.ni ≤ 1048576 from fun k hk => (hF k hk).2.2.le)
        have hszr := HX.out.size
        clear hF hM hMr hg5 hcp5 HL HOk HF HBit HA HC2 HX2 HX1 hx1 HBr
        obtain ⟨i9, hi0, hz0, hz1, hz2⟩ := info_parts Tryz.info4
        have HI0 := hide (And.intro hi0 (And.intro hz0 (And.intro hz1 hz2)))
        clear hi0 hz0 hz1 hz2
        go_upto_region 15 with (first
          | (at_make
             refine wpList_make_full _ rfl _ _ 49 rfl w2.heap.size 4 i9 (.bool false) 1 Tryz.underlying49 HI0.out.1 HI0.out.2.1 HI0.out.2.2.1 _ _ _ _ n rfl rfl rfl rfl (by rw [HI0.out.2.2.2]; omega) (by unfold maxLen; omega) hszr ?_
             intro w3 hown hgrow
             have hb3 : Below wr.heap.size wr w3 := (Below.refl _ _).grown hgrow (Nat.le_refl _) (fun _ h => by cases h)
             have HU3 := hide ((rowF_owns hown).congr (f' := fun j => .bool false) (fun j hj => by
               rw [Nat.mul_one] at hj ⊢
               exact made_bool n hj))
             have HBo := hide hb3
             clear hown hgrow hb3)
          | fail)
        obtain ⟨m, hm⟩ : ∃ m, n = m + 1 := ⟨n - 1, by omega⟩
        have hm1 : (n : Int) - 1 = (m : Int) := by omega
        have hmn : m < n := by omega
        have HMn := hide hm
        clear hm
        obtain ⟨gU, hgU⟩ : ∃ gU, wr.heap.size = gU := ⟨_, rfl⟩
        rw [hgU] at HU3 HBo ⊢
        have HSo := hide hgU
        clear hgU
        generalize wr = wo at *
        have u0 : w3.cell? ⟨gU, m, none⟩ = some (.bool false) := HU3.out.cell (j := m) (by omega)
        have fu0 := HU3.out.frz m
        have HU4 : Hid (BoolO (w3.setCell ⟨gU, m, none⟩ (.bool true)) gU n (uP n (fun i => (F i).cst) 0)) := hide ((HU3.out.set (j := m) (by omega) (.bool true)).congr (fun c hc => by
          show _ = Value.bool (c == n - 1)
          by_cases e : c = m
          · rw [if_pos e, show (c == n - 1) = true by simp; omega]
          · rw [if_neg e, show (c == n - 1) = false by simp; omega]))
        have HBu := hide (HBo.out.setCell (p := ⟨gU, m, none⟩) (Nat.le_refl _) (.bool true))
        go_upto_region 16 with (fail)
        clear u0 fu0 HU3 HBo
        generalize w3.setCell ⟨gU, m, none⟩ (.bool true) = w4 at *
        obtain ⟨Q, hQ⟩ : ∃ Q : Nat → PV, Q = fun i => (F i).cst := ⟨_, rfl⟩
        have HQ := hide hQ
        rw [← hQ] at HU4 HMr
        have HCl2 := hide (show ∀ k, k < n → (Q k).clOk k by rw [hQ]; exact HCl.out)
        have HNi2 := hide (show ∀ k, k < n → (Q k).ni ≤ 1048576 by rw [hQ]; exact HNi.out)
        clear hQ HCl HNi
        go_wp2_with fail
        go_loopw [10] (fun iv wr => ∃ t : Nat, t ≤ n ∧ iv = .int .i64 ((m : Int) - (t : Int)) ∧ Hid (BoolO wr gU n (uP n Q t)) ∧ Hid (Below gU wo wr)) (fun iv _ => match iv with | .int _ x => (x + 1).toNat | _ => 0)
        case atStart => exact ⟨0, by omega, by simp, HU4, HBu⟩
        case round =>
          clear HU4 HBu
          obtain ⟨t, ht, rfl, HU, HB⟩ := hrel
          by_cases htn : t < n
          · obtain ⟨i, hi⟩ : ∃ i : Nat, (m : Int) - (t : Int) = (i : Int) := ⟨m - t, by omega⟩
            rw [hi]
            have hin : i < n := by omega
            have hti : n - 1 - t = i := by have := HMn.out; omega
            have HTi := hide hti
            have HI := hide hi
            have hM := HMr.out.low HB.out (by rw [HSo.out]; exact Nat.le_refl _)
            have c6 : wr.cell? ⟨g5, i * 8 + 6, none⟩ = some (.slice (some ⟨G6 i, 0, none⟩) (Q i).ni (C6 i)) := hM.cell hin (by omega)
            have hni := HNi2.out i hin
            clear hM hi hti
            go_wp2_with fail
            clear c6
            generalize wr = wq at *
            obtain ⟨bi, hbi⟩ : ∃ bi, uP n Q t i = bi := ⟨_, rfl⟩
            have HBi := hide hbi
            clear hbi
            have HU0 : Hid (BoolO wq gU n (fun c => uP n Q t c || (bi && clN (Q i) 0 c))) := hide (HU.out.congr (fun c _ => by simp [clN_0]))
            go_loopw [72] (fun iv wr => ∃ j : Nat, j ≤ (Q i).ni ∧ iv = .int .i64 j ∧ Hid (BoolO wr gU n (fun c => uP n Q t c || (bi && clN (Q i) j c))) ∧ Hid (Below gU wo wr)) (fun iv _ => (Q i).ni - ivN iv)
            case atStart => exact ⟨0, by omega, rfl, HU0, HB⟩
            case round =>
              clear HU0 HU HB
              obtain ⟨j, hj, rfl, HU, HB⟩ := hrel
              by_cases hjn : j < (Q i).ni
              · have hM := HMr.out.low HB.out (by rw [HSo.out]; exact Nat.le_refl _)
                obtain ⟨d0, d1, d2, d3⟩ := (hM.fn i hin).i.cells hjn
                have hui : (uP n Q t i || (bi && clN (Q i) j i)) = bi := by rw [HBi.out]; simp; exact fun h _ => h
                have hA := RowF.mk' wr 51 #[.int .i64 ((Q i).i0 j), .int .i64 ((Q i).i1 j), .int .i64 ((Q i).i2 j), .int .i64 ((Q i).i3 j)]
                have hbA := b_1 wr (.cells #[.int .i64 ((Q i).i0 j), .int .i64 ((Q i).i1 j), .int .i64 ((Q i).i2 j), .int .i64 ((Q i).i3 j)] 51)
                have HUA := hide (show BoolO _ gU n (fun c => uP n Q t c || (bi && clN (Q i) j c)) from RowF.low HU.out hbA HU.out.lt)
                have HBA := hide (HB.out.trans (hbA.mono (by have := HU.out.lt; omega)))
                have HCj := hide (show (Q i).i0 j = 32 → 0 ≤ (Q i).i2 j ∧ (Q i).i2 j < i from HCl2.out i hin j hjn)
                clear hM hbA
                go_upto_region 22 with (fail)
                clear d0 d1 d2 d3
                generalize wr.alloc (.cells #[.int .i64 ((Q i).i0 j), .int .i64 ((Q i).i1 j), .int .i64 ((Q i).i2 j), .int .i64 ((Q i).i3 j)] 51) = wA at *
                generalize wr.heap.size = A at *
                have e0 : wA.cell? ⟨A, 0, none⟩ = some (.int .i64 ((Q i).i0 j)) := hA.cell (j := 0) (by simp)
                have e2 : wA.cell? ⟨A, 2, none⟩ = some (.int .i64 ((Q i).i2 j)) := hA.cell (j := 2) (by simp)
                have eu : wA.cell? ⟨gU, i, none⟩ = some (.bool bi) := (HUA.out.cell (j := i) (by omega)).trans (by show some (Value.bool (uP n Q t i || (bi && clN (Q i) j i))) = _; rw [hui])
                clear hA hui
                cases bi with
                | false =>
                  go_wp2_with fail
                  go_roundw
                  case rel => exact ⟨j + 1, by omega, by simp, hide (HUA.out.congr (fun c _ => by simp)), HBA⟩
                  case measure => simp [ivN]; omega
                | true =>
                  by_cases hop : (Q i).i0 j = 32
                  · obtain ⟨q1, q2⟩ := HCj.out hop
                    obtain ⟨z, hz⟩ : ∃ z : Nat, (Q i).i2 j = (z : Int) := ⟨((Q i).i2 j).toNat, by omega⟩
                    rw [hz] at e2 q2
                    have hzn : z < n := by omega
                    have HOp := hide hop
                    have HZj := hide hz
                    rw [hop] at e0
                    have ez : wA.cell? ⟨gU, z, none⟩ = some (.bool (uP n Q t z || (true && clN (Q i) j z))) := HUA.out.cell (j := z) (by omega)
                    have fz := RowF.frz HUA.out z
                    clear q1 q2 hop hz
                    go_wp2_with fail
                    go_roundw
                    case rel => exact ⟨j + 1, by omega, by simp, hide ((HUA.out.set hzn true).congr (fun c _ => by
                      show Value.bool (if c = z then true else (uP n Q t c || (true && clN (Q i) j c))) = Value.bool (uP n Q t c || (true && clN (Q i) (j + 1) c))
                      rw [clN_1, HOp.out, HZj.out]
                      by_cases e : c = z
                      · subst e; simp
                      · have e2 : ((z : Int).toNat == c) = false := by simp; omega
                        rw [if_neg e, e2]
                        simp)), hide (HBA.out.setCell (p := ⟨gU, z, none⟩) (Nat.le_refl _) _)⟩
                    case measure => simp [ivN]; omega
                  · have hopb : ((Q i).i0 j == 32) = false := by simp [hop]
                    have HOp := hide hopb
                    clear hop
                    go_wp2_with fail
                    go_roundw
                    case rel => exact ⟨j + 1, by omega, by simp, hide (HUA.out.congr (fun c _ => by simp [clN_1, HOp.out])), HBA⟩
                    case measure => simp [ivN]; omega
              · obtain rfl : j = (Q i).ni := by omega
                go_wp2_with fail
                go_roundw
                case rel => exact ⟨t + 1, by omega, (by have := HI.out; simp; first | done | omega), hide (HU.out.congr (fun c _ => by
                  show _ = Value.bool (uP n Q t c || (uP n Q t (n - 1 - t) && clN (Q (n - 1 - t)) (Q (n - 1 - t)).ni c))
                  rw [HTi.out, HBi.out])), HB⟩
                case measure => have := HI.out; simp; first | done | omega
          · obtain rfl : n = t := by omega
            have hneg : (m : Int) - (n : Int) = -1 := by have := HMn.out; omega
            rw [hneg]
            clear hneg hm1
            have hb1 : Below wr.heap.size wr (wr.alloc (.cells #[nilS] 28)) := b_1 wr _
            have HOc := hide (RowF.mk' wr 28 #[nilS])
            have HU5 := hide (RowF.low HU.out hb1 (RowF.lt HU.out))
            have HB5 := hide (HB.out.trans (hb1.mono (by have := RowF.lt HU.out; omega)))
            have HgO := hide (show gU < wr.heap.size from RowF.lt HU.out)
            have HsO := hide (show (wr.alloc (.cells #[nilS] 28)).heap.size = wr.heap.size + 1 by simp)
            clear hb1 HU HB
            go_upto_region 26 with (fail)
            generalize wr.alloc (.cells #[nilS] 28) = w5 at *
            generalize wr.heap.size = gO at *
            obtain ⟨j9, hi0, hz0, hz1, hz2⟩ := info_parts Tryz.info3
            have HJ0 := hide (And.intro hi0 (And.intro hz0 (And.intro hz1 hz2)))
            clear hi0 hz0 hz1 hz2
            have hs5 : w2.heap.size ≤ w5.heap.size := by have h1 := HSo.out; have h2 := HsO.out; have h3 := HgO.out; omega
            go_upto_region 27 with (first
              | (at_make
                 refine wpList_make_full _ rfl _ _ 43 rfl w2.heap.size 3 j9 (.int .i64 0) 1 Tryz.underlying43 HJ0.out.1 HJ0.out.2.1 HJ0.out.2.2.1 _ _ _ _ n rfl rfl rfl rfl (by rw [HJ0.out.2.2.2]; omega) (by unfold maxLen; omega) hs5 ?_
                 intro w6 hown hgrow
                 have hb6 : Below w5.heap.size w5 w6 := (Below.refl _ _).grown hgrow (Nat.le_refl _) (fun _ h => by cases h)
                 have HP6 := hide ((rowF_owns hown).congr (f' := fun c => .int .i64 (if c < 0 then (cnt (uP n Q n) c : Int) else 0)) (fun j hj => by
                   rw [Nat.mul_one] at hj ⊢
                   rw [if_neg (by omega)]
                   exact made_int n hj))
                 have HB6 := hide hb6
                 clear hown hgrow hb6)
              | fail)
            obtain ⟨U, hU⟩ : ∃ U, uP n Q n = U := ⟨_, rfl⟩
            have HUe := hide hU
            rw [hU] at HP6 HU5
            clear hU
            obtain ⟨gP, hgP⟩ : ∃ gP, w5.heap.size = gP := ⟨_, rfl⟩
            rw [hgP] at HP6 HB6 HsO ⊢
            have HgP := hide hgP
            clear hgP
            have HO5 : Hid (OO w6 g5 gU gP gO (gP + 1) n Q U S4 S5 G6 C6 S7 Q 0 0 nilS) := hide (by
              have hM := HMr.out.low (HB5.out.trans (HB6.out.mono (by have h1 := HsO.out; have h2 := HgO.out; omega))) (by rw [HSo.out]; exact Nat.le_refl _)
              refine ⟨hM.row, hM.fn, hM.up, HP6.out, RowF.low HU5.out HB6.out (by have h1 := HsO.out; have h2 := HgO.out; omega), (HOc.out.low HB6.out (by have h1 := HsO.out; omega)).congr (fun j hj => ?_), World.ownsRow_nil w6 (gP + 1) 45 8, ?_, fun c hc b hb => ?_⟩
              · obtain rfl : j = 0 := by have : j < 1 := hj; omega
                rfl
              · have h1 := HMr.out.row.lt; have h2 := HSo.out; have h3 := HsO.out; have h4 := HgO.out; omega
              · have h1 := (SlF.own (HMr.out.fn c hc).l hb).lt; have h2 := HSo.out; have h3 := HsO.out; have h4 := HgO.out; omega)
            have HBt := hide (HB5.out.trans (HB6.out.mono (by have h1 := HsO.out; have h2 := HgO.out; omega)))
            clear HP6 HU5 HOc HB5 HB6 HMr hs5 HI0 HJ0 HMn
            have HXt := hide (HX.out.trans (HBt.out.mono (by have h1 := HSo.out; omega)))
            clear HBt HX
            go_wp2_with fail
            go_loopw [96] (fun iv wr => ∃ (i : Nat) (v : Value) (Y : Nat → PV), i ≤ n ∧ iv = .int .i64 i ∧ Hid (OO wr g5 gU gP gO (gP + 1) n Q U S4 S5 G6 C6 S7 Y i i v) ∧ Hid (∀ c, c < n → Y c = if c < i ∧ U c = true then (Q c).ren U else Q c) ∧ Hid (Below w2.heap.size w2 wr)) (fun iv _ => n - ivN iv)
            case atStart => exact ⟨0, nilS, Q, by omega, rfl, HO5, hide (fun c _ => by simp), HXt⟩
            case round =>
              clear HO5 HXt
              obtain ⟨i, v, Y, hi, rfl, HO, HY, HX⟩ := hrel
              obtain ⟨av, cv, rfl⟩ := owns_val HO.out.out
              by_cases hin : i < n
              · have hYi : Y i = Q i := by rw [HY.out i hin, if_neg (by omega)]
                have hf := HO.out.fn i hin
                rw [hYi] at hf
                obtain ⟨a4, k4, e4⟩ := (ups_F hf.u).val
                obtain ⟨a5, k5, e5⟩ := (cons_F hf.c).val
                obtain ⟨a7, k7, e7⟩ := hf.l.a.val
                have hcell : ∀ r, r < 8 → wr.cell? ⟨g5, i * 8 + r, none⟩ = some ((fnC (Q i) (S4 i) (S5 i) (G6 i) (C6 i) (S7 i)).getD r (.bool false)) := fun r hr => by rw [HO.out.row.cell (j := i * 8 + r) (by omega), fnF_at _ _ _ _ _ _ _ _ hr]
                rw [e4, e5, e7] at hcell
                have d0 : wr.cell? ⟨g5, i * 8, none⟩ = some (.int .i64 (Q i).params) := hcell 0 (by omega)
                have d1 : wr.cell? ⟨g5, i * 8 + 1, none⟩ = some (.int .i64 (Q i).regs) := hcell 1 (by omega)
                have d2 : wr.cell? ⟨g5, i * 8 + 2, none⟩ = some (.int .i64 (Q i).line) := hcell 2 (by omega)
                have d3 : wr.cell? ⟨g5, i * 8 + 3, none⟩ = some (.bool (Q i).dots) := hcell 3 (by omega)
                have d4 : wr.cell? ⟨g5, i * 8 + 4, none⟩ = some (.slice a4 (Q i).nu k4) := hcell 4 (by omega)
                have d5 : wr.cell? ⟨g5, i * 8 + 5, none⟩ = some (.slice a5 (Q i).nc k5) := hcell 5 (by omega)
                have d6 : wr.cell? ⟨g5, i * 8 + 6, none⟩ = some (.slice (some ⟨G6 i, 0, none⟩) (Q i).ni (C6 i)) := hcell 6 (by omega)
                have d7 : wr.cell? ⟨g5, i * 8 + 7, none⟩ = some (.slice a7 (Q i).nl k7) := hcell 7 (by omega)
                have HE := hide (And.intro e4 (And.intro e5 e7))
                have hZ := RowF.mk' wr 45 #[.int .i64 (Q i).params, .int .i64 (Q i).regs, .int .i64 (Q i).line, .bool (Q i).dots, .slice a4 (Q i).nu k4, .slice a5 (Q i).nc k5, .slice (some ⟨G6 i, 0, none⟩) (Q i).ni (C6 i), .slice a7 (Q i).nl k7]
                have hbZ := b_1 wr (.cells #[.int .i64 (Q i).params, .int .i64 (Q i).regs, .int .i64 (Q i).line, .bool (Q i).dots, .slice a4 (Q i).nu k4, .slice a5 (Q i).nc k5, .slice (some ⟨G6 i, 0, none⟩) (Q i).ni (C6 i), .slice a7 (Q i).nl k7] 45)
                have HOz := hide (HO.out.low hbZ)
                have HXz := hide (HX.out.trans (hbZ.mono HX.out.size))
                have HZ := hide hZ
                have HZn := hide (show g5 ≠ wr.heap.size by have := HO.out.row.lt; omega)
                clear hYi hf e4 e5 e7 hcell hbZ hZ HO HX
                go_upto_region 30 with (fail)
                clear d0 d1 d2 d3 d4 d5 d6 d7
                generalize wr.alloc (.cells #[.int .i64 (Q i).params, .int .i64 (Q i).regs, .int .i64 (Q i).line, .bool (Q i).dots, .slice a4 (Q i).nu k4, .slice a5 (Q i).nc k5, .slice (some ⟨G6 i, 0, none⟩) (Q i).ni (C6 i), .slice a7 (Q i).nl k7] 45) = wz at *
                generalize wr.heap.size = Z at *
                have c0 : wz.cell? ⟨gO, 0, none⟩ = some (.slice av (cnt U i) cv) := HOz.out.cell.cell (j := 0) (by omega)
                have cp : wz.cell? ⟨gP, i, none⟩ = some (.int .i64 (if i < i then (cnt U i : Int) else 0)) := HOz.out.pl.cell (j := i) (by omega)
                have fp := HOz.out.pl.frz i
                have HO2 := hide (HOz.out.place hin)
                have hkp : Keeps wz (wz.setCell ⟨gP, i, none⟩ (.int .i64 (cnt U i : Int))) (fun b => b = gP) := (Keeps.refl wz (fun b => b = gP)).setCell (j := i) rfl _
                have HZ2 := hide (HZ.out.keep hkp (fun e => HZ.out.apart HOz.out.pl (by decide) e))
                have HX2 := hide (HXz.out.setCell (p := ⟨gP, i, none⟩) (by show w2.heap.size ≤ gP; have h1 := HgP.out; have h2 := HsO.out; have h3 := HgO.out; have h4 := HSo.out; omega) (.int .i64 (cnt U i : Int)))
                clear hkp HOz HXz HZ
                go_upto_region 31 with (fail)
                clear c0 cp fp
                have cu : (wz.setCell ⟨gP, i, none⟩ (.int .i64 (cnt U i : Int))).cell? ⟨gU, i, none⟩ = some (.bool (U i)) := HO2.out.us.cell (j := i) (by omega)
                generalize wz.setCell ⟨gP, i, none⟩ (.int .i64 (cnt U i : Int)) = wy at *
                cases hui : U i with
                | false =>
                  rw [hui] at cu
                  have HUi := hide hui
                  clear hui
                  go_wp2_with fail
                  go_roundw
                  case rel => exact ⟨i + 1, _, Y, by omega, by simp, hide (HO2.out.skip HUi.out), hide (fun c hc => by
                    rw [HY.out c hc]
                    by_cases e : c = i
                    · subst e
                      rw [HUi.out]
                      simp
                    · by_cases e2 : c < i ∧ U c = true
                      · rw [if_pos e2, if_pos ⟨by omega, e2.2⟩]
                      · rw [if_neg e2, if_neg (fun x => e2 ⟨by omega, x.2⟩)]), HX2⟩
                  case measure => simp [ivN]; omega
                | true =>
                  rw [hui] at cu
                  have HUi := hide hui
                  clear hui
                  go_upto_region 32 with (fail)
                  clear cu
                  have z6 : wy.cell? ⟨Z, 6, none⟩ = some (.slice (some ⟨G6 i, 0, none⟩) (Q i).ni (C6 i)) := HZ2.out.cell (j := 6) (by simp)
                  have hni := HNi2.out i hin
                  go_wp2_with fail
                  clear z6
                  generalize wy = wx at *
                  have HO6 : Hid (OO wx g5 gU gP gO (gP + 1) n Q U S4 S5 G6 C6 S7 (fun a => if a = i then (Q i).renJ U 0 else Y a) (i + 1) i (.slice av (cnt U i) cv)) := hide (by
                    have e : (fun a => if a = i then (Q i).renJ U 0 else Y a) = Y := by
                      funext a
                      by_cases h : a = i
                      · subst h
                        rw [if_pos rfl, renJ_0, HY.out a hin, if_neg (by omega)]
                      · rw [if_neg h]
                    rw [e]
                    exact HO2.out)
                  go_loopw [115] (fun iv wr => ∃ j : Nat, j ≤ (Q i).ni ∧ iv = .int .i64 j ∧ Hid (OO wr g5 gU gP gO (gP + 1) n Q U S4 S5 G6 C6 S7 (fun a => if a = i then (Q i).renJ U j else Y a) (i + 1) i (.slice av (cnt U i) cv)) ∧ Hid (RowF wr 45 Z 8 (fun j => (#[.int .i64 (Q i).params, .int .i64 (Q i).regs, .int .i64 (Q i).line, .bool (Q i).dots, .slice a4 (Q i).nu k4, .slice a5 (Q i).nc k5, .slice (some ⟨G6 i, 0, none⟩) (Q i).ni (C6 i), .slice a7 (Q i).nl k7] : Array Value).getD j (.bool false))) ∧ Hid (Below w2.heap.size w2 wr)) (fun iv _ => (Q i).ni - ivN iv)
                  case atStart => exact ⟨0, by omega, rfl, HO6, HZ2, HX2⟩
                  case round =>
                    clear HO6 HO2 HZ2 HX2
                    obtain ⟨j, hj, rfl, HO, HZ, HX⟩ := hrel
                    have z6 : wr.cell? ⟨Z, 6, none⟩ = some (.slice (some ⟨G6 i, 0, none⟩) (Q i).ni (C6 i)) := HZ.out.cell (j := 6) (by omega)
                    by_cases hjn : j < (Q i).ni
                    · have hfm := HO.out.fn i hin
                      simp only [if_true] at hfm
                      have hcc := hfm.i.cells (i := j) hjn
                      have d0 : wr.cell? ⟨G6 i, j * 4, none⟩ = some (.int .i64 ((Q i).i0 j)) := hcc.1
                      have d1 : wr.cell? ⟨G6 i, j * 4 + 1, none⟩ = some (.int .i64 ((Q i).i1 j)) := hcc.2.1
                      have d2 : wr.cell? ⟨G6 i, j * 4 + 2, none⟩ = some (.int .i64 ((Q i).i2 j)) := hcc.2.2.1.trans (by
                        show some (Value.int .i64 (if j < j ∧ (Q i).i0 j = 32 then _ else (Q i).i2 j)) = _
                        rw [if_neg (by omega)])
                      have d3 : wr.cell? ⟨G6 i, j * 4 + 3, none⟩ = some (.int .i64 ((Q i).i3 j)) := hcc.2.2.2
                      have hA := RowF.mk' wr 51 #[.int .i64 ((Q i).i0 j), .int .i64 ((Q i).i1 j), .int .i64 ((Q i).i2 j), .int .i64 ((Q i).i3 j)]
                      have hbA := b_1 wr (.cells #[.int .i64 ((Q i).i0 j), .int .i64 ((Q i).i1 j), .int .i64 ((Q i).i2 j), .int .i64 ((Q i).i3 j)] 51)
                      have HOA := hide (HO.out.low hbA)
                      have HZA := hide (HZ.out.low hbA HZ.out.lt)
                      have HXA := hide (HX.out.trans (hbA.mono HX.out.size))
                      have HCj := hide (show (Q i).i0 j = 32 → 0 ≤ (Q i).i2 j ∧ (Q i).i2 j < i from HCl2.out i hin j hjn)
                      have HA := hide hA
                      have HAn := hide (show G6 i < wr.heap.size by obtain ⟨f, hr, _⟩ := hfm.i; exact hr.lt)
                      clear hbA hfm hcc HO HZ HX z6 hA
                      go_upto_region 35 with (fail)
                      clear d0 d1 d2 d3
                      generalize wr.alloc (.cells #[.int .i64 ((Q i).i0 j), .int .i64 ((Q i).i1 j), .int .i64 ((Q i).i2 j), .int .i64 ((Q i).i3 j)] 51) = wA at *
                      generalize wr.heap.size = A at *
                      have e0 : wA.cell? ⟨A, 0, none⟩ = some (.int .i64 ((Q i).i0 j)) := HA.out.cell (j := 0) (by simp)
                      by_cases hop : (Q i).i0 j = 32
                      · obtain ⟨q1, q2⟩ := HCj.out hop
                        obtain ⟨z, hz⟩ : ∃ z : Nat, (Q i).i2 j = (z : Int) := ⟨((Q i).i2 j).toNat, by omega⟩
                        rw [hz] at q2
                        have hzn : z < n := by omega
                        have hzi : z < i := by omega
                        have HOp := hide hop
                        have HZj := hide hz
                        rw [hop] at e0
                        clear q1 q2 hop hz
                        go_upto_region 36 with (fail)
                        clear e0
                        have e2 : wA.cell? ⟨A, 2, none⟩ = some (.int .i64 (z : Int)) := (HA.out.cell (j := 2) (by simp)).trans (by
                          show some (Value.int .i64 ((Q i).i2 j)) = _
                          rw [HZj.out])
                        have s6 : wA.cell? ⟨Z, 6, none⟩ = some (.slice (some ⟨G6 i, 0, none⟩) (Q i).ni (C6 i)) := HZA.out.cell (j := 6) (by omega)
                        have pz : wA.cell? ⟨gP, z, none⟩ = some (.int .i64 (cnt U z : Int)) := (HOA.out.pl.cell (j := z) (by omega)).trans (by rw [if_pos (by omega)])
                        have hfm := HOA.out.fn i hin
                        simp only [if_true] at hfm
                        have c2 : wA.cell? ⟨G6 i, j * 4 + 2, none⟩ = some (.int .i64 (z : Int)) := (hfm.i.cells (i := j) hjn).2.2.1.trans (by
                          show some (Value.int .i64 (if j < j ∧ (Q i).i0 j = 32 then _ else (Q i).i2 j)) = _
                          rw [if_neg (by omega), HZj.out])
                        have f2 := hfm.i.frz (j * 4 + 2)
                        have HOB := hide (HOA.out.turn hin hjn HOp.out HZj.out)
                        have HZB := hide (HZA.out.keep ((Keeps.refl wA (fun b => b = G6 i)).setCell (j := j * 4 + 2) rfl (.int .i64 (cnt U z : Int))) (fun e => by obtain ⟨f, hr, _⟩ := hfm.i; exact HZA.out.apart hr (by decide) e))
                        have HXB := hide (HXA.out.setCell (p := ⟨G6 i, j * 4 + 2, none⟩) (HMs.out i hin) (.int .i64 (cnt U z : Int)))
                        clear hfm HOA HZA HXA HA
                        go_region
                        all_goals
                          go_wp2_with fail
                          go_roundw
                          case rel => exact ⟨j + 1, by omega, by simp, hide (HOB.out.low ((Below.refl _ _).drew)), hide (HZB.out.low ((Below.refl _ _).drew) HZB.out.lt), hide (HXB.out.drew)⟩
                          case measure => simp [ivN]; omega
                      · have hopb : ((Q i).i0 j == 32) = false := by simp [hop]
                        have HOp := hide hop
                        clear hop
                        go_wp2_with fail
                        go_roundw
                        case rel => exact ⟨j + 1, by omega, by simp, hide (by
                          have e : (fun a => if a = i then (Q i).renJ U (j + 1) else Y a) = (fun a => if a = i then (Q i).renJ U j else Y a) := by
                            funext a
                            by_cases h : a = i
                            · rw [if_pos h, if_pos h]
                              unfold PV.renJ
                              congr 1
                              funext x
                              by_cases h1 : x = j
                              · subst h1
                                rw [if_neg (fun y => HOp.out y.2), if_neg (fun y => HOp.out y.2)]
                              · by_cases h2 : x < j ∧ (Q i).i0 x = 32
                                · rw [if_pos h2, if_pos ⟨by omega, h2.2⟩]
                                · rw [if_neg h2, if_neg (fun y => h2 ⟨by omega, y.2⟩)]
                            · rw [if_neg h, if_neg h]
                          rw [e]
                          exact HOA.out), HZA, HXA⟩
                        case measure => simp [ivN]; omega
                    · obtain rfl : j = (Q i).ni := by omega
                      have c0 : wr.cell? ⟨gO, 0, none⟩ = some (.slice av (cnt U i) cv) := HO.out.cell.cell (j := 0) (by omega)
                      have z0 : wr.cell? ⟨Z, 0, none⟩ = some (.int .i64 (Q i).params) := HZ.out.cell (j := 0) (by omega)
                      have z1 : wr.cell? ⟨Z, 1, none⟩ = some (.int .i64 (Q i).regs) := HZ.out.cell (j := 1) (by omega)
                      have z2 : wr.cell? ⟨Z, 2, none⟩ = some (.int .i64 (Q i).line) := HZ.out.cell (j := 2) (by omega)
                      have z3 : wr.cell? ⟨Z, 3, none⟩ = some (.bool (Q i).dots) := HZ.out.cell (j := 3) (by omega)
                      have z4 : wr.cell? ⟨Z, 4, none⟩ = some (.slice a4 (Q i).nu k4) := HZ.out.cell (j := 4) (by omega)
                      have z5 : wr.cell? ⟨Z, 5, none⟩ = some (.slice a5 (Q i).nc k5) := HZ.out.cell (j := 5) (by omega)
                      have z7 : wr.cell? ⟨Z, 7, none⟩ = some (.slice a7 (Q i).nl k7) := HZ.out.cell (j := 7) (by omega)
                      have hci : cnt U i ≤ i := cnt_le U i
                      have hbnd : (cnt U i + 1) * 128 ≤ 140737488355328 := by omega
                      have hbase : gP + 1 ≤ wr.heap.size := HO.out.pl.lt
                      have HOM : Hid (OO wr g5 gU gP gO (gP + 1) n Q U S4 S5 G6 C6 S7 (fun a => if a = i then (Q i).ren U else Y a) (i + 1) i (.slice av (cnt U i) cv)) := hide (HO.out.map (fun a ha => by
                        have hf := HO.out.fn a ha
                        by_cases e : a = i
                        · subst e
                          simp only [if_true] at hf ⊢
                          exact renJ_end hf
                        · simp only [if_neg e] at hf ⊢
                          exact hf))
                      have HOw := hide HO.out.out
                      clear hci HO
                      go_wp2_with (first
                        | (at_builtin
                           refine app_k rfl (.tmp 135) (.tmp 137) 26 45 8 128 _ rfl Tryz.underlying26 Tryz.info45 rfl (by decide) (gP + 1) (.slice av (cnt U i) cv) (cnt U i) _ [.int .i64 (Q i).params, .int .i64 (Q i).regs, .int .i64 (Q i).line, .bool (Q i).dots, .slice a4 (Q i).nu k4, .slice a5 (Q i).nc k5, .slice (some ⟨G6 i, 0, none⟩) (Q i).ni (C6 i), .slice a7 (Q i).nl k7] HOw.out rfl rfl rfl (by simp [Value.oneCell']) hbnd (by decide) hbase ?_
                           intro v7 w7 ho7 hk7 hg7
                           obtain ⟨a8, k8, rfl⟩ := owns_val ho7
                           have HO8 := hide (HOM.out.give hin HUi.out (by have := HE.out; rw [this.1, this.2.1, this.2.2]; exact ho7) hk7)
                           have hcell := HOM.out.cell.keep hk7 (fun e => HOM.out.cell.apart (owns_rowF HOM.out.out e) (by decide) rfl)
                           have y0 : w7.cell? ⟨gO, 0, none⟩ = some (.slice av (cnt U i) cv) := hcell.cell (j := 0) (by omega)
                           have g0 := hcell.frz 0
                           have HX8 := hide ((HX.out.trans (hk7.below (B := w2.heap.size) HX.out.size (fun b e => by have h0 := (owns_blk HOw.out e).1; have h1 := HgP.out; have h2 := HsO.out; have h3 := HgO.out; have h4 := HSo.out; omega))).setCell (p := ⟨gO, 0, none⟩) (by show w2.heap.size ≤ gO; have h1 := HgP.out; have h2 := HsO.out; have h3 := HgO.out; have h4 := HSo.out; omega) (.slice a8 (cnt U i + 1) k8))
                           clear ho7 hk7 hg7 hcell c0 z0 z1 z2 z3 z4 z5 z6 z7)
                        | fail)
                      go_roundw
                      case rel => exact ⟨i + 1, _, _, by omega, by simp, HO8, hide (fun c hc => by
                        by_cases e : c = i
                        · subst e
                          rw [if_pos rfl, if_pos ⟨by omega, HUi.out⟩]
                        · rw [if_neg e, HY.out c hc]
                          by_cases e2 : c < i ∧ U c = true
                          · rw [if_pos e2, if_pos ⟨by omega, e2.2⟩]
                          · rw [if_neg e2, if_neg (fun x => e2 ⟨by omega, x.2⟩)]), HX8⟩
                      case measure => simp [ivN]; omega
              · obtain rfl : n = i := by omega
                have hR := HR2.out.low HX.out HR2.out.lt
                have hV := HV2.out.low HX.out HV2.out.lt
                have c0 : wr.cell? ⟨gO, 0, none⟩ = some (.slice av (cnt U n) cv) := HO.out.cell.cell (j := 0) (by omega)
                have r0 : wr.cell? ⟨w.heap.size + 1, 0, none⟩ = some nilS := hR.cell (j := 0) (by simp)
                have v0 : wr.cell? ⟨w.heap.size + 1 + 1, 0, none⟩ = some (.int .i64 0) := hV.cell (j := 0) (by simp)
                have v1 : wr.cell? ⟨w.heap.size + 1 + 1, 1, none⟩ = some (.int .i64 0) := hV.cell (j := 1) (by simp)
                have v2 : wr.cell? ⟨w.heap.size + 1 + 1, 2, none⟩ = some (.int .i64 0) := hV.cell (j := 2) (by simp)
                have fr := hR.frz 0
                have fv0 := hV.frz 0
                have fv1 := hV.frz 1
                have fv2 := hV.frz 2
                have HRr := hide hR
                have HVr := hide hV
                have HgB := hide (show gO ≠ w.heap.size + 1 ∧ gO ≠ w.heap.size + 1 + 1 from ⟨fun e => by have h1 := HR2.out.lt; have h2 := HgO.out; have h3 := HSo.out; omega, fun e => by have h1 := HV2.out.lt; have h2 := HgO.out; have h3 := HSo.out; omega⟩)
                clear hR hV
                go_wp2_with fail
                refine bodyPost_ret (v := .tuple #[.agg #[.slice av (cnt U n) cv], .agg #[.int .i64 0, .int .i64 0, .int .i64 0]]) ?_ rfl ⟨0, 0, 0, .slice av (cnt U n) cv, rfl, HVz.out, ?_, .inr ⟨rfl, F, HFd.out, ?_⟩⟩
                · simp [results, Tryz.results5, go_sem, nilS, r0, v0, v1, v2]
                · exact ((((HB2.out.trans (HX.out.mono HB2.out.size)).setCell (by show w.heap.size ≤ w.heap.size + 1; omega) _).setCell (by show w.heap.size ≤ w.heap.size + 1 + 1; omega) _).setCell (by show w.heap.size ≤ w.heap.size + 1 + 1; omega) _).setCell (by show w.heap.size ≤ w.heap.size + 1 + 1; omega) _
                · rw [← HQ.out, HUe.out, show outF n Q = fun j => (Q (kpAt U n j)).ren U by unfold outF; rw [HUe.out]]
                  refine HO.out.pros2 (S := fun b => b = w.heap.size + 1 ∨ b = w.heap.size + 1 + 1) (fun c hc hu => by rw [HY.out c hc, if_pos ⟨hc, hu⟩]) (((((Keeps.refl wr _).setCell (j := 0) (.inl rfl) _).setCell (j := 0) (.inr rfl) _).setCell (j := 1) (.inr rfl) _).setCell (j := 2) (.inr rfl) _) (fun b hb => ?_) (fun e => by rcases e with e | e; exact HgB.out.1 e; exact HgB.out.2 e)
                  rcases hb with rfl | rfl
                  · exact ⟨_, _, _, HRr.out, by decide, by decide, by decide, by decide, by decide, by decide⟩
                  · exact ⟨_, _, _, HVr.out, by decide, by decide, by decide, by decide, by decide, by decide⟩
  · have ha2 : (va != 0) = true := by simp [ha]
    have hne1 : X ≠ w.heap.size + 1 := by have := HX1.out; omega
    have hne2 : w.heap.size + 1 ≠ X := by have := HX1.out; omega
    have hne3 : X ≠ w.heap.size + 1 + 1 := by have := HX1.out; omega
    have hne4 : w.heap.size + 1 + 1 ≠ X := by have := HX1.out; omega
    clear hx1 HC2 HF HBit HX1
    have HAn := hide ha
    clear ha
    go_upto_region 3 with (fail)
    go_region
    all_goals
      go_wp2_with fail
      refine bodyPost_ret (v := .tuple #[.agg #[nilS], .agg #[.int .i64 va, .int .i64 vb, .int .i64 vc]]) ?_ rfl ⟨va, vb, vc, nilS, rfl, HV.out, ?_, .inl ⟨HAn.out, rfl⟩⟩
      · simp [results, Tryz.results5, go_sem, nilS, r0, v0, v1, v2]
      · exact ((((HB2.out.setCell (by show w.heap.size ≤ w.heap.size + 1; omega) _).setCell (by show w.heap.size ≤ w.heap.size + 1 + 1; omega) _).setCell (by show w.heap.size ≤ w.heap.size + 1 + 1; omega) _).setCell (by show w.heap.size ≤ w.heap.size + 1 + 1; omega) _).drew
end Go.Proofs.YtgnbhhgpaldheaaGreat
