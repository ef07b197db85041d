import Derived.Test.YtgnbhhgpaldheaaGreatKV8
import Derived.Test.YtgnbhhgpaldheaaGreatKBS
import Derived.BigRegion
namespace Go.Proofs.YtgnbhhgpaldheaaGreat
open Go Go.RowKit
set_option linter.unusedVariables false
theorem upsNat_of {n : Nat} {P : Nat → PV} {k : Nat} (h : ∀ i, i < k → fnOk n P i) : upsNat k P := fun i hi q hq => by
  have := (h i hi).1.1.2.1 q hq
  exact (inI_iff.1 this).1
theorem ProsA.take {w : World} {b o n cap k : Nat} {P : Nat → PV} (h : ProsA w (.slice (some ⟨b, o, none⟩) n cap) n P) (hk : k < n) : ProsA w (.slice (some ⟨b, o, none⟩) k cap) k P := by
  rcases h with ⟨h9, _⟩ | ⟨b', o', cap', e, hb, hcap, hc⟩
  · omega
  · cases e
    exact .inr ⟨b, o, cap, rfl, hb, by omega, fun i hi => hc i (by omega)⟩
set_option maxHeartbeats 6400000 in
set_option maxRecDepth 100000 in
theorem implVerify_any : VerifyAt 17 := by
  intro v n P w hn hf hbit h
  have HA := hide h
  obtain ⟨a0, k0, rfl⟩ := h.val
  have HF := hide hf
  have HBit := hide hbit
  clear h hf hbit
  have HB1 := hide (b_2 w (.cells #[.slice a0 n k0] 28) (.cells #[.int .i64 0, .int .i64 0, .int .i64 0] 30))
  have hC := RowF.mk' w 28 #[.slice a0 n k0]
  have HC := hide (hC.low (b_1 _ (.cells #[.int .i64 0, .int .i64 0, .int .i64 0] 30)) hC.lt)
  have hZ := RowF.mk' (w.alloc (.cells #[.slice a0 n k0] 28)) 30 #[.int .i64 0, .int .i64 0, .int .i64 0]
  have eZ : (w.alloc (.cells #[.slice a0 n k0] 28)).heap.size = w.heap.size + 1 := by simp
  rw [eZ] at hZ
  have HZ := hide hZ
  clear hC hZ eZ
  rcases hx : inI (n : Int) 1 1000 with _ | _
  · go_enter Tryz.func17, Tryz.ntmps17
    go_wp2_with (go_at_call 36; refine (within_any _ _ _ _).mono ?_; rintro e w' ⟨rfl, hw⟩; obtain rfl := hw.symm)
    refine bodyPost_ret (v := .agg #[.int .i64 1, .int .i64 0, .int .i64 0]) ?_ rfl ⟨1, 0, 0, rfl, .inl ⟨by simp [inI] at hx; omega, rfl, rfl, rfl⟩, b_2 _ _ _⟩
    simp [results, Tryz.results17, go_sem]
  · have hx2 : 1 ≤ n ∧ n ≤ 1000 := by simp [inI] at hx; omega
    go_enter Tryz.func17, Tryz.ntmps17
    go_wp2_with (go_at_call 36; refine (within_any _ _ _ _).mono ?_; rintro e w' ⟨rfl, hw⟩; obtain rfl := hw.symm)
    rename_i K1 a1
    have HK := hide a1
    clear a1
    generalize (w.alloc (.cells #[.slice a0 n k0] 28)).alloc (.cells #[.int .i64 0, .int .i64 0, .int .i64 0] 30) = w1 at HB1 HC HZ ⊢
    go_loopw [18] (fun iv wr => ∃ k : Nat, k ≤ n ∧ iv = .int .i64 k ∧ Hid (∀ i, i < k → fnOk n P i) ∧ Hid (Below w1.heap.size w1 wr)) (fun iv _ => match iv with | .int _ x => n - x.toNat | _ => 0)
    case atStart => exact ⟨0, by omega, rfl, hide (fun k hk => by omega), hide (Below.refl _ _)⟩
    case round =>
      obtain ⟨k, hk9, rfl, HI, HBw⟩ := hrel
      by_cases hin : k < n
      · rcases HA.out with ⟨h9, _⟩ | ⟨b, o, cap, e9, hb, hcap, hc⟩
        · omega
        cases e9
        obtain ⟨s4, s5, s6, s7, hc8, hpva⟩ := hc k hin
        have HBB := hide (HB1.out.trans (HBw.out.mono HB1.out.size))
        obtain ⟨c0, c1, c2, c3, c4, c5, c6, c7⟩ := hc8.low HBB.out hb
        obtain ⟨a4, k4, rfl⟩ := hpva.u.val
        obtain ⟨a5, k5, rfl⟩ := hpva.c.val
        obtain ⟨a6, k6, rfl⟩ := hpva.i.val
        obtain ⟨a7, k7, rfl⟩ := hpva.l.val
        have HPA := hide hpva
        clear hc hc8 hpva
        have hCr := HC.out.low HBw.out HC.out.lt
        have y0 : wr.cell? ⟨w.heap.size, 0, none⟩ = some (.slice (some ⟨b, o, none⟩) n k0) := hCr.cell (j := 0) (by simp)
        have y1 : (wr.alloc (.cells #[.int .i64 (P k).params, .int .i64 (P k).regs, .int .i64 (P k).line, .bool (P k).dots, .slice a4 (P k).nu k4, .slice a5 (P k).nc k5, .slice a6 (P k).ni k6, .slice a7 (P k).nl k7] 45)).cell? ⟨w.heap.size, 0, none⟩ = some (.slice (some ⟨b, o, none⟩) n k0) := ((b_1 wr _).cell (p := ⟨w.heap.size, 0, none⟩) hCr.lt).trans y0
        clear hCr
        have hlast : ((k + 1 = n) ∧ ((k : Int) == (n : Int) - 1) = true) ∨ (¬ (k + 1 = n) ∧ ((k : Int) == (n : Int) - 1) = false) := by
          by_cases e : k + 1 = n
          · exact .inl ⟨e, by simp; omega⟩
          · exact .inr ⟨e, by simp; omega⟩
        have hPr := RowF.mk' wr 45 #[.int .i64 (P k).params, .int .i64 (P k).regs, .int .i64 (P k).line, .bool (P k).dots, .slice a4 (P k).nu k4, .slice a5 (P k).nc k5, .slice a6 (P k).ni k6, .slice a7 (P k).nl k7]
        go_wp2_with fail
        refine (hasShape_any (P k) _ _ _ _ _ (HF.out k hin) (HBit.out k hin) (HPA.out.low (HBB.out.trans ((b_1 wr _).mono HBB.out.size)) (Nat.le_refl _))).mono ?_
        rintro e w3 ⟨r, rfl, hr, hb3⟩
        have HB3 := hide ((HBw.out.alloc HBw.out.size _).trans (hb3.mono (HBw.out.alloc HBw.out.size _).size))
        have HPr := hide (hPr.low hb3 hPr.lt)
        clear hPr hb3 c0 c1 c2 c3 c4 c5 c6 c7 y0 y1
        generalize wr.heap.size = gp at HPr ⊢
        have nb : w.heap.size ≤ w.heap.size + 1 := by omega
        rcases hr with ⟨rfl, q1⟩ | ⟨rfl, q1⟩
        case inr =>
          have Q1 := hide q1
          clear q1
          have HBE := hide (HB1.out.trans (HB3.out.mono HB1.out.size))
          have hz := HZ.out.low HB3.out HZ.out.lt
          have z0 : w3.cell? ⟨w.heap.size + 1, 0, none⟩ = some (.int .i64 0) := hz.cell (j := 0) (by simp)
          have z1 : w3.cell? ⟨w.heap.size + 1, 1, none⟩ = some (.int .i64 0) := hz.cell (j := 1) (by simp)
          have z2 : w3.cell? ⟨w.heap.size + 1, 2, none⟩ = some (.int .i64 0) := hz.cell (j := 2) (by simp)
          have t0 := hz.frz 0
          have t1 := hz.frz 1
          have t2 := hz.frz 2
          clear hz
          go_wp2_with fail
          refine bodyPost_ret (v := .agg #[.int .i64 1, .int .i64 k, .int .i64 0]) ?_ rfl ⟨1, k, 0, rfl, .inr ⟨hx2, .inl ⟨k, hin, rfl, .inl ⟨fun q => Q1.out ⟨q.1, q.2.1⟩, rfl, rfl⟩, HI.out⟩⟩, ((HBE.out.setCell nb _).setCell nb _).setCell nb _⟩
          simp [results, Tryz.results17, go_sem, z0, z1, z2]
        have Q1 := hide q1
        clear q1
        rcases hlast with ⟨hl1, hl2⟩ | ⟨hl1, hl2⟩
        · have HL := hide hl1
          have p0 : w3.cell? ⟨gp, 0, none⟩ = some (.int .i64 (P k).params) := HPr.out.cell (j := 0) (by simp)
          have p1 : w3.cell? ⟨gp, 1, none⟩ = some (.int .i64 (P k).regs) := HPr.out.cell (j := 1) (by simp)
          have p2 : w3.cell? ⟨gp, 2, none⟩ = some (.int .i64 (P k).line) := HPr.out.cell (j := 2) (by simp)
          have p3 : w3.cell? ⟨gp, 3, none⟩ = some (.bool (P k).dots) := HPr.out.cell (j := 3) (by simp)
          have p4 : w3.cell? ⟨gp, 4, none⟩ = some (.slice a4 (P k).nu k4) := HPr.out.cell (j := 4) (by simp)
          have p5 : w3.cell? ⟨gp, 5, none⟩ = some (.slice a5 (P k).nc k5) := HPr.out.cell (j := 5) (by simp)
          have p6 : w3.cell? ⟨gp, 6, none⟩ = some (.slice a6 (P k).ni k6) := HPr.out.cell (j := 6) (by simp)
          have p7 : w3.cell? ⟨gp, 7, none⟩ = some (.slice a7 (P k).nl k7) := HPr.out.cell (j := 7) (by simp)
          go_wp2_with fail
          clear p0 p1 p2 p3 p4 p5 p6 p7
          refine (canBeText_any (P k) a4 k4 _ _ _ w3 (HF.out k hin).1).mono ?_
          rintro e w4 ⟨r, rfl, hr, hb4⟩
          have HB4 := hide (HB3.out.trans (hb4.mono HB3.out.size))
          have HPr4 := hide (HPr.out.low hb4 HPr.out.lt)
          clear hb4 HPr HB3
          rcases hr with ⟨rfl, q2⟩ | ⟨rfl, q2⟩
          case inr =>
            have Q2 := hide q2
            clear q2
            have HBE := hide (HB1.out.trans (HB4.out.mono HB1.out.size))
            have hz := HZ.out.low HB4.out HZ.out.lt
            have z0 : w4.cell? ⟨w.heap.size + 1, 0, none⟩ = some (.int .i64 0) := hz.cell (j := 0) (by simp)
            have z1 : w4.cell? ⟨w.heap.size + 1, 1, none⟩ = some (.int .i64 0) := hz.cell (j := 1) (by simp)
            have z2 : w4.cell? ⟨w.heap.size + 1, 2, none⟩ = some (.int .i64 0) := hz.cell (j := 2) (by simp)
            have t0 := hz.frz 0
            have t1 := hz.frz 1
            have t2 := hz.frz 2
            clear hz
            go_wp2_with fail
            refine bodyPost_ret (v := .agg #[.int .i64 1, .int .i64 k, .int .i64 0]) ?_ rfl ⟨1, k, 0, rfl, .inr ⟨hx2, .inl ⟨k, hin, rfl, .inl ⟨fun q => Q2.out (q.2.2 HL.out), rfl, rfl⟩, HI.out⟩⟩, ((HBE.out.setCell nb _).setCell nb _).setCell nb _⟩
            simp [results, Tryz.results17, go_sem, z0, z1, z2]
          have QS : Hid (shapeOk n P k) := hide ⟨Q1.out.1, Q1.out.2, fun _ => q2⟩
          clear q2
          go_upto_region 9 with (fail)
          have hC3 := HC.out.low HB4.out HC.out.lt
          have y0 : w4.cell? ⟨w.heap.size, 0, none⟩ = some (.slice (some ⟨b, o, none⟩) n k0) := hC3.cell (j := 0) (by simp)
          clear hC3
          have p0 : w4.cell? ⟨gp, 0, none⟩ = some (.int .i64 (P k).params) := HPr4.out.cell (j := 0) (by simp)
          have p1 : w4.cell? ⟨gp, 1, none⟩ = some (.int .i64 (P k).regs) := HPr4.out.cell (j := 1) (by simp)
          have p2 : w4.cell? ⟨gp, 2, none⟩ = some (.int .i64 (P k).line) := HPr4.out.cell (j := 2) (by simp)
          have p3 : w4.cell? ⟨gp, 3, none⟩ = some (.bool (P k).dots) := HPr4.out.cell (j := 3) (by simp)
          have p4 : w4.cell? ⟨gp, 4, none⟩ = some (.slice a4 (P k).nu k4) := HPr4.out.cell (j := 4) (by simp)
          have p5 : w4.cell? ⟨gp, 5, none⟩ = some (.slice a5 (P k).nc k5) := HPr4.out.cell (j := 5) (by simp)
          have p6 : w4.cell? ⟨gp, 6, none⟩ = some (.slice a6 (P k).ni k6) := HPr4.out.cell (j := 6) (by simp)
          have p7 : w4.cell? ⟨gp, 7, none⟩ = some (.slice a7 (P k).nl k7) := HPr4.out.cell (j := 7) (by simp)
          have hA := b_1 (w4) (.cells #[.int .i64 (P k).params, .int .i64 (P k).regs, .int .i64 (P k).line, .bool (P k).dots, .slice a4 (P k).nu k4, .slice a5 (P k).nc k5, .slice a6 (P k).ni k6, .slice a7 (P k).nl k7, .slice (some ⟨b, o, none⟩) k k0] 86)
          have hkI : (k : Int) ≤ (k0 : Int) := by omega
          go_region
          clear y0 p0 p1 p2 p3 p4 p5 p6 p7
          have hD := hA.drew
          have hV0 := RowF.mk' w4 86 #[.int .i64 (P k).params, .int .i64 (P k).regs, .int .i64 (P k).line, .bool (P k).dots, .slice a4 (P k).nu k4, .slice a5 (P k).nc k5, .slice a6 (P k).ni k6, .slice a7 (P k).nl k7, .slice (some ⟨b, o, none⟩) k k0]
          have hVR : VR (w4.alloc (.cells #[.int .i64 (P k).params, .int .i64 (P k).regs, .int .i64 (P k).line, .bool (P k).dots, .slice a4 (P k).nu k4, .slice a5 (P k).nc k5, .slice a6 (P k).ni k6, .slice a7 (P k).nl k7, .slice (some ⟨b, o, none⟩) k k0] 86)).drew w4.heap.size (P k) _ _ _ _ _ := hV0.low ((Below.refl (w4.alloc (.cells #[.int .i64 (P k).params, .int .i64 (P k).regs, .int .i64 (P k).line, .bool (P k).dots, .slice a4 (P k).nu k4, .slice a5 (P k).nc k5, .slice a6 (P k).ni k6, .slice a7 (P k).nl k7, .slice (some ⟨b, o, none⟩) k k0] 86)).heap.size _).drew) hV0.lt
          have HB5 := hide (HB4.out.trans (hD.mono HB4.out.size))
          have HP5 := hide (HPr4.out.low hD HPr4.out.lt)
          clear hA hD hV0 HPr4
          generalize (w4.alloc (.cells #[.int .i64 (P k).params, .int .i64 (P k).regs, .int .i64 (P k).line, .bool (P k).dots, .slice a4 (P k).nu k4, .slice a5 (P k).nc k5, .slice a6 (P k).ni k6, .slice a7 (P k).nl k7, .slice (some ⟨b, o, none⟩) k k0] 86)).drew = w5 at hVR HB5 HP5 ⊢
          generalize w4.heap.size = gv at hVR ⊢
          have HVR := hide hVR
          clear hVR
          have p6 : w5.cell? ⟨gp, 6, none⟩ = some (.slice a6 (P k).ni k6) := HP5.out.cell (j := 6) (by simp)
          go_wp2_with fail
          clear p6
          rename_i K2 a2
          have HK2 := hide a2
          clear a2
          obtain ⟨⟨hd1, hd2, -⟩, -, -, hcode⟩ := QS.out.1
          have hr0 : 0 ≤ (P k).regs := by simp [inI] at hd2; omega
          have hr1 : (P k).regs ≤ 255 := by simp [inI] at hd2; omega
          have HBy : Hid (byteA (P k)) := hide (fun j hj => by
            have := (hcode j hj).1.2.1
            simp [inI] at this
            exact this)
          clear hd1 hd2 hcode
          have hnib : (P k).ni ≤ 1048576 := (HF.out k hin).2.2.1
          have HBE5 := hide (HB1.out.trans (HB5.out.mono HB1.out.size))
          have HVX : Hid (VX w5 gv (P k) _ _ _ _ _) := hide ⟨HVR.out, HPA.out.low HBE5.out (Nat.le_refl _), hnib, (HF.out k hin).2.1, (HF.out k hin).1, hr0, hr1, HBy.out⟩
          have HAk := hide ((HA.out.low HBE5.out (Nat.le_refl _)).take hin)
          have HFk : Hid (allFit k P 1048576) := hide (fun i hi => HF.out i (by omega))
          have HUk := hide (upsNat_of HI.out)
          go_loopw [52] (fun iv wq => ∃ j : Nat, j ≤ (P k).ni ∧ iv = .int .i64 j ∧ Hid (∀ i, i < j → FB (asks P k (P k) i) 0) ∧ Hid (Below w5.heap.size w5 wq)) (fun iv _ => match iv with | .int _ x => (P k).ni - x.toNat | _ => 0)
          case atStart => exact ⟨0, by omega, rfl, hide (fun k hk => by omega), hide (Below.refl _ _)⟩
          case round =>
            rename World => wq
            obtain ⟨j, hj9, rfl, HJ, HBq⟩ := hrel
            have HB6 := hide (HB5.out.trans (HBq.out.mono HB5.out.size))
            by_cases hjn : j < (P k).ni
            · go_wp2_with fail
              refine (look_any gv P k (P k) _ _ _ _ _ j wq (by omega) hjn HFk.out HUk.out (HAk.out.low HBq.out (Nat.le_refl _)) (HVX.out.low HBq.out)).mono ?_
              rintro e w6 ⟨c, rfl, hc, hb6⟩
              have HC6 := hide hc
              have HBq6 := hide (HBq.out.trans (hb6.mono HBq.out.size))
              have HB7 := hide (HB6.out.trans (hb6.mono HB6.out.size))
              clear hc hb6
              by_cases hc0 : c = 0
              · subst hc0
                go_wp2_with fail
                go_roundw
                case rel => exact ⟨j + 1, by omega, by simp, hide (fun i hi => by
                  by_cases e : i = j
                  · subst e; exact HC6.out
                  · exact HJ.out i (by omega)), HBq6⟩
                case measure => simp; omega
              · have hcn : (c != 0) = true := by simp [hc0]
                have hz := HZ.out.low HB7.out HZ.out.lt
                have z0 : w6.cell? ⟨w.heap.size + 1, 0, none⟩ = some (.int .i64 0) := hz.cell (j := 0) (by simp)
                have z1 : w6.cell? ⟨w.heap.size + 1, 1, none⟩ = some (.int .i64 0) := hz.cell (j := 1) (by simp)
                have z2 : w6.cell? ⟨w.heap.size + 1, 2, none⟩ = some (.int .i64 0) := hz.cell (j := 2) (by simp)
                have t0 := hz.frz 0
                have t1 := hz.frz 1
                have t2 := hz.frz 2
                clear hz
                have HBF := hide (HB1.out.trans (HB7.out.mono HB1.out.size))
                have HC0 := hide hc0
                clear hc0
                go_wp2_with fail
                refine bodyPost_ret (v := .agg #[.int .i64 c, .int .i64 k, .int .i64 j]) ?_ rfl ⟨c, k, j, rfl, .inr ⟨hx2, .inl ⟨k, hin, rfl, .inr ⟨QS.out, j, hjn, rfl, HC0.out, HC6.out, HJ.out⟩, HI.out⟩⟩, ((HBF.out.setCell nb _).setCell nb _).setCell nb _⟩
                simp [results, Tryz.results17, go_sem, z0, z1, z2]
            · obtain rfl : j = (P k).ni := by omega
              go_wp2_with fail
              refine HK2.out _ _ ?_
              clear HK2
              go_wp2_with fail
              go_roundw
              case rel => exact ⟨k + 1, by omega, by simp, hide (fun i hi => by
                by_cases e : i = k
                · subst e; exact ⟨QS.out, HJ.out⟩
                · exact HI.out i (by omega)), HB6⟩
              case measure => simp; omega
        · have HL := hide hl1
          have HB4 := HB3
          have HPr4 := HPr
          clear HB3 HPr
          have QS : Hid (shapeOk n P k) := hide ⟨Q1.out.1, Q1.out.2, fun q => absurd q HL.out⟩
          go_upto_region 9 with (fail)
          have hC3 := HC.out.low HB4.out HC.out.lt
          have y0 : w3.cell? ⟨w.heap.size, 0, none⟩ = some (.slice (some ⟨b, o, none⟩) n k0) := hC3.cell (j := 0) (by simp)
          clear hC3
          have p0 : w3.cell? ⟨gp, 0, none⟩ = some (.int .i64 (P k).params) := HPr4.out.cell (j := 0) (by simp)
          have p1 : w3.cell? ⟨gp, 1, none⟩ = some (.int .i64 (P k).regs) := HPr4.out.cell (j := 1) (by simp)
          have p2 : w3.cell? ⟨gp, 2, none⟩ = some (.int .i64 (P k).line) := HPr4.out.cell (j := 2) (by simp)
          have p3 : w3.cell? ⟨gp, 3, none⟩ = some (.bool (P k).dots) := HPr4.out.cell (j := 3) (by simp)
          have p4 : w3.cell? ⟨gp, 4, none⟩ = some (.slice a4 (P k).nu k4) := HPr4.out.cell (j := 4) (by simp)
          have p5 : w3.cell? ⟨gp, 5, none⟩ = some (.slice a5 (P k).nc k5) := HPr4.out.cell (j := 5) (by simp)
          have p6 : w3.cell? ⟨gp, 6, none⟩ = some (.slice a6 (P k).ni k6) := HPr4.out.cell (j := 6) (by simp)
          have p7 : w3.cell? ⟨gp, 7, none⟩ = some (.slice a7 (P k).nl k7) := HPr4.out.cell (j := 7) (by simp)
          have hA := b_1 (w3) (.cells #[.int .i64 (P k).params, .int .i64 (P k).regs, .int .i64 (P k).line, .bool (P k).dots, .slice a4 (P k).nu k4, .slice a5 (P k).nc k5, .slice a6 (P k).ni k6, .slice a7 (P k).nl k7, .slice (some ⟨b, o, none⟩) k k0] 86)
          have hkI : (k : Int) ≤ (k0 : Int) := by omega
          go_region
          clear y0 p0 p1 p2 p3 p4 p5 p6 p7
          have hD := hA.drew
          have hV0 := RowF.mk' w3 86 #[.int .i64 (P k).params, .int .i64 (P k).regs, .int .i64 (P k).line, .bool (P k).dots, .slice a4 (P k).nu k4, .slice a5 (P k).nc k5, .slice a6 (P k).ni k6, .slice a7 (P k).nl k7, .slice (some ⟨b, o, none⟩) k k0]
          have hVR : VR (w3.alloc (.cells #[.int .i64 (P k).params, .int .i64 (P k).regs, .int .i64 (P k).line, .bool (P k).dots, .slice a4 (P k).nu k4, .slice a5 (P k).nc k5, .slice a6 (P k).ni k6, .slice a7 (P k).nl k7, .slice (some ⟨b, o, none⟩) k k0] 86)).drew w3.heap.size (P k) _ _ _ _ _ := hV0.low ((Below.refl (w3.alloc (.cells #[.int .i64 (P k).params, .int .i64 (P k).regs, .int .i64 (P k).line, .bool (P k).dots, .slice a4 (P k).nu k4, .slice a5 (P k).nc k5, .slice a6 (P k).ni k6, .slice a7 (P k).nl k7, .slice (some ⟨b, o, none⟩) k k0] 86)).heap.size _).drew) hV0.lt
          have HB5 := hide (HB4.out.trans (hD.mono HB4.out.size))
          have HP5 := hide (HPr4.out.low hD HPr4.out.lt)
          clear hA hD hV0 HPr4
          generalize (w3.alloc (.cells #[.int .i64 (P k).params, .int .i64 (P k).regs, .int .i64 (P k).line, .bool (P k).dots, .slice a4 (P k).nu k4, .slice a5 (P k).nc k5, .slice a6 (P k).ni k6, .slice a7 (P k).nl k7, .slice (some ⟨b, o, none⟩) k k0] 86)).drew = w5 at hVR HB5 HP5 ⊢
          generalize w3.heap.size = gv at hVR ⊢
          have HVR := hide hVR
          clear hVR
          have p6 : w5.cell? ⟨gp, 6, none⟩ = some (.slice a6 (P k).ni k6) := HP5.out.cell (j := 6) (by simp)
          go_wp2_with fail
          clear p6
          rename_i K2 a2
          have HK2 := hide a2
          clear a2
          obtain ⟨⟨hd1, hd2, -⟩, -, -, hcode⟩ := QS.out.1
          have hr0 : 0 ≤ (P k).regs := by simp [inI] at hd2; omega
          have hr1 : (P k).regs ≤ 255 := by simp [inI] at hd2; omega
          have HBy : Hid (byteA (P k)) := hide (fun j hj => by
            have := (hcode j hj).1.2.1
            simp [inI] at this
            exact this)
          clear hd1 hd2 hcode
          have hnib : (P k).ni ≤ 1048576 := (HF.out k hin).2.2.1
          have HBE5 := hide (HB1.out.trans (HB5.out.mono HB1.out.size))
          have HVX : Hid (VX w5 gv (P k) _ _ _ _ _) := hide ⟨HVR.out, HPA.out.low HBE5.out (Nat.le_refl _), hnib, (HF.out k hin).2.1, (HF.out k hin).1, hr0, hr1, HBy.out⟩
          have HAk := hide ((HA.out.low HBE5.out (Nat.le_refl _)).take hin)
          have HFk : Hid (allFit k P 1048576) := hide (fun i hi => HF.out i (by omega))
          have HUk := hide (upsNat_of HI.out)
          go_loopw [52] (fun iv wq => ∃ j : Nat, j ≤ (P k).ni ∧ iv = .int .i64 j ∧ Hid (∀ i, i < j → FB (asks P k (P k) i) 0) ∧ Hid (Below w5.heap.size w5 wq)) (fun iv _ => match iv with | .int _ x => (P k).ni - x.toNat | _ => 0)
          case atStart => exact ⟨0, by omega, rfl, hide (fun k hk => by omega), hide (Below.refl _ _)⟩
          case round =>
            rename World => wq
            obtain ⟨j, hj9, rfl, HJ, HBq⟩ := hrel
            have HB6 := hide (HB5.out.trans (HBq.out.mono HB5.out.size))
            by_cases hjn : j < (P k).ni
            · go_wp2_with fail
              refine (look_any gv P k (P k) _ _ _ _ _ j wq (by omega) hjn HFk.out HUk.out (HAk.out.low HBq.out (Nat.le_refl _)) (HVX.out.low HBq.out)).mono ?_
              rintro e w6 ⟨c, rfl, hc, hb6⟩
              have HC6 := hide hc
              have HBq6 := hide (HBq.out.trans (hb6.mono HBq.out.size))
              have HB7 := hide (HB6.out.trans (hb6.mono HB6.out.size))
              clear hc hb6
              by_cases hc0 : c = 0
              · subst hc0
                go_wp2_with fail
                go_roundw
                case rel => exact ⟨j + 1, by omega, by simp, hide (fun i hi => by
                  by_cases e : i = j
                  · subst e; exact HC6.out
                  · exact HJ.out i (by omega)), HBq6⟩
                case measure => simp; omega
              · have hcn : (c != 0) = true := by simp [hc0]
                have hz := HZ.out.low HB7.out HZ.out.lt
                have z0 : w6.cell? ⟨w.heap.size + 1, 0, none⟩ = some (.int .i64 0) := hz.cell (j := 0) (by simp)
                have z1 : w6.cell? ⟨w.heap.size + 1, 1, none⟩ = some (.int .i64 0) := hz.cell (j := 1) (by simp)
                have z2 : w6.cell? ⟨w.heap.size + 1, 2, none⟩ = some (.int .i64 0) := hz.cell (j := 2) (by simp)
                have t0 := hz.frz 0
                have t1 := hz.frz 1
                have t2 := hz.frz 2
                clear hz
                have HBF := hide (HB1.out.trans (HB7.out.mono HB1.out.size))
                have HC0 := hide hc0
                clear hc0
                go_wp2_with fail
                refine bodyPost_ret (v := .agg #[.int .i64 c, .int .i64 k, .int .i64 j]) ?_ rfl ⟨c, k, j, rfl, .inr ⟨hx2, .inl ⟨k, hin, rfl, .inr ⟨QS.out, j, hjn, rfl, HC0.out, HC6.out, HJ.out⟩, HI.out⟩⟩, ((HBF.out.setCell nb _).setCell nb _).setCell nb _⟩
                simp [results, Tryz.results17, go_sem, z0, z1, z2]
            · obtain rfl : j = (P k).ni := by omega
              go_wp2_with fail
              refine HK2.out _ _ ?_
              clear HK2
              go_wp2_with fail
              go_roundw
              case rel => exact ⟨k + 1, by omega, by simp, hide (fun i hi => by
                by_cases e : i = k
                · subst e; exact ⟨QS.out, HJ.out⟩
                · exact HI.out i (by omega)), HB6⟩
              case measure => simp; omega
      · obtain rfl : k = n := by omega
        go_wp2
        refine HK.out _ _ ?_
        clear HK
        have hz := HZ.out.low HBw.out HZ.out.lt
        have z0 : wr.cell? ⟨w.heap.size + 1, 0, none⟩ = some (.int .i64 0) := hz.cell (j := 0) (by simp)
        have z1 : wr.cell? ⟨w.heap.size + 1, 1, none⟩ = some (.int .i64 0) := hz.cell (j := 1) (by simp)
        have z2 : wr.cell? ⟨w.heap.size + 1, 2, none⟩ = some (.int .i64 0) := hz.cell (j := 2) (by simp)
        have t0 := hz.frz 0
        have t1 := hz.frz 1
        have t2 := hz.frz 2
        clear hz
        go_wp2
        have nb : w.heap.size ≤ w.heap.size + 1 := by omega
        refine bodyPost_ret (v := .agg #[.int .i64 0, .int .i64 0, .int .i64 0]) ?_ rfl ⟨0, 0, 0, rfl, .inr ⟨hx2, .inr ⟨HI.out, rfl, rfl, rfl⟩⟩, (((HB1.out.trans (HBw.out.mono HB1.out.size)).setCell nb _).setCell nb _).setCell nb _⟩
        simp [results, Tryz.results17, go_sem, z0, z1, z2]
end Go.Proofs.YtgnbhhgpaldheaaGreat
