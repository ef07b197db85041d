import Derived.Test.YtgnbhhgpaldheaaGreatKD7
namespace Go.Proofs.YtgnbhhgpaldheaaGreat
open Go Go.RowKit
set_option linter.unusedVariables false
def PV.arr (p : PV) (s4 s5 s6 s7 : Value) : Array Value := #[.int .i64 p.params, .int .i64 p.regs, .int .i64 p.line, .bool p.dots, s4, s5, s6, s7]
set_option maxHeartbeats 3200000 in
set_option maxRecDepth 100000 in
theorem keep_any (p : PV) (s4 s5 s6 s7 : Value) (gk : Nat) (s : Nat → Bool) (w : World) (hn : p.ni ≤ 1048576) (hl : p.nl = p.ni) (h : PVA w p s4 s5 s6 s7) (hs : BoolO w gk p.ni s) (hj : ∀ k, k < p.ni → s k = true → jmp (p.i0 k) = true → 0 ≤ p.i2 k ∧ p.i2 k ≤ p.ni) :
    Calls Tryz.prog 31 #[p.agg s4 s5 s6 s7, .slice (some ⟨gk, 0, none⟩) p.ni p.ni] w fun e w' => ∃ v6 v7, e = .returned (p.agg s4 s5 v6 v7) ∧ w'.ownsRow w.heap.size 51 4 v6 (cnt s p.ni) (codeK s p.i0 p.i1 p.i2 p.i3 p.ni) ∧ w'.ownsRow w.heap.size 3 1 v7 (cnt s p.ni) (lineK s p.l0 p.ni) ∧ Below w.heap.size w w' := by
  have HJ := hide hj
  have hgk := hs.lt
  have h6 := h.i
  have h7 := h.l
  obtain ⟨a4, k4, rfl⟩ := h.u.val
  obtain ⟨a5, k5, rfl⟩ := h.c.val
  generalize p.nu = nu at *
  generalize p.nc = nc at *
  obtain ⟨a6, k6, rfl⟩ := h6.val
  obtain ⟨a7, k7, rfl⟩ := h7.val
  rw [hl] at h7 ⊢
  generalize p.ni = n at *
  have H6 := hide h6
  have H7 := hide h7
  have HS := hide hs
  obtain ⟨i9, hi0, hz0, hz1, hz2⟩ := info_parts Tryz.info3
  have HI0 := hide (And.intro hi0 (And.intro hz0 (And.intro hz1 hz2)))
  have hp0 := RowF.mk' w 45 (p.arr (.slice a4 nu k4) (.slice a5 nc k5) (.slice a6 n k6) (.slice a7 n k7))
  have HP0 := hide (hp0.low (b_1 _ (.cells #[.int .i64 0, .int .i64 0, .int .i64 0, .bool false, nilS, nilS, nilS, nilS] 45)) hp0.lt)
  have hq0 := RowF.mk' (w.alloc (.cells (p.arr (.slice a4 nu k4) (.slice a5 nc k5) (.slice a6 n k6) (.slice a7 n k7)) 45)) 45 #[.int .i64 0, .int .i64 0, .int .i64 0, .bool false, nilS, nilS, nilS, nilS]
  rw [show (w.alloc (.cells (p.arr (.slice a4 nu k4) (.slice a5 nc k5) (.slice a6 n k6) (.slice a7 n k7)) 45)).heap.size = w.heap.size + 1 by simp] at hq0
  have HQ0 := hide hq0
  have HB0 := hide (b_2 w (.cells (p.arr (.slice a4 nu k4) (.slice a5 nc k5) (.slice a6 n k6) (.slice a7 n k7)) 45) (.cells #[.int .i64 0, .int .i64 0, .int .i64 0, .bool false, nilS, nilS, nilS, nilS] 45))
  have HSZ := hide (show ((w.alloc (.cells (p.arr (.slice a4 nu k4) (.slice a5 nc k5) (.slice a6 n k6) (.slice a7 n k7)) 45)).alloc (.cells #[.int .i64 0, .int .i64 0, .int .i64 0, .bool false, nilS, nilS, nilS, nilS] 45)).heap.size = w.heap.size + 1 + 1 by simp)
  clear hl h hs hj hi0 hz0 hz1 hz2 hp0 hq0 h6 h7
  unfold PV.agg
  unfold PV.arr at *
  go_enter Tryz.func31, Tryz.ntmps31
  go_wp2_with (first
      | (at_make
         refine wpList_make_full _ rfl _ _ 43 rfl w.heap.size 3 i9 (.int .i64 0) 1 Tryz.underlying43 HI0.out.1 HI0.out.2.1 HI0.out.2.2.1 _ _ _ _ (n + 1) rfl rfl rfl rfl (by rw [HI0.out.2.2.2]; omega) (by unfold maxLen; omega) HB0.out.size ?_
         intro w1 hown hgrow
         have HB1 := hide (HB0.out.grown hgrow HB0.out.size (fun _ h => by cases h))
         have hB1 : Below (w.heap.size + 1 + 1) _ w1 := (Below.refl _ _).grown hgrow (by simp) (fun _ h => by cases h)
         have HP1 := hide (HP0.out.low hB1 (by omega))
         have HQ1 := hide (HQ0.out.low hB1 (by omega))
         have hr := rowF_owns hown
         rw [HSZ.out] at hr
         have HT1 : Hid (ToR w1 (w.heap.size + 1 + 1) n s 0) := hide (hr.congr (fun j hj => by
           rw [Nat.mul_one, made_int (n + 1) (by omega)]
           by_cases e : j ≤ 0
           · obtain rfl : j = 0 := by omega
             simp [cnt_0]
           · rw [if_neg e]))
         have c6 : w1.cell? ⟨w.heap.size, 6, none⟩ = some (.slice a6 n k6) := HP1.out.cell (j := 6) (by simp)
         clear hB1 hown hgrow hr)
      | fail)
  clear c6
  go_loopw [18] (fun iv wr => ∃ i : Nat, i ≤ n ∧ iv = .int .i64 i ∧ Hid (ToR wr (w.heap.size + 1 + 1) n s i) ∧ Hid (Below w.heap.size w wr) ∧ Hid (Below (w.heap.size + 1 + 1) w1 wr)) (fun iv _ => n - ivN iv)
  case atStart => exact ⟨0, by omega, rfl, HT1, HB1, hide (Below.refl _ _)⟩
  case round =>
    clear HT1
    obtain ⟨i, hi, rfl, HT, HB, HX⟩ := hrel
    by_cases hin : i < n
    · have c0 : wr.cell? ⟨w.heap.size + 1 + 1, i, none⟩ = some (.int .i64 (cnt s i : Int)) := by rw [RowF.cell HT.out (j := i) (by omega), if_pos (Nat.le_refl _)]
      have c1 : wr.cell? ⟨w.heap.size + 1 + 1, i + 1, none⟩ = some (.int .i64 0) := by rw [RowF.cell HT.out (j := i + 1) (by omega), if_neg (by omega)]
      have z1 := RowF.frz HT.out (i + 1)
      have hb2 := HB.out
      have ck := ((HB.out.cell (p := ⟨gk, i, none⟩) hgk)).trans (RowF.cell HS.out (j := i) (by omega))
      have hc1 := cnt_1 s i
      have hle := cnt_le s i
      generalize cnt s i = C at *
      cases hs : s i with
      | false =>
        rw [hs] at ck hc1
        have HC := hide hc1
        clear hc1 hs hb2
        go_wp2_with fail
        go_roundw
        case rel => exact ⟨i + 1, by omega, by simp, hide (HT.out.step hin (by rw [HC.out]; rfl)), hide (HB.out.setCell (by show w.heap.size ≤ w.heap.size + 1 + 1; omega) _), hide (HX.out.setCell (Nat.le_refl _) _)⟩
        case measure => simp [ivN]; omega
      | true =>
        rw [hs] at ck hc1
        have HC := hide hc1
        clear hc1 hs hb2
        go_wp2_with fail
        go_roundw
        case rel => exact ⟨i + 1, by omega, by simp, hide (HT.out.step2 hin _ (by rw [HC.out]; simp)), hide ((HB.out.setCell (by show w.heap.size ≤ w.heap.size + 1 + 1; omega) _).setCell (by show w.heap.size ≤ w.heap.size + 1 + 1; omega) _), hide ((HX.out.setCell (Nat.le_refl _) _).setCell (Nat.le_refl _) _)⟩
        case measure => simp [ivN]; omega
    · obtain rfl : i = n := by omega
      have HP2 := hide (HP1.out.low HX.out (by omega))
      have HQ2 := hide (HQ1.out.low HX.out (by omega))
      have p0 : wr.cell? ⟨w.heap.size, 0, none⟩ = some (.int .i64 p.params) := HP2.out.cell (j := 0) (by simp)
      have p1 : wr.cell? ⟨w.heap.size, 1, none⟩ = some (.int .i64 p.regs) := HP2.out.cell (j := 1) (by simp)
      have p2 : wr.cell? ⟨w.heap.size, 2, none⟩ = some (.int .i64 p.line) := HP2.out.cell (j := 2) (by simp)
      have p3 : wr.cell? ⟨w.heap.size, 3, none⟩ = some (.bool p.dots) := HP2.out.cell (j := 3) (by simp)
      have p4 : wr.cell? ⟨w.heap.size, 4, none⟩ = some (.slice a4 nu k4) := HP2.out.cell (j := 4) (by simp)
      have p5 : wr.cell? ⟨w.heap.size, 5, none⟩ = some (.slice a5 nc k5) := HP2.out.cell (j := 5) (by simp)
      have p6 : wr.cell? ⟨w.heap.size, 6, none⟩ = some (.slice a6 i k6) := HP2.out.cell (j := 6) (by simp)
      have p7 : wr.cell? ⟨w.heap.size, 7, none⟩ = some (.slice a7 i k7) := HP2.out.cell (j := 7) (by simp)
      clear HP1 HQ1 HX HB1 HP0 HQ0 HB0
      go_upto_region 10 with (fail)
      have hO := RowF.mk' wr 45 #[.int .i64 p.params, .int .i64 p.regs, .int .i64 p.line, .bool p.dots, .slice a4 nu k4, .slice a5 nc k5, .slice a6 i k6, .slice a7 i k7]
      have hB := b_1 wr (.cells #[.int .i64 p.params, .int .i64 p.regs, .int .i64 p.line, .bool p.dots, .slice a4 nu k4, .slice a5 nc k5, .slice a6 i k6, .slice a7 i k7] 45)
      clear p0 p1 p2 p3 p4 p5 p6 p7
      generalize hO0 : wr.heap.size = O at *
      have HO0 := hide hO0
      clear hO0
      generalize wr.alloc (.cells #[.int .i64 p.params, .int .i64 p.regs, .int .i64 p.line, .bool p.dots, .slice a4 nu k4, .slice a5 nc k5, .slice a6 i k6, .slice a7 i k7] 45) = wO at *
      have o6 : wO.cell? ⟨O, 6, none⟩ = some (.slice a6 i k6) := hO.cell (j := 6) (by simp)
      have o7 : wO.cell? ⟨O, 7, none⟩ = some (.slice a7 i k7) := hO.cell (j := 7) (by simp)
      have z6 := hO.frz 6
      have z7 := hO.frz 7
      have HO := hide (show RowF ((wO.setCell ⟨O, 6, none⟩ nilS).setCell ⟨O, 7, none⟩ nilS) 45 O 8 (fun j => if j = 7 then nilS else if j = 6 then nilS else (#[.int .i64 p.params, .int .i64 p.regs, .int .i64 p.line, .bool p.dots, .slice a4 nu k4, .slice a5 nc k5, .slice a6 i k6, .slice a7 i k7] : Array Value).getD j (.bool false)) from (hO.set (j := 6) (by simp) nilS).set (j := 7) (by simp) nilS)
      have hBO : Below O wr ((wO.setCell ⟨O, 6, none⟩ nilS).setCell ⟨O, 7, none⟩ nilS) := (hB.setCell (Nat.le_refl _) _).setCell (Nat.le_refl _) _
      have HBO := hide hBO
      have p6 := (hBO.cell (p := ⟨w.heap.size, 6, none⟩) (by have := HP2.out.lt; have := HO0.out; show w.heap.size < O; omega)).trans (HP2.out.cell (j := 6) (by simp))
      clear hO hB hBO
      have p6 : ((wO.setCell ⟨O, 6, none⟩ nilS).setCell ⟨O, 7, none⟩ nilS).cell? ⟨w.heap.size, 6, none⟩ = some (.slice a6 i k6) := p6
      go_upto_region 12 with (fail)
      generalize (wO.setCell ⟨O, 6, none⟩ nilS).setCell ⟨O, 7, none⟩ nilS = wP at *
      go_wp2_with fail
      have HPc := hide (HP2.out.low HBO.out (by have := HP2.out.lt; have := HO0.out; omega))
      have HTo := hide (show ToR wP (w.heap.size + 1 + 1) i s i from RowF.low HT.out HBO.out (by have := RowF.lt HT.out; have := HO0.out; omega))
      have HBw := hide (HB.out.trans (HBO.out.mono (by have := HB.out.size; have := HO0.out; omega)))
      have hOw : w.heap.size + 1 + 1 < O := by have := RowF.lt HT.out; have := HO0.out; omega
      have HN6 : Hid (wP.ownsRow (O + 1) 51 4 nilS (cnt s 0) (codeK s p.i0 p.i1 p.i2 p.i3 0)) := hide (World.ownsRow_nil wP _ _ _)
      have HN7 : Hid (wP.ownsRow (O + 1) 3 1 nilS (cnt s 0) (lineK s p.l0 0)) := hide (World.ownsRow_nil wP _ _ _)
      have HQc := hide (HQ2.out.low HBO.out (by have := HQ2.out.lt; have := HO0.out; omega))
      clear HT HB HP2 HBO HQ2 p6 o6 o7 z6 z7
      go_loopw [47] (fun kv wq => ∃ k : Nat, k ≤ i ∧ kv = .int .i64 k ∧ Hid (∃ v6 v7, wq.ownsRow (O + 1) 51 4 v6 (cnt s k) (codeK s p.i0 p.i1 p.i2 p.i3 k) ∧ wq.ownsRow (O + 1) 3 1 v7 (cnt s k) (lineK s p.l0 k) ∧ RowF wq 45 O 8 (fun j => if j = 7 then v7 else if j = 6 then v6 else (#[.int .i64 p.params, .int .i64 p.regs, .int .i64 p.line, .bool p.dots, .slice a4 nu k4, .slice a5 nc k5, .slice a6 i k6, .slice a7 i k7] : Array Value).getD j (.bool false))) ∧ Hid (Below O wP wq)) (fun kv _ => i - ivN kv)
      case atStart => exact ⟨0, by omega, rfl, hide ⟨nilS, nilS, HN6.out, HN7.out, HO.out⟩, hide (Below.refl _ _)⟩
      case round =>
        clear HN6 HN7 HO
        obtain ⟨k, hk, rfl, HL, HB2⟩ := hrel
        have HBa := hide (HBw.out.trans (HB2.out.mono (by have := HBw.out.size; omega)))
        by_cases hin : k < i
        · obtain ⟨v6, v7, h6o, h7o, hO⟩ := HL.out
          obtain ⟨x6, y6, rfl⟩ := owns_val h6o
          obtain ⟨x7, y7, rfl⟩ := owns_val h7o
          have HL6 := hide h6o
          have HL7 := hide h7o
          have HOk := hide hO
          clear h6o h7o hO HL
          obtain ⟨b, o, cp, hve, hb, c0, c1, c2, c3⟩ := ins_at H6.out hin
          cases hve
          have d0 := (HBa.out.cell (p := ⟨b, o + k * 4, none⟩) hb).trans c0
          have d1 := (HBa.out.cell (p := ⟨b, o + k * 4 + 1, none⟩) hb).trans c1
          have d2 := (HBa.out.cell (p := ⟨b, o + k * 4 + 2, none⟩) hb).trans c2
          have d3 := (HBa.out.cell (p := ⟨b, o + k * 4 + 3, none⟩) hb).trans c3
          have hX := RowF.mk' wr 51 #[.int .i64 (p.i0 k), .int .i64 (p.i1 k), .int .i64 (p.i2 k), .int .i64 (p.i3 k)]
          have hbX := b_1 wr (.cells #[.int .i64 (p.i0 k), .int .i64 (p.i1 k), .int .i64 (p.i2 k), .int .i64 (p.i3 k)] 51)
          have ck := ((HBa.out.trans (hbX.mono HBa.out.size)).cell (p := ⟨gk, k, none⟩) hgk).trans (RowF.cell HS.out (j := k) (by omega))
          have HX := hide hX
          have HBX := hide hbX
          clear c0 c1 c2 c3 hX hbX
          have hOs : O < wr.heap.size := HOk.out.lt
          have hcl := cnt_le s k
          have hc1 := cnt_1 s k
          cases hs : s k with
          | false =>
            rw [hs] at ck hc1
            have HC := hide hc1
            have HSk := hide hs
            clear hc1 hs
            generalize hCC : cnt s k = C at *
            have HCC := hide hCC
            clear hCC
            go_wp2_with fail
            go_roundw
            case rel => exact ⟨k + 1, by omega, by simp, hide ⟨_, _, by rw [codeK_n _ _ _ _ _ _ HSk.out, HC.out]; exact HL6.out.alloc _, by rw [lineK_n _ _ _ HSk.out, HC.out]; exact HL7.out.alloc _, HOk.out.low HBX.out HOk.out.lt⟩, hide (HB2.out.alloc (by omega) _)⟩
            case measure => simp [ivN]; omega
          | true =>
            rw [hs] at ck hc1
            have HC := hide hc1
            have HSk := hide hs
            clear hc1 hs
            go_upto_region 16 with (fail)
            have HX3 := hide (HB2.out.trans (HBX.out.mono (by omega)) : Below O wP _)
            have HA6 := hide (HL6.out.alloc (.cells #[.int .i64 (p.i0 k), .int .i64 (p.i1 k), .int .i64 (p.i2 k), .int .i64 (p.i3 k)] 51))
            have HA7 := hide (HL7.out.alloc (.cells #[.int .i64 (p.i0 k), .int .i64 (p.i1 k), .int .i64 (p.i2 k), .int .i64 (p.i3 k)] 51))
            have HAO := hide (HOk.out.low HBX.out HOk.out.lt)
            have HG6 := hide (fun g (e : (Value.slice x6 (cnt s k) y6).ownBlock = some g) => (owns_blk HL6.out e).2)
            clear HL6 HL7 HOk HBX ck d0 d1 d2 d3
            generalize wr.alloc (.cells #[.int .i64 (p.i0 k), .int .i64 (p.i1 k), .int .i64 (p.i2 k), .int .i64 (p.i3 k)] 51) = wX at *
            generalize wr.heap.size = X at *
            have HXT := hide (show ToR wX (w.heap.size + 1 + 1) i s i from RowF.low HTo.out HX3.out hOw)
            have t0 : wX.cell? ⟨X, 0, none⟩ = some (.int .i64 (p.i0 k)) := HX.out.cell (j := 0) (by simp)
            have t2 : wX.cell? ⟨X, 2, none⟩ = some (.int .i64 (p.i2 k)) := HX.out.cell (j := 2) (by simp)
            have hz2 := HX.out.frz 2
            cases hJ : jmp (p.i0 k) with
            | false =>
              go_upto_region 18 with (first
                | (go_at_call 75; refine (jumps_any _ _).mono ?_; rintro e w' ⟨rfl, hw⟩; obtain rfl := hw.symm; rw [hJ])
                | fail)
              have HZ : Hid (insK s p.i0 p.i1 p.i2 p.i3 k = [.int .i64 (p.i0 k), .int .i64 (p.i1 k), .int .i64 (p.i2 k), .int .i64 (p.i3 k)]) := hide (by unfold insK; rw [if_neg (by rw [hJ]; simp)])
              have HY := hide HX.out
              clear t0 t2 hz2 HX hJ
              obtain ⟨Z, hZ⟩ : ∃ Z, p.i2 k = Z := ⟨_, rfl⟩
              rw [hZ] at HZ HY
              clear hZ
              have y0 : wX.cell? ⟨X, 0, none⟩ = some (.int .i64 (p.i0 k)) := HY.out.cell (j := 0) (by simp)
              have y1 : wX.cell? ⟨X, 1, none⟩ = some (.int .i64 (p.i1 k)) := HY.out.cell (j := 1) (by simp)
              have y2 : wX.cell? ⟨X, 2, none⟩ = some (.int .i64 Z) := HY.out.cell (j := 2) (by simp)
              have y3 : wX.cell? ⟨X, 3, none⟩ = some (.int .i64 (p.i3 k)) := HY.out.cell (j := 3) (by simp)
              have u6 : wX.cell? ⟨O, 6, none⟩ = some (.slice x6 (cnt s k) y6) := HAO.out.cell (j := 6) (by omega)
              go_upto_region 19 with (first
                | (at_builtin
                   refine app_k rfl (.tmp 67) (.tmp 69) 42 51 4 32 _ rfl Tryz.underlying42 Tryz.info51 rfl (by decide) (O + 1) (.slice x6 (cnt s k) y6) (cnt s k) (codeK s p.i0 p.i1 p.i2 p.i3 k) [.int .i64 (p.i0 k), .int .i64 (p.i1 k), .int .i64 Z, .int .i64 (p.i3 k)] HA6.out rfl rfl rfl (by simp [Value.oneCell']) (by omega) (by decide) HAO.out.lt ?_
                   intro v6' w6 hv6 hk6 hg6
                   obtain ⟨z6, n6, hvv6⟩ := owns_val hv6
                   subst hvv6
                   have HO6 := hide (HAO.out.keep hk6 (fun e => (owns_rowF HA6.out e).apart HAO.out (by decide) rfl))
                   have H66 := hide hv6
                   have H67 := hide (owns_past HA7.out hk6 (fun g e hg => (owns_rowF HA7.out e).apart (owns_rowF HA6.out hg) (by decide) rfl))
                   have HK6 := hide (HX3.out.trans (hk6.below (B := O) (by have := HAO.out.lt; omega) (fun b e => by have := (owns_blk HA6.out e).1; omega)))
                   have u66 : w6.cell? ⟨O, 6, none⟩ = some (.slice x6 (cnt s k) y6) := HO6.out.cell (j := 6) (by omega)
                   have f66 := HO6.out.frz 6
                   clear hv6 hk6 hg6)
                | fail)
              have hKO : Keeps w6 (w6.setCell ⟨O, 6, none⟩ (.slice z6 (cnt s k + 1) n6)) (fun b => b = O) := (Keeps.refl w6 (fun b => b = O)).setCell (j := 6) rfl (.slice z6 (cnt s k + 1) n6)
              have H76 := hide (owns_past H66.out hKO (fun g e hg => (owns_rowF H66.out e).apart HO6.out (by decide) hg))
              have H77 := hide (owns_past H67.out hKO (fun g e hg => (owns_rowF H67.out e).apart HO6.out (by decide) hg))
              have H7O := hide ((HO6.out.set (j := 6) (by omega) (.slice z6 (cnt s k + 1) n6)).congr (f' := (fun j => if j = 7 then .slice x7 (cnt s k) y7 else if j = 6 then .slice z6 (cnt s k + 1) n6 else (#[.int .i64 p.params, .int .i64 p.regs, .int .i64 p.line, .bool p.dots, .slice a4 nu k4, .slice a5 nc k5, .slice (some ⟨b, o, none⟩) i k6, .slice a7 i k7] : Array Value).getD j (.bool false))) (fun j hj => by
                by_cases e7 : j = 7
                · subst e7; rfl
                · by_cases e6 : j = 6
                  · subst e6; rfl
                  · simp only [if_neg e7, if_neg e6]))
              have HK7 := hide (HK6.out.setCell (p := ⟨O, 6, none⟩) (Nat.le_refl _) (.slice z6 (cnt s k + 1) n6))
              clear y0 y1 y2 y3 u6 u66 f66 hKO HO6 H66 H67 HK6 HA6 HA7 HAO HY HX3
              generalize w6.setCell ⟨O, 6, none⟩ (.slice z6 (cnt s k + 1) n6) = w7 at *
              obtain ⟨b7, o7, c7, hve7, hb7, e7⟩ := ints_at H7.out hin
              cases hve7
              have e7 := ((HBw.out.trans (HK7.out.mono (by have := HBw.out.size; omega))).cell (p := ⟨b7, o7 + k, none⟩) hb7).trans e7
              have pc7 : w7.cell? ⟨w.heap.size, 7, none⟩ = some (.slice (some ⟨b7, o7, none⟩) i k7) := (HPc.out.low HK7.out (by omega)).cell (j := 7) (by simp)
              have u7 : w7.cell? ⟨O, 7, none⟩ = some (.slice x7 (cnt s k) y7) := H7O.out.cell (j := 7) (by omega)
              have f7 := H7O.out.frz 7
              have u7a := ((b_1 w7 (.cells #[.int .i64 (p.l0 k)] 3)).cell (p := ⟨O, 7, none⟩) H7O.out.lt).trans u7
              go_region_law (
                refine app_op (wr := w7) (.tmp 73) (.tmp 79) 43 3 1 8 _ rfl Tryz.underlying43 Tryz.info3 rfl (by decide) (O + 1) (.slice x7 (cnt s k) y7) (cnt s k) (lineK s p.l0 k) [.int .i64 (p.l0 k)] H77.out rfl rfl rfl (by simp [Value.oneCell']) (by omega) (by decide) H7O.out.lt ?_
                intro v9 w9 hv9 hk9 hg9
                obtain ⟨z9, n9, hvv9⟩ := owns_val hv9
                subst hvv9
                have HO9 := hide (H7O.out.keep hk9 (fun e => (owns_rowF H77.out e).apart H7O.out (by decide) rfl))
                have H97 := hide hv9
                have H96 := hide (owns_past H76.out hk9 (fun g e hg => (owns_rowF H76.out e).apart (owns_rowF H77.out hg) (by decide) rfl))
                have HK9 := hide (HK7.out.trans (hk9.below (B := O) (by have := H7O.out.lt; omega) (fun b e => by have := (owns_blk H77.out e).1; omega)))
                have u97 : w9.cell? ⟨O, 7, none⟩ = some (.slice x7 (cnt s k) y7) := HO9.out.cell (j := 7) (by omega)
                have f97 := HO9.out.frz 7
                clear hv9 hk9 hg9)
              all_goals
                go_wp2_with fail
                have hK9 : Keeps w9 (w9.setCell ⟨O, 7, none⟩ (.slice z9 (cnt s k + 1) n9)) (fun b => b = O) := (Keeps.refl w9 (fun b => b = O)).setCell (j := 7) rfl (.slice z9 (cnt s k + 1) n9)
                have G6 := hide (owns_past H96.out hK9 (fun g e hg => (owns_rowF H96.out e).apart HO9.out (by decide) hg))
                have G7 := hide (owns_past H97.out hK9 (fun g e hg => (owns_rowF H97.out e).apart HO9.out (by decide) hg))
                have GO := hide ((HO9.out.set (j := 7) (by omega) (.slice z9 (cnt s k + 1) n9)).congr (f' := (fun j => if j = 7 then .slice z9 (cnt s k + 1) n9 else if j = 6 then .slice z6 (cnt s k + 1) n6 else (#[.int .i64 p.params, .int .i64 p.regs, .int .i64 p.line, .bool p.dots, .slice a4 nu k4, .slice a5 nc k5, .slice (some ⟨b, o, none⟩) i k6, .slice (some ⟨b7, o7, none⟩) i k7] : Array Value).getD j (.bool false))) (fun j hj => by
                  by_cases e7 : j = 7
                  · subst e7; rfl
                  · simp only [if_neg e7]))
                have GB := hide (HK9.out.setCell (p := ⟨O, 7, none⟩) (Nat.le_refl _) (.slice z9 (cnt s k + 1) n9))
                clear hK9
                go_roundw
                case rel => exact ⟨k + 1, by omega, by simp, hide ⟨_, _, by rw [codeK_1 _ _ _ _ _ _ HSk.out, HZ.out, HC.out]; exact G6.out, by rw [lineK_1 _ _ _ HSk.out, HC.out]; exact G7.out, GO.out⟩, GB⟩
                case measure => simp [ivN]; omega
            | true =>
              obtain ⟨q1, q2⟩ := HJ.out k hin HSk.out hJ
              obtain ⟨m, hm⟩ : ∃ m : Nat, p.i2 k = (m : Int) := ⟨(p.i2 k).toNat, by omega⟩
              have hmi : m ≤ i := by omega
              have HZ : Hid (insK s p.i0 p.i1 p.i2 p.i3 k = [.int .i64 (p.i0 k), .int .i64 (p.i1 k), .int .i64 (cnt s m : Int), .int .i64 (p.i3 k)]) := hide (by unfold insK; rw [if_pos hJ, hm]; rfl)
              have tm : wX.cell? ⟨w.heap.size + 1 + 1, m, none⟩ = some (.int .i64 (cnt s m : Int)) := by rw [RowF.cell HXT.out (j := m) (by omega), if_pos hmi]
              rw [hm] at t2
              clear q1 q2
              have hXO : O < X := hOs
              obtain ⟨Z, hZ⟩ : ∃ Z : Int, (cnt s m : Int) = Z := ⟨_, rfl⟩
              rw [hZ] at HZ tm
              clear hZ hm
              have HY := hide ((HX.out.set (j := 2) (by simp) (.int .i64 Z)).congr (f' := fun j => (#[.int .i64 (p.i0 k), .int .i64 (p.i1 k), .int .i64 Z, .int .i64 (p.i3 k)] : Array Value).getD j (.bool false)) (fun j hj => by
                simp at hj
                rcases (show j = 0 ∨ j = 1 ∨ j = 2 ∨ j = 3 by omega) with rfl | rfl | rfl | rfl <;> rfl))
              go_upto_region 18 with (first
                | (go_at_call 75; refine (jumps_any _ _).mono ?_; rintro e w' ⟨rfl, hw⟩; obtain rfl := hw.symm; rw [hJ])
                | fail)
              have hKX : Keeps wX (wX.setCell ⟨X, 2, none⟩ (.int .i64 Z)) (fun b => b = X) := (Keeps.refl wX (fun b => b = X)).setCell (j := 2) rfl (.int .i64 Z)
              have HA6 := hide (owns_past HA6.out hKX (fun g e hg => by have := HG6.out g e; omega))
              have HA7 := hide (owns_past HA7.out hKX (fun g e hg => (owns_rowF HA7.out e).apart HX.out (by decide) hg))
              have HAO := hide (HAO.out.keep hKX (fun e => by omega))
              have HX3 := hide (HX3.out.trans ((Below.refl O wX).setCell (p := ⟨X, 2, none⟩) (Nat.le_of_lt hXO) (.int .i64 Z)))
              clear t0 t2 hz2 tm hJ HX hKX HXT
              generalize wX.setCell ⟨X, 2, none⟩ (.int .i64 Z) = wY at *
              have y0 : wY.cell? ⟨X, 0, none⟩ = some (.int .i64 (p.i0 k)) := HY.out.cell (j := 0) (by simp)
              have y1 : wY.cell? ⟨X, 1, none⟩ = some (.int .i64 (p.i1 k)) := HY.out.cell (j := 1) (by simp)
              have y2 : wY.cell? ⟨X, 2, none⟩ = some (.int .i64 Z) := HY.out.cell (j := 2) (by simp)
              have y3 : wY.cell? ⟨X, 3, none⟩ = some (.int .i64 (p.i3 k)) := HY.out.cell (j := 3) (by simp)
              have u6 : wY.cell? ⟨O, 6, none⟩ = some (.slice x6 (cnt s k) y6) := HAO.out.cell (j := 6) (by omega)
              go_upto_region 19 with (first
                | (at_builtin
                   refine app_k rfl (.tmp 67) (.tmp 69) 42 51 4 32 _ rfl Tryz.underlying42 Tryz.info51 rfl (by decide) (O + 1) (.slice x6 (cnt s k) y6) (cnt s k) (codeK s p.i0 p.i1 p.i2 p.i3 k) [.int .i64 (p.i0 k), .int .i64 (p.i1 k), .int .i64 Z, .int .i64 (p.i3 k)] HA6.out rfl rfl rfl (by simp [Value.oneCell']) (by omega) (by decide) HAO.out.lt ?_
                   intro v6' w6 hv6 hk6 hg6
                   obtain ⟨z6, n6, hvv6⟩ := owns_val hv6
                   subst hvv6
                   have HO6 := hide (HAO.out.keep hk6 (fun e => (owns_rowF HA6.out e).apart HAO.out (by decide) rfl))
                   have H66 := hide hv6
                   have H67 := hide (owns_past HA7.out hk6 (fun g e hg => (owns_rowF HA7.out e).apart (owns_rowF HA6.out hg) (by decide) rfl))
                   have HK6 := hide (HX3.out.trans (hk6.below (B := O) (by have := HAO.out.lt; omega) (fun b e => by have := (owns_blk HA6.out e).1; omega)))
                   have u66 : w6.cell? ⟨O, 6, none⟩ = some (.slice x6 (cnt s k) y6) := HO6.out.cell (j := 6) (by omega)
                   have f66 := HO6.out.frz 6
                   clear hv6 hk6 hg6)
                | fail)
              have hKO : Keeps w6 (w6.setCell ⟨O, 6, none⟩ (.slice z6 (cnt s k + 1) n6)) (fun b => b = O) := (Keeps.refl w6 (fun b => b = O)).setCell (j := 6) rfl (.slice z6 (cnt s k + 1) n6)
              have H76 := hide (owns_past H66.out hKO (fun g e hg => (owns_rowF H66.out e).apart HO6.out (by decide) hg))
              have H77 := hide (owns_past H67.out hKO (fun g e hg => (owns_rowF H67.out e).apart HO6.out (by decide) hg))
              have H7O := hide ((HO6.out.set (j := 6) (by omega) (.slice z6 (cnt s k + 1) n6)).congr (f' := (fun j => if j = 7 then .slice x7 (cnt s k) y7 else if j = 6 then .slice z6 (cnt s k + 1) n6 else (#[.int .i64 p.params, .int .i64 p.regs, .int .i64 p.line, .bool p.dots, .slice a4 nu k4, .slice a5 nc k5, .slice (some ⟨b, o, none⟩) i k6, .slice a7 i k7] : Array Value).getD j (.bool false))) (fun j hj => by
                by_cases e7 : j = 7
                · subst e7; rfl
                · by_cases e6 : j = 6
                  · subst e6; rfl
                  · simp only [if_neg e7, if_neg e6]))
              have HK7 := hide (HK6.out.setCell (p := ⟨O, 6, none⟩) (Nat.le_refl _) (.slice z6 (cnt s k + 1) n6))
              clear y0 y1 y2 y3 u6 u66 f66 hKO HO6 H66 H67 HK6 HA6 HA7 HAO HY HX3
              generalize w6.setCell ⟨O, 6, none⟩ (.slice z6 (cnt s k + 1) n6) = w7 at *
              obtain ⟨b7, o7, c7, hve7, hb7, e7⟩ := ints_at H7.out hin
              cases hve7
              have e7 := ((HBw.out.trans (HK7.out.mono (by have := HBw.out.size; omega))).cell (p := ⟨b7, o7 + k, none⟩) hb7).trans e7
              have pc7 : w7.cell? ⟨w.heap.size, 7, none⟩ = some (.slice (some ⟨b7, o7, none⟩) i k7) := (HPc.out.low HK7.out (by omega)).cell (j := 7) (by simp)
              have u7 : w7.cell? ⟨O, 7, none⟩ = some (.slice x7 (cnt s k) y7) := H7O.out.cell (j := 7) (by omega)
              have f7 := H7O.out.frz 7
              have u7a := ((b_1 w7 (.cells #[.int .i64 (p.l0 k)] 3)).cell (p := ⟨O, 7, none⟩) H7O.out.lt).trans u7
              go_region_law (
                refine app_op (wr := w7) (.tmp 73) (.tmp 79) 43 3 1 8 _ rfl Tryz.underlying43 Tryz.info3 rfl (by decide) (O + 1) (.slice x7 (cnt s k) y7) (cnt s k) (lineK s p.l0 k) [.int .i64 (p.l0 k)] H77.out rfl rfl rfl (by simp [Value.oneCell']) (by omega) (by decide) H7O.out.lt ?_
                intro v9 w9 hv9 hk9 hg9
                obtain ⟨z9, n9, hvv9⟩ := owns_val hv9
                subst hvv9
                have HO9 := hide (H7O.out.keep hk9 (fun e => (owns_rowF H77.out e).apart H7O.out (by decide) rfl))
                have H97 := hide hv9
                have H96 := hide (owns_past H76.out hk9 (fun g e hg => (owns_rowF H76.out e).apart (owns_rowF H77.out hg) (by decide) rfl))
                have HK9 := hide (HK7.out.trans (hk9.below (B := O) (by have := H7O.out.lt; omega) (fun b e => by have := (owns_blk H77.out e).1; omega)))
                have u97 : w9.cell? ⟨O, 7, none⟩ = some (.slice x7 (cnt s k) y7) := HO9.out.cell (j := 7) (by omega)
                have f97 := HO9.out.frz 7
                clear hv9 hk9 hg9)
              all_goals
                go_wp2_with fail
                have hK9 : Keeps w9 (w9.setCell ⟨O, 7, none⟩ (.slice z9 (cnt s k + 1) n9)) (fun b => b = O) := (Keeps.refl w9 (fun b => b = O)).setCell (j := 7) rfl (.slice z9 (cnt s k + 1) n9)
                have G6 := hide (owns_past H96.out hK9 (fun g e hg => (owns_rowF H96.out e).apart HO9.out (by decide) hg))
                have G7 := hide (owns_past H97.out hK9 (fun g e hg => (owns_rowF H97.out e).apart HO9.out (by decide) hg))
                have GO := hide ((HO9.out.set (j := 7) (by omega) (.slice z9 (cnt s k + 1) n9)).congr (f' := (fun j => if j = 7 then .slice z9 (cnt s k + 1) n9 else if j = 6 then .slice z6 (cnt s k + 1) n6 else (#[.int .i64 p.params, .int .i64 p.regs, .int .i64 p.line, .bool p.dots, .slice a4 nu k4, .slice a5 nc k5, .slice (some ⟨b, o, none⟩) i k6, .slice (some ⟨b7, o7, none⟩) i k7] : Array Value).getD j (.bool false))) (fun j hj => by
                  by_cases e7 : j = 7
                  · subst e7; rfl
                  · simp only [if_neg e7]))
                have GB := hide (HK9.out.setCell (p := ⟨O, 7, none⟩) (Nat.le_refl _) (.slice z9 (cnt s k + 1) n9))
                clear hK9
                go_roundw
                case rel => exact ⟨k + 1, by omega, by simp, hide ⟨_, _, by rw [codeK_1 _ _ _ _ _ _ HSk.out, HZ.out, HC.out]; exact G6.out, by rw [lineK_1 _ _ _ HSk.out, HC.out]; exact G7.out, GO.out⟩, GB⟩
                case measure => simp [ivN]; omega
        · obtain rfl : k = i := by omega
          obtain ⟨v6, v7, h6o, h7o, hO⟩ := HL.out
          obtain ⟨x6, y6, rfl⟩ := owns_val h6o
          obtain ⟨x7, y7, rfl⟩ := owns_val h7o
          have HL6 := hide h6o
          have HL7 := hide h7o
          have e0 : wr.cell? ⟨O, 0, none⟩ = some (.int .i64 p.params) := hO.cell (j := 0) (by omega)
          have e1 : wr.cell? ⟨O, 1, none⟩ = some (.int .i64 p.regs) := hO.cell (j := 1) (by omega)
          have e2 : wr.cell? ⟨O, 2, none⟩ = some (.int .i64 p.line) := hO.cell (j := 2) (by omega)
          have e3 : wr.cell? ⟨O, 3, none⟩ = some (.bool p.dots) := hO.cell (j := 3) (by omega)
          have e4 : wr.cell? ⟨O, 4, none⟩ = some (.slice a4 nu k4) := hO.cell (j := 4) (by omega)
          have e5 : wr.cell? ⟨O, 5, none⟩ = some (.slice a5 nc k5) := hO.cell (j := 5) (by omega)
          have e6 : wr.cell? ⟨O, 6, none⟩ = some (.slice x6 (cnt s k) y6) := hO.cell (j := 6) (by omega)
          have e7 : wr.cell? ⟨O, 7, none⟩ = some (.slice x7 (cnt s k) y7) := hO.cell (j := 7) (by omega)
          have hQ := HQc.out.low HB2.out (by omega)
          have q0 := hQ.cell (j := 0) (by simp)
          have q1 := hQ.cell (j := 1) (by simp)
          have q2 := hQ.cell (j := 2) (by simp)
          have q3 := hQ.cell (j := 3) (by simp)
          have q4 := hQ.cell (j := 4) (by simp)
          have q5 := hQ.cell (j := 5) (by simp)
          have q6 := hQ.cell (j := 6) (by simp)
          have q7 := hQ.cell (j := 7) (by simp)
          have z0 := hQ.frz 0
          have z1 := hQ.frz 1
          have z2 := hQ.frz 2
          have z3 := hQ.frz 3
          have z4 := hQ.frz 4
          have z5 := hQ.frz 5
          have z6 := hQ.frz 6
          have z7 := hQ.frz 7
          have HKp := hide (put8_keeps wr (w.heap.size + 1) (.int .i64 p.params) (.int .i64 p.regs) (.int .i64 p.line) (.bool p.dots) (.slice a4 nu k4) (.slice a5 nc k5) (.slice x6 (cnt s k) y6) (.slice x7 (cnt s k) y7))
          clear h6o h7o hO hQ HL
          go_wp2_with fail
          refine bodyPost_ret (v := .agg #[.int .i64 p.params, .int .i64 p.regs, .int .i64 p.line, .bool p.dots, .slice a4 nu k4, .slice a5 nc k5, .slice x6 (cnt s k) y6, .slice x7 (cnt s k) y7]) ?_ rfl
            ⟨_, _, rfl, owns_less (owns_past HL6.out HKp.out (fun g e hg => by have := (owns_blk HL6.out e).1; omega)) (by omega), owns_less (owns_past HL7.out HKp.out (fun g e hg => by have := (owns_blk HL7.out e).1; omega)) (by omega), HBa.out.trans (HKp.out.below (B := w.heap.size) HBa.out.size (fun b e => by omega))⟩
          simp [results, Tryz.results31, go_sem, q0, q1, q2, q3, q4, q5, q6, q7]
end Go.Proofs.YtgnbhhgpaldheaaGreat
