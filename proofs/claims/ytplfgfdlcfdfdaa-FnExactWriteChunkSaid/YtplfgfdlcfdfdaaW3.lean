import Derived.Test.YtplfgfdlcfdfdaaW2
namespace Go.Proofs.Ytplfgfdlcfdfdaa
open Go Go.RowKit
set_option linter.unusedVariables false

set_option maxHeartbeats 6400000 in
set_option maxRecDepth 100000 in
theorem function_any (w0 w : World) (R : Nat) (v : Value) (L : List Int) (p : PV) (s4 s5 s6 s7 : Value) (hp : plainOk p) (hf : p.fits 1048576) (hA : PVA w0 p s4 s5 s6 s7) (hL : L.length ≤ 10000000000000) (h : WS w0 w R v L) :
    Calls Try.prog 23 #[.pointer (some ⟨R, 0, none⟩), p.agg s4 s5 s6 s7] w fun e w' => e = .returned (.tuple #[]) ∧ ∃ v', WS w0 w' R v' (L ++ pbL p) ∧ WK w w' R := by
  have h7 : p.nl = p.ni := hp.1.2.2.2.2.2.2
  have HP := hide hp
  obtain ⟨hs1, hs2, hs3, hs4, hs5⟩ := hf
  obtain ⟨a4, k4, e4⟩ := hA.u.val
  obtain ⟨a5, k5, e5⟩ := hA.c.val
  obtain ⟨a6, k6, e6⟩ := hA.i.val
  obtain ⟨a7, k7, e7⟩ := hA.l.val
  have HA := hide hA
  have HS := hide hs5
  clear hs5 hp hA hs4
  subst e4 e5 e6 e7
  unfold PV.agg
  rw [h7] at HA ⊢
  have hHd : Hid (L ++ hdL p = ((((L ++ u64n p.params 1) ++ [flagI p.dots]) ++ u64n p.regs 1) ++ u64n p.line 4) ++ u64n p.nu 1) := hide (by simp only [hdL, List.append_assoc])
  have hR := h.row.lt
  have HW := hide (h.alloc (.cells #[.int .i64 p.params, .int .i64 p.regs, .int .i64 p.line, .bool p.dots, .slice a4 p.nu k4, .slice a5 p.nc k5, .slice a6 p.ni k6, .slice a7 p.ni k7] 46))
  have HK := hide (WK.of (R := R) (b_1 w (.cells #[.int .i64 p.params, .int .i64 p.regs, .int .i64 p.line, .bool p.dots, .slice a4 p.nu k4, .slice a5 p.nc k5, .slice a6 p.ni k6, .slice a7 p.ni k7] 46)) (Nat.le_refl _))
  have HX : Hid (BoxR (w.alloc (.cells #[.int .i64 p.params, .int .i64 p.regs, .int .i64 p.line, .bool p.dots, .slice a4 p.nu k4, .slice a5 p.nc k5, .slice a6 p.ni k6, .slice a7 p.ni k7] 46)) 46 w.heap.size #[.int .i64 p.params, .int .i64 p.regs, .int .i64 p.line, .bool p.dots, .slice a4 p.nu k4, .slice a5 p.nc k5, .slice a6 p.ni k6, .slice a7 p.ni k7]) := hide (RowF.mk' w 46 #[.int .i64 p.params, .int .i64 p.regs, .int .i64 p.line, .bool p.dots, .slice a4 p.nu k4, .slice a5 p.nc k5, .slice a6 p.ni k6, .slice a7 p.ni k7])
  have hgR : w.heap.size ≠ R := by omega
  clear h hR
  go_enter Try.func23, Try.ntmps23
  go_wp2_with fail
  generalize w.alloc (.cells #[.int .i64 p.params, .int .i64 p.regs, .int .i64 p.line, .bool p.dots, .slice a4 p.nu k4, .slice a5 p.nc k5, .slice a6 p.ni k6, .slice a7 p.ni k7] 46) = w1 at HW HK HX ⊢
  generalize w.heap.size = g at HX hgR ⊢
  refine (wnum_any w0 w1 R v (L) p.params 1 (by omega) (by (repeat rw [List.length_append]); (repeat rw [u64n_len]); (try rw [List.length_singleton]); omega) HW.out).mono ?_
  rintro e w2 ⟨rfl, v2, h1, k1⟩
  have HW := hide h1
  have HK := hide (HK.out.trans k1)
  have HX := hide (HX.out.wk k1 (by decide) hgR)
  clear h1 k1
  have y0 : w2.cell? ⟨g, 0, none⟩ = some (.int .i64 p.params) := HX.out.cell (j := 0) (by simp)
  have y1 : w2.cell? ⟨g, 1, none⟩ = some (.int .i64 p.regs) := HX.out.cell (j := 1) (by simp)
  have y2 : w2.cell? ⟨g, 2, none⟩ = some (.int .i64 p.line) := HX.out.cell (j := 2) (by simp)
  have y3 : w2.cell? ⟨g, 3, none⟩ = some (.bool p.dots) := HX.out.cell (j := 3) (by simp)
  have y4 : w2.cell? ⟨g, 4, none⟩ = some (.slice a4 p.nu k4) := HX.out.cell (j := 4) (by simp)
  have y5 : w2.cell? ⟨g, 5, none⟩ = some (.slice a5 p.nc k5) := HX.out.cell (j := 5) (by simp)
  have y6 : w2.cell? ⟨g, 6, none⟩ = some (.slice a6 p.ni k6) := HX.out.cell (j := 6) (by simp)
  have y7 : w2.cell? ⟨g, 7, none⟩ = some (.slice a7 p.ni k7) := HX.out.cell (j := 7) (by simp)
  go_wp2_with fail
  clear y0 y1 y2 y3 y4 y5 y6 y7
  refine (wflag_any w0 w2 R v2 ((L) ++ u64n p.params 1) p.dots (by (repeat rw [List.length_append]); (repeat rw [u64n_len]); (try rw [List.length_singleton]); omega) HW.out).mono ?_
  rintro e w3 ⟨rfl, v3, h1, k1⟩
  have HW := hide h1
  have HK := hide (HK.out.trans k1)
  have HX := hide (HX.out.wk k1 (by decide) hgR)
  clear h1 k1
  have y0 : w3.cell? ⟨g, 0, none⟩ = some (.int .i64 p.params) := HX.out.cell (j := 0) (by simp)
  have y1 : w3.cell? ⟨g, 1, none⟩ = some (.int .i64 p.regs) := HX.out.cell (j := 1) (by simp)
  have y2 : w3.cell? ⟨g, 2, none⟩ = some (.int .i64 p.line) := HX.out.cell (j := 2) (by simp)
  have y3 : w3.cell? ⟨g, 3, none⟩ = some (.bool p.dots) := HX.out.cell (j := 3) (by simp)
  have y4 : w3.cell? ⟨g, 4, none⟩ = some (.slice a4 p.nu k4) := HX.out.cell (j := 4) (by simp)
  have y5 : w3.cell? ⟨g, 5, none⟩ = some (.slice a5 p.nc k5) := HX.out.cell (j := 5) (by simp)
  have y6 : w3.cell? ⟨g, 6, none⟩ = some (.slice a6 p.ni k6) := HX.out.cell (j := 6) (by simp)
  have y7 : w3.cell? ⟨g, 7, none⟩ = some (.slice a7 p.ni k7) := HX.out.cell (j := 7) (by simp)
  go_wp2_with fail
  clear y0 y1 y2 y3 y4 y5 y6 y7
  refine (wnum_any w0 w3 R v3 (((L) ++ u64n p.params 1) ++ [flagI p.dots]) p.regs 1 (by omega) (by (repeat rw [List.length_append]); (repeat rw [u64n_len]); (try rw [List.length_singleton]); omega) HW.out).mono ?_
  rintro e w4 ⟨rfl, v4, h1, k1⟩
  have HW := hide h1
  have HK := hide (HK.out.trans k1)
  have HX := hide (HX.out.wk k1 (by decide) hgR)
  clear h1 k1
  have y0 : w4.cell? ⟨g, 0, none⟩ = some (.int .i64 p.params) := HX.out.cell (j := 0) (by simp)
  have y1 : w4.cell? ⟨g, 1, none⟩ = some (.int .i64 p.regs) := HX.out.cell (j := 1) (by simp)
  have y2 : w4.cell? ⟨g, 2, none⟩ = some (.int .i64 p.line) := HX.out.cell (j := 2) (by simp)
  have y3 : w4.cell? ⟨g, 3, none⟩ = some (.bool p.dots) := HX.out.cell (j := 3) (by simp)
  have y4 : w4.cell? ⟨g, 4, none⟩ = some (.slice a4 p.nu k4) := HX.out.cell (j := 4) (by simp)
  have y5 : w4.cell? ⟨g, 5, none⟩ = some (.slice a5 p.nc k5) := HX.out.cell (j := 5) (by simp)
  have y6 : w4.cell? ⟨g, 6, none⟩ = some (.slice a6 p.ni k6) := HX.out.cell (j := 6) (by simp)
  have y7 : w4.cell? ⟨g, 7, none⟩ = some (.slice a7 p.ni k7) := HX.out.cell (j := 7) (by simp)
  go_wp2_with fail
  clear y0 y1 y2 y3 y4 y5 y6 y7
  refine (wnum_any w0 w4 R v4 ((((L) ++ u64n p.params 1) ++ [flagI p.dots]) ++ u64n p.regs 1) p.line 4 (by omega) (by (repeat rw [List.length_append]); (repeat rw [u64n_len]); (try rw [List.length_singleton]); omega) HW.out).mono ?_
  rintro e w5 ⟨rfl, v5, h1, k1⟩
  have HW := hide h1
  have HK := hide (HK.out.trans k1)
  have HX := hide (HX.out.wk k1 (by decide) hgR)
  clear h1 k1
  have y0 : w5.cell? ⟨g, 0, none⟩ = some (.int .i64 p.params) := HX.out.cell (j := 0) (by simp)
  have y1 : w5.cell? ⟨g, 1, none⟩ = some (.int .i64 p.regs) := HX.out.cell (j := 1) (by simp)
  have y2 : w5.cell? ⟨g, 2, none⟩ = some (.int .i64 p.line) := HX.out.cell (j := 2) (by simp)
  have y3 : w5.cell? ⟨g, 3, none⟩ = some (.bool p.dots) := HX.out.cell (j := 3) (by simp)
  have y4 : w5.cell? ⟨g, 4, none⟩ = some (.slice a4 p.nu k4) := HX.out.cell (j := 4) (by simp)
  have y5 : w5.cell? ⟨g, 5, none⟩ = some (.slice a5 p.nc k5) := HX.out.cell (j := 5) (by simp)
  have y6 : w5.cell? ⟨g, 6, none⟩ = some (.slice a6 p.ni k6) := HX.out.cell (j := 6) (by simp)
  have y7 : w5.cell? ⟨g, 7, none⟩ = some (.slice a7 p.ni k7) := HX.out.cell (j := 7) (by simp)
  go_wp2_with fail
  clear y0 y1 y2 y3 y4 y5 y6 y7
  refine (wnum_any w0 w5 R v5 (((((L) ++ u64n p.params 1) ++ [flagI p.dots]) ++ u64n p.regs 1) ++ u64n p.line 4) (p.nu : Int) 1 (by omega) (by (repeat rw [List.length_append]); (repeat rw [u64n_len]); (try rw [List.length_singleton]); omega) HW.out).mono ?_
  rintro e w6 ⟨rfl, v6, h1, k1⟩
  have HW := hide h1
  have HK := hide (HK.out.trans k1)
  have HX := hide (HX.out.wk k1 (by decide) hgR)
  clear h1 k1
  have HW : Hid (WS w0 w6 R v6 (L ++ S1 p 0)) := hide (by rw [S1_0, hHd.out]; exact HW.out)
  have y0 : w6.cell? ⟨g, 0, none⟩ = some (.int .i64 p.params) := HX.out.cell (j := 0) (by simp)
  have y1 : w6.cell? ⟨g, 1, none⟩ = some (.int .i64 p.regs) := HX.out.cell (j := 1) (by simp)
  have y2 : w6.cell? ⟨g, 2, none⟩ = some (.int .i64 p.line) := HX.out.cell (j := 2) (by simp)
  have y3 : w6.cell? ⟨g, 3, none⟩ = some (.bool p.dots) := HX.out.cell (j := 3) (by simp)
  have y4 : w6.cell? ⟨g, 4, none⟩ = some (.slice a4 p.nu k4) := HX.out.cell (j := 4) (by simp)
  have y5 : w6.cell? ⟨g, 5, none⟩ = some (.slice a5 p.nc k5) := HX.out.cell (j := 5) (by simp)
  have y6 : w6.cell? ⟨g, 6, none⟩ = some (.slice a6 p.ni k6) := HX.out.cell (j := 6) (by simp)
  have y7 : w6.cell? ⟨g, 7, none⟩ = some (.slice a7 p.ni k7) := HX.out.cell (j := 7) (by simp)
  go_wp2_with fail
  clear y0 y1 y2 y3 y4 y5 y6 y7
  rename_i K1 a1
  have HK1 := hide a1
  clear a1
  go_loopw [34] (fun iv wr => ∃ i : Nat, i ≤ p.nu ∧ iv = .int .i64 i ∧ ∃ v', Hid (WS w0 wr R v' (L ++ S1 p i)) ∧ Hid (WK w6 wr R)) (fun iv _ => match iv with | .int _ x => p.nu - x.toNat | _ => 0)
  case atStart => exact ⟨0, by omega, rfl, v6, HW, hide (WK.refl _ _)⟩
  case round =>
    obtain ⟨i, hi9, rfl, v7, HW7, HKr⟩ := hrel
    clear HW
    have HX7 := hide (HX.out.wk HKr.out (by decide) hgR)
    have hl1 := S1_len p i
    by_cases hin : i < p.nu
    · rcases HA.out.u with ⟨h9, _⟩ | ⟨b, o, cap, e, hb, hcap, hc⟩
      · omega
      cases e
      have c0 := (HW7.out.low.cell (p := ⟨b, o + i * 2, none⟩) hb).trans (hc i hin).1
      have c1 := (HW7.out.low.cell (p := ⟨b, o + i * 2 + 1, none⟩) hb).trans (hc i hin).2
      clear hc
      have hR7 := HW7.out.row.lt
      have HU := hide (RowF.mk' wr 71 #[.bool (p.u0 i), .int .i64 (p.u1 i)])
      have HW := hide (HW7.out.alloc (.cells #[.bool (p.u0 i), .int .i64 (p.u1 i)] 71))
      have HKr := hide (HKr.out.trans (WK.of (R := R) (b_1 wr (.cells #[.bool (p.u0 i), .int .i64 (p.u1 i)] 71)) (Nat.le_refl _)))
      have hg2 : wr.heap.size ≠ R := by omega
      have HS1 := hide (S1_1 p i)
      go_wp2_with fail
      clear c0 c1 hR7
      generalize wr.alloc (.cells #[.bool (p.u0 i), .int .i64 (p.u1 i)] 71) = w8 at HW HKr HU ⊢
      generalize wr.heap.size = g2 at HU hg2 ⊢
      refine (wflag_any w0 w8 R v7 (L ++ S1 p i) (p.u0 i) (by (repeat rw [List.length_append]); (repeat rw [u64n_len]); (try rw [List.length_singleton]); omega) HW.out).mono ?_
      rintro e w9 ⟨rfl, v9, h1, k1⟩
      have HW := hide h1
      have HKr := hide (HKr.out.trans k1)
      have HU := hide (HU.out.wk k1 (by decide) hg2)
      clear h1 k1
      have y0 : w9.cell? ⟨g2, 0, none⟩ = some (.bool (p.u0 i)) := HU.out.cell (j := 0) (by simp)
      have y1 : w9.cell? ⟨g2, 1, none⟩ = some (.int .i64 (p.u1 i)) := HU.out.cell (j := 1) (by simp)
      go_wp2_with fail
      clear y0 y1
      refine (wnum_any w0 w9 R v9 ((L ++ S1 p i) ++ [flagI (p.u0 i)]) (p.u1 i) 1 (by omega) (by (repeat rw [List.length_append]); (repeat rw [u64n_len]); (try rw [List.length_singleton]); omega) HW.out).mono ?_
      rintro e w10 ⟨rfl, v10, h1, k1⟩
      have HW := hide h1
      have HKr := hide (HKr.out.trans k1)
      clear h1 k1
      go_wp2
      go_roundw
      case rel => exact ⟨i + 1, by omega, by simp, v10, hide (by rw [← HS1.out, upL]; have := HW.out; simp only [List.append_assoc] at this ⊢; exact this), HKr⟩
      case measure => simp; omega
    · obtain rfl : i = p.nu := by omega
      go_wp2
      refine HK1.out _ _ ?_
      clear HK1
      have HK := hide (HK.out.trans HKr.out)
      have HX := HX7
      have HW := HW7
      clear HX7 HW7 HKr
      have y0 : wr.cell? ⟨g, 0, none⟩ = some (.int .i64 p.params) := HX.out.cell (j := 0) (by simp)
      have y1 : wr.cell? ⟨g, 1, none⟩ = some (.int .i64 p.regs) := HX.out.cell (j := 1) (by simp)
      have y2 : wr.cell? ⟨g, 2, none⟩ = some (.int .i64 p.line) := HX.out.cell (j := 2) (by simp)
      have y3 : wr.cell? ⟨g, 3, none⟩ = some (.bool p.dots) := HX.out.cell (j := 3) (by simp)
      have y4 : wr.cell? ⟨g, 4, none⟩ = some (.slice a4 p.nu k4) := HX.out.cell (j := 4) (by simp)
      have y5 : wr.cell? ⟨g, 5, none⟩ = some (.slice a5 p.nc k5) := HX.out.cell (j := 5) (by simp)
      have y6 : wr.cell? ⟨g, 6, none⟩ = some (.slice a6 p.ni k6) := HX.out.cell (j := 6) (by simp)
      have y7 : wr.cell? ⟨g, 7, none⟩ = some (.slice a7 p.ni k7) := HX.out.cell (j := 7) (by simp)
      go_wp2_with fail
      clear y0 y1 y2 y3 y4 y5 y6 y7
      refine (wnum_any w0 wr R v7 (L ++ S1 p p.nu) (p.nc : Int) 2 (by omega) (by (repeat rw [List.length_append]); (repeat rw [u64n_len]); (try rw [List.length_singleton]); omega) HW.out).mono ?_
      rintro e w8 ⟨rfl, v8, h1, k1⟩
      have HW := hide h1
      have HK := hide (HK.out.trans k1)
      have HX := hide (HX.out.wk k1 (by decide) hgR)
      clear h1 k1
      have HW : Hid (WS w0 w8 R v8 (L ++ S2 p 0)) := hide (by rw [S2_0, ← List.append_assoc]; exact HW.out)
      have y0 : w8.cell? ⟨g, 0, none⟩ = some (.int .i64 p.params) := HX.out.cell (j := 0) (by simp)
      have y1 : w8.cell? ⟨g, 1, none⟩ = some (.int .i64 p.regs) := HX.out.cell (j := 1) (by simp)
      have y2 : w8.cell? ⟨g, 2, none⟩ = some (.int .i64 p.line) := HX.out.cell (j := 2) (by simp)
      have y3 : w8.cell? ⟨g, 3, none⟩ = some (.bool p.dots) := HX.out.cell (j := 3) (by simp)
      have y4 : w8.cell? ⟨g, 4, none⟩ = some (.slice a4 p.nu k4) := HX.out.cell (j := 4) (by simp)
      have y5 : w8.cell? ⟨g, 5, none⟩ = some (.slice a5 p.nc k5) := HX.out.cell (j := 5) (by simp)
      have y6 : w8.cell? ⟨g, 6, none⟩ = some (.slice a6 p.ni k6) := HX.out.cell (j := 6) (by simp)
      have y7 : w8.cell? ⟨g, 7, none⟩ = some (.slice a7 p.ni k7) := HX.out.cell (j := 7) (by simp)
      go_wp2_with fail
      clear y0 y1 y2 y3 y4 y5 y6 y7
      rename_i K2 a2
      have HK2 := hide a2
      clear a2
      go_loopw [55] (fun iv wq => ∃ i : Nat, i ≤ p.nc ∧ iv = .int .i64 i ∧ ∃ v', Hid (WS w0 wq R v' (L ++ S2 p i)) ∧ Hid (WK w8 wq R)) (fun iv _ => match iv with | .int _ x => p.nc - x.toNat | _ => 0)
      case atStart => exact ⟨0, by omega, rfl, v8, HW, hide (WK.refl _ _)⟩
      case round =>
        rename World => wq
        obtain ⟨i, hi9, rfl, v9, HW9, HKr⟩ := hrel
        clear HW
        have HX9 := hide (HX.out.wk HKr.out (by decide) hgR)
        have hl2 := S2_len p i
        have hz := szs_le (x := p.c3) (m := 1048576) i (fun k hk => HS.out k (by omega))
        by_cases hin : i < p.nc
        · rcases HA.out.c with ⟨h9, _⟩ | ⟨b, o, cap, e, hb, hcap, hc⟩
          · omega
          cases e
          have c0 := (HW9.out.low.cell (p := ⟨b, o + i * 4, none⟩) hb).trans (hc i hin).1
          have c1 := (HW9.out.low.cell (p := ⟨b, o + i * 4 + 1, none⟩) hb).trans (hc i hin).2.1
          have c2 := (HW9.out.low.cell (p := ⟨b, o + i * 4 + 2, none⟩) hb).trans (hc i hin).2.2.1
          have c3 := (HW9.out.low.cell (p := ⟨b, o + i * 4 + 3, none⟩) hb).trans (hc i hin).2.2.2
          clear hc
          have HW := hide (HW9.out.alloc (.cells #[.int .i64 (p.c0 i), .int .i64 (p.c1 i), .int .u64 (p.c2 i), .string (p.c3 i)] 73))
          have HKr := hide (HKr.out.trans (WK.of (R := R) (b_1 wq (.cells #[.int .i64 (p.c0 i), .int .i64 (p.c1 i), .int .u64 (p.c2 i), .string (p.c3 i)] 73)) (Nat.le_refl _)))
          have HS2 := hide (S2_1 p i)
          go_wp2_with fail
          clear c0 c1 c2 c3
          refine (constant_any w0 _ R v9 (L ++ S2 p i) (p.c0 i) (p.c1 i) (p.c2 i) (p.c3 i) (HP.out.2.2.1 i hin) (HS.out i hin) (by (repeat rw [List.length_append]); (repeat rw [u64n_len]); (try rw [List.length_singleton]); omega) HW.out).mono ?_
          rintro e w10 ⟨rfl, v10, h1, k1⟩
          have HW := hide h1
          have HKr := hide (HKr.out.trans k1)
          clear h1 k1
          go_wp2
          go_roundw
          case rel => exact ⟨i + 1, by omega, by simp, v10, hide (by rw [← HS2.out, coV_eq, ← List.append_assoc]; exact HW.out), HKr⟩
          case measure => simp; omega
        · obtain rfl : i = p.nc := by omega
          go_wp2
          refine HK2.out _ _ ?_
          clear HK2
          have HK := hide (HK.out.trans HKr.out)
          have HX := HX9
          have HW := HW9
          clear HX9 HW9 HKr
          have y0 : wq.cell? ⟨g, 0, none⟩ = some (.int .i64 p.params) := HX.out.cell (j := 0) (by simp)
          have y1 : wq.cell? ⟨g, 1, none⟩ = some (.int .i64 p.regs) := HX.out.cell (j := 1) (by simp)
          have y2 : wq.cell? ⟨g, 2, none⟩ = some (.int .i64 p.line) := HX.out.cell (j := 2) (by simp)
          have y3 : wq.cell? ⟨g, 3, none⟩ = some (.bool p.dots) := HX.out.cell (j := 3) (by simp)
          have y4 : wq.cell? ⟨g, 4, none⟩ = some (.slice a4 p.nu k4) := HX.out.cell (j := 4) (by simp)
          have y5 : wq.cell? ⟨g, 5, none⟩ = some (.slice a5 p.nc k5) := HX.out.cell (j := 5) (by simp)
          have y6 : wq.cell? ⟨g, 6, none⟩ = some (.slice a6 p.ni k6) := HX.out.cell (j := 6) (by simp)
          have y7 : wq.cell? ⟨g, 7, none⟩ = some (.slice a7 p.ni k7) := HX.out.cell (j := 7) (by simp)
          go_wp2_with fail
          clear y0 y1 y2 y3 y4 y5 y6 y7
          refine (wnum_any w0 wq R v9 (L ++ S2 p p.nc) (p.ni : Int) 2 (by omega) (by (repeat rw [List.length_append]); (repeat rw [u64n_len]); (try rw [List.length_singleton]); omega) HW.out).mono ?_
          rintro e w10 ⟨rfl, v10, h1, k1⟩
          have HW := hide h1
          have HK := hide (HK.out.trans k1)
          have HX := hide (HX.out.wk k1 (by decide) hgR)
          clear h1 k1
          have HW : Hid (WS w0 w10 R v10 (L ++ S3 p 0)) := hide (by rw [S3_0, ← List.append_assoc]; exact HW.out)
          have y0 : w10.cell? ⟨g, 0, none⟩ = some (.int .i64 p.params) := HX.out.cell (j := 0) (by simp)
          have y1 : w10.cell? ⟨g, 1, none⟩ = some (.int .i64 p.regs) := HX.out.cell (j := 1) (by simp)
          have y2 : w10.cell? ⟨g, 2, none⟩ = some (.int .i64 p.line) := HX.out.cell (j := 2) (by simp)
          have y3 : w10.cell? ⟨g, 3, none⟩ = some (.bool p.dots) := HX.out.cell (j := 3) (by simp)
          have y4 : w10.cell? ⟨g, 4, none⟩ = some (.slice a4 p.nu k4) := HX.out.cell (j := 4) (by simp)
          have y5 : w10.cell? ⟨g, 5, none⟩ = some (.slice a5 p.nc k5) := HX.out.cell (j := 5) (by simp)
          have y6 : w10.cell? ⟨g, 6, none⟩ = some (.slice a6 p.ni k6) := HX.out.cell (j := 6) (by simp)
          have y7 : w10.cell? ⟨g, 7, none⟩ = some (.slice a7 p.ni k7) := HX.out.cell (j := 7) (by simp)
          go_wp2_with fail
          clear y0 y1 y2 y3 y4 y5 y6 y7
          go_loopw [71] (fun iv wt => ∃ i : Nat, i ≤ p.ni ∧ iv = .int .i64 i ∧ ∃ v', Hid (WS w0 wt R v' (L ++ S3 p i)) ∧ Hid (WK w10 wt R)) (fun iv _ => match iv with | .int _ x => p.ni - x.toNat | _ => 0)
          case atStart => exact ⟨0, by omega, rfl, v10, HW, hide (WK.refl _ _)⟩
          case round =>
            rename World => wt
            obtain ⟨i, hi9, rfl, v11, HW11, HKr⟩ := hrel
            clear HW
            have HX11 := hide (HX.out.wk HKr.out (by decide) hgR)
            have hl3 := S3_len p i
            by_cases hin : i < p.ni
            · rcases HA.out.i with ⟨h9, _⟩ | ⟨b, o, cap, e, hb, hcap, hc⟩
              · omega
              cases e
              have hll := HA.out.l
              rw [h7] at hll
              rcases hll with ⟨h9, _⟩ | ⟨b2, o2, cap2, e, hb2, hcap2, hc2⟩
              · omega
              cases e
              have c0 := (HW11.out.low.cell (p := ⟨b, o + i * 4, none⟩) hb).trans (hc i hin).1
              have c1 := (HW11.out.low.cell (p := ⟨b, o + i * 4 + 1, none⟩) hb).trans (hc i hin).2.1
              have c2 := (HW11.out.low.cell (p := ⟨b, o + i * 4 + 2, none⟩) hb).trans (hc i hin).2.2.1
              have c3 := (HW11.out.low.cell (p := ⟨b, o + i * 4 + 3, none⟩) hb).trans (hc i hin).2.2.2
              clear hc
              have HW := hide (HW11.out.alloc (.cells #[.int .i64 (p.i0 i), .int .i64 (p.i1 i), .int .i64 (p.i2 i), .int .i64 (p.i3 i)] 76))
              have k1 := WK.of (R := R) (b_1 wt (.cells #[.int .i64 (p.i0 i), .int .i64 (p.i1 i), .int .i64 (p.i2 i), .int .i64 (p.i3 i)] 76)) (Nat.le_refl _)
              have HKr := hide (HKr.out.trans k1)
              have HX12 := hide (HX11.out.wk k1 (by decide) hgR)
              have HS3 := hide (S3_1 p i)
              clear k1
              go_wp2_with fail
              clear c0 c1 c2 c3
              refine (instruction_any w0 _ R v11 (L ++ S3 p i) (p.i0 i) (p.i1 i) (p.i2 i) (p.i3 i) (by (repeat rw [List.length_append]); (repeat rw [u64n_len]); (try rw [List.length_singleton]); omega) HW.out).mono ?_
              rintro e w12 ⟨rfl, v12, h1, k1⟩
              have HW := hide h1
              have HKr := hide (HKr.out.trans k1)
              have HX12 := hide (HX12.out.wk k1 (by decide) hgR)
              clear h1 k1
              have y0 : w12.cell? ⟨g, 0, none⟩ = some (.int .i64 p.params) := HX12.out.cell (j := 0) (by simp)
              have y1 : w12.cell? ⟨g, 1, none⟩ = some (.int .i64 p.regs) := HX12.out.cell (j := 1) (by simp)
              have y2 : w12.cell? ⟨g, 2, none⟩ = some (.int .i64 p.line) := HX12.out.cell (j := 2) (by simp)
              have y3 : w12.cell? ⟨g, 3, none⟩ = some (.bool p.dots) := HX12.out.cell (j := 3) (by simp)
              have y4 : w12.cell? ⟨g, 4, none⟩ = some (.slice a4 p.nu k4) := HX12.out.cell (j := 4) (by simp)
              have y5 : w12.cell? ⟨g, 5, none⟩ = some (.slice a5 p.nc k5) := HX12.out.cell (j := 5) (by simp)
              have y6 : w12.cell? ⟨g, 6, none⟩ = some (.slice (some ⟨b, o, none⟩) p.ni k6) := HX12.out.cell (j := 6) (by simp)
              have y7 : w12.cell? ⟨g, 7, none⟩ = some (.slice (some ⟨b2, o2, none⟩) p.ni k7) := HX12.out.cell (j := 7) (by simp)
              have cl := (HW.out.low.cell (p := ⟨b2, o2 + i, none⟩) hb2).trans (hc2 i hin)
              clear hc2
              go_wp2_with fail
              clear y0 y1 y2 y3 y4 y5 y6 y7 cl
              refine (wnum_any w0 w12 R v12 ((L ++ S3 p i) ++ (u64n (p.i0 i) 1 ++ (u64n (p.i1 i) 1 ++ (u64n (p.i2 i) 4 ++ u64n (p.i3 i) 4)))) (p.l0 i) 4 (by omega) (by (repeat rw [List.length_append]); (repeat rw [u64n_len]); (try rw [List.length_singleton]); omega) HW.out).mono ?_
              rintro e w13 ⟨rfl, v13, h1, k1⟩
              have HW := hide h1
              have HKr := hide (HKr.out.trans k1)
              clear h1 k1
              go_wp2
              go_roundw
              case rel => exact ⟨i + 1, by omega, by simp, v13, hide (by rw [← HS3.out, inL]; have := HW.out; simp only [List.append_assoc] at this ⊢; exact this), HKr⟩
              case measure => simp; omega
            · obtain rfl : i = p.ni := by omega
              go_wp2
              go_end0
              exact ⟨rfl, v11, HW11.out, HK.out.trans HKr.out⟩

end Go.Proofs.Ytplfgfdlcfdfdaa
