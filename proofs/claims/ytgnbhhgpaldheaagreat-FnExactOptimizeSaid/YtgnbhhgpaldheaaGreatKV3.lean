import Derived.Test.YtgnbhhgpaldheaaGreatKBM
import Derived.Test.YtgnbhhgpaldheaaGreatKD11
import Derived.Test.YtgnbhhgpaldheaaGreatKShelf
import Derived.Maps.OwnSet
import Derived.Maps.OwnOps
import Derived.WalkArith
import Derived.Test.YtgnbhhgpaldheaaGreatKV2
namespace Go.Proofs.YtgnbhhgpaldheaaGreat
open Go Go.RowKit
set_option linter.unusedVariables false
def fnOk (n : Nat) (P : Nat → PV) (k : Nat) : Prop := shapeOk n P k ∧ ∀ j, j < (P k).ni → FB (asks P k (P k) j) 0
def fnBad (n : Nat) (P : Nat → PV) (k : Nat) (a c : Int) : Prop :=
  (¬ shapeOk n P k ∧ a = 1 ∧ c = 0) ∨ (shapeOk n P k ∧ ∃ j : Nat, j < (P k).ni ∧ c = j ∧ a ≠ 0 ∧ FB (asks P k (P k) j) a ∧ ∀ i, i < j → FB (asks P k (P k) i) 0)
def VerR (n : Nat) (P : Nat → PV) (a b c : Int) : Prop :=
  (¬ (1 ≤ n ∧ n ≤ 1000) ∧ a = 1 ∧ b = 0 ∧ c = 0) ∨ ((1 ≤ n ∧ n ≤ 1000) ∧ ((∃ k : Nat, k < n ∧ b = k ∧ fnBad n P k a c ∧ ∀ i, i < k → fnOk n P i) ∨ ((∀ k, k < n → fnOk n P k) ∧ a = 0 ∧ b = 0 ∧ c = 0)))
theorem fnBad_not {n : Nat} {P : Nat → PV} {k : Nat} {a c : Int} (h : fnBad n P k a c) (h' : fnOk n P k) : False := by
  rcases h with ⟨h, _⟩ | ⟨_, j, hj, _, ha, hf, _⟩
  · exact h h'.1
  · exact ha (hf.unique (h'.2 j hj))
theorem fnBad.unique {n : Nat} {P : Nat → PV} {k : Nat} {a c a' c' : Int} (h : fnBad n P k a c) (h' : fnBad n P k a' c') : a = a' ∧ c = c' := by
  rcases h with ⟨h, rfl, rfl⟩ | ⟨h, j, hj, rfl, ha, hf, hl⟩ <;> rcases h' with ⟨h2, rfl, rfl⟩ | ⟨h2, j', hj', rfl, ha', hf', hl'⟩
  · exact ⟨rfl, rfl⟩
  · exact absurd h2 h
  · exact absurd h h2
  · have : j = j' := by
      rcases Nat.lt_trichotomy j j' with c | c | c
      · exact absurd (hf.unique (hl' j c)) ha
      · exact c
      · exact absurd (hf'.unique (hl j' c)) ha'
    subst this
    exact ⟨hf.unique hf', rfl⟩
theorem VerR.unique {n : Nat} {P : Nat → PV} {a b c a' b' c' : Int} (h : VerR n P a b c) (h' : VerR n P a' b' c') : a = a' ∧ b = b' ∧ c = c' := by
  rcases h with ⟨h, rfl, rfl, rfl⟩ | ⟨h, h3⟩ <;> rcases h' with ⟨h2, rfl, rfl, rfl⟩ | ⟨h2, h4⟩
  · exact ⟨rfl, rfl, rfl⟩
  · exact absurd h2 h
  · exact absurd h h2
  · rcases h3 with ⟨k, hk, rfl, hb, hl⟩ | ⟨h3, rfl, rfl, rfl⟩ <;> rcases h4 with ⟨k', hk', rfl, hb', hl'⟩ | ⟨h4, rfl, rfl, rfl⟩
    · have : k = k' := by
        rcases Nat.lt_trichotomy k k' with c | c | c
        · exact (fnBad_not hb (hl' k c)).elim
        · exact c
        · exact (fnBad_not hb' (hl k' c)).elim
      subst this
      exact ⟨(hb.unique hb').1, rfl, (hb.unique hb').2⟩
    · exact (fnBad_not hb (h4 k hk)).elim
    · exact (fnBad_not hb' (h3 k' hk')).elim
    · exact ⟨rfl, rfl, rfl⟩
def verV (a b c : Int) : Value := .agg #[.int .i64 a, .int .i64 b, .int .i64 c]
set_option maxHeartbeats 3200000 in
set_option maxRecDepth 100000 in
theorem specVerify_any (v : Value) (n : Nat) (P : Nat → PV) (w : World) (hn : n ≤ 1048576) (hf : allFit n P 1048576) (hbit : allBits n P) (h : ProsA w v n P) :
    Calls Tryz.prog 13 #[.agg #[v]] w fun e w' => ∃ a b c, e = .returned (verV a b c) ∧ VerR n P a b c ∧ Below w.heap.size w w' := by
  have HA := hide h
  obtain ⟨a0, k0, rfl⟩ := h.val
  have HF := hide hf
  have HBit := hide hbit
  clear h hf hbit
  have HB1 := hide (b_2 w (.cells #[.slice a0 n k0] 28) (.cells #[.int .i64 0, .int .i64 0, .int .i64 0] 30))
  have hC := RowF.mk' w 28 #[.slice a0 n k0]
  have HC := hide (hC.low (b_1 _ (.cells #[.int .i64 0, .int .i64 0, .int .i64 0] 30)) hC.lt)
  have hZ := RowF.mk' (w.alloc (.cells #[.slice a0 n k0] 28)) 30 #[.int .i64 0, .int .i64 0, .int .i64 0]
  have eZ : (w.alloc (.cells #[.slice a0 n k0] 28)).heap.size = w.heap.size + 1 := by simp
  rw [eZ] at hZ
  have HZ := hide hZ
  clear hC hZ eZ
  rcases hx : inI (n : Int) 1 1000 with _ | _
  · go_enter Tryz.func13, Tryz.ntmps13
    go_wp2_with (go_at_call 27; refine (l07In_any _ _ _ _).mono ?_; rintro e w' ⟨rfl, hw⟩; obtain rfl := hw.symm)
    refine bodyPost_ret (v := .agg #[.int .i64 1, .int .i64 0, .int .i64 0]) ?_ rfl ⟨1, 0, 0, rfl, .inl ⟨by simp [inI] at hx; omega, rfl, rfl, rfl⟩, b_2 _ _ _⟩
    simp [results, Tryz.results13, go_sem]
  · have hx2 : 1 ≤ n ∧ n ≤ 1000 := by simp [inI] at hx; omega
    go_enter Tryz.func13, Tryz.ntmps13
    go_wp2_with (go_at_call 27; refine (l07In_any _ _ _ _).mono ?_; rintro e w' ⟨rfl, hw⟩; obtain rfl := hw.symm)
    rename_i K1 a1
    have HK := hide a1
    clear a1
    generalize (w.alloc (.cells #[.slice a0 n k0] 28)).alloc (.cells #[.int .i64 0, .int .i64 0, .int .i64 0] 30) = w1 at HB1 HC HZ ⊢
    go_loopw [17] (fun iv wr => ∃ k : Nat, k ≤ n ∧ iv = .int .i64 k ∧ Hid (∀ i, i < k → fnOk n P i) ∧ Hid (Below w1.heap.size w1 wr)) (fun iv _ => match iv with | .int _ x => n - x.toNat | _ => 0)
    case atStart => exact ⟨0, by omega, rfl, hide (fun k hk => by omega), hide (Below.refl _ _)⟩
    case round =>
      obtain ⟨k, hk9, rfl, HI, HBw⟩ := hrel
      by_cases hin : k < n
      · rcases HA.out with ⟨h9, _⟩ | ⟨b, o, cap, e9, hb, hcap, hc⟩
        · omega
        cases e9
        obtain ⟨s4, s5, s6, s7, hc8, hpva⟩ := hc k hin
        have HBB := hide (HB1.out.trans (HBw.out.mono HB1.out.size))
        obtain ⟨c0, c1, c2, c3, c4, c5, c6, c7⟩ := hc8.low HBB.out hb
        obtain ⟨a4, k4, rfl⟩ := hpva.u.val
        obtain ⟨a5, k5, rfl⟩ := hpva.c.val
        obtain ⟨a6, k6, rfl⟩ := hpva.i.val
        obtain ⟨a7, k7, rfl⟩ := hpva.l.val
        have HPA := hide hpva
        clear hc hc8 hpva
        have hCr := HC.out.low HBw.out HC.out.lt
        have y0 : wr.cell? ⟨w.heap.size, 0, none⟩ = some (.slice (some ⟨b, o, none⟩) n k0) := hCr.cell (j := 0) (by simp)
        have y1 : (wr.alloc (.cells #[.int .i64 (P k).params, .int .i64 (P k).regs, .int .i64 (P k).line, .bool (P k).dots, .slice a4 (P k).nu k4, .slice a5 (P k).nc k5, .slice a6 (P k).ni k6, .slice a7 (P k).nl k7] 45)).cell? ⟨w.heap.size, 0, none⟩ = some (.slice (some ⟨b, o, none⟩) n k0) := ((b_1 wr _).cell (p := ⟨w.heap.size, 0, none⟩) hCr.lt).trans y0
        clear hCr
        go_wp2_with fail
        refine (l08Shape_any _ n P k _ hin hn HF.out HBit.out (HA.out.low (HBB.out.trans ((b_1 wr _).mono HBB.out.size)) (Nat.le_refl _))).mono ?_
        rintro e w3 ⟨r, rfl, hr, hb3⟩
        have HB3 := hide ((HBw.out.alloc HBw.out.size _).trans (hb3.mono (HBw.out.alloc HBw.out.size _).size))
        have hPr := RowF.mk' wr 45 #[.int .i64 (P k).params, .int .i64 (P k).regs, .int .i64 (P k).line, .bool (P k).dots, .slice a4 (P k).nu k4, .slice a5 (P k).nc k5, .slice a6 (P k).ni k6, .slice a7 (P k).nl k7]
        have HPr := hide (hPr.low hb3 hPr.lt)
        clear hPr hb3 c0 c1 c2 c3 c4 c5 c6 c7 y0 y1
        have hz := HZ.out.low HB3.out HZ.out.lt
        have z0 : w3.cell? ⟨w.heap.size + 1, 0, none⟩ = some (.int .i64 0) := hz.cell (j := 0) (by simp)
        have z1 : w3.cell? ⟨w.heap.size + 1, 1, none⟩ = some (.int .i64 0) := hz.cell (j := 1) (by simp)
        have z2 : w3.cell? ⟨w.heap.size + 1, 2, none⟩ = some (.int .i64 0) := hz.cell (j := 2) (by simp)
        have t0 := hz.frz 0
        have t1 := hz.frz 1
        have t2 := hz.frz 2
        clear hz
        rcases hr with ⟨rfl, q1⟩ | ⟨rfl, q1⟩
        case inr =>
          have Q1 := hide q1
          clear q1
          have nb : w.heap.size ≤ w.heap.size + 1 := by omega
          have HBE := hide (HB1.out.trans (HB3.out.mono HB1.out.size))
          go_wp2_with fail
          refine bodyPost_ret (v := .agg #[.int .i64 1, .int .i64 k, .int .i64 0]) ?_ rfl ⟨1, k, 0, rfl, .inr ⟨hx2, .inl ⟨k, hin, rfl, .inl ⟨Q1.out, rfl, rfl⟩, HI.out⟩⟩, ((HBE.out.setCell nb _).setCell nb _).setCell nb _⟩
          simp [results, Tryz.results13, go_sem, z0, z1, z2]
        have Q1 := hide q1
        clear q1 z0 z1 z2 t0 t1 t2
        have hC3 := HC.out.low HB3.out HC.out.lt
        have y0 : w3.cell? ⟨w.heap.size, 0, none⟩ = some (.slice (some ⟨b, o, none⟩) n k0) := hC3.cell (j := 0) (by simp)
        clear hC3
        have p0 : w3.cell? ⟨wr.heap.size, 0, none⟩ = some (.int .i64 (P k).params) := HPr.out.cell (j := 0) (by simp)
        have p1 : w3.cell? ⟨wr.heap.size, 1, none⟩ = some (.int .i64 (P k).regs) := HPr.out.cell (j := 1) (by simp)
        have p2 : w3.cell? ⟨wr.heap.size, 2, none⟩ = some (.int .i64 (P k).line) := HPr.out.cell (j := 2) (by simp)
        have p3 : w3.cell? ⟨wr.heap.size, 3, none⟩ = some (.bool (P k).dots) := HPr.out.cell (j := 3) (by simp)
        have p4 : w3.cell? ⟨wr.heap.size, 4, none⟩ = some (.slice a4 (P k).nu k4) := HPr.out.cell (j := 4) (by simp)
        have p5 : w3.cell? ⟨wr.heap.size, 5, none⟩ = some (.slice a5 (P k).nc k5) := HPr.out.cell (j := 5) (by simp)
        have p6 : w3.cell? ⟨wr.heap.size, 6, none⟩ = some (.slice a6 (P k).ni k6) := HPr.out.cell (j := 6) (by simp)
        have p7 : w3.cell? ⟨wr.heap.size, 7, none⟩ = some (.slice a7 (P k).nl k7) := HPr.out.cell (j := 7) (by simp)
        have hA := b_1 w3 (.cells #[.slice (some ⟨b, o, none⟩) n k0, .int .i64 k, .int .i64 (P k).params, .int .i64 (P k).regs, .int .i64 (P k).line, .bool (P k).dots, .slice a4 (P k).nu k4, .slice a5 (P k).nc k5, .slice a6 (P k).ni k6, .slice a7 (P k).nl k7] 73)
        have p6' := (hA.cell (p := ⟨wr.heap.size, 6, none⟩) HPr.out.lt).trans p6
        clear hA
        go_wp2_with fail
        rename_i K2 a2
        have HK2 := hide a2
        clear a2 y0 p0 p1 p2 p3 p4 p5 p6 p7 p6'
        have HX := hide (RowF.mk' w3 73 #[.slice (some ⟨b, o, none⟩) n k0, .int .i64 k, .int .i64 (P k).params, .int .i64 (P k).regs, .int .i64 (P k).line, .bool (P k).dots, .slice a4 (P k).nu k4, .slice a5 (P k).nc k5, .slice a6 (P k).ni k6, .slice a7 (P k).nl k7])
        have HB4 := hide (HB3.out.alloc HB3.out.size (.cells #[.slice (some ⟨b, o, none⟩) n k0, .int .i64 k, .int .i64 (P k).params, .int .i64 (P k).regs, .int .i64 (P k).line, .bool (P k).dots, .slice a4 (P k).nu k4, .slice a5 (P k).nc k5, .slice a6 (P k).ni k6, .slice a7 (P k).nl k7] 73))
        clear HPr
        generalize w3.heap.size = g3 at *
        generalize w3.alloc (.cells #[.slice (some ⟨b, o, none⟩) n k0, .int .i64 k, .int .i64 (P k).params, .int .i64 (P k).regs, .int .i64 (P k).line, .bool (P k).dots, .slice a4 (P k).nu k4, .slice a5 (P k).nc k5, .slice a6 (P k).ni k6, .slice a7 (P k).nl k7] 73) = w4 at HX HB4 ⊢
        obtain ⟨⟨hd1, hd2, -⟩, -, -, hcode⟩ := Q1.out.1
        have hr0 : 0 ≤ (P k).regs := by simp [inI] at hd2; omega
        have hr1 : (P k).regs ≤ 255 := by simp [inI] at hd2; omega
        have HBy : Hid (byteA (P k)) := hide (fun j hj => by
          have := (hcode j hj).1.2.1
          simp [inI] at this
          exact this)
        clear hd1 hd2 hcode
        have hnib : (P k).ni ≤ 1048576 := (HF.out k hin).2.2.1
        go_loopw [35] (fun iv wq => ∃ j : Nat, j ≤ (P k).ni ∧ iv = .int .i64 j ∧ Hid (∀ i, i < j → FB (asks P k (P k) i) 0) ∧ Hid (Below w4.heap.size w4 wq)) (fun iv _ => match iv with | .int _ x => (P k).ni - x.toNat | _ => 0)
        case atStart => exact ⟨0, by omega, rfl, hide (fun k hk => by omega), hide (Below.refl _ _)⟩
        case round =>
          obtain ⟨j, hj9, rfl, HJ, HBq⟩ := hrel
          have HB5 := hide (HB4.out.trans (HBq.out.mono HB4.out.size))
          have HBE := hide (HB1.out.trans (HB5.out.mono HB1.out.size))
          by_cases hjn : j < (P k).ni
          · have hX := HX.out.low HBq.out HX.out.lt
            have y0 : wr.cell? ⟨g3, 0, none⟩ = some (.slice (some ⟨b, o, none⟩) n k0) := hX.cell (j := 0) (by simp)
            have y1 : wr.cell? ⟨g3, 1, none⟩ = some (.int .i64 k) := hX.cell (j := 1) (by simp)
            have y2 : wr.cell? ⟨g3, 2, none⟩ = some (.int .i64 (P k).params) := hX.cell (j := 2) (by simp)
            have y3 : wr.cell? ⟨g3, 3, none⟩ = some (.int .i64 (P k).regs) := hX.cell (j := 3) (by simp)
            have y4 : wr.cell? ⟨g3, 4, none⟩ = some (.int .i64 (P k).line) := hX.cell (j := 4) (by simp)
            have y5 : wr.cell? ⟨g3, 5, none⟩ = some (.bool (P k).dots) := hX.cell (j := 5) (by simp)
            have y6 : wr.cell? ⟨g3, 6, none⟩ = some (.slice a4 (P k).nu k4) := hX.cell (j := 6) (by simp)
            have y7 : wr.cell? ⟨g3, 7, none⟩ = some (.slice a5 (P k).nc k5) := hX.cell (j := 7) (by simp)
            have y8 : wr.cell? ⟨g3, 8, none⟩ = some (.slice a6 (P k).ni k6) := hX.cell (j := 8) (by simp)
            have y9 : wr.cell? ⟨g3, 9, none⟩ = some (.slice a7 (P k).nl k7) := hX.cell (j := 9) (by simp)
            clear hX
            go_wp2_with fail
            clear y0 y1 y2 y3 y4 y5 y6 y7 y8 y9
            refine (one_any _ n P k (P k) _ _ _ _ j wr hin hn HF.out (HF.out k hin) hjn hr0 hr1 HBy.out (HA.out.low HBE.out (Nat.le_refl _)) (HPA.out.low HBE.out (Nat.le_refl _))).mono ?_
            rintro e w6 ⟨c, rfl, hc, hb6⟩
            have HC6 := hide hc
            have HB6 := hide (HBq.out.trans (hb6.mono HBq.out.size))
            have HB7 := hide (HB5.out.trans (hb6.mono HB5.out.size))
            clear hc hb6
            by_cases hc0 : c = 0
            · subst hc0
              go_wp2_with fail
              go_roundw
              case rel => exact ⟨j + 1, by omega, by simp, hide (fun i hi => by
                by_cases e : i = j
                · subst e; exact HC6.out
                · exact HJ.out i (by omega)), HB6⟩
              case measure => simp; omega
            · have hcn : (c != 0) = true := by simp [hc0]
              have hz := HZ.out.low HB7.out HZ.out.lt
              have z0 : w6.cell? ⟨w.heap.size + 1, 0, none⟩ = some (.int .i64 0) := hz.cell (j := 0) (by simp)
              have z1 : w6.cell? ⟨w.heap.size + 1, 1, none⟩ = some (.int .i64 0) := hz.cell (j := 1) (by simp)
              have z2 : w6.cell? ⟨w.heap.size + 1, 2, none⟩ = some (.int .i64 0) := hz.cell (j := 2) (by simp)
              have t0 := hz.frz 0
              have t1 := hz.frz 1
              have t2 := hz.frz 2
              clear hz
              have nb : w.heap.size ≤ w.heap.size + 1 := by omega
              have HBF := hide (HB1.out.trans (HB7.out.mono HB1.out.size))
              have HC0 := hide hc0
              clear hc0
              go_wp2_with fail
              refine bodyPost_ret (v := .agg #[.int .i64 c, .int .i64 k, .int .i64 j]) ?_ rfl ⟨c, k, j, rfl, .inr ⟨hx2, .inl ⟨k, hin, rfl, .inr ⟨Q1.out, j, hjn, rfl, HC0.out, HC6.out, HJ.out⟩, HI.out⟩⟩, ((HBF.out.setCell nb _).setCell nb _).setCell nb _⟩
              simp [results, Tryz.results13, go_sem, z0, z1, z2]
          · obtain rfl : j = (P k).ni := by omega
            go_wp2_with fail
            refine HK2.out _ _ ?_
            clear HK2
            go_wp2_with fail
            go_roundw
            case rel => exact ⟨k + 1, by omega, by simp, hide (fun i hi => by
              by_cases e : i = k
              · subst e; exact ⟨Q1.out, HJ.out⟩
              · exact HI.out i (by omega)), HB5⟩
            case measure => simp; omega
      · obtain rfl : k = n := by omega
        go_wp2
        refine HK.out _ _ ?_
        clear HK
        have hz := HZ.out.low HBw.out HZ.out.lt
        have z0 : wr.cell? ⟨w.heap.size + 1, 0, none⟩ = some (.int .i64 0) := hz.cell (j := 0) (by simp)
        have z1 : wr.cell? ⟨w.heap.size + 1, 1, none⟩ = some (.int .i64 0) := hz.cell (j := 1) (by simp)
        have z2 : wr.cell? ⟨w.heap.size + 1, 2, none⟩ = some (.int .i64 0) := hz.cell (j := 2) (by simp)
        have t0 := hz.frz 0
        have t1 := hz.frz 1
        have t2 := hz.frz 2
        clear hz
        go_wp2
        have nb : w.heap.size ≤ w.heap.size + 1 := by omega
        refine bodyPost_ret (v := .agg #[.int .i64 0, .int .i64 0, .int .i64 0]) ?_ rfl ⟨0, 0, 0, rfl, .inr ⟨hx2, .inr ⟨HI.out, rfl, rfl, rfl⟩⟩, (((HB1.out.trans (HBw.out.mono HB1.out.size)).setCell nb _).setCell nb _).setCell nb _⟩
        simp [results, Tryz.results13, go_sem, z0, z1, z2]
end Go.Proofs.YtgnbhhgpaldheaaGreat
namespace Go.Proofs.YtgnbhhgpaldheaaGreat
open Go Go.RowKit Go.Maps Go.Sort Go.Shelf
open Go.ChangeMaps (setBlock)
set_option linter.unusedVariables false
def ls (n : Nat) (s : Nat → Bool) : List Nat := (List.range n).filter s
theorem ls_mem {n : Nat} {s : Nat → Bool} {p : Nat} : p ∈ ls n s ↔ p < n ∧ s p = true := by unfold ls; rw [List.mem_filter, List.mem_range]
theorem ls_le (n : Nat) (s : Nat → Bool) : (ls n s).length ≤ n := by
  have := List.length_filter_le s (List.range n)
  rw [List.length_range] at this
  exact this
theorem ls_nd (n : Nat) (s : Nat → Bool) : (ls n s).Nodup := List.Nodup.sublist List.filter_sublist List.nodup_range
def SetM (w : World) (b n : Nat) (s : Nat → Bool) : Prop := ∃ D : DataW Unit, w.ownsMap Tryz.prog 3 unitElem b n D ∧ ∀ x : Int, has D (.int .i64 x) = true ↔ ∃ p : Nat, p < n ∧ s p = true ∧ x = (p : Int)
theorem SetM.lt {w : World} {b n : Nat} {s : Nat → Bool} (h : SetM w b n s) : b < w.heap.size := by
  obtain ⟨D, h1, _⟩ := h
  exact h1.lt
theorem SetM.congr {w : World} {b n : Nat} {s s' : Nat → Bool} (h : SetM w b n s) (e : ∀ p, p < n → s' p = s p) : SetM w b n s' := by
  obtain ⟨D, h1, h2⟩ := h
  exact ⟨D, h1, fun x => (h2 x).trans ⟨fun ⟨p, a, b, c⟩ => ⟨p, a, by rw [e p a]; exact b, c⟩, fun ⟨p, a, b, c⟩ => ⟨p, a, by rw [← e p a]; exact b, c⟩⟩⟩
theorem SetM.keep {w w' : World} {b n : Nat} {s : Nat → Bool} {S : Nat → Prop} (h : SetM w b n s) (k : Keeps w w' S) (hn : ¬ S b) : SetM w' b n s := by
  have hl := h.lt
  obtain ⟨D, ⟨es, clk, h1, h2⟩, h3⟩ := h
  exact ⟨D, ⟨es, clk, (k.block b hl hn).trans h1, h2⟩, h3⟩
theorem SetM.low {w w' : World} {B b n : Nat} {s : Nat → Bool} (h : SetM w b n s) (k : Below B w w') (hb : b < B) : SetM w' b n s := by
  obtain ⟨D, ⟨es, clk, h1, h2⟩, h3⟩ := h
  exact ⟨D, ⟨es, clk, (k.block b hb).trans h1, h2⟩, h3⟩
theorem grown_keeps {w w' : World} {b : Nat} (h : w.grownBy w' (some b)) : Keeps w w' (fun c => c = b) := ⟨h.os, h.tape, h.output, h.size, fun k hk hn => h.block k hk (fun e => hn (by simpa using e))⟩
theorem SetM.new (w : World) (n : Nat) : SetM (w.alloc (.map #[] 0)) w.heap.size n (fun _ => false) := by
  refine ⟨.map [], (World.ownsMap_made w Tryz.prog 3 unitElem).mono (Nat.zero_le _), fun x => ⟨fun h => ?_, fun ⟨p, _, h, _⟩ => by cases h⟩⟩
  cases h
theorem keyZ {x : Int} (h : (Lit.int .i64 x).wf = true) : keyOf Tryz.prog 3 (.int .i64 x) = some (.int .i64 x) := keyOf_int_mk Tryz.underlying3 h
theorem wfN {p : Nat} (h : p ≤ 9223372036854775807) : (Lit.int .i64 (p : Int)).wf = true := by
  exact WalkArith.wf_i64 (by omega)
theorem intKeys_length {D : DataW Unit} {w : World} {b m : Nat} (h : w.ownsMap Tryz.prog 3 unitElem b m D) : size D = (intKeys D).length := by
  obtain ⟨es, clk, hb, F, hs, rfl⟩ := h
  simp [size, intKeys]
theorem set_perm {w : World} {b m n : Nat} {s : Nat → Bool} {D : DataW Unit} (h : w.ownsMap Tryz.prog 3 unitElem b m D) (hh : ∀ x : Int, has D (.int .i64 x) = true ↔ ∃ p : Nat, p < n ∧ s p = true ∧ x = (p : Int)) : ((ls n s).map (fun (p : Nat) => (p : Int))).Perm (intKeys D) := by
  refine CollectedI.perm (left := fun _ => false) ⟨?_, fun x => ?_⟩ h (int_keyed Tryz.underlying3) Tryz.underlying3 (fun _ => rfl)
  · exact List.pairwise_map.2 ((ls_nd n s).imp (fun h e => h (by omega)))
  · rw [hh x, List.mem_map]
    constructor
    · rintro ⟨p, h1, rfl⟩
      exact ⟨⟨p, (ls_mem.1 h1).1, (ls_mem.1 h1).2, rfl⟩, rfl⟩
    · rintro ⟨⟨p, h1, h2, rfl⟩, _⟩
      exact ⟨p, ls_mem.2 ⟨h1, h2⟩, rfl⟩
theorem SetM.of {w : World} {b m n : Nat} {s : Nat → Bool} {D : DataW Unit} (h : w.ownsMap Tryz.prog 3 unitElem b m D) (hh : ∀ x : Int, has D (.int .i64 x) = true ↔ ∃ p : Nat, p < n ∧ s p = true ∧ x = (p : Int)) : SetM w b n s := by
  have hp := (set_perm h hh).length_eq
  rw [List.length_map] at hp
  have hsz := intKeys_length h
  have hle := ls_le n s
  obtain ⟨es, clk, hb, F, hs, hD⟩ := h
  refine ⟨D, ⟨es, clk, hb, F, ?_, hD⟩, hh⟩
  have : size D = es.size := by rw [hD]; simp [size, length_sorted]
  omega
theorem SetM.add {w : World} {b n : Nat} {s : Nat → Bool} (h : SetM w b n s) (hn : n ≤ 1048576) {p : Nat} (hp : p < n) : ∃ w1, (Instr.mapUpdate 55 (.map (some b)) (.int .i64 (p : Int)) (.agg #[])).run Tryz.prog w = .ok () w1 ∧ SetM w1 b n (fun q => s q || decide (q = p)) ∧ Keeps w w1 (fun c => c = b) := by
  obtain ⟨D, h1, h2⟩ := h
  have hk := keyZ (wfN (p := p) (by omega))
  obtain ⟨w1, hr, ho, hg⟩ := h1.update (int_keyed Tryz.underlying3) Tryz.underlying55 (by unfold maxLen; omega) hk unitElem_mk
  refine ⟨w1, hr, SetM.of ho (fun x => ?_), grown_keeps hg⟩
  have hm : IsMap D := by obtain ⟨es, clk, _, _, _, rfl⟩ := h1; exact ⟨_, rfl⟩
  by_cases e : x = (p : Int)
  · subst e
    rw [has_put_same hm (by simp [WideAt.IsKeyLit])]
    exact ⟨fun _ => ⟨p, hp, by simp, rfl⟩, fun _ => rfl⟩
  · rw [has_put_other (by simpa using e), h2 x]
    constructor
    · rintro ⟨q, a, b, rfl⟩
      exact ⟨q, a, by simp [b], rfl⟩
    · rintro ⟨q, a, b, rfl⟩
      refine ⟨q, a, ?_, rfl⟩
      have : q ≠ p := fun c => e (by rw [c])
      simpa [this] using b
theorem zero_unit (w : World) : (zeroValue 53).run Tryz.prog w = .ok (.agg #[]) w := by kernel_rfl
theorem SetM.has {w : World} {b n : Nat} {s : Nat → Bool} (h : SetM w b n s) (hn : n ≤ 1048576) {p : Nat} (hp : p < n) : (Instr.lookup 55 (.map (some b)) (.int .i64 (p : Int)) true).run Tryz.prog w = .ok (.tuple #[.agg #[], .bool (s p)]) w := by
  obtain ⟨D, h1, h2⟩ := h
  have hk := keyZ (wfN (p := p) (by omega))
  obtain ⟨v, ps, hr, hv⟩ := h1.look_ok (int_keyed Tryz.underlying3) Tryz.underlying55 (zero_unit w) unitElem_mk hk
  obtain ⟨rfl, _⟩ := unitElem_inv hv
  rw [hr]
  have : Maps.has D (.int .i64 (p : Int)) = s p := by
    cases e : s p with
    | true => exact (h2 _).2 ⟨p, hp, e, rfl⟩
    | false =>
      cases e2 : Maps.has D (.int .i64 (p : Int)) with
      | false => rfl
      | true =>
        obtain ⟨q, _, b, c⟩ := (h2 _).1 e2
        have : p = q := by omega
        rw [← this, e] at b
        cases b
  rw [this]
theorem SetM.clear {w : World} {b n : Nat} {s : Nat → Bool} (h : SetM w b n s) (ty : TypeId) : ∃ w1, (Builtin.clear_ #[55] ty #[.map (some b)]).run Tryz.prog w = .ok (.tuple #[]) w1 ∧ SetM w1 b n (fun _ => false) ∧ Keeps w w1 (fun c => c = b) ∧ w1.heap.size = w.heap.size := by
  obtain ⟨D, ⟨es, clk, hb, h1⟩, h2⟩ := h
  refine ⟨setBlock w b (.map #[] clk), ?_, ?_, ?_, by simp [setBlock]⟩
  · simp [Builtin.clear_, run_underlying Tryz.underlying55, MapKept.run_getObj_map hb, MapKept.run_setObj_map _ hb, Result.andThen, setBlock]
  · refine ⟨.map [], ⟨#[], clk, ChangeMaps.heap_setBlock_same hb _, ⟨by simp, MapKept.stamped_empty _, by simp⟩, by simp, rfl⟩, fun x => ⟨fun h => (by cases h), fun ⟨p, _, h, _⟩ => (by cases h)⟩⟩
  · exact ⟨rfl, rfl, rfl, by simp [setBlock], fun i _ hi => ChangeMaps.heap_setBlock_other hb _ (fun e => hi (by rw [e]))⟩
theorem padd_any {w : World} {b n : Nat} {s : Nat → Bool} (h : SetM w b n s) (hn : n ≤ 1048576) {p : Nat} (hp : p < n) : Calls Tryz.prog 52 #[.map (some b), .int .i64 (p : Int)] w fun e w' => e = .returned (.tuple #[]) ∧ SetM w' b n (fun q => s q || decide (q = p)) ∧ Keeps w w' (fun c => c = b) := by
  obtain ⟨w1, hr, hs, hk⟩ := h.add hn hp
  have HS := hide hs
  have HK := hide hk
  clear hs hk
  go_enter Tryz.func52, Tryz.ntmps52
  go_wp2
  go_end0
  exact ⟨rfl, HS.out, HK.out⟩
theorem phas_any {w : World} {b n : Nat} {s : Nat → Bool} (h : SetM w b n s) (hn : n ≤ 1048576) {p : Nat} (hp : p < n) : Calls Tryz.prog 18 #[.map (some b), .int .i64 (p : Int)] w fun e w' => e = .returned (.bool (s p)) ∧ Below w.heap.size w w' := by
  have hr := h.has hn hp
  generalize s p = sp at hr ⊢
  clear h
  have hb := b_1 w (.cells #[] 53)
  have HB := hide hb
  clear hb
  go_enter Tryz.func18, Tryz.ntmps18
  go_wp2
  go_ret
  exact ⟨rfl, HB.out⟩
end Go.Proofs.YtgnbhhgpaldheaaGreat
namespace Go.Proofs.YtgnbhhgpaldheaaGreat
open Go Go.RowKit Go.Maps Go.Sort Go.Shelf
set_option linter.unusedVariables false
theorem sorts_in (m : Nat) : AnyZI.SortsIn Tryz.prog Tryz.sortedA_ren Fence.wide m :=
  ⟨fun blk off cap ss W hH hblk hsz => callsIn_wide.2 (Tryz.slices_Sort_int blk off cap ss W hH hblk hsz),
   fun p cap W => callsIn_wide.2 (Tryz.slices_Sort_int_none p cap W)⟩
set_option maxHeartbeats 1000000 in
theorem sortedKeys_any {H : Type} (b nn : Nat) (D0 : DataW H) (R : Value → Option (DataW H × List MemPlace)) (w : World) (hown : w.ownsMap Tryz.prog 3 R b nn D0) (hmax : Maps.size D0 ≤ maxLen) (hbytes : Maps.size D0 * 8 ≤ 140737488355328) :
    Calls Tryz.prog 90 #[.map (some b)] w fun e w' => ∃ (v : Value) (ss : List Int), e = .returned v ∧ ss.Perm (intKeys D0) ∧
      w'.ownsRow w.heap.size 3 1 v ss.length ((ss.mergeSort (fun x y => decide (x ≤ y))).map encZ) ∧ (v = .slice none 0 0 ↔ ss = []) ∧ Below w.heap.size w w' := by
  refine (callsIn_wide (n := 6)).1 ?_
  have hbl := hown.lt
  have hseq : SeqGives Fence.wide 2 Tryz.prog 138 #[.pointer (some ⟨w.heap.size, 0, none⟩)] encZ (fun ss => ss.Perm (intKeys D0)) (Maps.size D0) (w.alloc (.cells #[.map (some b)] 55)) :=
    AnyZI.keys_gives (ρ := Tryz.keysA_ren) { Tryz.keysA with } Fence.wide _ trivial rfl (by omega) w.heap.size b nn D0 _ (by simp) (by simp) (by
      obtain ⟨es, clock, hb, Ft, hs, hD⟩ := hown
      exact ⟨es, clock, (Below.heap_alloc _ _ b hbl).trans hb, Ft, hs, hD⟩)
  have cK : ∀ mb W, CallsIn Fence.wide 5 Tryz.prog 124 #[.map mb] W fun e w' => e = .returned (.func (.func 138) #[] #[.pointer (some ⟨W.heap.size, 0, none⟩)]) ∧ w' = W.alloc (.cells #[.map mb] 55) := fun mb W => AnyZI.keys_in Tryz.keysA Fence.wide 5 trivial rfl mb W
  have cS := AnyZI.sorted_in Tryz.sortedA Fence.wide 5 trivial trivial trivial trivial rfl (by omega) (sorts_in _) (enters_of Tryz.func137 (by kernel_rfl) rfl) 138 #[.pointer (some ⟨w.heap.size, 0, none⟩)] trivial (enters_of Tryz.func138 (by kernel_rfl) rfl) _ _ hmax hbytes _ hseq
  change CallsIn _ _ Tryz.prog 123 _ _ _ at cS
  have hfK : Fence.wide.fn 124 := trivial
  have hfS : Fence.wide.fn 123 := trivial
  refine callsIn_of_wp Tryz.func90 rfl trivial ?_ rfl
  simp only [Tryz.ntmps90, List.size_toArray, List.length_cons, List.length_nil, Nat.reduceAdd, Nat.reduceSub, Array.replicate_succ, Array.replicate_zero, List.push_toArray, List.append_toArray, List.nil_append, List.cons_append]
  gi_wp2_with (first
    | (gi_at_call 124; refine (cK _ _).mono ?_; rintro e w' ⟨rfl, rfl⟩)
    | (gi_at_call 123; refine cS.mono ?_; rintro e w' ⟨v, ss, rfl, hS, hrow, hnil, hb⟩))
  go_ret
  exact ⟨v, ss, rfl, hS, ownsRow_base_a hrow (by simp), hnil, ((Below.refl _ w).alloc (Nat.le_refl _) _).trans (hb.mono (by simp))⟩
theorem psorted_any {w : World} {b n : Nat} {s : Nat → Bool} (h : SetM w b n s) (hn : n ≤ 1048576) :
    Calls Tryz.prog 90 #[.map (some b)] w fun e w' => ∃ v, e = .returned v ∧ w'.ownsRow w.heap.size 3 1 v (ls n s).length (natC (ls n s)) ∧ Below w.heap.size w w' := by
  obtain ⟨D, h1, h2⟩ := h
  have hp := set_perm h1 h2
  have hsz : Maps.size D ≤ n := by rw [intKeys_length h1, ← hp.length_eq, List.length_map]; exact ls_le n s
  refine (sortedKeys_any b n D unitElem w h1 (by unfold maxLen; omega) (by omega)).mono ?_
  rintro e w' ⟨v, ss, rfl, h3, h4, _, h5⟩
  have hpp : ss.Perm ((ls n s).map (fun (p : Nat) => (p : Int))) := h3.trans hp.symm
  have hms : ss.mergeSort (fun x y => decide (x ≤ y)) = (ls n s).map (fun (p : Nat) => (p : Int)) := by
    have e1 := mergeSort_of_perm_i hpp
    have e2 : ((ls n s).map (fun (p : Nat) => (p : Int))).mergeSort Go.leI = (ls n s).map (fun (p : Nat) => (p : Int)) := by
      refine List.mergeSort_of_pairwise ?_
      refine List.pairwise_map.2 ?_
      unfold ls
      refine List.Pairwise.sublist List.filter_sublist ?_
      exact (List.pairwise_lt_range).imp (fun h => by simp only [Go.leI, decide_eq_true_eq]; omega)
    exact e1.trans e2
  have hl := hpp.length_eq
  rw [List.length_map] at hl
  rw [hms, hl, List.map_map] at h4
  exact ⟨v, rfl, h4, h5⟩
end Go.Proofs.YtgnbhhgpaldheaaGreat
namespace Go.Proofs.YtgnbhhgpaldheaaGreat
open Go Go.RowKit
set_option linter.unusedVariables false
def nmA (o : Int) : Int := if o = 1 ∨ o = 25 then 0 else 1
def nmB (o : Int) : Int := if (o = 2 ∨ o = 11 ∨ o = 12 ∨ o = 13 ∨ o = 15 ∨ o = 19 ∨ o = 20 ∨ o = 21 ∨ o = 22 ∨ o = 23 ∨ o = 24 ∨ o = 77 ∨ o = 78) ∨ (65 ≤ o ∧ o ≤ 76) then 1 else if o = 6 then 2 else if o = 9 ∨ o = 10 ∨ o = 14 then 3 else if o = 7 ∨ o = 8 then 4 else if o = 32 then 5 else if o = 25 ∨ o = 26 ∨ o = 27 ∨ o = 35 ∨ o = 36 ∨ o = 38 then 6 else 0
def nmC (o : Int) : Int := if (o = 11 ∨ o = 12 ∨ o = 14 ∨ o = 17 ∨ o = 19 ∨ o = 20 ∨ o = 21 ∨ o = 22) ∨ (65 ≤ o ∧ o ≤ 76) then 1 else if o = 13 ∨ o = 15 then 3 else 0
def nmY (o : Int) : Int := if o = 15 then 1 else if o = 35 ∨ o = 36 ∨ o = 38 then 3 else if o = 37 then 5 else 0
def nmV (o : Int) : Value := .agg #[.int .i64 (nmA o), .int .i64 (nmB o), .int .i64 (nmC o), .int .i64 (nmY o)]
def NmR (o : Int) (w : World) (e : Ending) (w' : World) : Prop := ((knownI o ∧ e = .returned (.tuple #[nmV o, .bool true])) ∨ (¬ knownI o ∧ ∃ a b c d : Int, e = .returned (.tuple #[.agg #[.int .i64 a, .int .i64 b, .int .i64 c, .int .i64 d], .bool false]))) ∧ Below w.heap.size w w'
theorem res_names (w : World) (g : Nat) (tmps : Array Value) (a b c d : Value) (t : Bool) (h2 : tmps.getD 2 undef = .pointer (some ⟨g, 0, none⟩)) (h3 : tmps.getD 3 undef = .bool t)
    (c0 : w.cell? ⟨g, 0, none⟩ = some a) (c1 : w.cell? ⟨g, 1, none⟩ = some b) (c2 : w.cell? ⟨g, 2, none⟩ = some c) (c3 : w.cell? ⟨g, 3, none⟩ = some d) :
    (results Tryz.f82 tmps).run Tryz.prog w = .ok (.tuple #[.agg #[a, b, c, d], .bool t]) w := by
  rw [results_cell_tmp (p := 2) (u := 3) (ty := 125) rfl, h2, h3]
  have hr : w.rangeAt g 0 [a, b, c, d] := fun j v hv => by
    match j, hv with
    | 0, hv => simp at hv; subst hv; exact c0
    | 1, hv => simp at hv; subst hv; exact c1
    | 2, hv => simp at hv; subst hv; exact c2
    | 3, hv => simp at hv; subst hv; exact c3
  have hl := run_loadVar_mid (P := Tryz.prog) w g 0 125 [a, b, c, d] (.struct (Tryz.prog.fieldsOf 125)) hr (by kernel_rfl) rfl (by kernel_rfl)
  simp [asAddr, hl]
end Go.Proofs.YtgnbhhgpaldheaaGreat
