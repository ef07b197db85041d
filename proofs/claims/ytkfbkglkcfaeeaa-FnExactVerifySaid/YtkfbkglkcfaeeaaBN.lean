import Derived.Test.YtkfbkglkcfaeeaaBM
namespace Go.Proofs.Ytkfbkglkcfaeeaa
open Go Go.RowKit
set_option linter.unusedVariables false

/-- Nothing is wrong with function k. -/
def fnOk (n : Nat) (P : Nat → PV) (k : Nat) : Prop := shapeOk n P k ∧ ∀ j, j < (P k).ni → FB (asks P k (P k) j) 0
/-- Something is wrong with it: the code, and at which instruction. -/
def fnBad (n : Nat) (P : Nat → PV) (k : Nat) (a c : Int) : Prop :=
  (¬ shapeOk n P k ∧ a = 1 ∧ c = 0) ∨ (shapeOk n P k ∧ ∃ j : Nat, j < (P k).ni ∧ c = j ∧ a ≠ 0 ∧ FB (asks P k (P k) j) a ∧ ∀ i, i < j → FB (asks P k (P k) i) 0)
/-- The verdict on a chunk. -/
def VerR (n : Nat) (P : Nat → PV) (a b c : Int) : Prop :=
  (¬ (1 ≤ n ∧ n ≤ 1000) ∧ a = 1 ∧ b = 0 ∧ c = 0) ∨ ((1 ≤ n ∧ n ≤ 1000) ∧ ((∃ k : Nat, k < n ∧ b = k ∧ fnBad n P k a c ∧ ∀ i, i < k → fnOk n P i) ∨ ((∀ k, k < n → fnOk n P k) ∧ a = 0 ∧ b = 0 ∧ c = 0)))

theorem fnBad_not {n : Nat} {P : Nat → PV} {k : Nat} {a c : Int} (h : fnBad n P k a c) (h' : fnOk n P k) : False := by
  rcases h with ⟨h, _⟩ | ⟨_, j, hj, _, ha, hf, _⟩
  · exact h h'.1
  · exact ha (hf.unique (h'.2 j hj))
theorem fnBad.unique {n : Nat} {P : Nat → PV} {k : Nat} {a c a' c' : Int} (h : fnBad n P k a c) (h' : fnBad n P k a' c') : a = a' ∧ c = c' := by
  rcases h with ⟨h, rfl, rfl⟩ | ⟨h, j, hj, rfl, ha, hf, hl⟩ <;> rcases h' with ⟨h2, rfl, rfl⟩ | ⟨h2, j', hj', rfl, ha', hf', hl'⟩
  · exact ⟨rfl, rfl⟩
  · exact absurd h2 h
  · exact absurd h h2
  · have : j = j' := by
      rcases Nat.lt_trichotomy j j' with c | c | c
      · exact absurd (hf.unique (hl' j c)) ha
      · exact c
      · exact absurd (hf'.unique (hl j' c)) ha'
    subst this
    exact ⟨hf.unique hf', rfl⟩
theorem VerR.unique {n : Nat} {P : Nat → PV} {a b c a' b' c' : Int} (h : VerR n P a b c) (h' : VerR n P a' b' c') : a = a' ∧ b = b' ∧ c = c' := by
  rcases h with ⟨h, rfl, rfl, rfl⟩ | ⟨h, h3⟩ <;> rcases h' with ⟨h2, rfl, rfl, rfl⟩ | ⟨h2, h4⟩
  · exact ⟨rfl, rfl, rfl⟩
  · exact absurd h2 h
  · exact absurd h h2
  · rcases h3 with ⟨k, hk, rfl, hb, hl⟩ | ⟨h3, rfl, rfl, rfl⟩ <;> rcases h4 with ⟨k', hk', rfl, hb', hl'⟩ | ⟨h4, rfl, rfl, rfl⟩
    · have : k = k' := by
        rcases Nat.lt_trichotomy k k' with c | c | c
        · exact (fnBad_not hb (hl' k c)).elim
        · exact c
        · exact (fnBad_not hb' (hl k' c)).elim
      subst this
      exact ⟨(hb.unique hb').1, rfl, (hb.unique hb').2⟩
    · exact (fnBad_not hb (h4 k hk)).elim
    · exact (fnBad_not hb' (h3 k' hk')).elim
    · exact ⟨rfl, rfl, rfl⟩

def verV (a b c : Int) : Value := .agg #[.int .i64 a, .int .i64 b, .int .i64 c]

set_option maxHeartbeats 3200000 in
set_option maxRecDepth 100000 in
theorem specVerify_any (v : Value) (n : Nat) (P : Nat → PV) (w : World) (hn : n ≤ 1048576) (hf : allFit n P 1048576) (hbit : allBits n P) (h : ProsA w v n P) :
    Calls Try.prog 18 #[.agg #[v]] w fun e w' => ∃ a b c, e = .returned (verV a b c) ∧ VerR n P a b c ∧ Below w.heap.size w w' := by
  have HA := hide h
  obtain ⟨a0, k0, rfl⟩ := h.val
  have HF := hide hf
  have HBit := hide hbit
  clear h hf hbit
  have HB1 := hide (b_2 w (.cells #[.slice a0 n k0] 36) (.cells #[.int .i64 0, .int .i64 0, .int .i64 0] 43))
  have hC := RowF.mk' w 36 #[.slice a0 n k0]
  have HC := hide (hC.low (b_1 _ (.cells #[.int .i64 0, .int .i64 0, .int .i64 0] 43)) hC.lt)
  have hZ := RowF.mk' (w.alloc (.cells #[.slice a0 n k0] 36)) 43 #[.int .i64 0, .int .i64 0, .int .i64 0]
  have eZ : (w.alloc (.cells #[.slice a0 n k0] 36)).heap.size = w.heap.size + 1 := by simp
  rw [eZ] at hZ
  have HZ := hide hZ
  clear hC hZ eZ
  rcases hx : inI (n : Int) 1 1000 with _ | _
  · go_enter Try.func18, Try.ntmps18
    go_wp2_with (go_at_call 35; refine (l07In_any _ _ _ _).mono ?_; rintro e w' ⟨rfl, hw⟩; obtain rfl := hw.symm)
    refine bodyPost_ret (v := .agg #[.int .i64 1, .int .i64 0, .int .i64 0]) ?_ rfl ⟨1, 0, 0, rfl, .inl ⟨by simp [inI] at hx; omega, rfl, rfl, rfl⟩, b_2 _ _ _⟩
    simp [results, Try.results18, go_sem]
  · have hx2 : 1 ≤ n ∧ n ≤ 1000 := by simp [inI] at hx; omega
    go_enter Try.func18, Try.ntmps18
    go_wp2_with (go_at_call 35; refine (l07In_any _ _ _ _).mono ?_; rintro e w' ⟨rfl, hw⟩; obtain rfl := hw.symm)
    rename_i K1 a1
    have HK := hide a1
    clear a1
    generalize (w.alloc (.cells #[.slice a0 n k0] 36)).alloc (.cells #[.int .i64 0, .int .i64 0, .int .i64 0] 43) = w1 at HB1 HC HZ ⊢
    go_loopw [17] (fun iv wr => ∃ k : Nat, k ≤ n ∧ iv = .int .i64 k ∧ Hid (∀ i, i < k → fnOk n P i) ∧ Hid (Below w1.heap.size w1 wr)) (fun iv _ => match iv with | .int _ x => n - x.toNat | _ => 0)
    case atStart => exact ⟨0, by omega, rfl, hide (fun k hk => by omega), hide (Below.refl _ _)⟩
    case round =>
      obtain ⟨k, hk9, rfl, HI, HBw⟩ := hrel
      by_cases hin : k < n
      · rcases HA.out with ⟨h9, _⟩ | ⟨b, o, cap, e9, hb, hcap, hc⟩
        · omega
        cases e9
        obtain ⟨s4, s5, s6, s7, hc8, hpva⟩ := hc k hin
        have HBB := hide (HB1.out.trans (HBw.out.mono HB1.out.size))
        obtain ⟨c0, c1, c2, c3, c4, c5, c6, c7⟩ := hc8.low HBB.out hb
        obtain ⟨a4, k4, rfl⟩ := hpva.u.val
        obtain ⟨a5, k5, rfl⟩ := hpva.c.val
        obtain ⟨a6, k6, rfl⟩ := hpva.i.val
        obtain ⟨a7, k7, rfl⟩ := hpva.l.val
        have HPA := hide hpva
        clear hc hc8 hpva
        have hCr := HC.out.low HBw.out HC.out.lt
        have y0 : wr.cell? ⟨w.heap.size, 0, none⟩ = some (.slice (some ⟨b, o, none⟩) n k0) := hCr.cell (j := 0) (by simp)
        have y1 : (wr.alloc (.cells #[.int .i64 (P k).params, .int .i64 (P k).regs, .int .i64 (P k).line, .bool (P k).dots, .slice a4 (P k).nu k4, .slice a5 (P k).nc k5, .slice a6 (P k).ni k6, .slice a7 (P k).nl k7] 57)).cell? ⟨w.heap.size, 0, none⟩ = some (.slice (some ⟨b, o, none⟩) n k0) := ((b_1 wr _).cell (p := ⟨w.heap.size, 0, none⟩) hCr.lt).trans y0
        clear hCr
        go_wp2_with fail
        refine (l08Shape_any _ n P k _ hin hn HF.out HBit.out (HA.out.low (HBB.out.trans ((b_1 wr _).mono HBB.out.size)) (Nat.le_refl _))).mono ?_
        rintro e w3 ⟨r, rfl, hr, hb3⟩
        have HB3 := hide ((HBw.out.alloc HBw.out.size _).trans (hb3.mono (HBw.out.alloc HBw.out.size _).size))
        have hPr := RowF.mk' wr 57 #[.int .i64 (P k).params, .int .i64 (P k).regs, .int .i64 (P k).line, .bool (P k).dots, .slice a4 (P k).nu k4, .slice a5 (P k).nc k5, .slice a6 (P k).ni k6, .slice a7 (P k).nl k7]
        have HPr := hide (hPr.low hb3 hPr.lt)
        clear hPr hb3 c0 c1 c2 c3 c4 c5 c6 c7 y0 y1
        have hz := HZ.out.low HB3.out HZ.out.lt
        have z0 : w3.cell? ⟨w.heap.size + 1, 0, none⟩ = some (.int .i64 0) := hz.cell (j := 0) (by simp)
        have z1 : w3.cell? ⟨w.heap.size + 1, 1, none⟩ = some (.int .i64 0) := hz.cell (j := 1) (by simp)
        have z2 : w3.cell? ⟨w.heap.size + 1, 2, none⟩ = some (.int .i64 0) := hz.cell (j := 2) (by simp)
        have t0 := hz.frz 0
        have t1 := hz.frz 1
        have t2 := hz.frz 2
        clear hz
        rcases hr with ⟨rfl, q1⟩ | ⟨rfl, q1⟩
        case inr =>
          have Q1 := hide q1
          clear q1
          have nb : w.heap.size ≤ w.heap.size + 1 := by omega
          have HBE := hide (HB1.out.trans (HB3.out.mono HB1.out.size))
          go_wp2_with fail
          refine bodyPost_ret (v := .agg #[.int .i64 1, .int .i64 k, .int .i64 0]) ?_ rfl ⟨1, k, 0, rfl, .inr ⟨hx2, .inl ⟨k, hin, rfl, .inl ⟨Q1.out, rfl, rfl⟩, HI.out⟩⟩, ((HBE.out.setCell nb _).setCell nb _).setCell nb _⟩
          simp [results, Try.results18, go_sem, z0, z1, z2]
        have Q1 := hide q1
        clear q1 z0 z1 z2 t0 t1 t2
        have hC3 := HC.out.low HB3.out HC.out.lt
        have y0 : w3.cell? ⟨w.heap.size, 0, none⟩ = some (.slice (some ⟨b, o, none⟩) n k0) := hC3.cell (j := 0) (by simp)
        clear hC3
        have p0 : w3.cell? ⟨wr.heap.size, 0, none⟩ = some (.int .i64 (P k).params) := HPr.out.cell (j := 0) (by simp)
        have p1 : w3.cell? ⟨wr.heap.size, 1, none⟩ = some (.int .i64 (P k).regs) := HPr.out.cell (j := 1) (by simp)
        have p2 : w3.cell? ⟨wr.heap.size, 2, none⟩ = some (.int .i64 (P k).line) := HPr.out.cell (j := 2) (by simp)
        have p3 : w3.cell? ⟨wr.heap.size, 3, none⟩ = some (.bool (P k).dots) := HPr.out.cell (j := 3) (by simp)
        have p4 : w3.cell? ⟨wr.heap.size, 4, none⟩ = some (.slice a4 (P k).nu k4) := HPr.out.cell (j := 4) (by simp)
        have p5 : w3.cell? ⟨wr.heap.size, 5, none⟩ = some (.slice a5 (P k).nc k5) := HPr.out.cell (j := 5) (by simp)
        have p6 : w3.cell? ⟨wr.heap.size, 6, none⟩ = some (.slice a6 (P k).ni k6) := HPr.out.cell (j := 6) (by simp)
        have p7 : w3.cell? ⟨wr.heap.size, 7, none⟩ = some (.slice a7 (P k).nl k7) := HPr.out.cell (j := 7) (by simp)
        have hA := b_1 w3 (.cells #[.slice (some ⟨b, o, none⟩) n k0, .int .i64 k, .int .i64 (P k).params, .int .i64 (P k).regs, .int .i64 (P k).line, .bool (P k).dots, .slice a4 (P k).nu k4, .slice a5 (P k).nc k5, .slice a6 (P k).ni k6, .slice a7 (P k).nl k7] 73)
        have p6' := (hA.cell (p := ⟨wr.heap.size, 6, none⟩) HPr.out.lt).trans p6
        clear hA
        go_wp2_with fail
        rename_i K2 a2
        have HK2 := hide a2
        clear a2 y0 p0 p1 p2 p3 p4 p5 p6 p7 p6'
        have HX := hide (RowF.mk' w3 73 #[.slice (some ⟨b, o, none⟩) n k0, .int .i64 k, .int .i64 (P k).params, .int .i64 (P k).regs, .int .i64 (P k).line, .bool (P k).dots, .slice a4 (P k).nu k4, .slice a5 (P k).nc k5, .slice a6 (P k).ni k6, .slice a7 (P k).nl k7])
        have HB4 := hide (HB3.out.alloc HB3.out.size (.cells #[.slice (some ⟨b, o, none⟩) n k0, .int .i64 k, .int .i64 (P k).params, .int .i64 (P k).regs, .int .i64 (P k).line, .bool (P k).dots, .slice a4 (P k).nu k4, .slice a5 (P k).nc k5, .slice a6 (P k).ni k6, .slice a7 (P k).nl k7] 73))
        clear HPr
        generalize w3.heap.size = g3 at *
        generalize w3.alloc (.cells #[.slice (some ⟨b, o, none⟩) n k0, .int .i64 k, .int .i64 (P k).params, .int .i64 (P k).regs, .int .i64 (P k).line, .bool (P k).dots, .slice a4 (P k).nu k4, .slice a5 (P k).nc k5, .slice a6 (P k).ni k6, .slice a7 (P k).nl k7] 73) = w4 at HX HB4 ⊢
        obtain ⟨⟨hd1, hd2, -⟩, -, -, hcode⟩ := Q1.out.1
        have hr0 : 0 ≤ (P k).regs := by simp [inI] at hd2; omega
        have hr1 : (P k).regs ≤ 255 := by simp [inI] at hd2; omega
        have HBy : Hid (byteA (P k)) := hide (fun j hj => by
          have := (hcode j hj).1.2.1
          simp [inI] at this
          exact this)
        clear hd1 hd2 hcode
        have hnib : (P k).ni ≤ 1048576 := (HF.out k hin).2.2.1
        go_loopw [35] (fun iv wq => ∃ j : Nat, j ≤ (P k).ni ∧ iv = .int .i64 j ∧ Hid (∀ i, i < j → FB (asks P k (P k) i) 0) ∧ Hid (Below w4.heap.size w4 wq)) (fun iv _ => match iv with | .int _ x => (P k).ni - x.toNat | _ => 0)
        case atStart => exact ⟨0, by omega, rfl, hide (fun k hk => by omega), hide (Below.refl _ _)⟩
        case round =>
          obtain ⟨j, hj9, rfl, HJ, HBq⟩ := hrel
          have HB5 := hide (HB4.out.trans (HBq.out.mono HB4.out.size))
          have HBE := hide (HB1.out.trans (HB5.out.mono HB1.out.size))
          by_cases hjn : j < (P k).ni
          · have hX := HX.out.low HBq.out HX.out.lt
            have y0 : wr.cell? ⟨g3, 0, none⟩ = some (.slice (some ⟨b, o, none⟩) n k0) := hX.cell (j := 0) (by simp)
            have y1 : wr.cell? ⟨g3, 1, none⟩ = some (.int .i64 k) := hX.cell (j := 1) (by simp)
            have y2 : wr.cell? ⟨g3, 2, none⟩ = some (.int .i64 (P k).params) := hX.cell (j := 2) (by simp)
            have y3 : wr.cell? ⟨g3, 3, none⟩ = some (.int .i64 (P k).regs) := hX.cell (j := 3) (by simp)
            have y4 : wr.cell? ⟨g3, 4, none⟩ = some (.int .i64 (P k).line) := hX.cell (j := 4) (by simp)
            have y5 : wr.cell? ⟨g3, 5, none⟩ = some (.bool (P k).dots) := hX.cell (j := 5) (by simp)
            have y6 : wr.cell? ⟨g3, 6, none⟩ = some (.slice a4 (P k).nu k4) := hX.cell (j := 6) (by simp)
            have y7 : wr.cell? ⟨g3, 7, none⟩ = some (.slice a5 (P k).nc k5) := hX.cell (j := 7) (by simp)
            have y8 : wr.cell? ⟨g3, 8, none⟩ = some (.slice a6 (P k).ni k6) := hX.cell (j := 8) (by simp)
            have y9 : wr.cell? ⟨g3, 9, none⟩ = some (.slice a7 (P k).nl k7) := hX.cell (j := 9) (by simp)
            clear hX
            go_wp2_with fail
            clear y0 y1 y2 y3 y4 y5 y6 y7 y8 y9
            refine (one_any _ n P k (P k) _ _ _ _ j wr hin hn HF.out (HF.out k hin) hjn hr0 hr1 HBy.out (HA.out.low HBE.out (Nat.le_refl _)) (HPA.out.low HBE.out (Nat.le_refl _))).mono ?_
            rintro e w6 ⟨c, rfl, hc, hb6⟩
            have HC6 := hide hc
            have HB6 := hide (HBq.out.trans (hb6.mono HBq.out.size))
            have HB7 := hide (HB5.out.trans (hb6.mono HB5.out.size))
            clear hc hb6
            by_cases hc0 : c = 0
            · subst hc0
              go_wp2_with fail
              go_roundw
              case rel => exact ⟨j + 1, by omega, by simp, hide (fun i hi => by
                by_cases e : i = j
                · subst e; exact HC6.out
                · exact HJ.out i (by omega)), HB6⟩
              case measure => simp; omega
            · have hcn : (c != 0) = true := by simp [hc0]
              have hz := HZ.out.low HB7.out HZ.out.lt
              have z0 : w6.cell? ⟨w.heap.size + 1, 0, none⟩ = some (.int .i64 0) := hz.cell (j := 0) (by simp)
              have z1 : w6.cell? ⟨w.heap.size + 1, 1, none⟩ = some (.int .i64 0) := hz.cell (j := 1) (by simp)
              have z2 : w6.cell? ⟨w.heap.size + 1, 2, none⟩ = some (.int .i64 0) := hz.cell (j := 2) (by simp)
              have t0 := hz.frz 0
              have t1 := hz.frz 1
              have t2 := hz.frz 2
              clear hz
              have nb : w.heap.size ≤ w.heap.size + 1 := by omega
              have HBF := hide (HB1.out.trans (HB7.out.mono HB1.out.size))
              have HC0 := hide hc0
              clear hc0
              go_wp2_with fail
              refine bodyPost_ret (v := .agg #[.int .i64 c, .int .i64 k, .int .i64 j]) ?_ rfl ⟨c, k, j, rfl, .inr ⟨hx2, .inl ⟨k, hin, rfl, .inr ⟨Q1.out, j, hjn, rfl, HC0.out, HC6.out, HJ.out⟩, HI.out⟩⟩, ((HBF.out.setCell nb _).setCell nb _).setCell nb _⟩
              simp [results, Try.results18, go_sem, z0, z1, z2]
          · obtain rfl : j = (P k).ni := by omega
            go_wp2_with fail
            refine HK2.out _ _ ?_
            clear HK2
            go_wp2_with fail
            go_roundw
            case rel => exact ⟨k + 1, by omega, by simp, hide (fun i hi => by
              by_cases e : i = k
              · subst e; exact ⟨Q1.out, HJ.out⟩
              · exact HI.out i (by omega)), HB5⟩
            case measure => simp; omega
      · obtain rfl : k = n := by omega
        go_wp2
        refine HK.out _ _ ?_
        clear HK
        have hz := HZ.out.low HBw.out HZ.out.lt
        have z0 : wr.cell? ⟨w.heap.size + 1, 0, none⟩ = some (.int .i64 0) := hz.cell (j := 0) (by simp)
        have z1 : wr.cell? ⟨w.heap.size + 1, 1, none⟩ = some (.int .i64 0) := hz.cell (j := 1) (by simp)
        have z2 : wr.cell? ⟨w.heap.size + 1, 2, none⟩ = some (.int .i64 0) := hz.cell (j := 2) (by simp)
        have t0 := hz.frz 0
        have t1 := hz.frz 1
        have t2 := hz.frz 2
        clear hz
        go_wp2
        have nb : w.heap.size ≤ w.heap.size + 1 := by omega
        refine bodyPost_ret (v := .agg #[.int .i64 0, .int .i64 0, .int .i64 0]) ?_ rfl ⟨0, 0, 0, rfl, .inr ⟨hx2, .inr ⟨HI.out, rfl, rfl, rfl⟩⟩, (((HB1.out.trans (HBw.out.mono HB1.out.size)).setCell nb _).setCell nb _).setCell nb _⟩
        simp [results, Try.results18, go_sem, z0, z1, z2]

end Go.Proofs.Ytkfbkglkcfaeeaa
