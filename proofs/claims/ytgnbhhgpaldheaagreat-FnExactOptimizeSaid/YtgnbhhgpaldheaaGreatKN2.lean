import Derived.Test.YtgnbhhgpaldheaaGreatKBK
import Derived.Test.YtgnbhhgpaldheaaGreatKN1
namespace Go.Proofs.YtgnbhhgpaldheaaGreat
open Go Go.RowKit
set_option linter.unusedVariables false
def openA (p : PV) (j : Nat) : Prop := j + 1 < p.ni ∧ 0 ≤ tkP p (j + 1) ∧ tkP p (j + 1) ≤ p.i1 j
set_option maxHeartbeats 1600000 in
set_option maxRecDepth 100000 in
theorem open_any (v : Value) (k : Nat) (p : PV) (s4 s5 s6 s7 : Value) (j : Nat) (w : World) (hj : j < p.ni) (hni : p.ni ≤ 1048576) (hby : byteA p) (h : InsA w s6 p.ni p.i0 p.i1 p.i2 p.i3) :
    Calls Tryz.prog 73 #[XV v k p s4 s5 s6 s7, .int .i64 j] w fun e w' => RetB (openI p j) w e w' := by
  have HA := hide h
  obtain ⟨b, o, cap, rfl, hb, c0, c1, c2, c3⟩ := ins_at h hj
  clear h
  have hB := b_1 w (.cells #[v, .int .i64 k, .int .i64 p.params, .int .i64 p.regs, .int .i64 p.line, .bool p.dots, s4, s5, .slice (some ⟨b, o, none⟩) p.ni cap, s7] 73)
  have d0 := (hB.cell (p := ⟨b, o + j * 4, none⟩) hb).trans c0
  have d1 := (hB.cell (p := ⟨b, o + j * 4 + 1, none⟩) hb).trans c1
  have d2 := (hB.cell (p := ⟨b, o + j * 4 + 2, none⟩) hb).trans c2
  have d3 := (hB.cell (p := ⟨b, o + j * 4 + 3, none⟩) hb).trans c3
  clear c0 c1 c2 c3 hB
  have HX := hide (XI.mk' w v k p s4 s5 (.slice (some ⟨b, o, none⟩) p.ni cap) s7 j)
  have HB := hide (b_2 w (.cells #[v, .int .i64 k, .int .i64 p.params, .int .i64 p.regs, .int .i64 p.line, .bool p.dots, s4, s5, .slice (some ⟨b, o, none⟩) p.ni cap, s7] 73) (.cells #[.int .i64 (p.i0 j), .int .i64 (p.i1 j), .int .i64 (p.i2 j), .int .i64 (p.i3 j)] 51))
  have HBy := hide hby
  clear hby
  unfold XV
  go_enter Tryz.func73, Tryz.ntmps73
  go_wp2_with fail
  clear d0 d1 d2 d3
  generalize (w.alloc (.cells #[v, .int .i64 k, .int .i64 p.params, .int .i64 p.regs, .int .i64 p.line, .bool p.dots, s4, s5, .slice (some ⟨b, o, none⟩) p.ni cap, s7] 73)).alloc (.cells #[.int .i64 (p.i0 j), .int .i64 (p.i1 j), .int .i64 (p.i2 j), .int .i64 (p.i3 j)] 51) = w1 at HX HB ⊢
  refine (makes_any (p.i0 j) (p.i1 j) (p.i2 j) (p.i3 j) w1).mono ?_
  rintro e w2 ⟨r, rfl, hr, hb2⟩
  have HX := hide (HX.out.low hb2)
  have HB := hide (HB.out.trans (hb2.mono HB.out.size))
  clear hb2
  have y0 : w2.cell? ⟨w.heap.size + 1, 0, none⟩ = some (.int .i64 (p.i0 j)) := HX.out.i.cell (j := 0) (by omega)
  have y1 : w2.cell? ⟨w.heap.size + 1, 1, none⟩ = some (.int .i64 (p.i1 j)) := HX.out.i.cell (j := 1) (by omega)
  have y2 : w2.cell? ⟨w.heap.size + 1, 2, none⟩ = some (.int .i64 (p.i2 j)) := HX.out.i.cell (j := 2) (by omega)
  have y3 : w2.cell? ⟨w.heap.size + 1, 3, none⟩ = some (.int .i64 (p.i3 j)) := HX.out.i.cell (j := 3) (by omega)
  have y8 : w2.cell? ⟨w.heap.size, 8, none⟩ = some (.slice (some ⟨b, o, none⟩) p.ni cap) := HX.out.x.cell (j := 8) (by omega)
  rcases hr with ⟨rfl, hr⟩ | ⟨rfl, hr⟩
  · have HR := hide hr
    clear hr
    by_cases hj1 : j + 1 < p.ni
    · have hj2 : ¬ ((p.ni : Int) ≤ (j : Int) + 1) := by omega
      obtain ⟨b', o', cap', e', hb', e0, e1, e2, e3⟩ := ins_at HA.out hj1
      cases e'
      have f0 := (HB.out.cell (p := ⟨b, o + (j + 1) * 4, none⟩) hb).trans e0
      have f1 := (HB.out.cell (p := ⟨b, o + (j + 1) * 4 + 1, none⟩) hb).trans e1
      have f2 := (HB.out.cell (p := ⟨b, o + (j + 1) * 4 + 2, none⟩) hb).trans e2
      have f3 := (HB.out.cell (p := ⟨b, o + (j + 1) * 4 + 3, none⟩) hb).trans e3
      clear e0 e1 e2 e3
      go_wp2_with fail
      refine (takes_any (p.i0 (j + 1)) (p.i1 (j + 1)) (p.i2 (j + 1)) (p.i3 (j + 1)) w2 (HBy.out _ hj1).1 (HBy.out _ hj1).2).mono ?_
      rintro e w3 ⟨rfl, hb3⟩
      have HX := hide (HX.out.low hb3)
      have HB := hide (HB.out.trans (hb3.mono HB.out.size))
      clear hb3 y0 y1 y2 y3 y8 f0 f1 f2 f3
      have y1 : w3.cell? ⟨w.heap.size + 1, 1, none⟩ = some (.int .i64 (p.i1 j)) := HX.out.i.cell (j := 1) (by omega)
      have HT1 : Hid (tkP p (j + 1) = takesI (p.i0 (j + 1)) (p.i1 (j + 1)) (p.i2 (j + 1)) (p.i3 (j + 1))) := hide rfl
      generalize takesI (p.i0 (j + 1)) (p.i1 (j + 1)) (p.i2 (j + 1)) (p.i3 (j + 1)) = T1 at *
      by_cases hop : 0 ≤ T1 ∧ T1 ≤ p.i1 j
      · have hq1 : ¬ (T1 < 0) := by omega
        have hq2 : ¬ (p.i1 j < T1) := by omega
        have HF : Hid (mkP p j → openA p j) := hide (fun _ => ⟨hj1, by rw [HT1.out]; exact hop.1, by rw [HT1.out]; exact hop.2⟩)
        clear hj2
        have y0 : w3.cell? ⟨w.heap.size + 1, 0, none⟩ = some (.int .i64 (p.i0 j)) := HX.out.i.cell (j := 0) (by omega)
        have y1 : w3.cell? ⟨w.heap.size + 1, 1, none⟩ = some (.int .i64 (p.i1 j)) := HX.out.i.cell (j := 1) (by omega)
        have y2 : w3.cell? ⟨w.heap.size + 1, 2, none⟩ = some (.int .i64 (p.i2 j)) := HX.out.i.cell (j := 2) (by omega)
        have y3 : w3.cell? ⟨w.heap.size + 1, 3, none⟩ = some (.int .i64 (p.i3 j)) := HX.out.i.cell (j := 3) (by omega)
        have y8 : w3.cell? ⟨w.heap.size, 8, none⟩ = some (.slice (some ⟨b, o, none⟩) p.ni cap) := HX.out.x.cell (j := 8) (by omega)
        go_wp2_with fail
        refine (takes_any (p.i0 j) (p.i1 j) (p.i2 j) (p.i3 j) w3 (HBy.out j hj).1 (HBy.out j hj).2).mono ?_
        rintro e w7 ⟨rfl, hb7⟩
        have HX := hide (HX.out.low hb7)
        have HB := hide (HB.out.trans (hb7.mono HB.out.size))
        clear hb7 y0 y1 y2 y3 y8
        have y8 : w7.cell? ⟨w.heap.size, 8, none⟩ = some (.slice (some ⟨b, o, none⟩) p.ni cap) := HX.out.x.cell (j := 8) (by omega)
        have HT : Hid (tkP p j = takesI (p.i0 j) (p.i1 j) (p.i2 j) (p.i3 j)) := hide rfl
        generalize takesI (p.i0 j) (p.i1 j) (p.i2 j) (p.i3 j) = T at *
        by_cases ht : T < 0
        · go_wp2_with fail
          go_ret
          exact ⟨_, rfl, .inl ⟨rfl, HF.out, .inl (HT.out ▸ ht)⟩, HB.out⟩
        by_cases hj0 : j = 0
        · have hj3 : ¬ ((0 : Int) < (j : Int)) := by omega
          go_wp2_with fail
          go_ret
          refine ⟨_, rfl, .inr ⟨by have h9 : ¬ T < 0 := (by omega); simp [h9], fun h => ?_⟩, HB.out⟩
          rcases h.2 with h | ⟨h, _⟩
          · rw [HT.out] at h; omega
          · omega
        obtain ⟨j', hj'⟩ : ∃ j', j = j' + 1 := ⟨j - 1, by omega⟩
        have hjp : (0 : Int) < (j : Int) := by omega
        have hjm : (j : Int) - 1 = (j' : Int) := by omega
        have hj4 : j' < p.ni := by omega
        obtain ⟨b'', o'', cap'', e'', hb'', e0, e1, e2, e3⟩ := ins_at HA.out hj4
        cases e''
        have f0 := (HB.out.cell (p := ⟨b, o + j' * 4, none⟩) hb).trans e0
        have f1 := (HB.out.cell (p := ⟨b, o + j' * 4 + 1, none⟩) hb).trans e1
        have f2 := (HB.out.cell (p := ⟨b, o + j' * 4 + 2, none⟩) hb).trans e2
        have f3 := (HB.out.cell (p := ⟨b, o + j' * 4 + 3, none⟩) hb).trans e3
        have HJ := hide hj'
        clear e0 e1 e2 e3 hj'
        go_wp2_with fail
        refine (makes_any (p.i0 j') (p.i1 j') (p.i2 j') (p.i3 j') w7).mono ?_
        rintro e w8 ⟨r8, rfl, hr8, hb8⟩
        have HB8 := hide (HB.out.trans (hb8.mono HB.out.size))
        have HR8 := hide hr8
        clear hr8 hb8 HX HB f0 f1 f2 f3 y8 hjm
        go_wp2
        go_ret
        have hd : (decide (T < 0) || r8) = r8 := by have h9 : ¬ T < 0 := (by omega); simp [h9]
        refine ⟨_, rfl, ?_, HB8.out⟩
        rw [hd]
        refine HR8.out.congr ?_
        have hjj : j - 1 = j' := by have := HJ.out; omega
        constructor
        · intro h
          exact ⟨HF.out, .inr ⟨by have := HJ.out; omega, by rw [hjj]; exact h⟩⟩
        · intro h
          rcases h.2 with h | ⟨_, h⟩
          · rw [HT.out] at h; omega
          · rw [hjj] at h; exact h
      · go_wp2_with fail
        all_goals first
          | (go_ret; exact ⟨_, rfl, .inr ⟨rfl, fun h => hop (by have := (h.1 HR.out).2; rw [HT1.out] at this; exact this)⟩, HB.out⟩)
          | (exfalso; omega)
    · have hj2 : ((p.ni : Int) ≤ (j : Int) + 1) := by omega
      go_wp2_with fail
      go_ret
      exact ⟨_, rfl, .inr ⟨rfl, fun h => hj1 (h.1 HR.out).1⟩, HB.out⟩
  · have HF : Hid (mkP p j → openA p j) := hide (fun h => absurd h hr)
    clear hr y0 y1 y2 y3 y8
    have y0 : w2.cell? ⟨w.heap.size + 1, 0, none⟩ = some (.int .i64 (p.i0 j)) := HX.out.i.cell (j := 0) (by omega)
    have y1 : w2.cell? ⟨w.heap.size + 1, 1, none⟩ = some (.int .i64 (p.i1 j)) := HX.out.i.cell (j := 1) (by omega)
    have y2 : w2.cell? ⟨w.heap.size + 1, 2, none⟩ = some (.int .i64 (p.i2 j)) := HX.out.i.cell (j := 2) (by omega)
    have y3 : w2.cell? ⟨w.heap.size + 1, 3, none⟩ = some (.int .i64 (p.i3 j)) := HX.out.i.cell (j := 3) (by omega)
    have y8 : w2.cell? ⟨w.heap.size, 8, none⟩ = some (.slice (some ⟨b, o, none⟩) p.ni cap) := HX.out.x.cell (j := 8) (by omega)
    go_wp2_with fail
    refine (takes_any (p.i0 j) (p.i1 j) (p.i2 j) (p.i3 j) w2 (HBy.out j hj).1 (HBy.out j hj).2).mono ?_
    rintro e w7 ⟨rfl, hb7⟩
    have HX := hide (HX.out.low hb7)
    have HB := hide (HB.out.trans (hb7.mono HB.out.size))
    clear hb7 y0 y1 y2 y3 y8
    have y8 : w7.cell? ⟨w.heap.size, 8, none⟩ = some (.slice (some ⟨b, o, none⟩) p.ni cap) := HX.out.x.cell (j := 8) (by omega)
    have HT : Hid (tkP p j = takesI (p.i0 j) (p.i1 j) (p.i2 j) (p.i3 j)) := hide rfl
    generalize takesI (p.i0 j) (p.i1 j) (p.i2 j) (p.i3 j) = T at *
    by_cases ht : T < 0
    · go_wp2_with fail
      go_ret
      exact ⟨_, rfl, .inl ⟨rfl, HF.out, .inl (HT.out ▸ ht)⟩, HB.out⟩
    by_cases hj0 : j = 0
    · have hj3 : ¬ ((0 : Int) < (j : Int)) := by omega
      go_wp2_with fail
      go_ret
      refine ⟨_, rfl, .inr ⟨by have h9 : ¬ T < 0 := (by omega); simp [h9], fun h => ?_⟩, HB.out⟩
      rcases h.2 with h | ⟨h, _⟩
      · rw [HT.out] at h; omega
      · omega
    obtain ⟨j', hj'⟩ : ∃ j', j = j' + 1 := ⟨j - 1, by omega⟩
    have hjp : (0 : Int) < (j : Int) := by omega
    have hjm : (j : Int) - 1 = (j' : Int) := by omega
    have hj4 : j' < p.ni := by omega
    obtain ⟨b'', o'', cap'', e'', hb'', e0, e1, e2, e3⟩ := ins_at HA.out hj4
    cases e''
    have f0 := (HB.out.cell (p := ⟨b, o + j' * 4, none⟩) hb).trans e0
    have f1 := (HB.out.cell (p := ⟨b, o + j' * 4 + 1, none⟩) hb).trans e1
    have f2 := (HB.out.cell (p := ⟨b, o + j' * 4 + 2, none⟩) hb).trans e2
    have f3 := (HB.out.cell (p := ⟨b, o + j' * 4 + 3, none⟩) hb).trans e3
    have HJ := hide hj'
    clear e0 e1 e2 e3 hj'
    go_wp2_with fail
    refine (makes_any (p.i0 j') (p.i1 j') (p.i2 j') (p.i3 j') w7).mono ?_
    rintro e w8 ⟨r8, rfl, hr8, hb8⟩
    have HB8 := hide (HB.out.trans (hb8.mono HB.out.size))
    have HR8 := hide hr8
    clear hr8 hb8 HX HB f0 f1 f2 f3 y8 hjm
    go_wp2
    go_ret
    have hd : (decide (T < 0) || r8) = r8 := by have h9 : ¬ T < 0 := (by omega); simp [h9]
    refine ⟨_, rfl, ?_, HB8.out⟩
    rw [hd]
    refine HR8.out.congr ?_
    have hjj : j - 1 = j' := by have := HJ.out; omega
    constructor
    · intro h
      exact ⟨HF.out, .inr ⟨by have := HJ.out; omega, by rw [hjj]; exact h⟩⟩
    · intro h
      rcases h.2 with h | ⟨_, h⟩
      · rw [HT.out] at h; omega
      · rw [hjj] at h; exact h
set_option maxHeartbeats 1600000 in
set_option maxRecDepth 100000 in
theorem constHasPlace_any (k i b : Int) (t : ByteArray) (w : World) (h0 : 0 ≤ b) (h1 : b < 18446744073709551616) (ht : t.size ≤ 1048576) :
    Calls Tryz.prog 115 #[.agg #[.int .i64 k, .int .i64 i, .int .u64 b, .string t]] w fun e w' => RetB (constOk k i b t) w e w' := by
  clear h1
  by_cases k4 : k = 4
  · subst k4
    go_enter Tryz.func115, Tryz.ntmps115
    go_wp2
    all_goals go_ret
    all_goals refine ⟨_, rfl, ?_, b_1 _ _⟩
    all_goals first | exact .inl ⟨rfl, by simp_all [constOk]⟩ | exact .inr ⟨rfl, by simp_all [constOk]⟩
  by_cases k5 : k = 5
  · subst k5
    have HI := hide (isFloatWord_any b · h0)
    by_cases hn : (decide (b = 9221120237041090560) || !isNanI b) = true
    · rw [hn] at HI
      have HNN : Hid (¬ (isNanI b = true ∧ b ≠ 9221120237041090560)) := by
        refine hide (fun hq => ?_)
        rw [hq.1, decide_eq_false hq.2] at hn
        cases hn
      clear hn
      go_enter Tryz.func115, Tryz.ntmps115
      go_wp2_with (go_at_call 132; refine (HI.out _).mono ?_; rintro e w' ⟨rfl, rfl⟩)
      all_goals go_ret
      all_goals refine ⟨_, rfl, ?_, b_1 _ _⟩
      all_goals first | exact .inl ⟨rfl, .inr (.inl ⟨rfl, by assumption, by assumption, HNN.out⟩)⟩ | exact .inr ⟨rfl, by simp_all [constOk]⟩
    · rw [Bool.not_eq_true] at hn
      rw [hn] at HI
      go_enter Tryz.func115, Tryz.ntmps115
      go_wp2_with (go_at_call 132; refine (HI.out _).mono ?_; rintro e w' ⟨rfl, rfl⟩)
      all_goals go_ret
      all_goals refine ⟨_, rfl, ?_, b_1 _ _⟩
      all_goals first | exact .inl ⟨rfl, by simp_all [constOk]⟩ | exact .inr ⟨rfl, by simp_all [constOk]⟩
  by_cases k6 : k = 6
  · subst k6
    by_cases hts : t.size ≤ 65536
    · have hti : ((t.size : Int) ≤ 65536) := by omega
      go_enter Tryz.func115, Tryz.ntmps115
      go_wp2
      all_goals go_ret
      all_goals refine ⟨_, rfl, ?_, b_1 _ _⟩
      all_goals clear ht hti
      all_goals first | exact .inl ⟨rfl, by simp_all [constOk]⟩ | exact .inr ⟨rfl, by simp_all [constOk]⟩
    · have hti : ¬ ((t.size : Int) ≤ 65536) := by omega
      go_enter Tryz.func115, Tryz.ntmps115
      go_wp2
      all_goals go_ret
      all_goals refine ⟨_, rfl, .inr ⟨rfl, ?_⟩, b_1 _ _⟩
      all_goals rintro (⟨h, _⟩ | ⟨h, _⟩ | ⟨_, _, _, h⟩)
      all_goals first | omega | exact hts h
  · go_enter Tryz.func115, Tryz.ntmps115
    go_wp2
    all_goals go_ret
    all_goals refine ⟨_, rfl, ?_, b_1 _ _⟩
    all_goals exact .inr ⟨rfl, by simp_all [constOk]⟩
end Go.Proofs.YtgnbhhgpaldheaaGreat
