import Derived.Test.YtgnbhhgpaldheaaGreatKV5
import Derived.Test.YtgnbhhgpaldheaaGreatKV3z
namespace Go.Proofs.YtgnbhhgpaldheaaGreat
open Go Go.RowKit
set_option linter.unusedVariables false
def FoldR (Q : Nat → Prop) (N : Nat → Int) (i : Nat) (f : Int) : Prop :=
  (f = 0 ∧ ∀ q, q < i → Q q) ∨ (0 < f ∧ (∃ q, q < i ∧ ¬ Q q ∧ f = N q) ∧ ∀ q, q < i → ¬ Q q → f ≤ N q)
theorem FoldR.zero (Q : Nat → Prop) (N : Nat → Int) : FoldR Q N 0 0 := .inl ⟨rfl, fun q hq => by omega⟩
theorem FoldR.keep {Q : Nat → Prop} {N : Nat → Int} {i : Nat} {f : Int} (h : FoldR Q N i f) (hq : Q i) : FoldR Q N (i + 1) f := by
  rcases h with ⟨h1, h2⟩ | ⟨h1, ⟨q, h2, h3, h4⟩, h5⟩
  · exact .inl ⟨h1, fun q hq' => by
      by_cases e : q = i
      · subst e; exact hq
      · exact h2 q (by omega)⟩
  · exact .inr ⟨h1, ⟨q, by omega, h3, h4⟩, fun q' hq' hn => by
      by_cases e : q' = i
      · subst e; exact absurd hq hn
      · exact h5 q' (by omega) hn⟩
theorem FoldR.take {Q : Nat → Prop} {N : Nat → Int} {i : Nat} {f : Int} (h : FoldR Q N i f) (hq : ¬ Q i) (hN : 0 < N i) (hf : f = 0 ∨ N i < f) : FoldR Q N (i + 1) (N i) := by
  rcases h with ⟨h1, h2⟩ | ⟨h1, ⟨q, h2, h3, h4⟩, h5⟩
  · exact .inr ⟨hN, ⟨i, by omega, hq, rfl⟩, fun q' hq' hn => by
      by_cases e : q' = i
      · subst e; exact Int.le_refl _
      · exact absurd (h2 q' (by omega)) hn⟩
  · exact .inr ⟨hN, ⟨i, by omega, hq, rfl⟩, fun q' hq' hn => by
      by_cases e : q' = i
      · subst e; exact Int.le_refl _
      · have := h5 q' (by omega) hn
        omega⟩
theorem FoldR.stay {Q : Nat → Prop} {N : Nat → Int} {i : Nat} {f : Int} (h : FoldR Q N i f) (hq : ¬ Q i) (hf : ¬ f = 0) (hN : f ≤ N i) : FoldR Q N (i + 1) f := by
  rcases h with ⟨h1, h2⟩ | ⟨h1, ⟨q, h2, h3, h4⟩, h5⟩
  · exact absurd h1 hf
  · exact .inr ⟨h1, ⟨q, by omega, h3, h4⟩, fun q' hq' hn => by
      by_cases e : q' = i
      · subst e; exact hN
      · exact h5 q' (by omega) hn⟩
theorem woC_pos {P : Nat → PV} {k : Nat} {p : PV} {j : Nat} {nm v : Int} (h : ¬ woQ P k p j nm v) : 0 < woC nm := by
  by_cases h0 : nm = 0
  · subst h0
    exact absurd (by simp [woQ]) h
  · unfold woC
    rw [if_neg h0]
    repeat (first | (split; omega) | omega)
def opN (na nb nc : Int) (q : Nat) : Int := if q < 2 then na else if q = 2 then nb else nc
def opV (p : PV) (j : Nat) (ny : Int) (q : Nat) : Int := if q = 0 then p.i1 j else if q = 1 then p.i1 j + ny else if q = 2 then p.i2 j else p.i3 j
def MisR (P : Nat → PV) (k : Nat) (p : PV) (j : Nat) (na nb nc ny : Int) (w : World) (e : Ending) (w' : World) : Prop :=
  ∃ r : Int, e = .returned (.int .i64 r) ∧ FoldR (fun q => woQ P k p j (opN na nb nc q) (opV p j ny q)) (fun q => woC (opN na nb nc q)) 4 r ∧ Below w.heap.size w w'
theorem idx4_0 (a b c d e f g h : Value) (w : World) : (Instr.index 162 (.agg #[a, b, c, d, e, f, g, h]) (.int .i64 0)).run Tryz.prog w = .ok (.agg #[a, b]) w := by kernel_rfl
theorem idx4_1 (a b c d e f g h : Value) (w : World) : (Instr.index 162 (.agg #[a, b, c, d, e, f, g, h]) (.int .i64 1)).run Tryz.prog w = .ok (.agg #[c, d]) w := by kernel_rfl
theorem idx4_2 (a b c d e f g h : Value) (w : World) : (Instr.index 162 (.agg #[a, b, c, d, e, f, g, h]) (.int .i64 2)).run Tryz.prog w = .ok (.agg #[e, f]) w := by kernel_rfl
theorem idx4_3 (a b c d e f g h : Value) (w : World) : (Instr.index 162 (.agg #[a, b, c, d, e, f, g, h]) (.int .i64 3)).run Tryz.prog w = .ok (.agg #[g, h]) w := by kernel_rfl
set_option maxHeartbeats 3200000 in
set_option maxRecDepth 100000 in
theorem missing_any (g : Nat) (P : Nat → PV) (k : Nat) (p : PV) (s4 s5 s6 s7 va : Value) (j : Nat) (na nb nc ny : Int) (w : World) (h1 : 0 ≤ na ∧ na ≤ 6) (h2 : 0 ≤ nb ∧ nb ≤ 6) (h3 : 0 ≤ nc ∧ nc ≤ 6) (h4 : 0 ≤ ny ∧ ny ≤ 5) (hk : k ≤ 1048576) (hj : j < p.ni) (hfa : allFit k P 1048576) (hun : upsNat k P) (hv : ProsA w va k P) (h : VX w g p s4 s5 s6 s7 va) :
    Calls Tryz.prog 83 #[.pointer (some ⟨g, 0, none⟩), .int .i64 j, .agg #[.int .i64 na, .int .i64 nb, .int .i64 nc, .int .i64 ny]] w fun e w' => MisR P k p j na nb nc ny w e w' := by
  have hni := h.ni
  have hby := h.by' j hj
  have HFA := hide hfa
  have HUN := hide hun
  have hB := b_1 w (.cells #[.int .i64 na, .int .i64 nb, .int .i64 nc, .int .i64 ny] 125)
  obtain ⟨b, o, cap, rfl, hb, c0, c1, c2, c3⟩ := ins_at (h.a.low hB (Nat.le_refl _)).i hj
  obtain ⟨y0, y1, y2, y3, y4, y5, y6, y7, y8⟩ := (h.low hB).r.cells
  have HB := hide (b_2 w (.cells #[.int .i64 na, .int .i64 nb, .int .i64 nc, .int .i64 ny] 125) (.cells #[.int .i64 (p.i0 j), .int .i64 (p.i1 j), .int .i64 (p.i2 j), .int .i64 (p.i3 j)] 51))
  have HX := hide (h.low HB.out)
  have HV := hide (hv.low HB.out (Nat.le_refl _))
  clear h hv hfa hun hB
  go_enter Tryz.func83, Tryz.ntmps83
  go_wp2
  clear y0 y1 y2 y3 y4 y5 y6 y7 y8 c0 c1 c2 c3
  generalize (w.alloc (.cells #[.int .i64 na, .int .i64 nb, .int .i64 nc, .int .i64 ny] 125)).alloc (.cells #[.int .i64 (p.i0 j), .int .i64 (p.i1 j), .int .i64 (p.i2 j), .int .i64 (p.i3 j)] 51) = w1 at HB HX HV ⊢
  go_loopw [8, 44] (fun fv iv wr => ∃ (i : Nat) (f : Int), i ≤ 4 ∧ iv = .int .i64 i ∧ fv = .int .i64 f ∧ Hid (FoldR (fun q => woQ P k p j (opN na nb nc q) (opV p j ny q)) (fun q => woC (opN na nb nc q)) i f) ∧ Hid (Below w1.heap.size w1 wr)) (fun _ iv _ => match iv with | .int _ x => 4 - x.toNat | _ => 0)
  case atStart => exact ⟨0, 0, by omega, rfl, rfl, hide (FoldR.zero _ _), hide (Below.refl _ _)⟩
  case round =>
    obtain ⟨i, f, hi, rfl, rfl, HF, HBw⟩ := hrel
    have h0123 : i = 0 ∨ i = 1 ∨ i = 2 ∨ i = 3 ∨ i = 4 := by omega
    rcases h0123 with rfl | rfl | rfl | rfl | rfl
    · have HXw := hide ((HX.out.low HBw.out).low (b_1 wr (.cells #[.int .i64 na, .int .i64 (p.i1 j)] 161)))
      have HVw := hide ((HV.out.low HBw.out (Nat.le_refl _)).low (b_1 wr (.cells #[.int .i64 na, .int .i64 (p.i1 j)] 161)) (Nat.le_refl _))
      have HBa := hide (HBw.out.alloc HBw.out.size (.cells #[.int .i64 na, .int .i64 (p.i1 j)] 161))
      have hidx := idx4_0
      go_wp2_with fail
      clear hidx
      refine (without_any g P k p _ _ _ _ _ j na (p.i1 j) _ h1 hk hj HFA.out HUN.out HVw.out HXw.out).mono ?_
      rintro e w3 ⟨c, rfl, hc, hb3⟩
      have HB3 := hide (HBa.out.trans (hb3.mono HBa.out.size))
      clear hb3 HXw HVw HBa
      rcases hc with ⟨hq, rfl⟩ | ⟨hq, hc⟩
      · have HQ := hide hq
        clear hq
        by_cases hf0 : f = 0
        · subst hf0
          go_wp2
          go_roundw
          case rel => exact ⟨1, 0, by omega, by simp, rfl, hide (FoldR.keep HF.out HQ.out), HB3⟩
          case measure => simp
        · go_wp2
          go_roundw
          case rel => exact ⟨1, f, by omega, by simp, rfl, hide (FoldR.keep HF.out HQ.out), HB3⟩
          case measure => simp
      · have hpos := woC_pos hq
        have HQ := hide hq
        clear hq
        rw [← hc] at hpos
        have HC := hide hc
        clear hc
        by_cases hf0 : f = 0
        · subst hf0
          go_wp2
          go_roundw
          case rel => exact ⟨1, c, by omega, by simp, rfl, hide (by rw [HC.out]; exact FoldR.take HF.out HQ.out (by rw [← show c = woC (opN na nb nc 0) from HC.out]; exact hpos) (.inl rfl)), HB3⟩
          case measure => simp
        · have hc0 : (c != 0) = true := by simp; omega
          have hf1 : (f == 0) = false := by simpa using hf0
          by_cases hlt : c < f
          · go_wp2
            go_roundw
            case rel => exact ⟨1, c, by omega, by simp, rfl, hide (by rw [HC.out]; exact FoldR.take HF.out HQ.out (by rw [← show c = woC (opN na nb nc 0) from HC.out]; exact hpos) (.inr (by rw [← show c = woC (opN na nb nc 0) from HC.out]; exact hlt))), HB3⟩
            case measure => simp
          · go_wp2
            go_roundw
            case rel => exact ⟨1, f, by omega, by simp, rfl, hide (FoldR.stay HF.out HQ.out hf0 (by rw [← show c = woC (opN na nb nc 0) from HC.out]; omega)), HB3⟩
            case measure => simp
    · have HXw := hide ((HX.out.low HBw.out).low (b_1 wr (.cells #[.int .i64 na, .int .i64 (p.i1 j + ny)] 161)))
      have HVw := hide ((HV.out.low HBw.out (Nat.le_refl _)).low (b_1 wr (.cells #[.int .i64 na, .int .i64 (p.i1 j + ny)] 161)) (Nat.le_refl _))
      have HBa := hide (HBw.out.alloc HBw.out.size (.cells #[.int .i64 na, .int .i64 (p.i1 j + ny)] 161))
      have hidx := idx4_1
      go_wp2_with fail
      clear hidx
      refine (without_any g P k p _ _ _ _ _ j na (p.i1 j + ny) _ h1 hk hj HFA.out HUN.out HVw.out HXw.out).mono ?_
      rintro e w3 ⟨c, rfl, hc, hb3⟩
      have HB3 := hide (HBa.out.trans (hb3.mono HBa.out.size))
      clear hb3 HXw HVw HBa
      rcases hc with ⟨hq, rfl⟩ | ⟨hq, hc⟩
      · have HQ := hide hq
        clear hq
        by_cases hf0 : f = 0
        · subst hf0
          go_wp2
          go_roundw
          case rel => exact ⟨2, 0, by omega, by simp, rfl, hide (FoldR.keep HF.out HQ.out), HB3⟩
          case measure => simp
        · go_wp2
          go_roundw
          case rel => exact ⟨2, f, by omega, by simp, rfl, hide (FoldR.keep HF.out HQ.out), HB3⟩
          case measure => simp
      · have hpos := woC_pos hq
        have HQ := hide hq
        clear hq
        rw [← hc] at hpos
        have HC := hide hc
        clear hc
        by_cases hf0 : f = 0
        · subst hf0
          go_wp2
          go_roundw
          case rel => exact ⟨2, c, by omega, by simp, rfl, hide (by rw [HC.out]; exact FoldR.take HF.out HQ.out (by rw [← show c = woC (opN na nb nc 1) from HC.out]; exact hpos) (.inl rfl)), HB3⟩
          case measure => simp
        · have hc0 : (c != 0) = true := by simp; omega
          have hf1 : (f == 0) = false := by simpa using hf0
          by_cases hlt : c < f
          · go_wp2
            go_roundw
            case rel => exact ⟨2, c, by omega, by simp, rfl, hide (by rw [HC.out]; exact FoldR.take HF.out HQ.out (by rw [← show c = woC (opN na nb nc 1) from HC.out]; exact hpos) (.inr (by rw [← show c = woC (opN na nb nc 1) from HC.out]; exact hlt))), HB3⟩
            case measure => simp
          · go_wp2
            go_roundw
            case rel => exact ⟨2, f, by omega, by simp, rfl, hide (FoldR.stay HF.out HQ.out hf0 (by rw [← show c = woC (opN na nb nc 1) from HC.out]; omega)), HB3⟩
            case measure => simp
    · have HXw := hide ((HX.out.low HBw.out).low (b_1 wr (.cells #[.int .i64 nb, .int .i64 (p.i2 j)] 161)))
      have HVw := hide ((HV.out.low HBw.out (Nat.le_refl _)).low (b_1 wr (.cells #[.int .i64 nb, .int .i64 (p.i2 j)] 161)) (Nat.le_refl _))
      have HBa := hide (HBw.out.alloc HBw.out.size (.cells #[.int .i64 nb, .int .i64 (p.i2 j)] 161))
      have hidx := idx4_2
      go_wp2_with fail
      clear hidx
      refine (without_any g P k p _ _ _ _ _ j nb (p.i2 j) _ h2 hk hj HFA.out HUN.out HVw.out HXw.out).mono ?_
      rintro e w3 ⟨c, rfl, hc, hb3⟩
      have HB3 := hide (HBa.out.trans (hb3.mono HBa.out.size))
      clear hb3 HXw HVw HBa
      rcases hc with ⟨hq, rfl⟩ | ⟨hq, hc⟩
      · have HQ := hide hq
        clear hq
        by_cases hf0 : f = 0
        · subst hf0
          go_wp2
          go_roundw
          case rel => exact ⟨3, 0, by omega, by simp, rfl, hide (FoldR.keep HF.out HQ.out), HB3⟩
          case measure => simp
        · go_wp2
          go_roundw
          case rel => exact ⟨3, f, by omega, by simp, rfl, hide (FoldR.keep HF.out HQ.out), HB3⟩
          case measure => simp
      · have hpos := woC_pos hq
        have HQ := hide hq
        clear hq
        rw [← hc] at hpos
        have HC := hide hc
        clear hc
        by_cases hf0 : f = 0
        · subst hf0
          go_wp2
          go_roundw
          case rel => exact ⟨3, c, by omega, by simp, rfl, hide (by rw [HC.out]; exact FoldR.take HF.out HQ.out (by rw [← show c = woC (opN na nb nc 2) from HC.out]; exact hpos) (.inl rfl)), HB3⟩
          case measure => simp
        · have hc0 : (c != 0) = true := by simp; omega
          have hf1 : (f == 0) = false := by simpa using hf0
          by_cases hlt : c < f
          · go_wp2
            go_roundw
            case rel => exact ⟨3, c, by omega, by simp, rfl, hide (by rw [HC.out]; exact FoldR.take HF.out HQ.out (by rw [← show c = woC (opN na nb nc 2) from HC.out]; exact hpos) (.inr (by rw [← show c = woC (opN na nb nc 2) from HC.out]; exact hlt))), HB3⟩
            case measure => simp
          · go_wp2
            go_roundw
            case rel => exact ⟨3, f, by omega, by simp, rfl, hide (FoldR.stay HF.out HQ.out hf0 (by rw [← show c = woC (opN na nb nc 2) from HC.out]; omega)), HB3⟩
            case measure => simp
    · have HXw := hide ((HX.out.low HBw.out).low (b_1 wr (.cells #[.int .i64 nc, .int .i64 (p.i3 j)] 161)))
      have HVw := hide ((HV.out.low HBw.out (Nat.le_refl _)).low (b_1 wr (.cells #[.int .i64 nc, .int .i64 (p.i3 j)] 161)) (Nat.le_refl _))
      have HBa := hide (HBw.out.alloc HBw.out.size (.cells #[.int .i64 nc, .int .i64 (p.i3 j)] 161))
      have hidx := idx4_3
      go_wp2_with fail
      clear hidx
      refine (without_any g P k p _ _ _ _ _ j nc (p.i3 j) _ h3 hk hj HFA.out HUN.out HVw.out HXw.out).mono ?_
      rintro e w3 ⟨c, rfl, hc, hb3⟩
      have HB3 := hide (HBa.out.trans (hb3.mono HBa.out.size))
      clear hb3 HXw HVw HBa
      rcases hc with ⟨hq, rfl⟩ | ⟨hq, hc⟩
      · have HQ := hide hq
        clear hq
        by_cases hf0 : f = 0
        · subst hf0
          go_wp2
          go_roundw
          case rel => exact ⟨4, 0, by omega, by simp, rfl, hide (FoldR.keep HF.out HQ.out), HB3⟩
          case measure => simp
        · go_wp2
          go_roundw
          case rel => exact ⟨4, f, by omega, by simp, rfl, hide (FoldR.keep HF.out HQ.out), HB3⟩
          case measure => simp
      · have hpos := woC_pos hq
        have HQ := hide hq
        clear hq
        rw [← hc] at hpos
        have HC := hide hc
        clear hc
        by_cases hf0 : f = 0
        · subst hf0
          go_wp2
          go_roundw
          case rel => exact ⟨4, c, by omega, by simp, rfl, hide (by rw [HC.out]; exact FoldR.take HF.out HQ.out (by rw [← show c = woC (opN na nb nc 3) from HC.out]; exact hpos) (.inl rfl)), HB3⟩
          case measure => simp
        · have hc0 : (c != 0) = true := by simp; omega
          have hf1 : (f == 0) = false := by simpa using hf0
          by_cases hlt : c < f
          · go_wp2
            go_roundw
            case rel => exact ⟨4, c, by omega, by simp, rfl, hide (by rw [HC.out]; exact FoldR.take HF.out HQ.out (by rw [← show c = woC (opN na nb nc 3) from HC.out]; exact hpos) (.inr (by rw [← show c = woC (opN na nb nc 3) from HC.out]; exact hlt))), HB3⟩
            case measure => simp
          · go_wp2
            go_roundw
            case rel => exact ⟨4, f, by omega, by simp, rfl, hide (FoldR.stay HF.out HQ.out hf0 (by rw [← show c = woC (opN na nb nc 3) from HC.out]; omega)), HB3⟩
            case measure => simp
    · go_wp2
      go_ret
      exact ⟨f, rfl, HF.out, HB.out.trans (HBw.out.mono HB.out.size)⟩
end Go.Proofs.YtgnbhhgpaldheaaGreat
