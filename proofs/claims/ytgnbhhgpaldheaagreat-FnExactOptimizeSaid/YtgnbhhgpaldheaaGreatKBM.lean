import Derived.Test.YtgnbhhgpaldheaaGreatKN2
import Derived.Deep.DeepCutAuto
namespace Go.Proofs.YtgnbhhgpaldheaaGreat
open Go Go.RowKit
set_option linter.unusedVariables false
def FB : List (Prop × Int) → Int → Prop
  | [], r => r = 0
  | (Q, c) :: l, r => (Q ∧ FB l r) ∨ (¬ Q ∧ r = c)
theorem FB.unique : ∀ {l : List (Prop × Int)} {r r' : Int}, FB l r → FB l r' → r = r'
  | [], _, _, h, h' => by rw [show _ = (0 : Int) from h, show _ = (0 : Int) from h']
  | (Q, c) :: l, r, r', h, h' => by
    rcases h with ⟨q, h⟩ | ⟨q, h⟩ <;> rcases h' with ⟨q', h'⟩ | ⟨q', h'⟩
    · exact FB.unique h h'
    · exact absurd q q'
    · exact absurd q' q
    · rw [h, h']
theorem getD_mem' {l : List Int} {k : Nat} (h : k < l.length) : l.getD k 0 ∈ l := by
  rw [List.getD_eq_getElem?_getD, List.getElem?_eq_getElem h]
  exact List.getElem_mem h
def regsAll (p : PV) (l : List Int) : Prop := ∀ r, r ∈ l → regI p r
def upOk (p : PV) (j : Nat) : Prop := p.i0 j = 7 ∨ p.i0 j = 8 → inI (p.i2 j) 0 ((p.nu : Int) - 1) = true
def protoOk (P : Nat → PV) (k : Nat) (p : PV) (j : Nat) : Prop := p.i0 j = 32 → inI (p.i2 j) 0 ((k : Int) - 1) = true ∧ upsI p (P (p.i2 j).toNat) (P (p.i2 j).toNat).nu
def endOk (p : PV) (j : Nat) : Prop := j + 1 = p.ni → p.i0 j = 30 ∨ p.i0 j = 29 ∨ p.i0 j = 25
def dotsOk (p : PV) (j : Nat) : Prop := p.i0 j = 31 → p.dots = true
def asks (P : Nat → PV) (k : Nat) (p : PV) (j : Nat) : List (Prop × Int) :=
  [(knownI (p.i0 j), 2), (regsAll p (regsL (p.i0 j) (p.i1 j) (p.i2 j) (p.i3 j)), 3), (constsI p (p.i0 j) (p.i1 j) (p.i2 j) (p.i3 j), 4), (upOk p j, 5), (protoOk P k p j, 6), (jumpI p j, 7), (openI p j, 8), (endOk p j, 9), (dotsOk p j, 10), (countsI p (p.i0 j) (p.i1 j) (p.i2 j) (p.i3 j), 11)]
def RetC (l : List (Prop × Int)) (w : World) (e : Ending) (w' : World) : Prop := ∃ c : Int, e = .returned (.int .i64 c) ∧ FB l c ∧ Below w.heap.size w w'
set_option maxHeartbeats 12800000 in
set_option maxRecDepth 100000 in
theorem one_any (v : Value) (n : Nat) (P : Nat → PV) (k : Nat) (p : PV) (s4 s5 s6 s7 : Value) (j : Nat) (w : World) (hk : k < n) (hn : n ≤ 1048576) (hfa : allFit n P 1048576) (hf : p.fits 1048576) (hj : j < p.ni) (hr0 : 0 ≤ p.regs) (hr1 : p.regs ≤ 255) (hby : byteA p) (hv : ProsA w v n P) (h : PVA w p s4 s5 s6 s7) :
    Calls Tryz.prog 29 #[XV v k p s4 s5 s6 s7, .int .i64 j] w fun e w' => RetC (asks P k p j) w e w' := by
  have HA := hide h
  have HV := hide hv
  have HFA := hide hfa
  obtain ⟨hs1, hs2, hs3, hs4, -⟩ := hf
  obtain ⟨b, o, cap, rfl, hb, c0, c1, c2, c3⟩ := ins_at h.i hj
  obtain ⟨a4, k4, rfl⟩ := h.u.val
  clear h hv hfa
  have hB := b_1 w (.cells #[v, .int .i64 k, .int .i64 p.params, .int .i64 p.regs, .int .i64 p.line, .bool p.dots, .slice a4 p.nu k4, s5, .slice (some ⟨b, o, none⟩) p.ni cap, s7] 73)
  have d0 := (hB.cell (p := ⟨b, o + j * 4, none⟩) hb).trans c0
  have d1 := (hB.cell (p := ⟨b, o + j * 4 + 1, none⟩) hb).trans c1
  have d2 := (hB.cell (p := ⟨b, o + j * 4 + 2, none⟩) hb).trans c2
  have d3 := (hB.cell (p := ⟨b, o + j * 4 + 3, none⟩) hb).trans c3
  clear c0 c1 c2 c3 hB
  have HX := hide (XI.mk' w v k p (.slice a4 p.nu k4) s5 (.slice (some ⟨b, o, none⟩) p.ni cap) s7 j)
  have HB := hide (b_2 w (.cells #[v, .int .i64 k, .int .i64 p.params, .int .i64 p.regs, .int .i64 p.line, .bool p.dots, .slice a4 p.nu k4, s5, .slice (some ⟨b, o, none⟩) p.ni cap, s7] 73) (.cells #[.int .i64 (p.i0 j), .int .i64 (p.i1 j), .int .i64 (p.i2 j), .int .i64 (p.i3 j)] 51))
  have HBy := hide hby
  clear hby
  unfold XV
  go_enter Tryz.func29, Tryz.ntmps29
  go_wp2_with fail
  clear d0 d1 d2 d3
  generalize (w.alloc (.cells #[v, .int .i64 k, .int .i64 p.params, .int .i64 p.regs, .int .i64 p.line, .bool p.dots, .slice a4 p.nu k4, s5, .slice (some ⟨b, o, none⟩) p.ni cap, s7] 73)).alloc (.cells #[.int .i64 (p.i0 j), .int .i64 (p.i1 j), .int .i64 (p.i2 j), .int .i64 (p.i3 j)] 51) = w1 at HX HB ⊢
  refine (known_any v k p _ s5 _ s7 (p.i0 j) (p.i1 j) (p.i2 j) (p.i3 j) w1).mono ?_
  rintro e w2 ⟨r, rfl, hr, hb2⟩
  have HX := hide (HX.out.low hb2)
  have HB := hide (HB.out.trans (hb2.mono HB.out.size))
  clear hb2
  rcases hr with ⟨rfl, q1⟩ | ⟨rfl, q1⟩
  case inr =>
    have Q1 := hide q1
    clear q1
    go_wp2_with fail
    go_ret
    exact ⟨_, rfl, .inr ⟨Q1.out, rfl⟩, HB.out⟩
  have Q1 := hide q1
  clear q1
  have y0 : w2.cell? ⟨w.heap.size, 0, none⟩ = some (v) := HX.out.x.cell (j := 0) (by omega)
  have y1 : w2.cell? ⟨w.heap.size, 1, none⟩ = some (.int .i64 k) := HX.out.x.cell (j := 1) (by omega)
  have y2 : w2.cell? ⟨w.heap.size, 2, none⟩ = some (.int .i64 p.params) := HX.out.x.cell (j := 2) (by omega)
  have y3 : w2.cell? ⟨w.heap.size, 3, none⟩ = some (.int .i64 p.regs) := HX.out.x.cell (j := 3) (by omega)
  have y4 : w2.cell? ⟨w.heap.size, 4, none⟩ = some (.int .i64 p.line) := HX.out.x.cell (j := 4) (by omega)
  have y5 : w2.cell? ⟨w.heap.size, 5, none⟩ = some (.bool p.dots) := HX.out.x.cell (j := 5) (by omega)
  have y6 : w2.cell? ⟨w.heap.size, 6, none⟩ = some (.slice a4 p.nu k4) := HX.out.x.cell (j := 6) (by omega)
  have y7 : w2.cell? ⟨w.heap.size, 7, none⟩ = some (s5) := HX.out.x.cell (j := 7) (by omega)
  have y8 : w2.cell? ⟨w.heap.size, 8, none⟩ = some (.slice (some ⟨b, o, none⟩) p.ni cap) := HX.out.x.cell (j := 8) (by omega)
  have y9 : w2.cell? ⟨w.heap.size, 9, none⟩ = some (s7) := HX.out.x.cell (j := 9) (by omega)
  have t0 : w2.cell? ⟨w.heap.size + 1, 0, none⟩ = some (.int .i64 (p.i0 j)) := HX.out.i.cell (j := 0) (by omega)
  have t1 : w2.cell? ⟨w.heap.size + 1, 1, none⟩ = some (.int .i64 (p.i1 j)) := HX.out.i.cell (j := 1) (by omega)
  have t2 : w2.cell? ⟨w.heap.size + 1, 2, none⟩ = some (.int .i64 (p.i2 j)) := HX.out.i.cell (j := 2) (by omega)
  have t3 : w2.cell? ⟨w.heap.size + 1, 3, none⟩ = some (.int .i64 (p.i3 j)) := HX.out.i.cell (j := 3) (by omega)
  go_wp2_with fail
  clear y0 y1 y2 y3 y4 y5 y6 y7 y8 y9 t0 t1 t2 t3
  refine (regs_any v k p _ s5 _ s7 (p.i0 j) (p.i1 j) (p.i2 j) (p.i3 j) w2 (HBy.out j hj).1 (HBy.out j hj).2).mono ?_
  rintro e w3 ⟨v3, rfl, hl3, hb3⟩
  have HX := hide (HX.out.low hb3)
  have HB := hide (HB.out.trans (hb3.mono HB.out.size))
  clear hb3
  have HL := hide hl3
  obtain ⟨a9, k9, rfl⟩ := hl3.val
  clear hl3
  generalize hLL : regsL (p.i0 j) (p.i1 j) (p.i2 j) (p.i3 j) = LL at *
  have hlen : LL.length ≤ 3 := by
    rw [← hLL]
    unfold regsL
    repeat (first | (split; simp) | simp)
  have HLL := hide hLL
  clear hLL
  go_wp2_with fail
  rename_i K1 a1
  have HK := hide a1
  clear a1
  go_loopw [23] (fun iv wr => ∃ i : Nat, i ≤ LL.length ∧ iv = .int .i64 i ∧ Hid (∀ q, q < i → regI p (LL.getD q 0)) ∧ Hid (Below w3.heap.size w3 wr)) (fun iv _ => match iv with | .int _ x => LL.length - x.toNat | _ => 0)
  case atStart => exact ⟨0, by omega, rfl, hide (fun k hk => by omega), hide (Below.refl _ _)⟩
  case round =>
    obtain ⟨i, hi9, rfl, HI, HBw⟩ := hrel
    by_cases hin : i < LL.length
    · rcases HL.out with ⟨h9, _⟩ | ⟨b9, o9, cap9, e9, hb9, hcap9, hc9⟩
      · omega
      · cases e9
        have m0 : wr.cell? ⟨b9, o9 + i, none⟩ = some (.int .i64 (LL.getD i 0)) := (HBw.out.cell (p := ⟨b9, o9 + i, none⟩) hb9).trans (hc9 i hin)
        generalize hrv : LL.getD i 0 = rv at m0
        have HRV := hide hrv
        clear hrv
        have HX := hide (HX.out.low HBw.out)
        have y0 : wr.cell? ⟨w.heap.size, 0, none⟩ = some (v) := HX.out.x.cell (j := 0) (by omega)
        have y1 : wr.cell? ⟨w.heap.size, 1, none⟩ = some (.int .i64 k) := HX.out.x.cell (j := 1) (by omega)
        have y2 : wr.cell? ⟨w.heap.size, 2, none⟩ = some (.int .i64 p.params) := HX.out.x.cell (j := 2) (by omega)
        have y3 : wr.cell? ⟨w.heap.size, 3, none⟩ = some (.int .i64 p.regs) := HX.out.x.cell (j := 3) (by omega)
        have y4 : wr.cell? ⟨w.heap.size, 4, none⟩ = some (.int .i64 p.line) := HX.out.x.cell (j := 4) (by omega)
        have y5 : wr.cell? ⟨w.heap.size, 5, none⟩ = some (.bool p.dots) := HX.out.x.cell (j := 5) (by omega)
        have y6 : wr.cell? ⟨w.heap.size, 6, none⟩ = some (.slice a4 p.nu k4) := HX.out.x.cell (j := 6) (by omega)
        have y7 : wr.cell? ⟨w.heap.size, 7, none⟩ = some (s5) := HX.out.x.cell (j := 7) (by omega)
        have y8 : wr.cell? ⟨w.heap.size, 8, none⟩ = some (.slice (some ⟨b, o, none⟩) p.ni cap) := HX.out.x.cell (j := 8) (by omega)
        have y9 : wr.cell? ⟨w.heap.size, 9, none⟩ = some (s7) := HX.out.x.cell (j := 9) (by omega)
        have t0 : wr.cell? ⟨w.heap.size + 1, 0, none⟩ = some (.int .i64 (p.i0 j)) := HX.out.i.cell (j := 0) (by omega)
        have t1 : wr.cell? ⟨w.heap.size + 1, 1, none⟩ = some (.int .i64 (p.i1 j)) := HX.out.i.cell (j := 1) (by omega)
        have t2 : wr.cell? ⟨w.heap.size + 1, 2, none⟩ = some (.int .i64 (p.i2 j)) := HX.out.i.cell (j := 2) (by omega)
        have t3 : wr.cell? ⟨w.heap.size + 1, 3, none⟩ = some (.int .i64 (p.i3 j)) := HX.out.i.cell (j := 3) (by omega)
        clear hc9
        go_wp2_with fail
        clear y0 y1 y2 y3 y4 y5 y6 y7 y8 y9 t0 t1 t2 t3 m0
        refine (reg_any v k p _ s5 _ s7 rv wr).mono ?_
        rintro e w4 ⟨r, rfl, hr, hb4⟩
        have HB4 := hide (HBw.out.trans (hb4.mono HBw.out.size))
        clear hb4
        rcases hr with ⟨rfl, q2⟩ | ⟨rfl, q2⟩
        · have Q2 := hide q2
          clear q2
          go_wp2
          go_roundw
          case rel => exact ⟨i + 1, by omega, by simp, hide (fun q hq => by
            by_cases e : q = i
            · subst e; rw [HRV.out]; exact Q2.out
            · exact HI.out q (by omega)), HB4⟩
          case measure => simp; omega
        · have Q2 := hide q2
          clear q2
          go_wp2
          go_ret
          exact ⟨_, rfl, .inl ⟨Q1.out, .inr ⟨fun h => Q2.out (h rv (by rw [HLL.out, ← HRV.out]; exact getD_mem' hin)), rfl⟩⟩, HB.out.trans (HB4.out.mono HB.out.size)⟩
    · obtain rfl : i = LL.length := by omega
      have Q2 : Hid (regsAll p (regsL (p.i0 j) (p.i1 j) (p.i2 j) (p.i3 j))) := hide (fun r hr => by
        rw [HLL.out] at hr
        obtain ⟨q, hq, rfl⟩ := List.mem_iff_getElem.1 hr
        have := HI.out q hq
        rwa [List.getD_eq_getElem?_getD, List.getElem?_eq_getElem hq] at this)
      have HX := hide (HX.out.low HBw.out)
      have HB := hide (HB.out.trans (HBw.out.mono HB.out.size))
      clear HBw HI HL HLL
      go_wp2
      refine HK.out _ _ ?_
      clear HK
      have y0 : wr.cell? ⟨w.heap.size, 0, none⟩ = some (v) := HX.out.x.cell (j := 0) (by omega)
      have y1 : wr.cell? ⟨w.heap.size, 1, none⟩ = some (.int .i64 k) := HX.out.x.cell (j := 1) (by omega)
      have y2 : wr.cell? ⟨w.heap.size, 2, none⟩ = some (.int .i64 p.params) := HX.out.x.cell (j := 2) (by omega)
      have y3 : wr.cell? ⟨w.heap.size, 3, none⟩ = some (.int .i64 p.regs) := HX.out.x.cell (j := 3) (by omega)
      have y4 : wr.cell? ⟨w.heap.size, 4, none⟩ = some (.int .i64 p.line) := HX.out.x.cell (j := 4) (by omega)
      have y5 : wr.cell? ⟨w.heap.size, 5, none⟩ = some (.bool p.dots) := HX.out.x.cell (j := 5) (by omega)
      have y6 : wr.cell? ⟨w.heap.size, 6, none⟩ = some (.slice a4 p.nu k4) := HX.out.x.cell (j := 6) (by omega)
      have y7 : wr.cell? ⟨w.heap.size, 7, none⟩ = some (s5) := HX.out.x.cell (j := 7) (by omega)
      have y8 : wr.cell? ⟨w.heap.size, 8, none⟩ = some (.slice (some ⟨b, o, none⟩) p.ni cap) := HX.out.x.cell (j := 8) (by omega)
      have y9 : wr.cell? ⟨w.heap.size, 9, none⟩ = some (s7) := HX.out.x.cell (j := 9) (by omega)
      have t0 : wr.cell? ⟨w.heap.size + 1, 0, none⟩ = some (.int .i64 (p.i0 j)) := HX.out.i.cell (j := 0) (by omega)
      have t1 : wr.cell? ⟨w.heap.size + 1, 1, none⟩ = some (.int .i64 (p.i1 j)) := HX.out.i.cell (j := 1) (by omega)
      have t2 : wr.cell? ⟨w.heap.size + 1, 2, none⟩ = some (.int .i64 (p.i2 j)) := HX.out.i.cell (j := 2) (by omega)
      have t3 : wr.cell? ⟨w.heap.size + 1, 3, none⟩ = some (.int .i64 (p.i3 j)) := HX.out.i.cell (j := 3) (by omega)
      go_wp2_with fail
      clear y0 y1 y2 y3 y4 y5 y6 y7 y8 y9 t0 t1 t2 t3
      refine (consts_any v k p _ s5 _ s7 (p.i0 j) (p.i1 j) (p.i2 j) (p.i3 j) wr hs2 (HA.out.c.low HB.out (Nat.le_refl _))).mono ?_
      rintro e w5 ⟨r, rfl, hr, hb5⟩
      have HX := hide (HX.out.low hb5)
      have HB := hide (HB.out.trans (hb5.mono HB.out.size))
      clear hb5
      rcases hr with ⟨rfl, q3⟩ | ⟨rfl, q3⟩
      case inr =>
        have Q3 := hide q3
        clear q3
        go_wp2_with fail
        go_ret
        exact ⟨_, rfl, .inl ⟨Q1.out, .inl ⟨Q2.out, .inr ⟨Q3.out, rfl⟩⟩⟩, HB.out⟩
      have Q3 := hide q3
      clear q3
      go_upto_region 12 with (fail)
      go_cut [54] (fun s wc => ∃ b9 : Bool, s = .bool b9 ∧ Hid (BoolR (¬ upOk p j) b9) ∧ Hid (XI wc w.heap.size v k p (.slice a4 p.nu k4) s5 (.slice (some ⟨b, o, none⟩) p.ni cap) s7 j) ∧ Hid (Below w.heap.size w wc))
      case first =>
        have y0 : w5.cell? ⟨w.heap.size, 0, none⟩ = some (v) := HX.out.x.cell (j := 0) (by omega)
        have y1 : w5.cell? ⟨w.heap.size, 1, none⟩ = some (.int .i64 k) := HX.out.x.cell (j := 1) (by omega)
        have y2 : w5.cell? ⟨w.heap.size, 2, none⟩ = some (.int .i64 p.params) := HX.out.x.cell (j := 2) (by omega)
        have y3 : w5.cell? ⟨w.heap.size, 3, none⟩ = some (.int .i64 p.regs) := HX.out.x.cell (j := 3) (by omega)
        have y4 : w5.cell? ⟨w.heap.size, 4, none⟩ = some (.int .i64 p.line) := HX.out.x.cell (j := 4) (by omega)
        have y5 : w5.cell? ⟨w.heap.size, 5, none⟩ = some (.bool p.dots) := HX.out.x.cell (j := 5) (by omega)
        have y6 : w5.cell? ⟨w.heap.size, 6, none⟩ = some (.slice a4 p.nu k4) := HX.out.x.cell (j := 6) (by omega)
        have y7 : w5.cell? ⟨w.heap.size, 7, none⟩ = some (s5) := HX.out.x.cell (j := 7) (by omega)
        have y8 : w5.cell? ⟨w.heap.size, 8, none⟩ = some (.slice (some ⟨b, o, none⟩) p.ni cap) := HX.out.x.cell (j := 8) (by omega)
        have y9 : w5.cell? ⟨w.heap.size, 9, none⟩ = some (s7) := HX.out.x.cell (j := 9) (by omega)
        have t0 : w5.cell? ⟨w.heap.size + 1, 0, none⟩ = some (.int .i64 (p.i0 j)) := HX.out.i.cell (j := 0) (by omega)
        have t1 : w5.cell? ⟨w.heap.size + 1, 1, none⟩ = some (.int .i64 (p.i1 j)) := HX.out.i.cell (j := 1) (by omega)
        have t2 : w5.cell? ⟨w.heap.size + 1, 2, none⟩ = some (.int .i64 (p.i2 j)) := HX.out.i.cell (j := 2) (by omega)
        have t3 : w5.cell? ⟨w.heap.size + 1, 3, none⟩ = some (.int .i64 (p.i3 j)) := HX.out.i.cell (j := 3) (by omega)
        by_cases h7 : p.i0 j = 7
        · have z7 : (p.i0 j == 7) = true := by rw [h7]; rfl
          have z8 : (p.i0 j == 8) = false := by rw [h7]; rfl
          have HC := hide h7
          clear h7
          rcases hx : inI (p.i2 j) 0 ((p.nu : Int) - 1) with _ | _
          · go_wp2_with (go_at_call 27; refine (l07In_any _ _ _ _).mono ?_; rintro e w' ⟨rfl, hw⟩; obtain rfl := hw.symm)
            go_meet
            case rel => exact ⟨true, rfl, hide (.inl ⟨rfl, fun h => (by have := h (by have := HC.out; omega); rw [hx] at this; cases this)⟩), HX, HB⟩
          · go_wp2_with (go_at_call 27; refine (l07In_any _ _ _ _).mono ?_; rintro e w' ⟨rfl, hw⟩; obtain rfl := hw.symm)
            go_meet
            case rel => exact ⟨false, rfl, hide (.inr ⟨rfl, fun h => h (fun _ => hx)⟩), HX, HB⟩
        by_cases h8 : p.i0 j = 8
        · have z7 : (p.i0 j == 7) = false := by rw [h8]; rfl
          have z8 : (p.i0 j == 8) = true := by rw [h8]; rfl
          have HC := hide h8
          clear h8
          rcases hx : inI (p.i2 j) 0 ((p.nu : Int) - 1) with _ | _
          · go_wp2_with (go_at_call 27; refine (l07In_any _ _ _ _).mono ?_; rintro e w' ⟨rfl, hw⟩; obtain rfl := hw.symm)
            go_meet
            case rel => exact ⟨true, rfl, hide (.inl ⟨rfl, fun h => (by have := h (by have := HC.out; omega); rw [hx] at this; cases this)⟩), HX, HB⟩
          · go_wp2_with (go_at_call 27; refine (l07In_any _ _ _ _).mono ?_; rintro e w' ⟨rfl, hw⟩; obtain rfl := hw.symm)
            go_meet
            case rel => exact ⟨false, rfl, hide (.inr ⟨rfl, fun h => h (fun _ => hx)⟩), HX, HB⟩
        have z7 : (p.i0 j == 7) = false := by simp; omega
        have z8 : (p.i0 j == 8) = false := by simp; omega
        go_wp2_with fail
        go_meet
        case rel => exact ⟨false, rfl, hide (.inr ⟨rfl, fun h => h (fun h => by omega)⟩), HX, HB⟩
      case rest =>
        obtain ⟨b9, rfl, HR9, HX, HB⟩ := hcut
        rcases HR9.out with ⟨rfl, q9⟩ | ⟨rfl, q9⟩
        case inl =>
          have QQ := hide q9
          clear q9 HR9
          go_wp2_with fail
          go_ret
          exact ⟨_, rfl, .inl ⟨Q1.out, .inl ⟨Q2.out, .inl ⟨Q3.out, .inr ⟨QQ.out, rfl⟩⟩⟩⟩, HB.out⟩
        have Q4 := hide (Classical.not_not.1 q9)
        clear q9 HR9
        rename World => w6
        go_upto_region 14 with (fail)
        go_cut [72] (fun s wc => ∃ b9 : Bool, s = .bool b9 ∧ Hid (BoolR (¬ protoOk P k p j) b9) ∧ Hid (XI wc w.heap.size v k p (.slice a4 p.nu k4) s5 (.slice (some ⟨b, o, none⟩) p.ni cap) s7 j) ∧ Hid (Below w.heap.size w wc))
        case first =>
          have y0 : w6.cell? ⟨w.heap.size, 0, none⟩ = some (v) := HX.out.x.cell (j := 0) (by omega)
          have y1 : w6.cell? ⟨w.heap.size, 1, none⟩ = some (.int .i64 k) := HX.out.x.cell (j := 1) (by omega)
          have y2 : w6.cell? ⟨w.heap.size, 2, none⟩ = some (.int .i64 p.params) := HX.out.x.cell (j := 2) (by omega)
          have y3 : w6.cell? ⟨w.heap.size, 3, none⟩ = some (.int .i64 p.regs) := HX.out.x.cell (j := 3) (by omega)
          have y4 : w6.cell? ⟨w.heap.size, 4, none⟩ = some (.int .i64 p.line) := HX.out.x.cell (j := 4) (by omega)
          have y5 : w6.cell? ⟨w.heap.size, 5, none⟩ = some (.bool p.dots) := HX.out.x.cell (j := 5) (by omega)
          have y6 : w6.cell? ⟨w.heap.size, 6, none⟩ = some (.slice a4 p.nu k4) := HX.out.x.cell (j := 6) (by omega)
          have y7 : w6.cell? ⟨w.heap.size, 7, none⟩ = some (s5) := HX.out.x.cell (j := 7) (by omega)
          have y8 : w6.cell? ⟨w.heap.size, 8, none⟩ = some (.slice (some ⟨b, o, none⟩) p.ni cap) := HX.out.x.cell (j := 8) (by omega)
          have y9 : w6.cell? ⟨w.heap.size, 9, none⟩ = some (s7) := HX.out.x.cell (j := 9) (by omega)
          have t0 : w6.cell? ⟨w.heap.size + 1, 0, none⟩ = some (.int .i64 (p.i0 j)) := HX.out.i.cell (j := 0) (by omega)
          have t1 : w6.cell? ⟨w.heap.size + 1, 1, none⟩ = some (.int .i64 (p.i1 j)) := HX.out.i.cell (j := 1) (by omega)
          have t2 : w6.cell? ⟨w.heap.size + 1, 2, none⟩ = some (.int .i64 (p.i2 j)) := HX.out.i.cell (j := 2) (by omega)
          have t3 : w6.cell? ⟨w.heap.size + 1, 3, none⟩ = some (.int .i64 (p.i3 j)) := HX.out.i.cell (j := 3) (by omega)
          by_cases h32 : p.i0 j = 32
          · have z32 : (p.i0 j == 32) = true := by rw [h32]; rfl
            have HC := hide h32
            clear h32
            rcases hx : inI (p.i2 j) 0 ((k : Int) - 1) with _ | _
            · go_wp2_with (go_at_call 27; refine (l07In_any _ _ _ _).mono ?_; rintro e w' ⟨rfl, hw⟩; obtain rfl := hw.symm)
              go_meet
              case rel => exact ⟨true, rfl, hide (.inl ⟨rfl, fun h => (by have := (h HC.out).1; rw [hx] at this; cases this)⟩), HX, HB⟩
            obtain ⟨m, hm⟩ : ∃ m : Nat, p.i2 j = (m : Int) ∧ m < n := by
              simp [inI] at hx
              exact ⟨(p.i2 j).toNat, by omega, by omega⟩
            have HM := hide hm
            clear hm
            go_wp2_with (go_at_call 27; refine (l07In_any _ _ _ _).mono ?_; rintro e w' ⟨rfl, hw⟩; obtain rfl := hw.symm)
            rw [HM.out.1]
            refine (ups_any v n P k m p _ s5 _ s7 (p.i0 j) (p.i1 j) (p.i3 j) w6 HM.out.2 hn (HFA.out m HM.out.2) hs1 (HV.out.low HB.out (Nat.le_refl _)) (HA.out.u.low HB.out (Nat.le_refl _))).mono ?_
            rintro e w7 ⟨r, rfl, hr, hb6⟩
            have HX := hide (HX.out.low hb6)
            have HB := hide (HB.out.trans (hb6.mono HB.out.size))
            clear y0 y1 y2 y3 y4 y5 y6 y7 y8 y9 t0 t1 t2 t3 hb6
            rcases hr with ⟨rfl, q5⟩ | ⟨rfl, q5⟩
            · have Q5 := hide q5
              clear q5
              go_wp2_with fail
              go_meet
              case rel => exact ⟨false, rfl, hide (.inr ⟨rfl, fun h => h (fun _ => ⟨hx, by rw [HM.out.1]; exact Q5.out⟩)⟩), HX, HB⟩
            · have Q5 := hide q5
              clear q5
              go_wp2_with fail
              go_meet
              case rel => exact ⟨true, rfl, hide (.inl ⟨rfl, fun h => Q5.out (by have := (h HC.out).2; rw [HM.out.1] at this; exact this)⟩), HX, HB⟩
          have z32 : (p.i0 j == 32) = false := by simp; omega
          go_wp2_with fail
          go_meet
          case rel => exact ⟨false, rfl, hide (.inr ⟨rfl, fun h => h (fun h => by omega)⟩), HX, HB⟩
        case rest =>
          obtain ⟨b9, rfl, HR9, HX, HB⟩ := hcut
          rcases HR9.out with ⟨rfl, q9⟩ | ⟨rfl, q9⟩
          case inl =>
            have QQ := hide q9
            clear q9 HR9
            go_wp2_with fail
            go_ret
            exact ⟨_, rfl, .inl ⟨Q1.out, .inl ⟨Q2.out, .inl ⟨Q3.out, .inl ⟨Q4.out, .inr ⟨QQ.out, rfl⟩⟩⟩⟩⟩, HB.out⟩
          have Q5 := hide (Classical.not_not.1 q9)
          clear q9 HR9
          rename World => w7
          have y0 : w7.cell? ⟨w.heap.size, 0, none⟩ = some (v) := HX.out.x.cell (j := 0) (by omega)
          have y1 : w7.cell? ⟨w.heap.size, 1, none⟩ = some (.int .i64 k) := HX.out.x.cell (j := 1) (by omega)
          have y2 : w7.cell? ⟨w.heap.size, 2, none⟩ = some (.int .i64 p.params) := HX.out.x.cell (j := 2) (by omega)
          have y3 : w7.cell? ⟨w.heap.size, 3, none⟩ = some (.int .i64 p.regs) := HX.out.x.cell (j := 3) (by omega)
          have y4 : w7.cell? ⟨w.heap.size, 4, none⟩ = some (.int .i64 p.line) := HX.out.x.cell (j := 4) (by omega)
          have y5 : w7.cell? ⟨w.heap.size, 5, none⟩ = some (.bool p.dots) := HX.out.x.cell (j := 5) (by omega)
          have y6 : w7.cell? ⟨w.heap.size, 6, none⟩ = some (.slice a4 p.nu k4) := HX.out.x.cell (j := 6) (by omega)
          have y7 : w7.cell? ⟨w.heap.size, 7, none⟩ = some (s5) := HX.out.x.cell (j := 7) (by omega)
          have y8 : w7.cell? ⟨w.heap.size, 8, none⟩ = some (.slice (some ⟨b, o, none⟩) p.ni cap) := HX.out.x.cell (j := 8) (by omega)
          have y9 : w7.cell? ⟨w.heap.size, 9, none⟩ = some (s7) := HX.out.x.cell (j := 9) (by omega)
          have t0 : w7.cell? ⟨w.heap.size + 1, 0, none⟩ = some (.int .i64 (p.i0 j)) := HX.out.i.cell (j := 0) (by omega)
          have t1 : w7.cell? ⟨w.heap.size + 1, 1, none⟩ = some (.int .i64 (p.i1 j)) := HX.out.i.cell (j := 1) (by omega)
          have t2 : w7.cell? ⟨w.heap.size + 1, 2, none⟩ = some (.int .i64 (p.i2 j)) := HX.out.i.cell (j := 2) (by omega)
          have t3 : w7.cell? ⟨w.heap.size + 1, 3, none⟩ = some (.int .i64 (p.i3 j)) := HX.out.i.cell (j := 3) (by omega)
          go_wp2_with fail
          clear y0 y1 y2 y3 y4 y5 y6 y7 y8 y9 t0 t1 t2 t3
          refine (jump_any v k p _ s5 _ s7 j w7 hj hs3 HBy.out (HA.out.i.low HB.out (Nat.le_refl _))).mono ?_
          rintro e w8 ⟨r, rfl, hr, hb9⟩
          have HX := hide (HX.out.low hb9)
          have HB := hide (HB.out.trans (hb9.mono HB.out.size))
          clear hb9
          rcases hr with ⟨rfl, q9⟩ | ⟨rfl, q9⟩
          case inr =>
            have Q6 := hide q9
            clear q9
            go_wp2_with fail
            go_ret
            exact ⟨_, rfl, .inl ⟨Q1.out, .inl ⟨Q2.out, .inl ⟨Q3.out, .inl ⟨Q4.out, .inl ⟨Q5.out, .inr ⟨Q6.out, rfl⟩⟩⟩⟩⟩⟩, HB.out⟩
          have Q6 := hide q9
          clear q9
          have y0 : w8.cell? ⟨w.heap.size, 0, none⟩ = some (v) := HX.out.x.cell (j := 0) (by omega)
          have y1 : w8.cell? ⟨w.heap.size, 1, none⟩ = some (.int .i64 k) := HX.out.x.cell (j := 1) (by omega)
          have y2 : w8.cell? ⟨w.heap.size, 2, none⟩ = some (.int .i64 p.params) := HX.out.x.cell (j := 2) (by omega)
          have y3 : w8.cell? ⟨w.heap.size, 3, none⟩ = some (.int .i64 p.regs) := HX.out.x.cell (j := 3) (by omega)
          have y4 : w8.cell? ⟨w.heap.size, 4, none⟩ = some (.int .i64 p.line) := HX.out.x.cell (j := 4) (by omega)
          have y5 : w8.cell? ⟨w.heap.size, 5, none⟩ = some (.bool p.dots) := HX.out.x.cell (j := 5) (by omega)
          have y6 : w8.cell? ⟨w.heap.size, 6, none⟩ = some (.slice a4 p.nu k4) := HX.out.x.cell (j := 6) (by omega)
          have y7 : w8.cell? ⟨w.heap.size, 7, none⟩ = some (s5) := HX.out.x.cell (j := 7) (by omega)
          have y8 : w8.cell? ⟨w.heap.size, 8, none⟩ = some (.slice (some ⟨b, o, none⟩) p.ni cap) := HX.out.x.cell (j := 8) (by omega)
          have y9 : w8.cell? ⟨w.heap.size, 9, none⟩ = some (s7) := HX.out.x.cell (j := 9) (by omega)
          have t0 : w8.cell? ⟨w.heap.size + 1, 0, none⟩ = some (.int .i64 (p.i0 j)) := HX.out.i.cell (j := 0) (by omega)
          have t1 : w8.cell? ⟨w.heap.size + 1, 1, none⟩ = some (.int .i64 (p.i1 j)) := HX.out.i.cell (j := 1) (by omega)
          have t2 : w8.cell? ⟨w.heap.size + 1, 2, none⟩ = some (.int .i64 (p.i2 j)) := HX.out.i.cell (j := 2) (by omega)
          have t3 : w8.cell? ⟨w.heap.size + 1, 3, none⟩ = some (.int .i64 (p.i3 j)) := HX.out.i.cell (j := 3) (by omega)
          go_wp2_with fail
          clear y0 y1 y2 y3 y4 y5 y6 y7 y8 y9 t0 t1 t2 t3
          refine (open_any v k p _ s5 _ s7 j w8 hj hs3 HBy.out (HA.out.i.low HB.out (Nat.le_refl _))).mono ?_
          rintro e w9 ⟨r, rfl, hr, hb9⟩
          have HX := hide (HX.out.low hb9)
          have HB := hide (HB.out.trans (hb9.mono HB.out.size))
          clear hb9
          rcases hr with ⟨rfl, q9⟩ | ⟨rfl, q9⟩
          case inr =>
            have Q7 := hide q9
            clear q9
            go_wp2_with fail
            go_ret
            exact ⟨_, rfl, .inl ⟨Q1.out, .inl ⟨Q2.out, .inl ⟨Q3.out, .inl ⟨Q4.out, .inl ⟨Q5.out, .inl ⟨Q6.out, .inr ⟨Q7.out, rfl⟩⟩⟩⟩⟩⟩⟩, HB.out⟩
          have Q7 := hide q9
          clear q9
          go_upto_region 20 with (fail)
          go_cut [8] (fun s wc => ∃ b9 : Bool, s = .bool b9 ∧ Hid (BoolR (p.i0 j = 30 ∨ p.i0 j = 29 ∨ p.i0 j = 25) b9) ∧ Hid (XI wc w.heap.size v k p (.slice a4 p.nu k4) s5 (.slice (some ⟨b, o, none⟩) p.ni cap) s7 j) ∧ Hid (Below w.heap.size w wc))
          case first =>
            have y0 : w9.cell? ⟨w.heap.size, 0, none⟩ = some (v) := HX.out.x.cell (j := 0) (by omega)
            have y1 : w9.cell? ⟨w.heap.size, 1, none⟩ = some (.int .i64 k) := HX.out.x.cell (j := 1) (by omega)
            have y2 : w9.cell? ⟨w.heap.size, 2, none⟩ = some (.int .i64 p.params) := HX.out.x.cell (j := 2) (by omega)
            have y3 : w9.cell? ⟨w.heap.size, 3, none⟩ = some (.int .i64 p.regs) := HX.out.x.cell (j := 3) (by omega)
            have y4 : w9.cell? ⟨w.heap.size, 4, none⟩ = some (.int .i64 p.line) := HX.out.x.cell (j := 4) (by omega)
            have y5 : w9.cell? ⟨w.heap.size, 5, none⟩ = some (.bool p.dots) := HX.out.x.cell (j := 5) (by omega)
            have y6 : w9.cell? ⟨w.heap.size, 6, none⟩ = some (.slice a4 p.nu k4) := HX.out.x.cell (j := 6) (by omega)
            have y7 : w9.cell? ⟨w.heap.size, 7, none⟩ = some (s5) := HX.out.x.cell (j := 7) (by omega)
            have y8 : w9.cell? ⟨w.heap.size, 8, none⟩ = some (.slice (some ⟨b, o, none⟩) p.ni cap) := HX.out.x.cell (j := 8) (by omega)
            have y9 : w9.cell? ⟨w.heap.size, 9, none⟩ = some (s7) := HX.out.x.cell (j := 9) (by omega)
            have t0 : w9.cell? ⟨w.heap.size + 1, 0, none⟩ = some (.int .i64 (p.i0 j)) := HX.out.i.cell (j := 0) (by omega)
            have t1 : w9.cell? ⟨w.heap.size + 1, 1, none⟩ = some (.int .i64 (p.i1 j)) := HX.out.i.cell (j := 1) (by omega)
            have t2 : w9.cell? ⟨w.heap.size + 1, 2, none⟩ = some (.int .i64 (p.i2 j)) := HX.out.i.cell (j := 2) (by omega)
            have t3 : w9.cell? ⟨w.heap.size + 1, 3, none⟩ = some (.int .i64 (p.i3 j)) := HX.out.i.cell (j := 3) (by omega)
            by_cases h30 : p.i0 j = 30
            · have z30 : (p.i0 j == 30) = true := by rw [h30]; rfl
              have z29 : (p.i0 j == 29) = false := by rw [h30]; rfl
              have z25 : (p.i0 j == 25) = false := by rw [h30]; rfl
              have HC := hide h30
              clear h30
              go_wp2_with fail
              go_meet
              case rel => exact ⟨true, rfl, hide (.inl ⟨rfl, by have := HC.out; omega⟩), HX, HB⟩
            by_cases h29 : p.i0 j = 29
            · have z30 : (p.i0 j == 30) = false := by rw [h29]; rfl
              have z29 : (p.i0 j == 29) = true := by rw [h29]; rfl
              have z25 : (p.i0 j == 25) = false := by rw [h29]; rfl
              have HC := hide h29
              clear h29
              go_wp2_with fail
              go_meet
              case rel => exact ⟨true, rfl, hide (.inl ⟨rfl, by have := HC.out; omega⟩), HX, HB⟩
            by_cases h25 : p.i0 j = 25
            · have z30 : (p.i0 j == 30) = false := by rw [h25]; rfl
              have z29 : (p.i0 j == 29) = false := by rw [h25]; rfl
              have z25 : (p.i0 j == 25) = true := by rw [h25]; rfl
              have HC := hide h25
              clear h25
              go_wp2_with fail
              go_meet
              case rel => exact ⟨true, rfl, hide (.inl ⟨rfl, by have := HC.out; omega⟩), HX, HB⟩
            have z30 : (p.i0 j == 30) = false := by simp; omega
            have z29 : (p.i0 j == 29) = false := by simp; omega
            have z25 : (p.i0 j == 25) = false := by simp; omega
            go_wp2_with fail
            go_meet
            case rel => exact ⟨false, rfl, hide (.inr ⟨rfl, by omega⟩), HX, HB⟩
          case rest =>
            obtain ⟨lst, rfl, HLst, HX, HB⟩ := hcut
            rename World => wA
            go_upto_region 21 with (fail)
            go_cut [104] (fun s wc => ∃ b9 : Bool, s = .bool b9 ∧ Hid (BoolR (¬ endOk p j) b9) ∧ Hid (XI wc w.heap.size v k p (.slice a4 p.nu k4) s5 (.slice (some ⟨b, o, none⟩) p.ni cap) s7 j) ∧ Hid (Below w.heap.size w wc))
            case first =>
              have y0 : wA.cell? ⟨w.heap.size, 0, none⟩ = some (v) := HX.out.x.cell (j := 0) (by omega)
              have y1 : wA.cell? ⟨w.heap.size, 1, none⟩ = some (.int .i64 k) := HX.out.x.cell (j := 1) (by omega)
              have y2 : wA.cell? ⟨w.heap.size, 2, none⟩ = some (.int .i64 p.params) := HX.out.x.cell (j := 2) (by omega)
              have y3 : wA.cell? ⟨w.heap.size, 3, none⟩ = some (.int .i64 p.regs) := HX.out.x.cell (j := 3) (by omega)
              have y4 : wA.cell? ⟨w.heap.size, 4, none⟩ = some (.int .i64 p.line) := HX.out.x.cell (j := 4) (by omega)
              have y5 : wA.cell? ⟨w.heap.size, 5, none⟩ = some (.bool p.dots) := HX.out.x.cell (j := 5) (by omega)
              have y6 : wA.cell? ⟨w.heap.size, 6, none⟩ = some (.slice a4 p.nu k4) := HX.out.x.cell (j := 6) (by omega)
              have y7 : wA.cell? ⟨w.heap.size, 7, none⟩ = some (s5) := HX.out.x.cell (j := 7) (by omega)
              have y8 : wA.cell? ⟨w.heap.size, 8, none⟩ = some (.slice (some ⟨b, o, none⟩) p.ni cap) := HX.out.x.cell (j := 8) (by omega)
              have y9 : wA.cell? ⟨w.heap.size, 9, none⟩ = some (s7) := HX.out.x.cell (j := 9) (by omega)
              have t0 : wA.cell? ⟨w.heap.size + 1, 0, none⟩ = some (.int .i64 (p.i0 j)) := HX.out.i.cell (j := 0) (by omega)
              have t1 : wA.cell? ⟨w.heap.size + 1, 1, none⟩ = some (.int .i64 (p.i1 j)) := HX.out.i.cell (j := 1) (by omega)
              have t2 : wA.cell? ⟨w.heap.size + 1, 2, none⟩ = some (.int .i64 (p.i2 j)) := HX.out.i.cell (j := 2) (by omega)
              have t3 : wA.cell? ⟨w.heap.size + 1, 3, none⟩ = some (.int .i64 (p.i3 j)) := HX.out.i.cell (j := 3) (by omega)
              by_cases hend : j + 1 = p.ni
              · have zend : ((j : Int) == (p.ni : Int) - 1) = true := by simp; omega
                go_wp2_with fail
                go_meet
                case rel => exact ⟨!lst, rfl, hide (by
                  rcases HLst.out with ⟨rfl, h9⟩ | ⟨rfl, h9⟩
                  · exact .inr ⟨rfl, fun h => h (fun _ => h9)⟩
                  · exact .inl ⟨rfl, fun h => h9 (h hend)⟩), HX, HB⟩
              · have zend : ((j : Int) == (p.ni : Int) - 1) = false := by simp; omega
                go_wp2_with fail
                go_meet
                case rel => exact ⟨false, rfl, hide (.inr ⟨rfl, fun h => h (fun h => absurd h hend)⟩), HX, HB⟩
            case rest =>
              obtain ⟨b9, rfl, HR9, HX, HB⟩ := hcut
              rcases HR9.out with ⟨rfl, q9⟩ | ⟨rfl, q9⟩
              case inl =>
                have QQ := hide q9
                clear q9 HR9
                go_wp2_with fail
                go_ret
                exact ⟨_, rfl, .inl ⟨Q1.out, .inl ⟨Q2.out, .inl ⟨Q3.out, .inl ⟨Q4.out, .inl ⟨Q5.out, .inl ⟨Q6.out, .inl ⟨Q7.out, .inr ⟨QQ.out, rfl⟩⟩⟩⟩⟩⟩⟩⟩, HB.out⟩
              have Q8 := hide (Classical.not_not.1 q9)
              clear q9 HR9
              rename World => wB
              go_upto_region 23 with (fail)
              go_cut [113] (fun s wc => ∃ b9 : Bool, s = .bool b9 ∧ Hid (BoolR (¬ dotsOk p j) b9) ∧ Hid (XI wc w.heap.size v k p (.slice a4 p.nu k4) s5 (.slice (some ⟨b, o, none⟩) p.ni cap) s7 j) ∧ Hid (Below w.heap.size w wc))
              case first =>
                have y0 : wB.cell? ⟨w.heap.size, 0, none⟩ = some (v) := HX.out.x.cell (j := 0) (by omega)
                have y1 : wB.cell? ⟨w.heap.size, 1, none⟩ = some (.int .i64 k) := HX.out.x.cell (j := 1) (by omega)
                have y2 : wB.cell? ⟨w.heap.size, 2, none⟩ = some (.int .i64 p.params) := HX.out.x.cell (j := 2) (by omega)
                have y3 : wB.cell? ⟨w.heap.size, 3, none⟩ = some (.int .i64 p.regs) := HX.out.x.cell (j := 3) (by omega)
                have y4 : wB.cell? ⟨w.heap.size, 4, none⟩ = some (.int .i64 p.line) := HX.out.x.cell (j := 4) (by omega)
                have y5 : wB.cell? ⟨w.heap.size, 5, none⟩ = some (.bool p.dots) := HX.out.x.cell (j := 5) (by omega)
                have y6 : wB.cell? ⟨w.heap.size, 6, none⟩ = some (.slice a4 p.nu k4) := HX.out.x.cell (j := 6) (by omega)
                have y7 : wB.cell? ⟨w.heap.size, 7, none⟩ = some (s5) := HX.out.x.cell (j := 7) (by omega)
                have y8 : wB.cell? ⟨w.heap.size, 8, none⟩ = some (.slice (some ⟨b, o, none⟩) p.ni cap) := HX.out.x.cell (j := 8) (by omega)
                have y9 : wB.cell? ⟨w.heap.size, 9, none⟩ = some (s7) := HX.out.x.cell (j := 9) (by omega)
                have t0 : wB.cell? ⟨w.heap.size + 1, 0, none⟩ = some (.int .i64 (p.i0 j)) := HX.out.i.cell (j := 0) (by omega)
                have t1 : wB.cell? ⟨w.heap.size + 1, 1, none⟩ = some (.int .i64 (p.i1 j)) := HX.out.i.cell (j := 1) (by omega)
                have t2 : wB.cell? ⟨w.heap.size + 1, 2, none⟩ = some (.int .i64 (p.i2 j)) := HX.out.i.cell (j := 2) (by omega)
                have t3 : wB.cell? ⟨w.heap.size + 1, 3, none⟩ = some (.int .i64 (p.i3 j)) := HX.out.i.cell (j := 3) (by omega)
                by_cases h31 : p.i0 j = 31
                · have z31 : (p.i0 j == 31) = true := by rw [h31]; rfl
                  have HC := hide h31
                  clear h31
                  go_wp2_with fail
                  go_meet
                  case rel => exact ⟨!p.dots, rfl, hide (by
                    rcases hd : p.dots with _ | _
                    · exact .inl ⟨rfl, fun h => by have := h HC.out; rw [hd] at this; cases this⟩
                    · exact .inr ⟨rfl, fun h => h (fun _ => hd)⟩), HX, HB⟩
                have z31 : (p.i0 j == 31) = false := by simp; omega
                go_wp2_with fail
                go_meet
                case rel => exact ⟨false, rfl, hide (.inr ⟨rfl, fun h => h (fun h => by omega)⟩), HX, HB⟩
              case rest =>
                obtain ⟨b9, rfl, HR9, HX, HB⟩ := hcut
                rcases HR9.out with ⟨rfl, q9⟩ | ⟨rfl, q9⟩
                case inl =>
                  have QQ := hide q9
                  clear q9 HR9
                  go_wp2_with fail
                  go_ret
                  exact ⟨_, rfl, .inl ⟨Q1.out, .inl ⟨Q2.out, .inl ⟨Q3.out, .inl ⟨Q4.out, .inl ⟨Q5.out, .inl ⟨Q6.out, .inl ⟨Q7.out, .inl ⟨Q8.out, .inr ⟨QQ.out, rfl⟩⟩⟩⟩⟩⟩⟩⟩⟩, HB.out⟩
                have Q9 := hide (Classical.not_not.1 q9)
                clear q9 HR9
                rename World => wC
                have y0 : wC.cell? ⟨w.heap.size, 0, none⟩ = some (v) := HX.out.x.cell (j := 0) (by omega)
                have y1 : wC.cell? ⟨w.heap.size, 1, none⟩ = some (.int .i64 k) := HX.out.x.cell (j := 1) (by omega)
                have y2 : wC.cell? ⟨w.heap.size, 2, none⟩ = some (.int .i64 p.params) := HX.out.x.cell (j := 2) (by omega)
                have y3 : wC.cell? ⟨w.heap.size, 3, none⟩ = some (.int .i64 p.regs) := HX.out.x.cell (j := 3) (by omega)
                have y4 : wC.cell? ⟨w.heap.size, 4, none⟩ = some (.int .i64 p.line) := HX.out.x.cell (j := 4) (by omega)
                have y5 : wC.cell? ⟨w.heap.size, 5, none⟩ = some (.bool p.dots) := HX.out.x.cell (j := 5) (by omega)
                have y6 : wC.cell? ⟨w.heap.size, 6, none⟩ = some (.slice a4 p.nu k4) := HX.out.x.cell (j := 6) (by omega)
                have y7 : wC.cell? ⟨w.heap.size, 7, none⟩ = some (s5) := HX.out.x.cell (j := 7) (by omega)
                have y8 : wC.cell? ⟨w.heap.size, 8, none⟩ = some (.slice (some ⟨b, o, none⟩) p.ni cap) := HX.out.x.cell (j := 8) (by omega)
                have y9 : wC.cell? ⟨w.heap.size, 9, none⟩ = some (s7) := HX.out.x.cell (j := 9) (by omega)
                have t0 : wC.cell? ⟨w.heap.size + 1, 0, none⟩ = some (.int .i64 (p.i0 j)) := HX.out.i.cell (j := 0) (by omega)
                have t1 : wC.cell? ⟨w.heap.size + 1, 1, none⟩ = some (.int .i64 (p.i1 j)) := HX.out.i.cell (j := 1) (by omega)
                have t2 : wC.cell? ⟨w.heap.size + 1, 2, none⟩ = some (.int .i64 (p.i2 j)) := HX.out.i.cell (j := 2) (by omega)
                have t3 : wC.cell? ⟨w.heap.size + 1, 3, none⟩ = some (.int .i64 (p.i3 j)) := HX.out.i.cell (j := 3) (by omega)
                go_wp2_with fail
                clear y0 y1 y2 y3 y4 y5 y6 y7 y8 y9 t0 t1 t2 t3
                refine (counts_any v k p _ s5 _ s7 (p.i0 j) (p.i1 j) (p.i2 j) (p.i3 j) wC hr0 hr1 (HBy.out j hj).1 (HBy.out j hj).2).mono ?_
                rintro e wD ⟨r, rfl, hr, hb9⟩
                have HB := hide (HB.out.trans (hb9.mono HB.out.size))
                clear hb9 HX
                rcases hr with ⟨rfl, q9⟩ | ⟨rfl, q9⟩
                · have QA := hide q9
                  clear q9
                  go_wp2_with fail
                  go_ret
                  exact ⟨_, rfl, .inl ⟨Q1.out, .inl ⟨Q2.out, .inl ⟨Q3.out, .inl ⟨Q4.out, .inl ⟨Q5.out, .inl ⟨Q6.out, .inl ⟨Q7.out, .inl ⟨Q8.out, .inl ⟨Q9.out, .inl ⟨QA.out, rfl⟩⟩⟩⟩⟩⟩⟩⟩⟩⟩, HB.out⟩
                · have QA := hide q9
                  clear q9
                  go_wp2_with fail
                  go_ret
                  exact ⟨_, rfl, .inl ⟨Q1.out, .inl ⟨Q2.out, .inl ⟨Q3.out, .inl ⟨Q4.out, .inl ⟨Q5.out, .inl ⟨Q6.out, .inl ⟨Q7.out, .inl ⟨Q8.out, .inl ⟨Q9.out, .inr ⟨QA.out, rfl⟩⟩⟩⟩⟩⟩⟩⟩⟩⟩, HB.out⟩
end Go.Proofs.YtgnbhhgpaldheaaGreat
