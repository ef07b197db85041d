import Derived.Test.YtplfgfdlcfdfdaaBA
namespace Go.Proofs.Ytplfgfdlcfdfdaa
open Go Go.RowKit
set_option linter.unusedVariables false

set_option maxHeartbeats 1600000 in
set_option maxRecDepth 100000 in
theorem eqProto_any (p : PV) (s4 s5 s6 s7 t4 t5 t6 t7 : Value) (w : World) (hf : p.fits 1048576) (h : PVA w p s4 s5 s6 s7) (h' : PVA w p t4 t5 t6 t7) :
    Calls Try.prog 38 #[p.agg s4 s5 s6 s7, p.agg t4 t5 t6 t7] w fun e w' => e = .returned (.bool true) ∧ Below w.heap.size w w' := by
  obtain ⟨hs1, hs2, hs3, hs4, -⟩ := hf
  have HB := hide (b_2 w (.cells #[.int .i64 p.params, .int .i64 p.regs, .int .i64 p.line, .bool p.dots, s4, s5, s6, s7] 46) (.cells #[.int .i64 p.params, .int .i64 p.regs, .int .i64 p.line, .bool p.dots, t4, t5, t6, t7] 46))
  have HP := hide ((PC.mk w 46 p s4 s5 s6 s7).low (b_1 _ (.cells #[.int .i64 p.params, .int .i64 p.regs, .int .i64 p.line, .bool p.dots, t4, t5, t6, t7] 46)) (by simp))
  have hQ := PC.mk (w.alloc (.cells #[.int .i64 p.params, .int .i64 p.regs, .int .i64 p.line, .bool p.dots, s4, s5, s6, s7] 46)) 46 p t4 t5 t6 t7
  have u1 : (w.alloc (.cells #[.int .i64 p.params, .int .i64 p.regs, .int .i64 p.line, .bool p.dots, s4, s5, s6, s7] 46)).heap.size = w.heap.size + 1 := by simp
  rw [u1] at hQ
  have HQ := hide hQ
  have HA := hide (h.low HB.out (Nat.le_refl _))
  have HA' := hide (h'.low HB.out (Nat.le_refl _))
  clear h h' hQ u1
  unfold PV.agg
  go_enter Try.func38, Try.ntmps38
  go_wp2_with fail
  generalize (w.alloc (.cells #[.int .i64 p.params, .int .i64 p.regs, .int .i64 p.line, .bool p.dots, s4, s5, s6, s7] 46)).alloc (.cells #[.int .i64 p.params, .int .i64 p.regs, .int .i64 p.line, .bool p.dots, t4, t5, t6, t7] 46) = w1 at *
  refine (eqUpS_any s4 t4 p.nu p.u0 p.u1 w1 hs1 HA.out.u HA'.out.u).mono ?_
  rintro e w2 ⟨rfl, hb⟩
  have HB := hide (HB.out.trans (hb.mono HB.out.size))
  have HP := hide (HP.out.low hb HP.out.1)
  have HQ := hide (HQ.out.low hb HQ.out.1)
  have HA := hide (HA.out.low hb (Nat.le_refl _))
  have HA' := hide (HA'.out.low hb (Nat.le_refl _))
  clear hb
  obtain ⟨-, -, -, -, -, c4, c5, c6, c7⟩ := HP.out
  obtain ⟨-, -, -, -, -, d4, d5, d6, d7⟩ := HQ.out
  go_wp2_with fail
  clear c4 c5 c6 c7 d4 d5 d6 d7
  refine (eqConstS_any s5 t5 p.nc p.c0 p.c1 p.c2 p.c3 w2 hs2 HA.out.c HA'.out.c).mono ?_
  rintro e w3 ⟨rfl, hb⟩
  have HB := hide (HB.out.trans (hb.mono HB.out.size))
  have HP := hide (HP.out.low hb HP.out.1)
  have HQ := hide (HQ.out.low hb HQ.out.1)
  have HA := hide (HA.out.low hb (Nat.le_refl _))
  have HA' := hide (HA'.out.low hb (Nat.le_refl _))
  clear hb
  obtain ⟨-, -, -, -, -, c4, c5, c6, c7⟩ := HP.out
  obtain ⟨-, -, -, -, -, d4, d5, d6, d7⟩ := HQ.out
  go_wp2_with fail
  clear c4 c5 c6 c7 d4 d5 d6 d7
  refine (eqInstrS_any s6 t6 p.ni p.i0 p.i1 p.i2 p.i3 w3 hs3 HA.out.i HA'.out.i).mono ?_
  rintro e w4 ⟨rfl, hb⟩
  have HB := hide (HB.out.trans (hb.mono HB.out.size))
  have HP := hide (HP.out.low hb HP.out.1)
  have HQ := hide (HQ.out.low hb HQ.out.1)
  have HA := hide (HA.out.low hb (Nat.le_refl _))
  have HA' := hide (HA'.out.low hb (Nat.le_refl _))
  clear hb
  obtain ⟨-, -, -, -, -, c4, c5, c6, c7⟩ := HP.out
  obtain ⟨-, -, -, -, -, d4, d5, d6, d7⟩ := HQ.out
  go_wp2_with fail
  clear c4 c5 c6 c7 d4 d5 d6 d7
  refine (eqIntS_any s7 t7 p.nl p.l0 w4 hs4 HA.out.l HA'.out.l).mono ?_
  rintro e w5 ⟨rfl, hb⟩
  have HB := hide (HB.out.trans (hb.mono HB.out.size))
  go_wp2
  go_ret
  exact ⟨rfl, HB.out⟩

set_option maxHeartbeats 1600000 in
set_option maxRecDepth 100000 in
theorem eqProtoS_any (v v' : Value) (n : Nat) (P : Nat → PV) (w : World) (hn : n ≤ 1048576) (hf : allFit n P 1048576) (h : ProsA w v n P) (h' : ProsA w v' n P) :
    Calls Try.prog 25 #[v, v'] w fun e w' => e = .returned (.bool true) ∧ Below w.heap.size w w' := by
  by_cases h0 : n = 0
  · subst h0
    obtain ⟨a, cap, rfl⟩ := h.val
    obtain ⟨a', cap', rfl⟩ := h'.val
    clear h h' hf
    go_enter Try.func25, Try.ntmps25
    go_wp2
    go_loopw [5] (fun iv wr => iv = .int .i64 0 ∧ wr = w) (fun _ _ => 0)
    case atStart => exact ⟨rfl, rfl⟩
    case round =>
      obtain ⟨rfl, rfl⟩ := hrel
      go_wp2
      go_ret
      exact ⟨rfl, Below.refl _ _⟩
  · rcases h with ⟨h9, _⟩ | ⟨b, o, cap, rfl, hb, hcap, hc⟩
    · exact absurd h9 h0
    rcases h' with ⟨h9, _⟩ | ⟨b', o', cap', rfl, hb', hcap', hc'⟩
    · exact absurd h9 h0
    have HC := hide hc
    have HC' := hide hc'
    have HF := hide hf
    clear hc hc' hf
    go_enter Try.func25, Try.ntmps25
    go_wp2
    go_loopw [5] (fun iv wr => ∃ i : Nat, i ≤ n ∧ iv = .int .i64 i ∧ Below w.heap.size w wr) (fun iv _ => match iv with | .int _ x => n - x.toNat | _ => 0)
    case atStart => exact ⟨0, by omega, rfl, Below.refl _ _⟩
    case round =>
      obtain ⟨i, hi9, rfl, hbw⟩ := hrel
      by_cases hin : i < n
      · obtain ⟨s4, s5, s6, s7, hc8, hpva⟩ := HC.out i hin
        obtain ⟨t4, t5, t6, t7, hd8, hpvb⟩ := HC'.out i hin
        have HP := hide (hpva.low hbw (Nat.le_refl _))
        have HP' := hide (hpvb.low hbw (Nat.le_refl _))
        obtain ⟨c0, c1, c2, c3, c4, c5, c6, c7⟩ := hc8.low hbw hb
        obtain ⟨e0, e1, e2, e3, e4, e5, e6, e7⟩ := hd8.low hbw hb'
        clear hc8 hpva hd8 hpvb
        have hlb : b < wr.heap.size := Nat.lt_of_lt_of_le hb hbw.size
        have hlb' : b' < wr.heap.size := Nat.lt_of_lt_of_le hb' hbw.size
        have HB := hide hbw
        clear hbw
        go_wp2_with fail
        go_region_held3 (fun w9 => (w9.cell? ⟨b, o + i * 8, none⟩ = some (.int .i64 (P i).params) ∧ w9.cell? ⟨b, o + i * 8 + 1, none⟩ = some (.int .i64 (P i).regs) ∧ w9.cell? ⟨b, o + i * 8 + 2, none⟩ = some (.int .i64 (P i).line) ∧ w9.cell? ⟨b, o + i * 8 + 3, none⟩ = some (.bool (P i).dots) ∧ w9.cell? ⟨b, o + i * 8 + 4, none⟩ = some (s4) ∧ w9.cell? ⟨b, o + i * 8 + 5, none⟩ = some (s5) ∧ w9.cell? ⟨b, o + i * 8 + 6, none⟩ = some (s6) ∧ w9.cell? ⟨b, o + i * 8 + 7, none⟩ = some (s7)) ∧ w9.cell? ⟨b', o' + i * 8, none⟩ = some (.int .i64 (P i).params) ∧ w9.cell? ⟨b', o' + i * 8 + 1, none⟩ = some (.int .i64 (P i).regs) ∧ w9.cell? ⟨b', o' + i * 8 + 2, none⟩ = some (.int .i64 (P i).line) ∧ w9.cell? ⟨b', o' + i * 8 + 3, none⟩ = some (.bool (P i).dots) ∧ w9.cell? ⟨b', o' + i * 8 + 4, none⟩ = some (t4) ∧ w9.cell? ⟨b', o' + i * 8 + 5, none⟩ = some (t5) ∧ w9.cell? ⟨b', o' + i * 8 + 6, none⟩ = some (t6) ∧ w9.cell? ⟨b', o' + i * 8 + 7, none⟩ = some (t7)) (go_keep)
          (first | (go_at_call 38; refine (eqProto_any (P i) s4 s5 s6 s7 t4 t5 t6 t7 _ (HF.out i hin) (HP.out.low (Below.refl _ _).drew (Nat.le_refl _)) (HP'.out.low (Below.refl _ _).drew (Nat.le_refl _))).mono ?_; rintro e w2 ⟨rfl, hb2⟩; have q0 := (hb2.cell (p := ⟨b, o + i * 8, none⟩) hlb).trans c0; have r0 := (hb2.cell (p := ⟨b', o' + i * 8, none⟩) hlb').trans e0; have q1 := (hb2.cell (p := ⟨b, o + i * 8 + 1, none⟩) hlb).trans c1; have r1 := (hb2.cell (p := ⟨b', o' + i * 8 + 1, none⟩) hlb').trans e1; have q2 := (hb2.cell (p := ⟨b, o + i * 8 + 2, none⟩) hlb).trans c2; have r2 := (hb2.cell (p := ⟨b', o' + i * 8 + 2, none⟩) hlb').trans e2; have q3 := (hb2.cell (p := ⟨b, o + i * 8 + 3, none⟩) hlb).trans c3; have r3 := (hb2.cell (p := ⟨b', o' + i * 8 + 3, none⟩) hlb').trans e3; have q4 := (hb2.cell (p := ⟨b, o + i * 8 + 4, none⟩) hlb).trans c4; have r4 := (hb2.cell (p := ⟨b', o' + i * 8 + 4, none⟩) hlb').trans e4; have q5 := (hb2.cell (p := ⟨b, o + i * 8 + 5, none⟩) hlb).trans c5; have r5 := (hb2.cell (p := ⟨b', o' + i * 8 + 5, none⟩) hlb').trans e5; have q6 := (hb2.cell (p := ⟨b, o + i * 8 + 6, none⟩) hlb).trans c6; have r6 := (hb2.cell (p := ⟨b', o' + i * 8 + 6, none⟩) hlb').trans e6; have q7 := (hb2.cell (p := ⟨b, o + i * 8 + 7, none⟩) hlb).trans c7; have r7 := (hb2.cell (p := ⟨b', o' + i * 8 + 7, none⟩) hlb').trans e7; have HB2 := hide hb2; clear hb2))
        have HB3 := hide (HB.out.drew.trans (HB2.out.mono HB.out.size))
        rename_i hh
        clear hh c0 e0 q0 r0 c1 e1 q1 r1 c2 e2 q2 r2 c3 e3 q3 r3 c4 e4 q4 r4 c5 e5 q5 r5 c6 e6 q6 r6 c7 e7 q7 r7
        go_wp2
        go_roundw
        case rel => exact ⟨i + 1, by omega, by simp, HB3.out⟩
        case measure => simp; omega
      · obtain rfl : i = n := by omega
        go_wp2
        go_ret
        exact ⟨rfl, hbw⟩

end Go.Proofs.Ytplfgfdlcfdfdaa
