import Derived.Test.YtgnbhhgpaldheaaGreatKBF
namespace Go.Proofs.YtgnbhhgpaldheaaGreat
open Go Go.RowKit
set_option linter.unusedVariables false
def XV (v : Value) (k : Nat) (p : PV) (s4 s5 s6 s7 : Value) : Value := .agg #[v, .int .i64 k, .int .i64 p.params, .int .i64 p.regs, .int .i64 p.line, .bool p.dots, s4, s5, s6, s7]
def insV (o a b c : Int) : Value := .agg #[.int .i64 o, .int .i64 a, .int .i64 b, .int .i64 c]
def makesI (o a b c : Int) : Prop := (o = 28 ∧ c = 0) ∨ (o = 31 ∧ b = 0)
def takesI (o a b c : Int) : Int := if ((o = 28 ∨ o = 29) ∧ b = 0) ∨ o = 18 then a + 1 else if o = 30 ∧ b = 0 then a else -1
def knownI (o : Int) : Prop := (1 ≤ o ∧ o ≤ 38) ∨ (65 ≤ o ∧ o ≤ 78)
theorem boolR_iff {Q : Prop} {b : Bool} (h : Q ↔ b = true) : BoolR Q b := by
  cases b
  · exact .inr ⟨rfl, fun q => by have := h.1 q; cases this⟩
  · exact .inl ⟨rfl, h.2 rfl⟩
theorem ret_int {k : IntKind} {a b : Int} (h : a = b) : Ending.returned (.int k a) = .returned (.int k b) := by rw [h]
set_option maxHeartbeats 1600000 in
set_option maxRecDepth 100000 in
theorem makes_any (o a b c : Int) (w : World) :
    Calls Tryz.prog 106 #[insV o a b c] w fun e w' => RetB (makesI o a b c) w e w' := by
  unfold insV
  go_enter Tryz.func106, Tryz.ntmps106
  go_wp2
  all_goals go_ret
  all_goals refine ⟨_, rfl, boolR_iff ?_, b_1 _ _⟩
  all_goals (simp_all [makesI])
set_option maxHeartbeats 1600000 in
set_option maxRecDepth 100000 in
theorem takes_any (o a b c : Int) (w : World) (ha : 0 ≤ a) (ha2 : a ≤ 255) :
    Calls Tryz.prog 105 #[insV o a b c] w fun e w' => e = .returned (.int .i64 (takesI o a b c)) ∧ Below w.heap.size w w' := by
  unfold insV
  go_enter Tryz.func105, Tryz.ntmps105
  go_wp2
  all_goals go_ret
  all_goals refine ⟨ret_int ?_, b_1 _ _⟩
  all_goals (simp_all [takesI])
set_option maxHeartbeats 1600000 in
set_option maxRecDepth 100000 in
theorem known_any (v : Value) (k : Nat) (p : PV) (s4 s5 s6 s7 : Value) (o a b c : Int) (w : World) :
    Calls Tryz.prog 67 #[XV v k p s4 s5 s6 s7, insV o a b c] w fun e w' => RetB (knownI o) w e w' := by
  unfold XV insV
  go_enter Tryz.func67, Tryz.ntmps67
  go_wp2_with (go_at_call 27; refine (l07In_any _ _ _ _).mono ?_; rintro e w' ⟨rfl, rfl⟩)
  all_goals go_ret
  all_goals refine ⟨_, rfl, boolR_iff ?_, b_2 _ _ _⟩
  all_goals (simp_all [knownI, inI])
  all_goals omega
def regI (p : PV) (r : Int) : Prop := 0 ≤ r ∧ r < p.regs
def textI (p : PV) (k : Int) : Prop := 0 ≤ k ∧ k < p.nc ∧ p.c0 k.toNat = 6
def constsI (p : PV) (o a b c : Int) : Prop := (o = 6 → 0 ≤ b ∧ b < p.nc) ∧ (o = 9 ∨ o = 10 ∨ o = 14 → textI p b) ∧ (o = 13 ∨ o = 15 → textI p c)
def countsI (p : PV) (o a b c : Int) : Prop :=
  (o = 3 → 1 ≤ b ∧ b ≤ p.regs - a) ∧ (o = 4 → b = 0 ∨ b = 1) ∧ (o = 5 → -32768 ≤ b ∧ b ≤ 32767) ∧ (o = 17 ∨ o = 18 → 1 ≤ b) ∧ (o = 28 → 0 ≤ b ∧ 0 ≤ c ∧ b ≤ p.regs - a ∧ c ≤ p.regs - a + 1) ∧
    (o = 29 → 0 ≤ b ∧ b ≤ p.regs - a) ∧ (o = 30 ∨ o = 31 → 0 ≤ b ∧ b ≤ p.regs - a + 1) ∧ (o = 37 → 1 ≤ b ∧ b ≤ p.regs - a - 3)
set_option maxHeartbeats 1600000 in
set_option maxRecDepth 100000 in
theorem reg_any (v : Value) (k : Nat) (p : PV) (s4 s5 s6 s7 : Value) (r : Int) (w : World) :
    Calls Tryz.prog 69 #[XV v k p s4 s5 s6 s7, .int .i64 r] w fun e w' => RetB (regI p r) w e w' := by
  unfold XV
  go_enter Tryz.func69, Tryz.ntmps69
  go_wp2
  all_goals go_ret
  all_goals refine ⟨_, rfl, boolR_iff ?_, b_1 _ _⟩
  all_goals (simp_all [regI])
  all_goals omega
set_option maxHeartbeats 1600000 in
set_option maxRecDepth 100000 in
theorem text_any (v : Value) (k : Nat) (p : PV) (s4 s5 s6 s7 : Value) (j : Int) (w : World) (hnc : p.nc ≤ 1048576) (h : ConsA w s5 p.nc p.c0 p.c1 p.c2 p.c3) :
    Calls Tryz.prog 104 #[XV v k p s4 s5 s6 s7, .int .i64 j] w fun e w' => RetB (textI p j) w e w' := by
  by_cases hj : 0 ≤ j ∧ j < p.nc
  · rcases h with ⟨h9, _⟩ | ⟨b, o, cap, rfl, hb, hcap, hc⟩
    · omega
    · obtain ⟨m, rfl⟩ := Int.eq_ofNat_of_zero_le hj.1
      have hc0 := (hc m (by omega)).1
      have hm : m < p.nc := by omega
      clear hc
      have c0 := ((b_1 w (.cells #[v, .int .i64 k, .int .i64 p.params, .int .i64 p.regs, .int .i64 p.line, .bool p.dots, s4, .slice (some ⟨b, o, none⟩) p.nc cap, s6, s7] 73)).cell (p := ⟨b, o + m * 4, none⟩) hb).trans hc0
      clear hc0
      unfold XV
      go_enter Tryz.func104, Tryz.ntmps104
      go_wp2
      all_goals go_ret
      all_goals refine ⟨_, rfl, boolR_iff ?_, b_1 _ _⟩
      all_goals (simp_all [textI])
  · obtain ⟨a5, k5, rfl⟩ := h.val
    clear h
    unfold XV
    go_enter Tryz.func104, Tryz.ntmps104
    go_wp2
    all_goals first | (go_ret; exact ⟨_, rfl, .inr ⟨rfl, fun h => hj ⟨h.1, h.2.1⟩⟩, b_1 _ _⟩) | (exfalso; omega)
set_option maxHeartbeats 1600000 in
set_option maxRecDepth 100000 in
theorem counts_any (v : Value) (k : Nat) (p : PV) (s4 s5 s6 s7 : Value) (o a b c : Int) (w : World) (hr0 : 0 ≤ p.regs) (hr1 : p.regs ≤ 255) (ha0 : 0 ≤ a) (ha1 : a ≤ 255) :
    Calls Tryz.prog 74 #[XV v k p s4 s5 s6 s7, insV o a b c] w fun e w' => RetB (countsI p o a b c) w e w' := by
  unfold XV insV
  go_enter Tryz.func74, Tryz.ntmps74
  go_wp2_with (go_at_call 27; refine (l07In_any _ _ _ _).mono ?_; rintro e w' ⟨rfl, rfl⟩)
  all_goals go_ret
  all_goals refine ⟨_, rfl, boolR_iff ?_, b_2 _ _ _⟩
  all_goals (simp_all [countsI, inI])
  all_goals omega
theorem BoolR.congr {Q Q' : Prop} {b : Bool} (h : BoolR Q b) (e : Q ↔ Q') : BoolR Q' b := by
  rcases h with ⟨h1, h2⟩ | ⟨h1, h2⟩
  · exact .inl ⟨h1, e.1 h2⟩
  · exact .inr ⟨h1, fun q => h2 (e.2 q)⟩
set_option maxHeartbeats 1600000 in
set_option maxRecDepth 100000 in
theorem consts_any (v : Value) (k : Nat) (p : PV) (s4 s5 s6 s7 : Value) (o a b c : Int) (w : World) (hnc : p.nc ≤ 1048576) (h : ConsA w s5 p.nc p.c0 p.c1 p.c2 p.c3) :
    Calls Tryz.prog 70 #[XV v k p s4 s5 s6 s7, insV o a b c] w fun e w' => RetB (constsI p o a b c) w e w' := by
  have HA := hide h
  obtain ⟨a5, k5, rfl⟩ := h.val
  clear h
  have HB := hide (b_2 w (.cells #[v, .int .i64 k, .int .i64 p.params, .int .i64 p.regs, .int .i64 p.line, .bool p.dots, s4, .slice a5 p.nc k5, s6, s7] 73) (.cells #[.int .i64 o, .int .i64 a, .int .i64 b, .int .i64 c] 51))
  have HT := hide (text_any v k p s4 (.slice a5 p.nc k5) s6 s7 · _ hnc (HA.out.low HB.out (Nat.le_refl _)))
  unfold XV at HT ⊢
  unfold insV
  go_enter Tryz.func70, Tryz.ntmps70
  go_wp2_with fail
  all_goals first
    | (go_ret; refine ⟨_, rfl, boolR_iff ?_, HB.out⟩; clear HT HB HA; simp_all [constsI])
    | (refine (HT.out _).mono ?_; rintro e w2 ⟨r, rfl, hr, hb⟩; have HB2 := hide (HB.out.trans (hb.mono HB.out.size)); have HR := hide hr; clear hr hb HT HB HA; go_wp2; go_ret; refine ⟨_, rfl, HR.out.congr ?_, HB2.out⟩; clear HR HB2; simp_all [constsI])
  all_goals omega
def upsI (p q : PV) (m : Nat) : Prop := ∀ j, j < m → (q.u0 j = true → regI p (q.u1 j)) ∧ (q.u0 j = false → q.u1 j < p.nu)
def X10 (w : World) (g : Nat) (v : Value) (k : Nat) (p : PV) (s4 s5 s6 s7 : Value) : Prop :=
  RowF w 73 g 10 (fun j => (#[v, .int .i64 k, .int .i64 p.params, .int .i64 p.regs, .int .i64 p.line, .bool p.dots, s4, s5, s6, s7] : Array Value).getD j (.bool false))
set_option maxHeartbeats 1600000 in
set_option maxRecDepth 100000 in
theorem ups_any (v : Value) (n : Nat) (P : Nat → PV) (k m : Nat) (p : PV) (s4 s5 s6 s7 : Value) (o a c : Int) (w : World) (hm : m < n) (hn : n ≤ 1048576) (hf : (P m).fits 1048576) (hnu : p.nu ≤ 1048576) (h : ProsA w v n P) (h4 : UpsA w s4 p.nu p.u0 p.u1) :
    Calls Tryz.prog 71 #[XV v k p s4 s5 s6 s7, insV o a (m : Int) c] w fun e w' => RetB (upsI p (P m) (P m).nu) w e w' := by
  rcases h with ⟨h9, _⟩ | ⟨b, q, cap, rfl, hb, hcap, hc⟩
  · omega
  obtain ⟨a4, k4, rfl⟩ := h4.val
  clear h4
  obtain ⟨t4, t5, t6, t7, hc8, hpva⟩ := hc m hm
  clear hc
  obtain ⟨at4, kt4, rfl⟩ := hpva.u.val
  have hB := b_2 w (.cells #[.slice (some ⟨b, q, none⟩) n cap, .int .i64 k, .int .i64 p.params, .int .i64 p.regs, .int .i64 p.line, .bool p.dots, .slice a4 p.nu k4, s5, s6, s7] 73) (.cells #[.int .i64 o, .int .i64 a, .int .i64 m, .int .i64 c] 51)
  obtain ⟨c0, c1, c2, c3, c4, c5, c6, c7⟩ := hc8.low hB hb
  have HU := hide hpva.u
  have HB := hide hB
  clear c0 c1 c2 c3 c5 c6 c7 hc8 hpva hB
  have hlen := hf.1
  generalize P m = r at *
  have hR := RowF.mk' w 73 #[.slice (some ⟨b, q, none⟩) n cap, .int .i64 k, .int .i64 p.params, .int .i64 p.regs, .int .i64 p.line, .bool p.dots, .slice a4 p.nu k4, s5, s6, s7]
  have HX := hide (hR.low (b_1 _ (.cells #[.int .i64 o, .int .i64 a, .int .i64 m, .int .i64 c] 51)) hR.lt)
  clear hR
  unfold XV insV
  go_enter Tryz.func71, Tryz.ntmps71
  go_wp2_with fail
  rename_i K1 a1
  have HK := hide a1
  clear a1 c4
  have HLT := hide HX.out.lt
  generalize (w.alloc (.cells #[.slice (some ⟨b, q, none⟩) n cap, .int .i64 k, .int .i64 p.params, .int .i64 p.regs, .int .i64 p.line, .bool p.dots, .slice a4 p.nu k4, s5, s6, s7] 73)).alloc (.cells #[.int .i64 o, .int .i64 a, .int .i64 m, .int .i64 c] 51) = w1 at HX HB HLT ⊢
  go_loopw [16] (fun iv wr => ∃ i : Nat, i ≤ r.nu ∧ iv = .int .i64 i ∧ Hid (upsI p r i) ∧ Hid (Below w1.heap.size w1 wr)) (fun iv _ => match iv with | .int _ x => r.nu - x.toNat | _ => 0)
  case atStart => exact ⟨0, by omega, rfl, hide (fun k hk => by omega), hide (Below.refl _ _)⟩
  case round =>
    obtain ⟨i, hi9, rfl, HI, HBw⟩ := hrel
    by_cases hin : i < r.nu
    · rcases HU.out with ⟨h9, _⟩ | ⟨b', o', cap', e, hb', hcap', hc'⟩
      · omega
      · cases e
        have hbb := HB.out.trans (HBw.out.mono HB.out.size)
        have c0 := (hbb.cell (p := ⟨b', o' + i * 2, none⟩) hb').trans (hc' i hin).1
        have c1 := (hbb.cell (p := ⟨b', o' + i * 2 + 1, none⟩) hb').trans (hc' i hin).2
        have hx := (HX.out.low HBw.out HLT.out).low (b_1 wr (.cells #[.bool (r.u0 i), .int .i64 (r.u1 i)] 104)) (Nat.lt_of_lt_of_le HLT.out HBw.out.size)
        have y0 : (wr.alloc (.cells #[.bool (r.u0 i), .int .i64 (r.u1 i)] 104)).cell? ⟨w.heap.size, 0, none⟩ = some (.slice (some ⟨b, q, none⟩) n cap) := hx.cell (j := 0) (by simp)
        have y1 : (wr.alloc (.cells #[.bool (r.u0 i), .int .i64 (r.u1 i)] 104)).cell? ⟨w.heap.size, 1, none⟩ = some (.int .i64 k) := hx.cell (j := 1) (by simp)
        have y2 : (wr.alloc (.cells #[.bool (r.u0 i), .int .i64 (r.u1 i)] 104)).cell? ⟨w.heap.size, 2, none⟩ = some (.int .i64 p.params) := hx.cell (j := 2) (by simp)
        have y3 : (wr.alloc (.cells #[.bool (r.u0 i), .int .i64 (r.u1 i)] 104)).cell? ⟨w.heap.size, 3, none⟩ = some (.int .i64 p.regs) := hx.cell (j := 3) (by simp)
        have y4 : (wr.alloc (.cells #[.bool (r.u0 i), .int .i64 (r.u1 i)] 104)).cell? ⟨w.heap.size, 4, none⟩ = some (.int .i64 p.line) := hx.cell (j := 4) (by simp)
        have y5 : (wr.alloc (.cells #[.bool (r.u0 i), .int .i64 (r.u1 i)] 104)).cell? ⟨w.heap.size, 5, none⟩ = some (.bool p.dots) := hx.cell (j := 5) (by simp)
        have y6 : (wr.alloc (.cells #[.bool (r.u0 i), .int .i64 (r.u1 i)] 104)).cell? ⟨w.heap.size, 6, none⟩ = some (.slice a4 p.nu k4) := hx.cell (j := 6) (by simp)
        have y7 : (wr.alloc (.cells #[.bool (r.u0 i), .int .i64 (r.u1 i)] 104)).cell? ⟨w.heap.size, 7, none⟩ = some (s5) := hx.cell (j := 7) (by simp)
        have y8 : (wr.alloc (.cells #[.bool (r.u0 i), .int .i64 (r.u1 i)] 104)).cell? ⟨w.heap.size, 8, none⟩ = some (s6) := hx.cell (j := 8) (by simp)
        have y9 : (wr.alloc (.cells #[.bool (r.u0 i), .int .i64 (r.u1 i)] 104)).cell? ⟨w.heap.size, 9, none⟩ = some (s7) := hx.cell (j := 9) (by simp)
        have HA := hide (HBw.out.alloc HBw.out.size (.cells #[.bool (r.u0 i), .int .i64 (r.u1 i)] 104))
        clear hc' hbb hx
        generalize hfl : r.u0 i = fl at *
        have HFL := hide hfl
        clear hfl
        cases fl
        · by_cases hlt : r.u1 i < p.nu
          · have hge : ¬ ((p.nu : Int) ≤ r.u1 i) := by omega
            go_wp2_with fail
            go_roundw
            case rel => exact ⟨i + 1, by omega, by simp, hide (fun j hj => by
              by_cases e : j = i
              · subst e; exact ⟨fun h => (by rw [HFL.out] at h; cases h), fun _ => hlt⟩
              · exact HI.out j (by omega)), HA⟩
            case measure => simp; omega
          · have hge : ((p.nu : Int) ≤ r.u1 i) := by omega
            go_wp2_with fail
            go_ret
            exact ⟨_, rfl, .inr ⟨rfl, fun h => (by have := (h i hin).2 HFL.out; omega)⟩, HB.out.trans (HA.out.mono HB.out.size)⟩
        · go_wp2_with fail
          refine (reg_any _ k p _ s5 s6 s7 (r.u1 i) _).mono ?_
          rintro e w3 ⟨rr, rfl, hr, hb3⟩
          have HA3 := hide (HA.out.trans (hb3.mono HA.out.size))
          have hu := (RowF.mk' wr 104 #[.bool true, .int .i64 (r.u1 i)]).low hb3 (RowF.mk' wr 104 #[.bool true, .int .i64 (r.u1 i)]).lt
          have z0 : w3.cell? ⟨wr.heap.size, 0, none⟩ = some (.bool true) := hu.cell (j := 0) (by simp)
          clear hu hb3 y0 y1 y2 y3 y4 y5 y6 y7 y8 y9 HA
          have HR := hide hr
          clear hr
          rcases HR.out with ⟨rfl, hr⟩ | ⟨rfl, hr⟩
          · have HR2 := hide hr
            clear hr HR
            go_wp2
            go_roundw
            case rel => exact ⟨i + 1, by omega, by simp, hide (fun j hj => by
              by_cases e : j = i
              · subst e; exact ⟨fun _ => HR2.out, fun h => (by rw [HFL.out] at h; cases h)⟩
              · exact HI.out j (by omega)), HA3⟩
            case measure => simp; omega
          · have HR2 := hide hr
            clear hr HR
            go_wp2
            go_ret
            exact ⟨_, rfl, .inr ⟨rfl, fun h => HR2.out ((h i hin).1 HFL.out)⟩, HB.out.trans (HA3.out.mono HB.out.size)⟩
    · obtain rfl : i = r.nu := by omega
      go_wp2
      refine HK.out _ _ ?_
      go_wp2
      go_ret
      exact ⟨_, rfl, .inl ⟨rfl, HI.out⟩, HB.out.trans (HBw.out.mono HB.out.size)⟩
end Go.Proofs.YtgnbhhgpaldheaaGreat
