import Derived.Test.YtgnbhhgpaldheaaGreatKV1
import Derived.Test.YtgnbhhgpaldheaaGreatKN2
import Derived.BigRegion
import Derived.WalkSmall
namespace Go.Proofs.YtgnbhhgpaldheaaGreat
open Go Go.RowKit
set_option linter.unusedVariables false
abbrev verA (p : PV) (s4 s5 s6 s7 va : Value) : Array Value := #[.int .i64 p.params, .int .i64 p.regs, .int .i64 p.line, .bool p.dots, s4, s5, s6, s7, va]
def VR (w : World) (g : Nat) (p : PV) (s4 s5 s6 s7 va : Value) : Prop := RowF w 86 g 9 (fun j => (verA p s4 s5 s6 s7 va).getD j (.bool false))
theorem VR.low {w w' : World} {g : Nat} {p : PV} {s4 s5 s6 s7 va : Value} (h : VR w g p s4 s5 s6 s7 va) (hb : Below w.heap.size w w') : VR w' g p s4 s5 s6 s7 va := RowF.low h hb (RowF.lt h)
theorem VR.cells {w : World} {g : Nat} {p : PV} {s4 s5 s6 s7 va : Value} (h : VR w g p s4 s5 s6 s7 va) :
    w.cell? ⟨g, 0, none⟩ = some (.int .i64 p.params) ∧ w.cell? ⟨g, 1, none⟩ = some (.int .i64 p.regs) ∧ w.cell? ⟨g, 2, none⟩ = some (.int .i64 p.line) ∧ w.cell? ⟨g, 3, none⟩ = some (.bool p.dots) ∧
    w.cell? ⟨g, 4, none⟩ = some s4 ∧ w.cell? ⟨g, 5, none⟩ = some s5 ∧ w.cell? ⟨g, 6, none⟩ = some s6 ∧ w.cell? ⟨g, 7, none⟩ = some s7 ∧ w.cell? ⟨g, 8, none⟩ = some va :=
  ⟨RowF.cell h (j := 0) (by omega), RowF.cell h (j := 1) (by omega), RowF.cell h (j := 2) (by omega), RowF.cell h (j := 3) (by omega), RowF.cell h (j := 4) (by omega), RowF.cell h (j := 5) (by omega), RowF.cell h (j := 6) (by omega), RowF.cell h (j := 7) (by omega), RowF.cell h (j := 8) (by omega)⟩
set_option maxHeartbeats 1600000 in
set_option maxRecDepth 100000 in
theorem leavesOpen_any (o a b c : Int) (w : World) :
    Calls Tryz.prog 120 #[.agg #[.int .i64 o, .int .i64 a, .int .i64 b, .int .i64 c]] w fun e w' => RetB (makesI o a b c) w e w' := by
  by_cases h1 : o = 28
  · subst h1
    by_cases h2 : c = 0
    · subst h2
      go_enter Tryz.func120, Tryz.ntmps120
      go_wp2
      go_ret
      exact ⟨_, rfl, .inl ⟨rfl, by simp [makesI]⟩, b_1 _ _⟩
    · go_enter Tryz.func120, Tryz.ntmps120
      go_wp2
      go_ret
      exact ⟨_, rfl, .inr ⟨by simpa using h2, by simp [makesI, h2]⟩, b_1 _ _⟩
  · by_cases h3 : o = 31
    · subst h3
      by_cases h2 : b = 0
      · subst h2
        go_enter Tryz.func120, Tryz.ntmps120
        go_wp2
        go_ret
        exact ⟨_, rfl, .inl ⟨rfl, by simp [makesI]⟩, b_1 _ _⟩
      · go_enter Tryz.func120, Tryz.ntmps120
        go_wp2
        go_ret
        exact ⟨_, rfl, .inr ⟨by simpa using h2, by simp [makesI, h2]⟩, b_1 _ _⟩
    · go_enter Tryz.func120, Tryz.ntmps120
      go_wp2
      go_ret
      exact ⟨_, rfl, .inr ⟨rfl, by simp [makesI, h1, h3]⟩, b_1 _ _⟩
def TkR (o a b c : Int) (w : World) (e : Ending) (w' : World) : Prop := ∃ (v : Int) (t : Bool), e = .returned (.tuple #[.int .i64 v, .bool t]) ∧ ((t = true ∧ 0 ≤ takesI o a b c ∧ v = takesI o a b c) ∨ (t = false ∧ takesI o a b c < 0)) ∧ Below w.heap.size w w'
theorem tk_28 {o a b c : Int} (h : o = 28 ∨ o = 29) (hb : b = 0) : takesI o a b c = a + 1 := by simp [takesI, h, hb]
theorem tk_28n {o a b c : Int} (h : o = 28 ∨ o = 29) (hb : ¬ b = 0) : takesI o a b c = -1 := by
  have h1 : ¬ o = 18 := by omega
  simp [takesI, hb, h1]
theorem tk_18 {a b c : Int} : takesI 18 a b c = a + 1 := by simp [takesI]
theorem tk_30 {a b c : Int} (hb : b = 0) : takesI 30 a b c = a := by simp [takesI, hb]
theorem tk_30n {a b c : Int} (hb : ¬ b = 0) : takesI 30 a b c = -1 := by simp [takesI, hb]
theorem tk_x {o a b c : Int} (h1 : ¬ o = 28) (h2 : ¬ o = 29) (h3 : ¬ o = 18) (h4 : ¬ o = 30) : takesI o a b c = -1 := by simp [takesI, h1, h2, h3, h4]
set_option maxHeartbeats 1600000 in
set_option maxRecDepth 100000 in
theorem takesOpen_any (o a b c : Int) (w : World) (ha : 0 ≤ a) (ha2 : a ≤ 255) :
    Calls Tryz.prog 121 #[.agg #[.int .i64 o, .int .i64 a, .int .i64 b, .int .i64 c]] w fun e w' => TkR o a b c w e w' := by
  by_cases h1 : o = 28
  · subst h1
    by_cases hb : b = 0
    · subst hb
      go_enter Tryz.func121, Tryz.ntmps121
      go_wp2
      go_quiet (fail)
      go_wp2
      go_ret2
      exact ⟨_, _, rfl, .inl ⟨rfl, by rw [tk_28 (.inl rfl) rfl]; omega, by rw [tk_28 (.inl rfl) rfl]⟩, below_drewN (b_1 _ _) _⟩
    · skip
      go_enter Tryz.func121, Tryz.ntmps121
      go_wp2
      go_quiet (fail)
      go_wp2
      go_ret2
      exact ⟨_, _, rfl, .inr ⟨by first | rfl | (simpa using hb), by rw [tk_28n (.inl rfl) hb]; omega⟩, below_drewN (b_1 _ _) _⟩
  by_cases h2 : o = 29
  · subst h2
    by_cases hb : b = 0
    · subst hb
      go_enter Tryz.func121, Tryz.ntmps121
      go_wp2
      go_quiet (fail)
      go_wp2
      go_ret2
      exact ⟨_, _, rfl, .inl ⟨rfl, by rw [tk_28 (.inr rfl) rfl]; omega, by rw [tk_28 (.inr rfl) rfl]⟩, below_drewN (b_1 _ _) _⟩
    · skip
      go_enter Tryz.func121, Tryz.ntmps121
      go_wp2
      go_quiet (fail)
      go_wp2
      go_ret2
      exact ⟨_, _, rfl, .inr ⟨by first | rfl | (simpa using hb), by rw [tk_28n (.inr rfl) hb]; omega⟩, below_drewN (b_1 _ _) _⟩
  by_cases h3 : o = 18
  · subst h3
    go_enter Tryz.func121, Tryz.ntmps121
    go_wp2
    go_ret2
    exact ⟨_, _, rfl, .inl ⟨rfl, by rw [tk_18]; omega, by rw [tk_18]⟩, b_1 _ _⟩
  by_cases h4 : o = 30
  · subst h4
    by_cases hb : b = 0
    · subst hb
      go_enter Tryz.func121, Tryz.ntmps121
      go_wp2
      go_quiet (fail)
      go_wp2
      go_ret2
      exact ⟨_, _, rfl, .inl ⟨rfl, by rw [tk_30 rfl]; omega, by rw [tk_30 rfl]⟩, below_drewN (b_1 _ _) _⟩
    · skip
      go_enter Tryz.func121, Tryz.ntmps121
      go_wp2
      go_quiet (fail)
      go_wp2
      go_ret2
      exact ⟨_, _, rfl, .inr ⟨by first | rfl | (simpa using hb), by rw [tk_30n hb]; omega⟩, below_drewN (b_1 _ _) _⟩
  · skip
    go_enter Tryz.func121, Tryz.ntmps121
    go_wp2
    go_ret2
    exact ⟨_, _, rfl, .inr ⟨by first | rfl | (simpa using hb), by rw [tk_x h1 h2 h3 h4]; omega⟩, b_1 _ _⟩
set_option maxHeartbeats 1600000 in
set_option maxRecDepth 100000 in
theorem goesAway_any (o : Int) (w : World) : Calls Tryz.prog 86 #[.int .i64 o] w fun e w' => RetB (o = 30 ∨ o = 29 ∨ o = 25) w e w' := by
  by_cases h1 : o = 30 <;> by_cases h2 : o = 29 <;> by_cases h3 : o = 25
  all_goals (try omega)
  all_goals go_enter Tryz.func86, Tryz.ntmps86
  all_goals go_wp2
  all_goals go_ret
  all_goals refine ⟨_, rfl, ?_, Below.refl _ _⟩
  all_goals first | exact .inl ⟨by simp [h1, h2, h3], by omega⟩ | exact .inr ⟨by simp [h1, h2, h3], by omega⟩
set_option maxHeartbeats 1600000 in
set_option maxRecDepth 100000 in
theorem codeUnless_any (b : Bool) (c : Int) (w : World) : Calls Tryz.prog 133 #[.bool b, .int .i64 c] w fun e w' => e = .returned (.int .i64 (if b = true then 0 else c)) ∧ w' = w := by
  cases b
  all_goals go_enter Tryz.func133, Tryz.ntmps133
  all_goals go_wp2
  all_goals go_ret
  all_goals exact ⟨rfl, rfl⟩
set_option maxHeartbeats 1600000 in
set_option maxRecDepth 100000 in
theorem gives_any (g : Nat) (p : PV) (a4 : Option Addr) (k4 : Nat) (s5 s6 s7 va : Value) (x0 : Bool) (x1 : Int) (w : World) (h0 : 0 ≤ x1) (h : VR w g p (.slice a4 p.nu k4) s5 s6 s7 va) :
    Calls Tryz.prog 134 #[.pointer (some ⟨g, 0, none⟩), .agg #[.bool x0, .int .i64 x1]] w fun e w' => RetB ((x0 = true → regI p x1) ∧ (x0 = false → x1 < p.nu)) w e w' := by
  have hB := b_1 w (.cells #[.bool x0, .int .i64 x1] 104)
  obtain ⟨y0, y1, y2, y3, y4, y5, y6, y7, y8⟩ := (h.low hB).cells
  clear hB h
  cases x0
  · go_enter Tryz.func134, Tryz.ntmps134
    go_wp2
    go_quiet (fail)
    go_wp2
    go_ret
    refine ⟨_, rfl, boolR_iff ?_, below_drewN (b_1 _ _) _⟩
    simp
  · go_enter Tryz.func134, Tryz.ntmps134
    go_wp2
    go_quiet (fail)
    go_wp2
    go_ret
    refine ⟨_, rfl, boolR_iff ?_, below_drewN (b_1 _ _) _⟩
    simp [regI, h0]
end Go.Proofs.YtgnbhhgpaldheaaGreat
