import Derived.Test.YtkfbkglkcfaeeaaV2
namespace Go.Proofs.Ytkfbkglkcfaeeaa
open Go Go.RowKit
set_option linter.unusedVariables false

/-- What the operands of an instruction name, and how far beyond A its registers go. -/
def nmA (o : Int) : Int := if o = 1 ∨ o = 25 then 0 else 1
def nmB (o : Int) : Int := if (o = 2 ∨ o = 11 ∨ o = 12 ∨ o = 13 ∨ o = 15 ∨ o = 19 ∨ o = 20 ∨ o = 21 ∨ o = 22 ∨ o = 23 ∨ o = 24 ∨ o = 77 ∨ o = 78) ∨ (65 ≤ o ∧ o ≤ 76) then 1 else if o = 6 then 2 else if o = 9 ∨ o = 10 ∨ o = 14 then 3 else if o = 7 ∨ o = 8 then 4 else if o = 32 then 5 else if o = 25 ∨ o = 26 ∨ o = 27 ∨ o = 35 ∨ o = 36 ∨ o = 38 then 6 else 0
def nmC (o : Int) : Int := if (o = 11 ∨ o = 12 ∨ o = 14 ∨ o = 17 ∨ o = 19 ∨ o = 20 ∨ o = 21 ∨ o = 22) ∨ (65 ≤ o ∧ o ≤ 76) then 1 else if o = 13 ∨ o = 15 then 3 else 0
def nmY (o : Int) : Int := if o = 15 then 1 else if o = 35 ∨ o = 36 ∨ o = 38 then 3 else if o = 37 then 5 else 0
def nmV (o : Int) : Value := .agg #[.int .i64 (nmA o), .int .i64 (nmB o), .int .i64 (nmC o), .int .i64 (nmY o)]
def NmR (o : Int) (w : World) (e : Ending) (w' : World) : Prop := ((knownI o ∧ e = .returned (.tuple #[nmV o, .bool true])) ∨ (¬ knownI o ∧ ∃ a b c d : Int, e = .returned (.tuple #[.agg #[.int .i64 a, .int .i64 b, .int .i64 c, .int .i64 d], .bool false]))) ∧ Below w.heap.size w w'

theorem res_names (w : World) (g : Nat) (tmps : Array Value) (a b c d : Value) (t : Bool) (h2 : tmps.getD 2 undef = .pointer (some ⟨g, 0, none⟩)) (h3 : tmps.getD 3 undef = .bool t)
    (c0 : w.cell? ⟨g, 0, none⟩ = some a) (c1 : w.cell? ⟨g, 1, none⟩ = some b) (c2 : w.cell? ⟨g, 2, none⟩ = some c) (c3 : w.cell? ⟨g, 3, none⟩ = some d) :
    (results Try.f71 tmps).run Try.prog w = .ok (.tuple #[.agg #[a, b, c, d], .bool t]) w := by
  rw [results_cell_tmp (p := 2) (u := 3) (ty := 112) rfl, h2, h3]
  have hr : w.rangeAt g 0 [a, b, c, d] := fun j v hv => by
    match j, hv with
    | 0, hv => simp at hv; subst hv; exact c0
    | 1, hv => simp at hv; subst hv; exact c1
    | 2, hv => simp at hv; subst hv; exact c2
    | 3, hv => simp at hv; subst hv; exact c3
  have hl := run_loadVar_mid (P := Try.prog) w g 0 112 [a, b, c, d] (.struct (Try.prog.fieldsOf 112)) hr (by kernel_rfl) rfl (by kernel_rfl)
  simp [asAddr, hl]

end Go.Proofs.Ytkfbkglkcfaeeaa
