import Derived.Test.YtmndipnifjpdjaaGreatDoorCards
import Derived.Test.YtmndipnifjpdjaaGreatDoorTie
import Derived.Lay
import Derived.LaidOnce
import Derived.SevenTiedAt
import Derived.Test.YtmndipnifjpdjaaGreatDoorQ43
import Derived.Test.YtmndipnifjpdjaaGreatDoorQ16
import Derived.Test.YtmndipnifjpdjaaGreatDoorQ32
namespace Go.Proofs.YtmndipnifjpdjaaGreatDoor
open Go.ChangeShapes Go.WideShapes Go.ChangeAt Go Go.RowKit
set_option linter.unusedVariables false
set_option maxRecDepth 100000
noncomputable def inp : Input := ⟨#[], #[.string ⟨#[]⟩], []⟩
theorem wit_shaped (os : Os) : ((World.laidAll Tryz.prog os laidL).forCall (fun _ _ => 0) inp).Shaped Tryz.checked.prog := World.shaped_of_ZipB (by kernel_rfl) (by kernel_rfl)
theorem wit_ok (os : Os) : Input.okWideB Tryz.checked.prog ((World.laidAll Tryz.prog os laidL).forCall (fun _ _ => 0) inp) 3 inp = true := by kernel_rfl
theorem wit_laid (os : Os) : laidMetH Tryz.checked.prog laidL ((World.laidAll Tryz.prog os laidL).forCall (fun _ _ => 0) inp).memory := by
  rw [MakeChecks.laidMetH_plain _ _ _ (by kernel_rfl)]
  exact laidMet_laidAll _ (by kernel_rfl) (by kernel_rfl)
theorem wit_reads (os : Os) {H : Type} (enc : TypeId × Value → H) : DataW.whole enc Tryz.checked.prog ((World.laidAll Tryz.prog os laidL).forCall (fun _ _ => 0) inp).memory Tryz.f3.params.toList (OpenSpec.ofChange Rows.fnExactLexSpec).vars false inp.args.toList 8 = some ([.lit (.string [])], [], []) := by kernel_rfl
theorem witness (os : Os) {H : Type} (enc : TypeId × Value → H) : ∃ (w : World) (tape : Tape) (i : Input), w.os = os ∧ (w.forCall tape i).Shaped Tryz.checked.prog ∧ i.vars = [] ∧ Input.okWide Tryz.checked.prog (w.forCall tape i) .any w.heap.size 3 i ∧
    (OpenSpec.ofChange Rows.fnExactLexSpec).preRow enc Tryz.checked.prog Tryz.f3 Rows.fnExactLexRow.domain false laidL (w.forCall tape i).memory i.args ∧ ({} : Assume).holds Tryz.checked.prog (lone (Frame.enter Tryz.checked.prog 3 i.args .normal) [] (w.forCall tape i)) :=
  ⟨World.laidAll Tryz.prog os laidL, fun _ _ => 0, inp, World.laidAll_os _ _ _, wit_shaped os, rfl, (Input.okWide_of_okWideB (wit_ok os)).2,
    OpenSpec.preRow_of_cond 8 (wit_reads os enc) (by kernel_rfl) (fun k hk => by cases hk) (by kernel_rfl) (wit_laid os), by
      simp only [Assume.holds]
      exact ⟨by simp, by simp, fun _ => Modest.zero, by simp, by simp⟩⟩
theorem lifted (hX : LawLx) (os : Os) (started : os.Started) (H : Type) (enc : TypeId × Value → H) (F : Stop.Interp) :
    ReturnsInHanded {} Tryz.checked os 3 .any ((OpenSpec.ofChange Rows.fnExactLexSpec).preRow enc Tryz.prog Tryz.f3 Rows.fnExactLexRow.domain false laidL) (((OpenSpec.ofChange Rows.fnExactLexSpec).at F).post enc Tryz.prog Tryz.f3 false true false false) := by
  refine returnsInHanded_of_row (C := Tryz.checked) (s := OpenSpec.ofChange Rows.fnExactLexSpec) own started (by kernel_rfl) Tryz.func3 (witness os enc) ?_
  intro W base args ds gs before hval hW _ _ _ hL hS _
  exact contract hX H enc W base args ds gs before hval hW hL hS
theorem said_of (hX : LawLx) : Rows.FnExactLexSaid :=
  OpenClaim.holds_of_cond (p := Tryz.pinned) (s := OpenSpec.ofChange Rows.fnExactLexSpec) (c := Rows.fnExactLexRow) 3 Tryz.f3 rfl rfl rfl rfl rfl rfl rfl ⟨rfl, rfl, rfl, rfl, rfl⟩ rfl rfl rfl rfl rfl closed3 Tryz.func3 closed1 closed2 closed4
    (fun os started H enc _ F => by rw [OpenClaim.pre_eq_preRow]; exact lifted hX os started H enc F)
theorem plain (f : FuncId) (fn : Func) (hf : Tryz.pinned.checked.prog.funcNamed "loop.example/g00002/laws.FnExactLex" = some f) (hfn : Tryz.pinned.checked.prog.funcs[f]? = some fn) :
    true = Tryz.pinned.checked.prog.looks [] ∧ ∀ (j : Nat) t, fn.params[j]? = some t → Tryz.pinned.checked.prog.wantsStandIn t = false := by
  obtain rfl : f = 3 := Option.some.inj ((show Tryz.prog.funcNamed "loop.example/g00002/laws.FnExactLex" = some 3 by kernel_rfl).symm.trans hf) |>.symm
  obtain rfl : fn = Tryz.f3 := (Option.some.inj (Tryz.func3.symm.trans hfn)).symm
  refine ⟨by kernel_rfl, fun j t ht => ?_⟩
  rw [Tryz.params3] at ht
  obtain rfl : t = 9 := by simpa using Array.mem_of_getElem? ht
  exact (show Tryz.prog.wantsStandIn 9 = false by kernel_rfl)
theorem card_of (hX : LawLx) : Rows.FnExactLexCardSaid :=
  Claim7.holds_tied_plain_at .later [] _ _ _ _ (said_of hX) (fun _ h => by cases h) (by kernel_rfl) (fun _ h => by cases h) fnExactLex_row_tie rfl ⟨rfl, rfl⟩ (by kernel_rfl) rfl plain (by kernel_rfl)
end Go.Proofs.YtmndipnifjpdjaaGreatDoor
