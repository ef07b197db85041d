import Derived.Test.YtamdnnkdnhkghaaGreatDoorQ49
import Derived.Test.YtamdnnkdnhkghaaGreatDoorQ50
import Derived.Test.YtamdnnkdnhkghaaGreatDoorQ51
import Derived.Test.YtamdnnkdnhkghaaGreatDoorCards
import Derived.Test.YtamdnnkdnhkghaaGreatDoorTie
import Derived.Lay
import Derived.LaidOnce
import Derived.SevenTiedAt
namespace Go.Proofs.YtamdnnkdnhkghaaGreatDoor
open Go.ChangeShapes Go.WideShapes Go.ChangeAt Go Go.RowKit
set_option linter.unusedVariables false
set_option maxRecDepth 100000

noncomputable def inp : Input := ⟨#[], #[.string ⟨#[]⟩], []⟩

theorem wit_shaped (os : Os) : ((World.laidAll Tryz.prog os laidTI).forCall (fun _ _ => 0) inp).Shaped Tryz.checked.prog := World.shaped_of_ZipB (by kernel_rfl) (by kernel_rfl)
theorem wit_ok (os : Os) : Input.okWideB Tryz.checked.prog ((World.laidAll Tryz.prog os laidTI).forCall (fun _ _ => 0) inp) 5 inp = true := by kernel_rfl
theorem wit_laid (os : Os) : laidMetH Tryz.checked.prog laidTI ((World.laidAll Tryz.prog os laidTI).forCall (fun _ _ => 0) inp).memory := by
  rw [MakeChecks.laidMetH_plain _ _ _ (by kernel_rfl)]
  exact laidMet_laidAll _ (by kernel_rfl) (by kernel_rfl)

theorem wit_some (os : Os) {H : Type} (enc : TypeId × Value → H) : (DataW.whole enc Tryz.checked.prog ((World.laidAll Tryz.prog os laidTI).forCall (fun _ _ => 0) inp).memory Tryz.f5.params.toList (OpenSpec.ofChange Rows.fnExactToIntegerSpec).vars false inp.args.toList 8).isSome = true := by kernel_rfl

theorem wit_sized (os : Os) {H : Type} (enc : TypeId × Value → H) : (OpenSpec.ofChange Rows.fnExactToIntegerSpec).bare.sizedB enc Tryz.checked.prog Tryz.f5 false ((World.laidAll Tryz.prog os laidTI).forCall (fun _ _ => 0) inp).memory inp.args 8 = true := by kernel_rfl

theorem witness (os : Os) {H : Type} (enc : TypeId × Value → H) : ∃ (w : World) (tape : Tape) (i : Input), w.os = os ∧ (w.forCall tape i).Shaped Tryz.checked.prog ∧ i.vars = [] ∧ Input.okWide Tryz.checked.prog (w.forCall tape i) .any w.heap.size 5 i ∧
    (OpenSpec.ofChange Rows.fnExactToIntegerSpec).preRow enc Tryz.checked.prog Tryz.f5 Rows.fnExactToIntegerRow.domain false laidTI (w.forCall tape i).memory i.args ∧ ({} : Assume).holds Tryz.checked.prog (lone (Frame.enter Tryz.checked.prog 5 i.args .normal) [] (w.forCall tape i)) := by
  obtain ⟨x, hx⟩ := Option.isSome_iff_exists.1 (wit_some os enc)
  exact ⟨World.laidAll Tryz.prog os laidTI, fun _ _ => 0, inp, World.laidAll_os _ _ _, wit_shaped os, rfl, (Input.okWide_of_okWideB (wit_ok os)).2,
    OpenSpec.preRow_of_cond 8 hx rfl (fun k hk => by cases hk) (wit_sized os enc) (wit_laid os), by
      simp only [Assume.holds]
      exact ⟨by simp, by simp, fun _ => Modest.zero, by simp, by simp⟩⟩

theorem lifted (os : Os) (started : os.Started) (H : Type) (enc : TypeId × Value → H) (F : Stop.Interp) :
    ReturnsInHanded {} Tryz.checked os 5 .any ((OpenSpec.ofChange Rows.fnExactToIntegerSpec).preRow enc Tryz.prog Tryz.f5 Rows.fnExactToIntegerRow.domain false laidTI) (((OpenSpec.ofChange Rows.fnExactToIntegerSpec).at F).post enc Tryz.prog Tryz.f5 false true false false) := by
  refine returnsInHanded_of_row (C := Tryz.checked) (s := OpenSpec.ofChange Rows.fnExactToIntegerSpec) own started (by kernel_rfl) Tryz.func5 (witness os enc) ?_
  intro W base args ds gs before hval hW _ _ _ hL hS _
  exact contract H enc W base args ds gs before hval hW hL hS

theorem said : Rows.FnExactToIntegerSaid :=
  OpenClaim.holds_of_cond (p := Tryz.pinned) (s := OpenSpec.ofChange Rows.fnExactToIntegerSpec) (c := Rows.fnExactToIntegerRow) 5 Tryz.f5 rfl rfl rfl rfl rfl rfl rfl ⟨rfl, rfl, rfl, rfl, rfl⟩ rfl rfl rfl rfl rfl closed3 Tryz.func5 closed1 closed2 closed4
    (fun os started H enc _ F => by rw [OpenClaim.pre_eq_preRow]; exact lifted os started H enc F)

/-- No parameter wants a stand-in; the program's own looks. -/
theorem plain (f : FuncId) (fn : Func) (hf : Tryz.pinned.checked.prog.funcNamed "loop.example/g00002/laws.FnExactToInteger" = some f) (hfn : Tryz.pinned.checked.prog.funcs[f]? = some fn) :
    true = Tryz.pinned.checked.prog.looks [] ∧ ∀ (j : Nat) t, fn.params[j]? = some t → Tryz.pinned.checked.prog.wantsStandIn t = false := by
  obtain rfl : f = 5 := Option.some.inj ((show Tryz.prog.funcNamed "loop.example/g00002/laws.FnExactToInteger" = some 5 by kernel_rfl).symm.trans hf) |>.symm
  obtain rfl : fn = Tryz.f5 := (Option.some.inj (Tryz.func5.symm.trans hfn)).symm
  refine ⟨by kernel_rfl, fun j t ht => ?_⟩
  rw [Tryz.params5] at ht
  obtain rfl : t = 9 := by simpa using Array.mem_of_getElem? ht
  exact (show Tryz.prog.wantsStandIn 9 = false by kernel_rfl)

theorem fnExactToInteger_holds : Rows.FnExactToIntegerCardSaid :=
  Claim7.holds_tied_plain_at .later [] _ _ _ _ said (fun _ h => by cases h) (by kernel_rfl) (fun _ h => by cases h) fnExactToInteger_row_tie rfl ⟨rfl, rfl⟩ (by kernel_rfl) rfl plain (by kernel_rfl)

#print axioms fnExactToInteger_holds
end Go.Proofs.YtamdnnkdnhkghaaGreatDoor
