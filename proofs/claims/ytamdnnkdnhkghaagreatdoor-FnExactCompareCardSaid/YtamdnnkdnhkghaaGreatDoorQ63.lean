import Derived.Test.YtamdnnkdnhkghaaGreatDoorQ61
import Derived.Test.YtamdnnkdnhkghaaGreatDoorQ62
import Derived.Test.YtamdnnkdnhkghaaGreatDoorCards
import Derived.Test.YtamdnnkdnhkghaaGreatDoorTie
import Derived.Lay
import Derived.LaidOnce
import Derived.SevenTiedAt
namespace Go.Proofs.YtamdnnkdnhkghaaGreatDoor
open Go.ChangeShapes Go.WideShapes Go.ChangeAt Go Go.RowKit
set_option linter.unusedVariables false
set_option maxRecDepth 100000

noncomputable def cinp : Input := ⟨#[], #[.string ⟨#[]⟩, .string ⟨#[]⟩], []⟩

theorem cwit_shaped (os : Os) : ((World.laidAll Tryz.prog os laidCO).forCall (fun _ _ => 0) cinp).Shaped Tryz.checked.prog := World.shaped_of_ZipB (by kernel_rfl) (by kernel_rfl)
theorem cwit_ok (os : Os) : Input.okWideB Tryz.checked.prog ((World.laidAll Tryz.prog os laidCO).forCall (fun _ _ => 0) cinp) 6 cinp = true := by kernel_rfl
theorem cwit_laid (os : Os) : laidMetH Tryz.checked.prog laidCO ((World.laidAll Tryz.prog os laidCO).forCall (fun _ _ => 0) cinp).memory := by
  rw [MakeChecks.laidMetH_plain _ _ _ (by kernel_rfl)]
  exact laidMet_laidAll _ (by kernel_rfl) (by kernel_rfl)

theorem cwit_some (os : Os) {H : Type} (enc : TypeId × Value → H) : (DataW.whole enc Tryz.checked.prog ((World.laidAll Tryz.prog os laidCO).forCall (fun _ _ => 0) cinp).memory Tryz.f6.params.toList (OpenSpec.ofChange Rows.fnExactCompareSpec).vars false cinp.args.toList 8).isSome = true := by kernel_rfl

theorem cwit_sized (os : Os) {H : Type} (enc : TypeId × Value → H) : (OpenSpec.ofChange Rows.fnExactCompareSpec).bare.sizedB enc Tryz.checked.prog Tryz.f6 false ((World.laidAll Tryz.prog os laidCO).forCall (fun _ _ => 0) cinp).memory cinp.args 8 = true := by kernel_rfl

theorem cwitness (os : Os) {H : Type} (enc : TypeId × Value → H) : ∃ (w : World) (tape : Tape) (i : Input), w.os = os ∧ (w.forCall tape i).Shaped Tryz.checked.prog ∧ i.vars = [] ∧ Input.okWide Tryz.checked.prog (w.forCall tape i) .any w.heap.size 6 i ∧
    (OpenSpec.ofChange Rows.fnExactCompareSpec).preRow enc Tryz.checked.prog Tryz.f6 Rows.fnExactCompareRow.domain false laidCO (w.forCall tape i).memory i.args ∧ ({} : Assume).holds Tryz.checked.prog (lone (Frame.enter Tryz.checked.prog 6 i.args .normal) [] (w.forCall tape i)) := by
  obtain ⟨x, hx⟩ := Option.isSome_iff_exists.1 (cwit_some os enc)
  exact ⟨World.laidAll Tryz.prog os laidCO, fun _ _ => 0, cinp, World.laidAll_os _ _ _, cwit_shaped os, rfl, (Input.okWide_of_okWideB (cwit_ok os)).2,
    OpenSpec.preRow_of_cond 8 hx rfl (fun k hk => by cases hk) (cwit_sized os enc) (cwit_laid os), by
      simp only [Assume.holds]
      exact ⟨by simp, by simp, fun _ => Modest.zero, by simp, by simp⟩⟩

theorem clifted (os : Os) (started : os.Started) (H : Type) (enc : TypeId × Value → H) (F : Stop.Interp) :
    ReturnsInHanded {} Tryz.checked os 6 .any ((OpenSpec.ofChange Rows.fnExactCompareSpec).preRow enc Tryz.prog Tryz.f6 Rows.fnExactCompareRow.domain false laidCO) (((OpenSpec.ofChange Rows.fnExactCompareSpec).at F).post enc Tryz.prog Tryz.f6 false true false false) := by
  refine returnsInHanded_of_row (C := Tryz.checked) (s := OpenSpec.ofChange Rows.fnExactCompareSpec) own started (by kernel_rfl) Tryz.func6 (cwitness os enc) ?_
  intro W base args ds gs before hval hW _ _ _ hL hS _
  exact ccontract H enc W base args ds gs before hval hW hL hS

theorem csaid : Rows.FnExactCompareSaid :=
  OpenClaim.holds_of_cond (p := Tryz.pinned) (s := OpenSpec.ofChange Rows.fnExactCompareSpec) (c := Rows.fnExactCompareRow) 6 Tryz.f6 rfl rfl rfl rfl rfl rfl rfl ⟨rfl, rfl, rfl, rfl, rfl⟩ rfl rfl rfl rfl rfl cclosed3 Tryz.func6 cclosed1 cclosed2 cclosed4
    (fun os started H enc _ F => by rw [OpenClaim.pre_eq_preRow]; exact clifted os started H enc F)

/-- No parameter wants a stand-in; the program's own looks. -/
theorem cplain (f : FuncId) (fn : Func) (hf : Tryz.pinned.checked.prog.funcNamed "loop.example/g00002/laws.FnExactCompare" = some f) (hfn : Tryz.pinned.checked.prog.funcs[f]? = some fn) :
    true = Tryz.pinned.checked.prog.looks [] ∧ ∀ (j : Nat) t, fn.params[j]? = some t → Tryz.pinned.checked.prog.wantsStandIn t = false := by
  obtain rfl : f = 6 := Option.some.inj ((show Tryz.prog.funcNamed "loop.example/g00002/laws.FnExactCompare" = some 6 by kernel_rfl).symm.trans hf) |>.symm
  obtain rfl : fn = Tryz.f6 := (Option.some.inj (Tryz.func6.symm.trans hfn)).symm
  refine ⟨by kernel_rfl, fun j t ht => ?_⟩
  rw [Tryz.params6] at ht
  obtain rfl : t = 9 := by simpa using Array.mem_of_getElem? ht
  exact (show Tryz.prog.wantsStandIn 9 = false by kernel_rfl)

theorem fnExactCompare_holds : Rows.FnExactCompareCardSaid :=
  Claim7.holds_tied_plain_at .later [] _ _ _ _ csaid (fun _ h => by cases h) (by kernel_rfl) (fun _ h => by cases h) fnExactCompare_row_tie rfl ⟨rfl, rfl⟩ (by kernel_rfl) rfl cplain (by kernel_rfl)

#print axioms fnExactCompare_holds
end Go.Proofs.YtamdnnkdnhkghaaGreatDoor
