import Derived.Test.YtamdnnkdnhkghaaGreatDoorCards
import Derived.Test.YtamdnnkdnhkghaaGreatDoorTie
import Derived.Lay
import Derived.LaidOnce
import Derived.SevenTiedAt
import Derived.Test.YtamdnnkdnhkghaaGreatDoorT47
import Derived.Test.YtamdnnkdnhkghaaGreatDoorT52
namespace Go.Proofs.YtamdnnkdnhkghaaGreatDoor

open Go.ChangeShapes Go.WideShapes Go.ChangeAt Go Go.RowKit

set_option linter.unusedVariables false

set_option maxRecDepth 100000

noncomputable def tinp : Input := ⟨#[], #[.slice none 0 0], []⟩

theorem twit_shaped (os : Os) : ((World.laidAll Tryz.prog os laidFT).forCall (fun _ _ => 0) tinp).Shaped Tryz.checked.prog := World.shaped_of_ZipB (by kernel_rfl) (by kernel_rfl)

theorem twit_ok (os : Os) : Input.okWideB Tryz.checked.prog ((World.laidAll Tryz.prog os laidFT).forCall (fun _ _ => 0) tinp) 4 tinp = true := by kernel_rfl

theorem twit_laid (os : Os) : laidMetH Tryz.checked.prog laidFT ((World.laidAll Tryz.prog os laidFT).forCall (fun _ _ => 0) tinp).memory := by
  rw [MakeChecks.laidMetH_plain _ _ _ (by kernel_rfl)]
  exact laidMet_laidAll _ (by kernel_rfl) (by kernel_rfl)

theorem twit_some (os : Os) {H : Type} (enc : TypeId × Value → H) : (DataW.whole enc Tryz.checked.prog ((World.laidAll Tryz.prog os laidFT).forCall (fun _ _ => 0) tinp).memory Tryz.f4.params.toList (OpenSpec.ofChange Rows.fnFloatTextSpec).vars false tinp.args.toList 8).isSome = true := by kernel_rfl

theorem twit_sized (os : Os) {H : Type} (enc : TypeId × Value → H) : (OpenSpec.ofChange Rows.fnFloatTextSpec).bare.sizedB enc Tryz.checked.prog Tryz.f4 false ((World.laidAll Tryz.prog os laidFT).forCall (fun _ _ => 0) tinp).memory tinp.args 8 = true := by kernel_rfl

theorem twitness (os : Os) {H : Type} (enc : TypeId × Value → H) : ∃ (w : World) (tape : Tape) (i : Input), w.os = os ∧ (w.forCall tape i).Shaped Tryz.checked.prog ∧ i.vars = [] ∧ Input.okWide Tryz.checked.prog (w.forCall tape i) .any w.heap.size 4 i ∧
    (OpenSpec.ofChange Rows.fnFloatTextSpec).preRow enc Tryz.checked.prog Tryz.f4 Rows.fnFloatTextRow.domain false laidFT (w.forCall tape i).memory i.args ∧ ({} : Assume).holds Tryz.checked.prog (lone (Frame.enter Tryz.checked.prog 4 i.args .normal) [] (w.forCall tape i)) := by
  obtain ⟨x, hx⟩ := Option.isSome_iff_exists.1 (twit_some os enc)
  exact ⟨World.laidAll Tryz.prog os laidFT, fun _ _ => 0, tinp, World.laidAll_os _ _ _, twit_shaped os, rfl, (Input.okWide_of_okWideB (twit_ok os)).2,
    OpenSpec.preRow_of_cond 8 hx rfl (fun k hk => by cases hk) (twit_sized os enc) (twit_laid os), by
      simp only [Assume.holds]
      exact ⟨by simp, by simp, fun _ => Modest.zero, by simp, by simp⟩⟩

theorem tlifted (os : Os) (started : os.Started) (H : Type) (enc : TypeId × Value → H) (F : Stop.Interp) :
    ReturnsInHanded {} Tryz.checked os 4 .any ((OpenSpec.ofChange Rows.fnFloatTextSpec).preRow enc Tryz.prog Tryz.f4 Rows.fnFloatTextRow.domain false laidFT) (((OpenSpec.ofChange Rows.fnFloatTextSpec).at F).post enc Tryz.prog Tryz.f4 false true false false) := by
  refine returnsInHanded_of_row (C := Tryz.checked) (s := OpenSpec.ofChange Rows.fnFloatTextSpec) own started (by kernel_rfl) Tryz.func4 (twitness os enc) ?_
  intro W base args ds gs before hval hW _ _ _ hL hS _
  exact ftcontract H enc W base args ds gs before hval hW hL hS

theorem tsaid : Rows.FnFloatTextSaid :=
  OpenClaim.holds_of_cond (p := Tryz.pinned) (s := OpenSpec.ofChange Rows.fnFloatTextSpec) (c := Rows.fnFloatTextRow) 4 Tryz.f4 rfl rfl rfl rfl rfl rfl rfl ⟨rfl, rfl, rfl, rfl, rfl⟩ rfl rfl rfl rfl rfl tclosed3 Tryz.func4 tclosed1 tclosed2 tclosed4
    (fun os started H enc _ F => by rw [OpenClaim.pre_eq_preRow]; exact tlifted os started H enc F)

/-- No parameter wants a stand-in; the program's own looks. -/
theorem tplain (f : FuncId) (fn : Func) (hf : Tryz.pinned.checked.prog.funcNamed "loop.example/g00002/laws.FnFloatText" = some f) (hfn : Tryz.pinned.checked.prog.funcs[f]? = some fn) :
    true = Tryz.pinned.checked.prog.looks [] ∧ ∀ (j : Nat) t, fn.params[j]? = some t → Tryz.pinned.checked.prog.wantsStandIn t = false := by
  obtain rfl : f = 4 := Option.some.inj ((show Tryz.prog.funcNamed "loop.example/g00002/laws.FnFloatText" = some 4 by kernel_rfl).symm.trans hf) |>.symm
  obtain rfl : fn = Tryz.f4 := (Option.some.inj (Tryz.func4.symm.trans hfn)).symm
  refine ⟨by kernel_rfl, fun j t ht => ?_⟩
  rw [Tryz.params4] at ht
  obtain rfl : t = 29 := by simpa using Array.mem_of_getElem? ht
  exact (show Tryz.prog.wantsStandIn 29 = false by kernel_rfl)

theorem fnFloatText_holds : Rows.FnFloatTextCardSaid :=
  Claim7.holds_tied_plain_at .later [] _ _ _ _ tsaid (fun _ h => by cases h) (by kernel_rfl) (fun _ h => by cases h) fnFloatText_row_tie rfl ⟨rfl, rfl⟩ (by kernel_rfl) rfl tplain (by kernel_rfl)

#print axioms fnFloatText_holds

end Go.Proofs.YtamdnnkdnhkghaaGreatDoor
