import Derived.Test.YtamdnnkdnhkghaaGreatDoorCards
import Derived.Test.YtamdnnkdnhkghaaGreatDoorTie
import Derived.Lay
import Derived.LaidOnce
import Derived.SevenTiedAt
import Derived.Test.YtamdnnkdnhkghaaGreatDoorP46
import Derived.Test.YtamdnnkdnhkghaaGreatDoorP47
import Derived.Test.YtamdnnkdnhkghaaGreatDoorP48
namespace Go.Proofs.YtamdnnkdnhkghaaGreatDoor

open Go.ChangeShapes Go.WideShapes Go.ChangeAt Go Go.RowKit

set_option linter.unusedVariables false

set_option maxRecDepth 100000

noncomputable def finp : Input := ⟨#[], #[.agg #[.bool false, .int .i64 0, .int .u64 0]], []⟩

theorem fwit_shaped (os : Os) : ((World.laidAll Tryz.prog os laidFN).forCall (fun _ _ => 0) finp).Shaped Tryz.checked.prog := World.shaped_of_ZipB (by kernel_rfl) (by kernel_rfl)

theorem fwit_ok (os : Os) : Input.okWideB Tryz.checked.prog ((World.laidAll Tryz.prog os laidFN).forCall (fun _ _ => 0) finp) 3 finp = true := by kernel_rfl

theorem fwit_laid (os : Os) : laidMetH Tryz.checked.prog laidFN ((World.laidAll Tryz.prog os laidFN).forCall (fun _ _ => 0) finp).memory := by
  rw [MakeChecks.laidMetH_plain _ _ _ (by kernel_rfl)]
  exact laidMet_laidAll _ (by kernel_rfl) (by kernel_rfl)

theorem fwit_some (os : Os) {H : Type} (enc : TypeId × Value → H) : (DataW.whole enc Tryz.checked.prog ((World.laidAll Tryz.prog os laidFN).forCall (fun _ _ => 0) finp).memory Tryz.f3.params.toList (OpenSpec.ofChange Rows.fnExactFormatNumberSpec).vars false finp.args.toList 8).isSome = true := by kernel_rfl

theorem fwit_sized (os : Os) {H : Type} (enc : TypeId × Value → H) : (OpenSpec.ofChange Rows.fnExactFormatNumberSpec).bare.sizedB enc Tryz.checked.prog Tryz.f3 false ((World.laidAll Tryz.prog os laidFN).forCall (fun _ _ => 0) finp).memory finp.args 8 = true := by kernel_rfl

theorem fwitness (os : Os) {H : Type} (enc : TypeId × Value → H) : ∃ (w : World) (tape : Tape) (i : Input), w.os = os ∧ (w.forCall tape i).Shaped Tryz.checked.prog ∧ i.vars = [] ∧ Input.okWide Tryz.checked.prog (w.forCall tape i) .any w.heap.size 3 i ∧
    (OpenSpec.ofChange Rows.fnExactFormatNumberSpec).preRow enc Tryz.checked.prog Tryz.f3 Rows.fnExactFormatNumberRow.domain false laidFN (w.forCall tape i).memory i.args ∧ ({} : Assume).holds Tryz.checked.prog (lone (Frame.enter Tryz.checked.prog 3 i.args .normal) [] (w.forCall tape i)) := by
  obtain ⟨x, hx⟩ := Option.isSome_iff_exists.1 (fwit_some os enc)
  exact ⟨World.laidAll Tryz.prog os laidFN, fun _ _ => 0, finp, World.laidAll_os _ _ _, fwit_shaped os, rfl, (Input.okWide_of_okWideB (fwit_ok os)).2,
    OpenSpec.preRow_of_cond 8 hx rfl (fun k hk => by cases hk) (fwit_sized os enc) (fwit_laid os), by
      simp only [Assume.holds]
      exact ⟨by simp, by simp, fun _ => Modest.zero, by simp, by simp⟩⟩

theorem flifted (os : Os) (started : os.Started) (H : Type) (enc : TypeId × Value → H) (F : Stop.Interp) :
    ReturnsInHanded {} Tryz.checked os 3 .any ((OpenSpec.ofChange Rows.fnExactFormatNumberSpec).preRow enc Tryz.prog Tryz.f3 Rows.fnExactFormatNumberRow.domain false laidFN) (((OpenSpec.ofChange Rows.fnExactFormatNumberSpec).at F).post enc Tryz.prog Tryz.f3 false true false false) := by
  refine returnsInHanded_of_row (C := Tryz.checked) (s := OpenSpec.ofChange Rows.fnExactFormatNumberSpec) own started (by kernel_rfl) Tryz.func3 (fwitness os enc) ?_
  intro W base args ds gs before hval hW _ _ _ hL hS _
  exact fcontract H enc W base args ds gs before hval hW hL hS

theorem fsaid : Rows.FnExactFormatNumberSaid :=
  OpenClaim.holds_of_cond (p := Tryz.pinned) (s := OpenSpec.ofChange Rows.fnExactFormatNumberSpec) (c := Rows.fnExactFormatNumberRow) 3 Tryz.f3 rfl rfl rfl rfl rfl rfl rfl ⟨rfl, rfl, rfl, rfl, rfl⟩ rfl rfl rfl rfl rfl fclosed3 Tryz.func3 fclosed1 fclosed2 fclosed4
    (fun os started H enc _ F => by rw [OpenClaim.pre_eq_preRow]; exact flifted os started H enc F)

/-- No parameter wants a stand-in; the program's own looks. -/
theorem fplain (f : FuncId) (fn : Func) (hf : Tryz.pinned.checked.prog.funcNamed "loop.example/g00002/laws.FnExactFormatNumber" = some f) (hfn : Tryz.pinned.checked.prog.funcs[f]? = some fn) :
    true = Tryz.pinned.checked.prog.looks [] ∧ ∀ (j : Nat) t, fn.params[j]? = some t → Tryz.pinned.checked.prog.wantsStandIn t = false := by
  obtain rfl : f = 3 := Option.some.inj ((show Tryz.prog.funcNamed "loop.example/g00002/laws.FnExactFormatNumber" = some 3 by kernel_rfl).symm.trans hf) |>.symm
  obtain rfl : fn = Tryz.f3 := (Option.some.inj (Tryz.func3.symm.trans hfn)).symm
  refine ⟨by kernel_rfl, fun j t ht => ?_⟩
  rw [Tryz.params3] at ht
  obtain rfl : t = 24 := by simpa using Array.mem_of_getElem? ht
  exact (show Tryz.prog.wantsStandIn 24 = false by kernel_rfl)

theorem fnExactFormatNumber_holds : Rows.FnExactFormatNumberCardSaid :=
  Claim7.holds_tied_plain_at .later [] _ _ _ _ fsaid (fun _ h => by cases h) (by kernel_rfl) (fun _ h => by cases h) fnExactFormatNumber_row_tie rfl ⟨rfl, rfl⟩ (by kernel_rfl) rfl fplain (by kernel_rfl)

#print axioms fnExactFormatNumber_holds

end Go.Proofs.YtamdnnkdnhkghaaGreatDoor
