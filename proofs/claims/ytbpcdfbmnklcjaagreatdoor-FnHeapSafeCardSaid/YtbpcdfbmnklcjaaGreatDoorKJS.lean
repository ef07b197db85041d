import Derived.Test.YtbpcdfbmnklcjaaGreatDoorKJR
import Derived.Test.YtbpcdfbmnklcjaaGreatDoorKJS5
import Derived.Test.YtbpcdfbmnklcjaaGreatDoorKJS6
import Derived.Test.YtbpcdfbmnklcjaaGreatDoorCards
import Derived.Test.YtbpcdfbmnklcjaaGreatDoorTie
import Derived.Lay
import Derived.LaidOnce
import Derived.SevenTiedAt
import Derived.MakeChecks
namespace Go.Proofs.YtbpcdfbmnklcjaaGreatDoor
open Go.ChangeShapes Go.WideShapes Go.ChangeAt Go Go.RowKit
set_option maxRecDepth 100000
set_option linter.unusedVariables false
abbrev jl:=Rows.fnHeapSafeRow.laid
noncomputable def qX:Input:=⟨#[],#[.slice none 0 0],[]⟩
theorem t_ (os:Os):((World.laidAll Tryz.prog os jl).forCall (fun _ _=>0) qX).Shaped Tryz.checked.prog:=World.shaped_of_ZipB (by kernel_rfl) (by kernel_rfl)
theorem Dk (os:Os):Input.okWideB Tryz.checked.prog ((World.laidAll Tryz.prog os jl).forCall (fun _ _=>0) qX) 3 qX=true:=by kernel_rfl
theorem xu (os:Os):laidMetH Tryz.checked.prog jl ((World.laidAll Tryz.prog os jl).forCall (fun _ _=>0) qX).memory:=by
 rw [MakeChecks.laidMetH_plain _ _ _ (by kernel_rfl)];exact laidMet_laidAll _ (by kernel_rfl) (by kernel_rfl)
theorem yM (os:Os) {H:Type} (a:TypeId × Value->H):(DataW.whole a Tryz.checked.prog ((World.laidAll Tryz.prog os jl).forCall (fun _ _=>0) qX).memory Tryz.f3.params.toList (OpenSpec.ofChange Rows.fnHeapSafeSpec).vars false qX.args.toList 8).isSome=true:=by kernel_rfl
theorem uQ (os:Os) {H:Type} (a:TypeId × Value->H):(OpenSpec.ofChange Rows.fnHeapSafeSpec).bare.sizedB a Tryz.checked.prog Tryz.f3 false ((World.laidAll Tryz.prog os jl).forCall (fun _ _=>0) qX).memory qX.args 8=true:=by kernel_rfl
theorem AB (os:Os) {H:Type} (a:TypeId × Value->H):∃ (w:World) (tape:Tape) (i:Input),w.os=os/\(w.forCall tape i).Shaped Tryz.checked.prog/\i.vars=[]/\Input.okWide Tryz.checked.prog (w.forCall tape i) .any w.heap.size 3 i/\
 (OpenSpec.ofChange Rows.fnHeapSafeSpec).preRow a Tryz.checked.prog Tryz.f3 Rows.fnHeapSafeRow.domain false jl (w.forCall tape i).memory i.args/\({}:Assume).holds Tryz.checked.prog (lone (Frame.enter Tryz.checked.prog 3 i.args .normal) [] (w.forCall tape i)):=by
 obtain ⟨x,hx⟩:=Option.isSome_iff_exists.1 (yM os a);exact ⟨World.laidAll Tryz.prog os jl,fun _ _=>0,qX,World.laidAll_os _ _ _,t_ os,rfl,(Input.okWide_of_okWideB (Dk os)).2,
  OpenSpec.preRow_of_cond 8 hx rfl (fun k hk=>by cases hk) (uQ os a) (xu os),by
   simp only [Assume.holds];exact ⟨by simp,by simp,fun _=>Modest.zero,by simp,by simp⟩⟩
theorem CB (os:Os) (a:os.Started) (H:Type) (b:TypeId × Value->H) (F:Stop.Interp):
 ReturnsInHanded {} Tryz.checked os 3 .any ((OpenSpec.ofChange Rows.fnHeapSafeSpec).preRow b Tryz.prog Tryz.f3 Rows.fnHeapSafeRow.domain false jl) (((OpenSpec.ofChange Rows.fnHeapSafeSpec).at F).post b Tryz.prog Tryz.f3 false true false false):=by
 refine returnsInHanded_of_row (C:=Tryz.checked) (s:=OpenSpec.ofChange Rows.fnHeapSafeSpec) Tryz.own a (by kernel_rfl) Tryz.func3 (AB os b) ?_;intro W base args g f c d e _ _ _ i h _;exact oM H b W base args g f c d e
theorem EW:Rows.FnHeapSafeSaid:=
 OpenClaim.holds_of_cond (p:=Tryz.pinned) (s:=OpenSpec.ofChange Rows.fnHeapSafeSpec) (c:=Rows.fnHeapSafeRow) 3 Tryz.f3 rfl rfl rfl rfl rfl rfl rfl ⟨rfl,rfl,rfl,rfl,rfl⟩ rfl rfl rfl rfl rfl zN Tryz.func3 zA Ao zy
  (fun os started H enc _ F=>by rw [OpenClaim.pre_eq_preRow];exact CB os started H enc F)
theorem DV (f:FuncId) (fn:Func) (b:Tryz.pinned.checked.prog.funcNamed "loop.example/g00002/laws.FnHeapSafe" =some f) (a:Tryz.pinned.checked.prog.funcs[f]?=some fn):
 true=Tryz.pinned.checked.prog.looks []/\∀ (j:Nat) t,fn.params[j]?=some t->Tryz.pinned.checked.prog.wantsStandIn t=false:=by
 obtain rfl:f=3:=Option.some.inj ((show Tryz.prog.funcNamed "loop.example/g00002/laws.FnHeapSafe" =some 3 by kernel_rfl).symm.trans b)|>.symm;obtain rfl:fn=Tryz.f3:=(Option.some.inj (Tryz.func3.symm.trans a)).symm;refine ⟨by kernel_rfl,fun j t ht=>?_⟩;rw [Tryz.params3] at ht;obtain rfl:t=22:=by simpa using Array.mem_of_getElem? ht
 exact (show Tryz.prog.wantsStandIn 22=false by kernel_rfl)
theorem fnHeapSafe_holds:Rows.FnHeapSafeCardSaid:=
 Claim7.holds_tied_plain_at .later [] _ _ _ _ EW (fun _ h=>by cases h) (by kernel_rfl) (fun _ h=>by cases h) fnHeapSafe_row_tie rfl ⟨rfl,rfl⟩ (by kernel_rfl) rfl DV (by kernel_rfl)
#print axioms fnHeapSafe_holds
end Go.Proofs.YtbpcdfbmnklcjaaGreatDoor
