import Derived.Test.YtbpcdfbmnklcjaaGreatDoorKLG
import Derived.Test.YtbpcdfbmnklcjaaGreatDoorKLH6
import Derived.Test.YtbpcdfbmnklcjaaGreatDoorCards
import Derived.Test.YtbpcdfbmnklcjaaGreatDoorTie
import Derived.Lay
import Derived.LaidOnce
import Derived.SevenTiedAt
import Derived.MakeChecks
namespace Go.Proofs.YtbpcdfbmnklcjaaGreatDoor
open Go.ChangeShapes Go.WideShapes Go.ChangeAt Go Go.RowKit
set_option maxRecDepth 100000
set_option linter.unusedVariables false
abbrev NA:=Rows.fnHeapCleanRow.laid
noncomputable def NS:Input:=⟨#[],#[.slice none 0 0,.slice none 0 0],[]⟩
theorem NZ (os:Os):((World.laidAll Tryz.prog os NA).forCall (fun _ _=>0) NS).Shaped Tryz.checked.prog:=World.shaped_of_ZipB (by kernel_rfl) (by kernel_rfl)
theorem OB (os:Os):Input.okWideB Tryz.checked.prog ((World.laidAll Tryz.prog os NA).forCall (fun _ _=>0) NS) 4 NS=true:=by kernel_rfl
theorem Om (os:Os):laidMetH Tryz.checked.prog NA ((World.laidAll Tryz.prog os NA).forCall (fun _ _=>0) NS).memory:=by
 rw [MakeChecks.laidMetH_plain _ _ _ (by kernel_rfl)];exact laidMet_laidAll _ (by kernel_rfl) (by kernel_rfl)
theorem Ol (os:Os) {H:Type} (a:TypeId × Value->H):(DataW.whole a Tryz.checked.prog ((World.laidAll Tryz.prog os NA).forCall (fun _ _=>0) NS).memory Tryz.f4.params.toList (OpenSpec.ofChange Rows.fnHeapCleanSpec).vars false NS.args.toList 8).isSome=true:=by kernel_rfl
theorem Oc (os:Os) {H:Type} (a:TypeId × Value->H):(OpenSpec.ofChange Rows.fnHeapCleanSpec).bare.sizedB a Tryz.checked.prog Tryz.f4 false ((World.laidAll Tryz.prog os NA).forCall (fun _ _=>0) NS).memory NS.args 8=true:=by kernel_rfl
theorem Ot (os:Os) {H:Type} (a:TypeId × Value->H):∃ (w:World) (tape:Tape) (i:Input),w.os=os/\(w.forCall tape i).Shaped Tryz.checked.prog/\i.vars=[]/\Input.okWide Tryz.checked.prog (w.forCall tape i) .any w.heap.size 4 i/\
 (OpenSpec.ofChange Rows.fnHeapCleanSpec).preRow a Tryz.checked.prog Tryz.f4 Rows.fnHeapCleanRow.domain false NA (w.forCall tape i).memory i.args/\({}:Assume).holds Tryz.checked.prog (lone (Frame.enter Tryz.checked.prog 4 i.args .normal) [] (w.forCall tape i)):=by
 obtain ⟨x,hx⟩:=Option.isSome_iff_exists.1 (Ol os a);exact ⟨World.laidAll Tryz.prog os NA,fun _ _=>0,NS,World.laidAll_os _ _ _,NZ os,rfl,(Input.okWide_of_okWideB (OB os)).2,
  OpenSpec.preRow_of_cond 8 hx rfl (fun k hk=>by cases hk) (Oc os a) (Om os),by
   simp only [Assume.holds];exact ⟨by simp,by simp,fun _=>Modest.zero,by simp,by simp⟩⟩
theorem OD (os:Os) (a:os.Started) (H:Type) (b:TypeId × Value->H) (F:Stop.Interp):
 ReturnsInHanded {} Tryz.checked os 4 .any ((OpenSpec.ofChange Rows.fnHeapCleanSpec).preRow b Tryz.prog Tryz.f4 Rows.fnHeapCleanRow.domain false NA) (((OpenSpec.ofChange Rows.fnHeapCleanSpec).at F).post b Tryz.prog Tryz.f4 false true false false):=by
 refine returnsInHanded_of_row (C:=Tryz.checked) (s:=OpenSpec.ofChange Rows.fnHeapCleanSpec) Tryz.own a (by kernel_rfl) Tryz.func4 (Ot os b) ?_;intro W base args g f c d e _ _ _ i h _;exact NK H b W base args g f c d e
theorem OW:Rows.FnHeapCleanSaid:=
 OpenClaim.holds_of_cond (p:=Tryz.pinned) (s:=OpenSpec.ofChange Rows.fnHeapCleanSpec) (c:=Rows.fnHeapCleanRow) 4 Tryz.f4 rfl rfl rfl rfl rfl rfl rfl ⟨rfl,rfl,rfl,rfl,rfl⟩ rfl rfl rfl rfl rfl Ov Tryz.func4 Oq Ox Ou
  (fun os started H enc _ F=>by rw [OpenClaim.pre_eq_preRow];exact OD os started H enc F)
theorem OU (f:FuncId) (fn:Func) (b:Tryz.pinned.checked.prog.funcNamed "loop.example/g00002/laws.FnHeapClean" =some f) (a:Tryz.pinned.checked.prog.funcs[f]?=some fn):
 true=Tryz.pinned.checked.prog.looks []/\∀ (j:Nat) t,fn.params[j]?=some t->Tryz.pinned.checked.prog.wantsStandIn t=false:=by
 obtain rfl:f=4:=Option.some.inj ((show Tryz.prog.funcNamed "loop.example/g00002/laws.FnHeapClean" =some 4 by kernel_rfl).symm.trans b)|>.symm;obtain rfl:fn=Tryz.f4:=(Option.some.inj (Tryz.func4.symm.trans a)).symm;refine ⟨by kernel_rfl,fun j t ht=>?_⟩;rw [Tryz.params4] at ht;obtain rfl:t=22:=by simpa using Array.mem_of_getElem? ht
 exact (show Tryz.prog.wantsStandIn 22=false by kernel_rfl)
theorem fnHeapClean_holds:Rows.FnHeapCleanCardSaid:=
 Claim7.holds_tied_plain_at .later [] _ _ _ _ OW (fun _ h=>by cases h) (by kernel_rfl) (fun _ h=>by cases h) fnHeapClean_row_tie rfl ⟨rfl,rfl⟩ (by kernel_rfl) rfl OU (by kernel_rfl)
#print axioms fnHeapClean_holds
end Go.Proofs.YtbpcdfbmnklcjaaGreatDoor
