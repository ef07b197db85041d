import Derived.Test.YtedpifhlffcmkaaGreatDoorKIP
import Derived.Test.YtedpifhlffcmkaaGreatDoorKIQ5
import Derived.Test.YtedpifhlffcmkaaGreatDoorKIQ6
import Derived.Test.YtedpifhlffcmkaaGreatDoorCards
import Derived.Test.YtedpifhlffcmkaaGreatDoorTie
import Derived.Lay
import Derived.LaidOnce
import Derived.SevenTiedAt
import Derived.MakeChecks
namespace Go.Proofs.YtedpifhlffcmkaaGreatDoor
open Go.ChangeShapes Go.WideShapes Go.ChangeAt Go Go.RowKit
set_option maxRecDepth 100000
set_option linter.unusedVariables false
abbrev gI:=Rows.fnExactHeapRunRow.laid
noncomputable def oZ:Input:=⟨#[],#[.slice none 0 0],[]⟩
theorem qM (os:Os):((World.laidAll Tryz.prog os gI).forCall (fun _ _=>0) oZ).Shaped Tryz.checked.prog:=World.shaped_of_ZipB (by kernel_rfl) (by kernel_rfl)
theorem Ao (os:Os):Input.okWideB Tryz.checked.prog ((World.laidAll Tryz.prog os gI).forCall (fun _ _=>0) oZ) 5 oZ=true:=by kernel_rfl
theorem vP (os:Os):laidMetH Tryz.checked.prog gI ((World.laidAll Tryz.prog os gI).forCall (fun _ _=>0) oZ).memory:=by
 rw [MakeChecks.laidMetH_plain _ _ _ (by kernel_rfl)]
 exact laidMet_laidAll _ (by kernel_rfl) (by kernel_rfl)
theorem vT (os:Os) {H:Type} (enc:TypeId × Value->H):(DataW.whole enc Tryz.checked.prog ((World.laidAll Tryz.prog os gI).forCall (fun _ _=>0) oZ).memory Tryz.f5.params.toList (OpenSpec.ofChange Rows.fnExactHeapRunSpec).vars false oZ.args.toList 8).isSome=true:=by kernel_rfl
theorem sU (os:Os) {H:Type} (enc:TypeId × Value->H):(OpenSpec.ofChange Rows.fnExactHeapRunSpec).bare.sizedB enc Tryz.checked.prog Tryz.f5 false ((World.laidAll Tryz.prog os gI).forCall (fun _ _=>0) oZ).memory oZ.args 8=true:=by kernel_rfl
theorem xG (os:Os) {H:Type} (enc:TypeId × Value->H):∃ (w:World) (tape:Tape) (i:Input),w.os=os/\(w.forCall tape i).Shaped Tryz.checked.prog/\i.vars=[]/\Input.okWide Tryz.checked.prog (w.forCall tape i) .any w.heap.size 5 i/\
 (OpenSpec.ofChange Rows.fnExactHeapRunSpec).preRow enc Tryz.checked.prog Tryz.f5 Rows.fnExactHeapRunRow.domain false gI (w.forCall tape i).memory i.args/\({}:Assume).holds Tryz.checked.prog (lone (Frame.enter Tryz.checked.prog 5 i.args .normal) [] (w.forCall tape i)):=by
 obtain ⟨x,hx⟩:=Option.isSome_iff_exists.1 (vT os enc)
 exact ⟨World.laidAll Tryz.prog os gI,fun _ _=>0,oZ,World.laidAll_os _ _ _,qM os,rfl,(Input.okWide_of_okWideB (Ao os)).2,
  OpenSpec.preRow_of_cond 8 hx rfl (fun k hk=>by cases hk) (sU os enc) (vP os),by
   simp only [Assume.holds]
   exact ⟨by simp,by simp,fun _=>Modest.zero,by simp,by simp⟩⟩
theorem ze (os:Os) (started:os.Started) (H:Type) (enc:TypeId × Value->H) (F:Stop.Interp):
 ReturnsInHanded {} Tryz.checked os 5 .any ((OpenSpec.ofChange Rows.fnExactHeapRunSpec).preRow enc Tryz.prog Tryz.f5 Rows.fnExactHeapRunRow.domain false gI) (((OpenSpec.ofChange Rows.fnExactHeapRunSpec).at F).post enc Tryz.prog Tryz.f5 false true false false):=by
 refine returnsInHanded_of_row (C:=Tryz.checked) (s:=OpenSpec.ofChange Rows.fnExactHeapRunSpec) Tryz.own started (by kernel_rfl) Tryz.func5 (xG os enc) ?_
 intro W base args ds gs before hval hW _ _ _ hL hS _
 exact mE H enc W base args ds gs before hval hW
theorem CS:Rows.FnExactHeapRunSaid:=
 OpenClaim.holds_of_cond (p:=Tryz.pinned) (s:=OpenSpec.ofChange Rows.fnExactHeapRunSpec) (c:=Rows.fnExactHeapRunRow) 5 Tryz.f5 rfl rfl rfl rfl rfl rfl rfl ⟨rfl,rfl,rfl,rfl,rfl⟩ rfl rfl rfl rfl rfl xw Tryz.func5 wQ xR yQ
  (fun os started H enc _ F=>by rw [OpenClaim.pre_eq_preRow];exact ze os started H enc F)
theorem Cq (f:FuncId) (fn:Func) (hf:Tryz.pinned.checked.prog.funcNamed "loop.example/g00002/laws.FnExactHeapRun" =some f) (hfn:Tryz.pinned.checked.prog.funcs[f]?=some fn):
 true=Tryz.pinned.checked.prog.looks []/\∀ (j:Nat) t,fn.params[j]?=some t->Tryz.pinned.checked.prog.wantsStandIn t=false:=by
 obtain rfl:f=5:=Option.some.inj ((show Tryz.prog.funcNamed "loop.example/g00002/laws.FnExactHeapRun" =some 5 by kernel_rfl).symm.trans hf)|>.symm
 obtain rfl:fn=Tryz.f5:=(Option.some.inj (Tryz.func5.symm.trans hfn)).symm
 refine ⟨by kernel_rfl,fun j t ht=>?_⟩
 rw [Tryz.params5] at ht
 obtain rfl:t=46:=by simpa using Array.mem_of_getElem? ht
 exact (show Tryz.prog.wantsStandIn 46=false by kernel_rfl)
theorem fnExactHeapRun_holds:Rows.FnExactHeapRunCardSaid:=
 Claim7.holds_tied_plain_at .later [] _ _ _ _ CS (fun _ h=>by cases h) (by kernel_rfl) (fun _ h=>by cases h) fnExactHeapRun_row_tie rfl ⟨rfl,rfl⟩ (by kernel_rfl) rfl Cq (by kernel_rfl)
#print axioms fnExactHeapRun_holds
end Go.Proofs.YtedpifhlffcmkaaGreatDoor
