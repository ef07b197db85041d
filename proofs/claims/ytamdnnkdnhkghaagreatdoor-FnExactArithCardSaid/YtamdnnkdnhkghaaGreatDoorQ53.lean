import Derived.Test.YtamdnnkdnhkghaaGreatDoorTie
import Derived.LaidOnce
import Derived.Test.YtamdnnkdnhkghaaGreatDoorQ52
set_option maxHeartbeats 12800000
set_option maxRecDepth 100000
set_option linter.unusedVariables false
namespace Go.Proofs.YtamdnnkdnhkghaaGreatDoor
open Go.ChangeShapes Go.WideShapes Go.ChangeAt Go Go.RowKit
noncomputable def ainp:Input:=⟨#[],#[.int .i64 1,.string ⟨#[]⟩,.string ⟨#[]⟩],[]⟩
theorem zjE (os:Os):((World.laidAll Tryz.prog os laidAR).forCall (fun _ _=>0) ainp).Shaped Tryz.checked.prog:=World.shaped_of_ZipB (by kernel_rfl) (by kernel_rfl)
theorem zsr (os:Os):Input.okWideB Tryz.checked.prog ((World.laidAll Tryz.prog os laidAR).forCall (fun _ _=>0) ainp) 7 ainp=true:=by kernel_rfl
theorem zod (os:Os):laidMetH Tryz.checked.prog laidAR ((World.laidAll Tryz.prog os laidAR).forCall (fun _ _=>0) ainp).memory:=by
 rw [MakeChecks.laidMetH_plain _ _ _ (by kernel_rfl)]
 exact laidMet_laidAll _ (by kernel_rfl) (by kernel_rfl)
theorem znb (os:Os) {H:Type} (enc:TypeId × Value->H):(DataW.whole enc Tryz.checked.prog ((World.laidAll Tryz.prog os laidAR).forCall (fun _ _=>0) ainp).memory Tryz.f7.params.toList (OpenSpec.ofChange Rows.fnExactArithSpec).vars false ainp.args.toList 8).isSome=true:=by kernel_rfl
theorem zle (os:Os) {H:Type} (enc:TypeId × Value->H):(OpenSpec.ofChange Rows.fnExactArithSpec).bare.sizedB enc Tryz.checked.prog Tryz.f7 false ((World.laidAll Tryz.prog os laidAR).forCall (fun _ _=>0) ainp).memory ainp.args 8=true:=by kernel_rfl
theorem zpl (os:Os) {H:Type} (enc:TypeId × Value->H):∃ (w:World) (tape:Tape) (i:Input),w.os=os/\(w.forCall tape i).Shaped Tryz.checked.prog/\i.vars=[]/\Input.okWide Tryz.checked.prog (w.forCall tape i) .any w.heap.size 7 i/\
 (OpenSpec.ofChange Rows.fnExactArithSpec).preRow enc Tryz.checked.prog Tryz.f7 Rows.fnExactArithRow.domain false laidAR (w.forCall tape i).memory i.args/\({}:Assume).holds Tryz.checked.prog (lone (Frame.enter Tryz.checked.prog 7 i.args .normal) [] (w.forCall tape i)):=by
 obtain ⟨x,hx⟩:=Option.isSome_iff_exists.1 (znb os enc)
 exact ⟨World.laidAll Tryz.prog os laidAR,fun _ _=>0,ainp,World.laidAll_os _ _ _,zjE os,rfl,(Input.okWide_of_okWideB (zsr os)).2,
  OpenSpec.preRow_of_cond 8 hx rfl (fun k hk=>by cases hk) (zle os enc) (zod os),by
   simp only [Assume.holds]
   exact ⟨by simp,by simp,fun _=>Modest.zero,by simp,by simp⟩⟩
theorem zst (os:Os) (started:os.Started) (H:Type) (enc:TypeId × Value->H) (F:Stop.Interp):
 ReturnsInHanded {} Tryz.checked os 7 .any ((OpenSpec.ofChange Rows.fnExactArithSpec).preRow enc Tryz.prog Tryz.f7 Rows.fnExactArithRow.domain false laidAR) (((OpenSpec.ofChange Rows.fnExactArithSpec).at F).post enc Tryz.prog Tryz.f7 false true false false):=by
 refine returnsInHanded_of_row (C:=Tryz.checked) (s:=OpenSpec.ofChange Rows.fnExactArithSpec) own started (by kernel_rfl) Tryz.func7 (zpl os enc) ?_
 intro W base args ds gs before hval hW _ _ _ hL hS _
 exact znB H enc W base args ds gs before hval hW hL hS
theorem asaid:Rows.FnExactArithSaid:=
 OpenClaim.holds_of_cond (p:=Tryz.pinned) (s:=OpenSpec.ofChange Rows.fnExactArithSpec) (c:=Rows.fnExactArithRow) 7 Tryz.f7 rfl rfl rfl rfl rfl rfl rfl ⟨rfl,rfl,rfl,rfl,rfl⟩ rfl rfl rfl rfl rfl aclosed3 Tryz.func7 aclosed1 aclosed2 aclosed4
  (fun os started H enc _ F=>by rw [OpenClaim.pre_eq_preRow];exact zst os started H enc F)
theorem zuU (f:FuncId) (fn:Func) (hf:Tryz.pinned.checked.prog.funcNamed "loop.example/g00002/laws.FnExactArith" =some f) (hfn:Tryz.pinned.checked.prog.funcs[f]?=some fn):
 true=Tryz.pinned.checked.prog.looks []/\∀ (j:Nat) t,fn.params[j]?=some t->Tryz.pinned.checked.prog.wantsStandIn t=false:=by
 obtain rfl:f=7:=Option.some.inj ((show Tryz.prog.funcNamed "loop.example/g00002/laws.FnExactArith" =some 7 by kernel_rfl).symm.trans hf)|>.symm
 obtain rfl:fn=Tryz.f7:=(Option.some.inj (Tryz.func7.symm.trans hfn)).symm
 refine ⟨by kernel_rfl,fun j t ht=>?_⟩
 rw [Tryz.params7] at ht
 have ht2:t=3∨t=9:=by simpa using Array.mem_of_getElem? ht
 rcases ht2 with rfl|rfl
 ·exact (show Tryz.prog.wantsStandIn 3=false by kernel_rfl)
 exact (show Tryz.prog.wantsStandIn 9=false by kernel_rfl)
theorem fnExactArith_holds:Rows.FnExactArithCardSaid:=
 Claim7.holds_tied_plain_at .later [] _ _ _ _ asaid (fun _ h=>by cases h) (by kernel_rfl) (fun _ h=>by cases h) fnExactArith_row_tie rfl ⟨rfl,rfl⟩ (by kernel_rfl) rfl zuU (by kernel_rfl)
#print axioms fnExactArith_holds
end Go.Proofs.YtamdnnkdnhkghaaGreatDoor
