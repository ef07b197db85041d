import Derived.Test.YtjibjahfbblieaaGreatDoorKMH
import Derived.Test.YtjibjahfbblieaaGreatDoorKMI
import Derived.Test.YtjibjahfbblieaaGreatDoorKLS
import Derived.Test.YtjibjahfbblieaaGreatDoorKBO
import Derived.Test.YtjibjahfbblieaaGreatDoorKP1R2
import Derived.Test.YtjibjahfbblieaaGreatDoorKA0
import Derived.Test.YtjibjahfbblieaaGreatDoorKMK1
import Derived.Test.YtjibjahfbblieaaGreatDoorKMK2
import Derived.Test.YtjibjahfbblieaaGreatDoorKMK3
import Derived.Test.YtjibjahfbblieaaGreatDoorCards
import Derived.Test.YtjibjahfbblieaaGreatDoorTie
import Derived.Lay
import Derived.LaidOnce
import Derived.SevenTiedAt
namespace Go.Proofs.YtjibjahfbblieaaGreatDoor
open Go Go.RowKit
set_option linter.unusedVariables false
set_option maxHeartbeats 3200000 in
set_option maxRecDepth 100000 in
theorem yL (a:Option Addr) (n cap:Nat) (P:Nat->PV) (w:World) (hn:n<=9223372036854775807) (hs:∀ k,k<n->(P k).sane) (hbit:iw n P) (hc1:∀ i,i<n->∀ k,k<(P i).nc->lD ((P i).c1 k)) (h:bY w (.slice a n cap) n P) (hE:PE w) (hF:F.FE w) (hTB:qm w):
 Calls Tryz.prog 3 #[.agg #[.slice a n cap]] w fun e w'=>e=.returned (.bool true)/\Below w.heap.size w w':=by
 have HS:=hide hs
 have HBit:=hide hbit
 have HC1:=hide hc1
 have HA:=hide h
 have HE:=hide hE
 have HFe:=hide hF
 have HTB:=hide hTB
 clear hs hbit h hc1 hE hF hTB
 have hR:=ah.mk' w 24 #[.slice a n cap]
 have HR:=hide hR
 have HB:=hide (b_1 w (.cells #[.slice a n cap] 24))
 clear hR
 go_enter Tryz.func3,Tryz.ntmps3
 go_wp2_with fail
 generalize w.alloc (.cells #[.slice a n cap] 24)=w1 at HR HB ⊢
 refine (yA _ n P 1048576 w1 (by omega) (by omega) hn HS.out (HA.out.low HB.out (Nat.le_refl _))).mono ?_
 rintro e w2 ⟨r,rfl,hr,hb2⟩
 have HR:=hide (HR.out.low hb2 HR.out.lt)
 have HB:=hide (HB.out.trans (hb2.mono HB.out.size))
 clear hb2
 rcases hr with rfl|⟨h2,h3,h4,h5,h6⟩
 ·go_wp2_with fail
  go_ret
  exact ⟨rfl,HB.out⟩
 have hr0:¬ (r<0):=by omega
 have HF:=hide (E5 h5 (by omega))
 have hn2:n<=1048576:=by omega
 have HWt:=hide (show CX P n<=1048576 by omega)
 clear h5 h3 h4 h6
 have y:w2.cell? ⟨w.heap.size,0,none⟩=some (.slice a n cap):=HR.out.cell (j:=0) (by simp)
 go_wp2_with fail
 clear y
 refine (kU _ n P w2 hn2 HF.out (HA.out.low HB.out (Nat.le_refl _))).mono ?_
 rintro e w3 ⟨G3,rfl,hg,hoG3,hb⟩
 have HR:=hide (HR.out.low hb HR.out.lt)
 have HB:=hide (HB.out.trans (hb.mono HB.out.size))
 have HO3:=hide hoG3
 clear hb hoG3 hg
 unfold sl at *
 go_wp2_with fail
 refine (EW y9 PO _ n n P w3 hn2 HF.out HBit.out HWt.out HC1.out HO3.out.by).mono ?_
 rintro e w4 ⟨t4,c4,rfl,hv4,hb⟩
 have HR:=hide (HR.out.low hb HR.out.lt)
 have HB:=hide (HB.out.trans (hb.mono HB.out.size))
 have HV4:=hide hv4
 clear hb hv4 HO3
 have y:w4.cell? ⟨w.heap.size,0,none⟩=some (.slice a n cap):=HR.out.cell (j:=0) (by simp)
 go_wp2_with fail
 clear y
 refine (kU _ n P w4 hn2 HF.out (HA.out.low HB.out (Nat.le_refl _))).mono ?_
 rintro e w6 ⟨G6,rfl,hg,ho6,hb⟩
 have HR:=hide (HR.out.low hb HR.out.lt)
 have HB:=hide (HB.out.trans (hb.mono HB.out.size))
 clear hb hg
 have hA6:=b_1 w6 (.cells #[sl G6 n] 30)
 have HX:=hide (ah.mk' w6 30 #[sl G6 n])
 have HR:=hide (HR.out.low hA6 HR.out.lt)
 have HB:=hide (HB.out.trans (hA6.mono HB.out.size))
 have HO6:=hide (ho6.low hA6 (Nat.le_refl _))
 clear hA6 ho6
 unfold sl at *
 go_wp2_with fail
 generalize w6.heap.size=g6 at *
 generalize w6.alloc (.cells #[.slice (some ⟨G6,0,none⟩) n n] 30)=w7 at *
 refine (Gz y9 Qb _ n n P w7 hn2 HF.out HBit.out HC1.out HO6.out.by (HE.out.low HB.out) (HFe.out.below HB.out) (HTB.out.low HB.out)).mono ?_
 rintro e w8 ⟨t8,c8,rfl,hv8,hb⟩
 obtain ⟨rfl,rfl⟩:=HV4.out.unique hv8
 have HR:=hide (HR.out.low hb HR.out.lt)
 have HB:=hide (HB.out.trans (hb.mono HB.out.size))
 have HX:=hide (HX.out.low hb HX.out.lt)
 have HO6:=hide (HO6.out.low hb (Nat.le_refl _))
 clear hb hv8 HV4
 have y:w8.cell? ⟨w.heap.size,0,none⟩=some (.slice a n cap):=HR.out.cell (j:=0) (by simp)
 have x:w8.cell? ⟨g6,0,none⟩=some (.slice (some ⟨G6,0,none⟩) n n):=HX.out.cell (j:=0) (by simp)
 go_wp2_with fail
 have hl1:w.heap.size<w8.heap.size:=HR.out.lt
 have hl2:g6<w8.heap.size:=HX.out.lt
 go_region_held3 (fun w9=>w9.cell? ⟨w.heap.size,0,none⟩=some (.slice a n cap)/\w9.cell? ⟨g6,0,none⟩=some (.slice (some ⟨G6,0,none⟩) n n)) (go_keep)
  (first
    |(go_at_call 6
      refine (kU _ n P _ hn2 HF.out (HA.out.low HB.out.drew (Nat.le_refl _))).mono ?_
      rintro e wB ⟨GB,rfl,hg,hoB,hb⟩
      have q0:=(hb.cell (p:=⟨w.heap.size,0,none⟩) hl1).trans y
      have q1:=(hb.cell (p:=⟨g6,0,none⟩) hl2).trans x
      have HBB:=hide (HB.out.drew.trans (hb.mono HB.out.size))
      have HO7:=hide (HO6.out.low ((Below.refl w8.heap.size w8).drew.trans hb) (Nat.le_refl _))
      have HOB:=hide hoB
      have hm1:w.heap.size<wB.heap.size:=Nat.lt_of_lt_of_le hl1 hb.size
      have hm2:g6<wB.heap.size:=Nat.lt_of_lt_of_le hl2 hb.size
      clear hb hoB hg
      unfold sl)
    |(go_at_call 8
      refine (ze _ _ n P _ hn2 HF.out HO7.out.by HOB.out.by).mono ?_
      rintro e wC ⟨rfl,hb⟩
      have r0:=(hb.cell (p:=⟨w.heap.size,0,none⟩) hm1).trans q0
      have r1:=(hb.cell (p:=⟨g6,0,none⟩) hm2).trans q1
      have HBC:=hide (HBB.out.trans (hb.mono HBB.out.size))
      clear hb))
 go_wp2_with fail
 go_ret
 exact ⟨rfl,HBC.out⟩
end Go.Proofs.YtjibjahfbblieaaGreatDoor
namespace Go.Proofs.YtjibjahfbblieaaGreatDoor
open Go.ChangeShapes Go.WideShapes Go.ChangeAt Go Go.RowKit Go.ChangeMaps Go.WideElems Go.Joins Go.Deep
set_option linter.unusedVariables false
abbrev fq:=Rows.fnExactListRow.laid
theorem nP:F.Listed fq:=by
 constructor
 all_goals (unfold fq Rows.fnExactListRow;simp only [List.mem_cons,true_or,or_true])
theorem Pt {W:World} (h:laidMet Tryz.prog fq W) (hS:W.ShapedOpen Tryz.prog):PE W/\F.FE W/\qm W:=by
 obtain ⟨G,o,P,po,C,co,ev,m,hE⟩:=F.env_of h nP hS
 have hsz:18<W.heap.size:=by
  obtain ⟨_,_,t1,_,_⟩:=F.rd_tens h nP.tens
  exact F.cell_lt t1
 have ht:LV W:=by
  have h2:=laidMet.filter (fun x=>x.1== "internal/strconv.uint64pow10") h
  have hf:fq.filter (fun x=>x.1== "internal/strconv.uint64pow10")=[("internal/strconv.uint64pow10",Lib.tabData .u64 Lib.pow10Tab)]:=rfl
  rw [hf] at h2
  exact Lib.tabIs_of_head (g:=3) (t:=221) (n:=20) (by kernel_rfl) (by kernel_rfl) (by kernel_rfl) Tryz.underlying84 (by kernel_rfl) (by kernel_rfl) h2
 have hb:qm W:=by
  have h2:=laidMet.filter (fun x=>x.1== "strings.asciiSpace") h
  have hf:fq.filter (fun x=>x.1== "strings.asciiSpace")=[("strings.asciiSpace",Lib.tabData .u8 Lib.asciiSpaceTab)]:=by kernel_rfl
  rw [hf] at h2
  exact Lib.tabIs_of_head (g:=0) (t:=120) (n:=256) (by kernel_rfl) (by kernel_rfl) (by kernel_rfl) Tryz.underlying5 (by kernel_rfl) (by kernel_rfl) h2
 exact ⟨⟨ht,by omega⟩,⟨⟨hsz,F.rd_pow10 h nP.pow10,F.rd_optimize h nP.opt,ht⟩,G,o,P,po,C,co,ev,m,hE⟩,hb⟩
theorem Qx:ownKnob Tryz.prog.godebug=none:=by kernel_rfl
theorem Jh:laidOutB Tryz.prog=true:=by kernel_rfl
theorem vF:Tryz.prog.readableRec 24=true/\24<Tryz.prog.types.size:=⟨by kernel_rfl,by decide+kernel⟩
set_option maxRecDepth 100000 in
theorem EA (H:Type) (enc:TypeId × Value->H) (W:World) (base:Nat) (args:Array Value) (ds gs:List (DataW H)) (before:List MemPlace)
 (hval:∀ (j:Nat) t v,Tryz.f3.params[j]?=some t->args[j]?=some v->Value.okWide Tryz.prog W .any base t v)
 (hW:DataW.Whole enc Tryz.prog Tryz.f3.params.toList Rows.fnExactListSpec.vars false W args.toList ds gs before) (hL:laidMetH Tryz.prog Rows.fnExactListRow.laid W) (hS:W.ShapedOpen Tryz.prog):
 Calls Tryz.prog 3 args W fun e W'=>∃ v,e=.returned v/\Rows.fnExactListSpec.post enc Tryz.prog Tryz.f3 false true false false W args v W':=by
 have hW':=hW
 obtain ⟨p,q,hA0,hV,rfl,hfz,hnd⟩:=hW
 have hA:DataW.TrodAll enc Tryz.prog W 0 (fun _=>true) true Tryz.f3.params.toList args.toList ds p:=hA0
 rw [Tryz.params3] at hA hval
 obtain ⟨v0,vs0,d0,ds0,p0,q0,hargs,rfl,rfl,h0,r0⟩:=trodAll_cons hA
 obtain ⟨rfl,rfl,rfl⟩:=trodAll_nil r0
 obtain rfl:args=#[v0]:=by cases args;simp_all
 obtain ⟨rfl,rfl⟩:=trodVars_none hV
 have hlt:=hW'.lt
 obtain ⟨fuel,hf⟩:=h0
 clear hA0
 obtain ⟨a,n,cap,P,rfl,hn,hP,hs,hb,hc⟩:=zD (hval 0 24 v0 rfl rfl) hf
 have hL':laidMet Tryz.prog fq W:=hL
 obtain ⟨hE,hF,hT⟩:=Pt hL' hS
 refine (yL a n cap P W hn hs hb hc hP hE hF hT).mono fun e W' ⟨he,hb⟩=>?_
 subst he
 have hst:∀ (sp:Nat->Bool),(∀ x∈p0,sp x.block=true)->DataW.Trod enc Tryz.prog W' 0 sp true 24 (.agg #[.slice a n cap]) d0 p0:=fun sp hsp=>by
  exact ⟨fuel,DataW.trod_stays (kids_book Jh vF.1) (book_sized vF.1) (fun h=>by cases h) ⟨vF.2,book_self 24⟩ hf (fun x hx=>hb.same (hlt x (by simp [hx]))) hsp⟩
 refine ⟨_,rfl,JG hW' (pa:=p0++[]) (pv:=[]) (fun _ _ _=>trodAll_cons_mk (shut_bool Tryz.underlying4 _) trodAll_mk0) (fun sp hsp=>trodAll_cons_mk (hst sp (fun x hx=>hsp x (by simp [hx]))) trodAll_mk0)
  (fun sp hsp=>rfl) rfl hb (ok_one (by kernel_rfl) rfl (okWide_bool_mk Tryz.underlying4 _))⟩
end Go.Proofs.YtjibjahfbblieaaGreatDoor
namespace Go.Proofs.YtjibjahfbblieaaGreatDoor
open Go.ChangeShapes Go.WideShapes Go.ChangeAt Go Go.RowKit
set_option linter.unusedVariables false
set_option maxRecDepth 100000
noncomputable def xq:Input:=⟨#[],#[.agg #[.slice none 0 0]],[]⟩
theorem zF (os:Os):((World.laidAll Tryz.prog os fq).forCall (fun _ _=>0) xq).Shaped Tryz.checked.prog:=World.shaped_of_ZipB (by kernel_rfl) (by kernel_rfl)
theorem Lv (os:Os):Input.okWideB Tryz.checked.prog ((World.laidAll Tryz.prog os fq).forCall (fun _ _=>0) xq) 3 xq=true:=by kernel_rfl
theorem ES (os:Os):laidMetH Tryz.checked.prog fq ((World.laidAll Tryz.prog os fq).forCall (fun _ _=>0) xq).memory:=by
 rw [MakeChecks.laidMetH_plain _ _ _ (by kernel_rfl)]
 exact laidMet_laidAll _ (by kernel_rfl) (by kernel_rfl)
theorem FQ (os:Os) {H:Type} (enc:TypeId × Value->H):(DataW.whole enc Tryz.checked.prog ((World.laidAll Tryz.prog os fq).forCall (fun _ _=>0) xq).memory Tryz.f3.params.toList (OpenSpec.ofChange Rows.fnExactListSpec).vars false xq.args.toList 8).isSome=true:=by kernel_rfl
theorem Bj (os:Os) {H:Type} (enc:TypeId × Value->H):(OpenSpec.ofChange Rows.fnExactListSpec).bare.sizedB enc Tryz.checked.prog Tryz.f3 false ((World.laidAll Tryz.prog os fq).forCall (fun _ _=>0) xq).memory xq.args 8=true:=by kernel_rfl
theorem Gy (os:Os) {H:Type} (enc:TypeId × Value->H):∃ (w:World) (tape:Tape) (i:Input),w.os=os/\(w.forCall tape i).Shaped Tryz.checked.prog/\i.vars=[]/\Input.okWide Tryz.checked.prog (w.forCall tape i) .any w.heap.size 3 i/\
 (OpenSpec.ofChange Rows.fnExactListSpec).preRow enc Tryz.checked.prog Tryz.f3 Rows.fnExactListRow.domain false fq (w.forCall tape i).memory i.args/\({}:Assume).holds Tryz.checked.prog (lone (Frame.enter Tryz.checked.prog 3 i.args .normal) [] (w.forCall tape i)):=by
 obtain ⟨x,hx⟩:=Option.isSome_iff_exists.1 (FQ os enc)
 exact ⟨World.laidAll Tryz.prog os fq,fun _ _=>0,xq,World.laidAll_os _ _ _,zF os,rfl,(Input.okWide_of_okWideB (Lv os)).2,
  OpenSpec.preRow_of_cond 8 hx rfl (fun k hk=>by cases hk) (Bj os enc) (ES os),by
   simp only [Assume.holds]
   exact ⟨by simp,by simp,fun _=>Modest.zero,by simp,by simp⟩⟩
theorem KP (os:Os) (started:os.Started) (H:Type) (enc:TypeId × Value->H) (F:Stop.Interp):
 ReturnsInHanded {} Tryz.checked os 3 .any ((OpenSpec.ofChange Rows.fnExactListSpec).preRow enc Tryz.prog Tryz.f3 Rows.fnExactListRow.domain false fq) (((OpenSpec.ofChange Rows.fnExactListSpec).at F).post enc Tryz.prog Tryz.f3 false true false false):=by
 refine returnsInHanded_of_row (C:=Tryz.checked) (s:=OpenSpec.ofChange Rows.fnExactListSpec) Qx started (by kernel_rfl) Tryz.func3 (Gy os enc) ?_
 intro W base args ds gs before hval hW _ _ _ hL hS _
 exact EA H enc W base args ds gs before hval hW hL hS
theorem Qi:Rows.FnExactListSaid:=
 OpenClaim.holds_of_cond (p:=Tryz.pinned) (s:=OpenSpec.ofChange Rows.fnExactListSpec) (c:=Rows.fnExactListRow) 3 Tryz.f3 rfl rfl rfl rfl rfl rfl rfl ⟨rfl,rfl,rfl,rfl,rfl⟩ rfl rfl rfl rfl rfl Gx Tryz.func3 F6 Iy Jl
  (fun os started H enc _ F=>by rw [OpenClaim.pre_eq_preRow];exact KP os started H enc F)
theorem MW (f:FuncId) (fn:Func) (hf:Tryz.pinned.checked.prog.funcNamed "loop.example/g00002/laws.FnExactList" =some f) (hfn:Tryz.pinned.checked.prog.funcs[f]?=some fn):
 true=Tryz.pinned.checked.prog.looks []/\∀ (j:Nat) t,fn.params[j]?=some t->Tryz.pinned.checked.prog.wantsStandIn t=false:=by
 obtain rfl:f=3:=Option.some.inj ((show Tryz.prog.funcNamed "loop.example/g00002/laws.FnExactList" =some 3 by kernel_rfl).symm.trans hf)|>.symm
 obtain rfl:fn=Tryz.f3:=(Option.some.inj (Tryz.func3.symm.trans hfn)).symm
 refine ⟨by kernel_rfl,fun j t ht=>?_⟩
 rw [Tryz.params3] at ht
 obtain rfl:t=24:=by simpa using Array.mem_of_getElem? ht
 exact (show Tryz.prog.wantsStandIn 24=false by kernel_rfl)
theorem fnExactList_holds:Rows.FnExactListCardSaid:=
 Claim7.holds_tied_plain_at .later [] _ _ _ _ Qi (fun _ h=>by cases h) (by kernel_rfl) (fun _ h=>by cases h) fnExactList_row_tie rfl ⟨rfl,rfl⟩ (by kernel_rfl) rfl MW (by kernel_rfl)
#print axioms fnExactList_holds
end Go.Proofs.YtjibjahfbblieaaGreatDoor
