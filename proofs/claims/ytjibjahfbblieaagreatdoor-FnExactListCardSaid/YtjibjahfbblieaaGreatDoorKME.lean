import Derived.Test.YtjibjahfbblieaaGreatDoorKMF
namespace Go.Proofs.YtjibjahfbblieaaGreatDoor
open Go Go.RowKit Go.Shelf
set_option linter.unusedVariables false
attribute [local go_sem] Oper.semAt_some
theorem CK (P:Program) (w:World) (a:Addr) (m:Mode) (f:Fn) (bd cs:Array Value):(store a (.func f bd cs) m).run P w=stored P w a (.func f bd cs) m:=run_store P w a _ m rfl
attribute [local go_sem] CK
set_option maxHeartbeats 1600000 in
set_option maxRecDepth 100000 in
theorem L6 (gW:Nat) (p:PV) (s4 s5 s6 s7:Value) (w:World):Calls Tryz.prog 44 #[.pointer (some ⟨gW,0,none⟩),p.agg s4 s5 s6 s7] w fun e w'=>
 e=.returned (.func (.func 71) #[] #[.pointer (some ⟨w.heap.size+1,0,none⟩),.pointer (some ⟨w.heap.size,0,none⟩)])/\w'=(w.alloc (.cells #[.pointer (some ⟨gW,0,none⟩)] 50)).alloc (iO p s4 s5 s6 s7):=by
 unfold PV.agg
 go_enter Tryz.func44,Tryz.ntmps44
 go_wp2
 go_ret
 exact ⟨rfl,rfl⟩
theorem DT (gW:Nat) (v:Value) (w:World):Calls Tryz.prog 18 #[.pointer (some ⟨gW,0,none⟩),.agg #[v]] w fun e w'=>
 e=.returned (.func (.func 43) #[] #[.pointer (some ⟨w.heap.size+1,0,none⟩),.pointer (some ⟨w.heap.size,0,none⟩)])/\w'=(w.alloc (.cells #[.pointer (some ⟨gW,0,none⟩)] 50)).alloc (.cells #[v] 30):=by
 go_enter Tryz.func18,Tryz.ntmps18
 go_wp2
 go_ret
 exact ⟨rfl,rfl⟩
theorem gu (w:World) (T:Nat) (x:Value):ah (w.alloc (.cells #[x] T)) T w.heap.size 1 (fun _=>x):=(ah.mk' w T #[x]).congr (fun j hj=>by
 have:j=0:=by simpa using hj
 subst this
 rfl)
theorem KpL.refl (X:Nat->Prop) (R Z:Nat) (A:World):KpL X R Z A A:=⟨Below.refl _ _,fun _ _ h _ _ hn=>⟨h,hn⟩⟩
theorem FlS.same {w w2:World} {gP gB gW gN:Nat} {p:PV} {s4 s5 s6 s7:Value} (h:FlS w gP gB gW gN p s4 s5 s6 s7) (e:∀ b,b<w.heap.size->w2.heap[b]?=w.heap[b]?):FlS w2 gP gB gW gN p s4 s5 s6 s7:=
 ⟨ah.same h.fp (e _ (ah.lt h.fp)),ah.same h.fb (e _ (ah.lt h.fb)),ah.same h.n.p (e _ (ah.lt h.n.p)),ah.same h.n.n (e _ (ah.lt h.n.n))⟩
structure LnS (w:World) (gB gY gW gN l:Nat):Prop where
 fb:ah w 50 gB 1 (fun _=>.pointer (some ⟨gW,0,none⟩))
 fy:ah w 99 gY 1 (fun _=>.func (.yield l) #[] #[])
 n:NamW w gW gN
theorem LnS.low {w w':World} {gB gY gW gN l:Nat} (h:LnS w gB gY gW gN l) (hb:Below w.heap.size w w'):LnS w' gB gY gW gN l:=
 ⟨ah.low h.fb hb (ah.lt h.fb),ah.low h.fy hb (ah.lt h.fy),h.n.low hb⟩
theorem LnS.kp {X:Nat->Prop} {R Z:Nat} {A C:World} {L:List UInt8} {ad bf:Value} (k:KpL X R Z A C) (hr:RwI A Z R L ad bf) {gB gY gW gN l:Nat} (h:LnS A gB gY gW gN l) (hX:¬ X gB/\¬ X gY/\¬ X gW/\¬ X gN):LnS C gB gY gW gN l:=
 ⟨k.row hr h.fb (by decide) (by decide) hX.1,k.row hr h.fy (by decide) (by decide) hX.2.1,k.row hr h.n.p (by decide) (by decide) hX.2.2.1,k.row hr h.n.n (by decide) (by decide) hX.2.2.2⟩
theorem h_ {A C:World} {row:Option Nat} {T g N:Nat} {f:Nat->Value} (h:ah A T g N f) (hg:A.grownBy C row) (hr:∀ r,row=some r->∃ o:Obj,A.heap[r]?=some o/\o.isCells=false):ah C T g N f:=by
 obtain ⟨cur,h1,h2⟩:=h
 refine ⟨cur,(hg.block g (Array.getElem?_eq_some_iff.1 h1).1 (fun e=>?_)).trans h1,h2⟩
 obtain ⟨o,ho,hc⟩:=hr g e.symm
 rw [h1] at ho
 cases ho
 simp [Obj.isCells] at hc
theorem LnS.grown {A C:World} {row:Option Nat} {gB gY gW gN l:Nat} (h:LnS A gB gY gW gN l) (hg:A.grownBy C row) (hr:∀ r,row=some r->∃ o:Obj,A.heap[r]?=some o/\o.isCells=false):LnS C gB gY gW gN l:=
 ⟨h_ h.fb hg hr,h_ h.fy hg hr,h_ h.n.p hg hr,h_ h.n.n hg hr⟩
def Rl (T:Int->List UInt8) (P:Nat->PV) (J:List (List UInt8)->World->Prop) (B9 n l gC gB gY gW gN:Nat) (pa:Option Addr) (pc:Nat) (a:Act) (w:World):Prop:=
 ∃ (i:Nat) (Ds:List Nat) (u5 u6 u7 u11 u12 u13 u14 u15 u16 u17 u18 u19 u20 u21 u22:Value),a={ tmps:=#[Value.func (.yield l) #[] #[],.pointer (some ⟨gC,0,none⟩),.pointer (some ⟨gB,0,none⟩),.pointer (some ⟨gY,0,none⟩),undef,u5,u6,u7,.slice pa n pc,.int .i64 (n:Int),.int .i64 (i:Int),u11,u12,u13,u14,u15,u16,u17,u18,u19,u20,u21,u22],defers:=Ds.map Q7 }/\i<=n/\J (aG T i P) w/\LnS w gB gY gW gN l/\Bt Ds (B9+2) w
set_option maxRecDepth 100000 in
set_option maxHeartbeats 6400000 in
theorem Ee {T:Int->List UInt8} {n:Nat} {P:Nat->PV} {pa:Option Addr} {pc:Nat} {w0:World} {R B9 gC gB gW gN:Nat} {X:Nat->Prop} {I J Jx:List (List UInt8)->World->Prop} (C:LnC T n P (.slice pa n pc) w0 R B9 X I J Jx) (m l:Nat) (hm:3<=m)
 (hY:Rq (m-1) l T n P R w0.heap.size B9 X J Jx) (W:World) (h0:J [] W) (hC:ah W 30 gC 1 (fun _=>.slice pa n pc)) (hB:ah W 50 gB 1 (fun _=>.pointer (some ⟨gW,0,none⟩))) (hN:NamW W gW gN) (hXg:¬ X gB/\¬ X gW/\¬ X gN) (hn9:n<=1048576):
 CallsIn Fence.wide m Tryz.prog 43 #[.func (.yield l) #[] #[],.pointer (some ⟨gC,0,none⟩),.pointer (some ⟨gB,0,none⟩)] W fun e W'=>(∃ v,e=.returned v)/\(J (aG T n P) W'∨∃ pre,Jx pre W'):=by
 have HC:=hide C
 have HY:=hide hY
 have hbY:=b_1 W (.cells #[.func (.yield l) #[] #[]] 99)
 have HJ0:=hide (show J (aG T 0 P) (W.alloc (.cells #[.func (.yield l) #[] #[]] 99)) from C.step h0 hbY)
 have HS0:=hide (show LnS (W.alloc (.cells #[.func (.yield l) #[] #[]] 99)) gB W.heap.size gW gN l from ⟨ah.low hB hbY (ah.lt hB),gu W 99 _,hN.low hbY⟩)
 have hC1:=ah.low hC hbY (ah.lt hC)
 have c0:(W.alloc (.cells #[.func (.yield l) #[] #[]] 99)).cell? ⟨gC,0,none⟩=some (.slice pa n pc):=ah.cell hC1 (j:=0) (by omega)
 have HXg:=hide (show ¬ X gB/\¬ X W.heap.size/\¬ X gW/\¬ X gN from ⟨hXg.1,fun e=>by have:=C.hX _ e;have:=(C.hJI _ _ h0).2;omega,hXg.2.1,hXg.2.2⟩)
 clear C hY h0 hC hB hN hXg hbY hC1
 refine callsIn_of_wp_marks Tryz.func43 rfl trivial ?_ rfl
 simp only [Tryz.ntmps43,List.size_toArray,List.length_cons,List.length_nil,Nat.reduceAdd,Nat.reduceSub,Array.replicate_succ,Array.replicate_zero,List.push_toArray,List.append_toArray,List.nil_append,List.cons_append]
 gi_wp2
 generalize W.alloc (.cells #[.func (.yield l) #[] #[]] 99)=W1 at *
 generalize W.heap.size=gY at *
 have HSt:Hid (∀ (A:World) (D:Nat) (o':Obj),((∃ v,Ending.returned (.tuple #[])=.returned v)/\(J (aG T n P) A∨∃ pre,Jx pre A))->B9+2<=D->A.heap[D]?=some (.deferred (some []))->((∃ v,Ending.returned (.tuple #[])=.returned v)/\(J (aG T n P) (A.putObj D o')∨∃ pre,Jx pre (A.putObj D o')))):=hide (fun A D o' h hD hA=>⟨h.1,by
  have hr:∀ r,some D=some r->B9+2<=r/\∃ o:Obj,A.heap[r]?=some o/\o.isCells=false:=fun r e=>by cases e;exact ⟨hD,_,hA,rfl⟩
  rcases h.2 with h2|⟨pre,h2⟩
  ·exact .inl (HC.out.own h2 (grownBy_putObj' A D o') hr)
  ·exact .inr ⟨pre,HC.out.hJx _ _ _ (some D) h2 (grownBy_putObj' A D o') hr⟩⟩)
 refine wpIn_loop (Rl T P J B9 n l gC gB gY gW gN pa pc) (fun a _=>n-gX (a.tmps.getD 10 undef)) ?_ ?_
 ·exact ⟨0,[],undef,undef,_,undef,undef,undef,undef,undef,undef,undef,undef,undef,undef,undef,undef,rfl,Nat.zero_le _,HJ0.out,HS0.out,List.nodup_nil,fun D h=>by cases h⟩
 rintro a wr ⟨i,Ds,u5,u6,u7,u11,u12,u13,u14,u15,u16,u17,u18,u19,u20,u21,u22,rfl,hi,hJ,hS,hM⟩
 have HJ:=hide hJ
 have HS:=hide hS
 have HM:=hide hM
 clear hJ hS hM HJ0 HS0 c0
 by_cases hin:i<n
 ·have HBw:=hide (HC.out.base HJ.out)
  rcases HC.out.hA with ⟨h9,_⟩|⟨b,o,cap',e,hb,hcap,hc⟩
  ·omega
  cases e
  obtain ⟨s4,s5,s6,s7,h8,hp8⟩:=hc i hin
  obtain ⟨a4,k4,rfl⟩:=hp8.u.val
  obtain ⟨a5,k5,rfl⟩:=hp8.c.val
  obtain ⟨a6,k6,rfl⟩:=hp8.i.val
  obtain ⟨a7,k7,rfl⟩:=hp8.l.val
  obtain ⟨c0,c1,c2,c3,c4,c5,c6,c7⟩:=h8.low HBw.out hb
  have HP8:=hide hp8
  clear hc hp8 h8 hb
  have hbA:=b_1 wr (iO (P i) (.slice a4 (P i).nu k4) (.slice a5 (P i).nc k5) (.slice a6 (P i).ni k6) (.slice a7 (P i).nl k7))
  have HJA:=hide (HC.out.step HJ.out hbA)
  have HSA:=hide (HS.out.low hbA)
  have HMA:=hide (HM.out.low hbA)
  have cB:(wr.alloc (iO (P i) (.slice a4 (P i).nu k4) (.slice a5 (P i).nc k5) (.slice a6 (P i).ni k6) (.slice a7 (P i).nl k7))).cell? ⟨gB,0,none⟩=some (.pointer (some ⟨gW,0,none⟩)):=ah.cell HSA.out.fb (j:=0) (by omega)
  have hf1:Fence.wide.fn 44:=trivial
  gi_wp2
  refine ⟨fun _=>by omega,?_⟩
  clear c0 c1 c2 c3 c4 c5 c6 c7 cB
  generalize wr.alloc (.cells #[.int .i64 (P i).params,.int .i64 (P i).regs,.int .i64 (P i).line,.bool (P i).dots,.slice a4 (P i).nu k4,.slice a5 (P i).nc k5,.slice a6 (P i).ni k6,.slice a7 (P i).nl k7] 43)=wA at *
  refine (callsIn_wide.2 (L6 gW (P i) _ _ _ _ wA)).mono ?_
  rintro e w' ⟨rfl,hw'⟩
  have hb1:=b_1 wA (.cells #[.pointer (some ⟨gW,0,none⟩)] 50)
  have hb2:=b_1 (wA.alloc (.cells #[.pointer (some ⟨gW,0,none⟩)] 50)) (iO (P i) (.slice a4 (P i).nu k4) (.slice a5 (P i).nc k5) (.slice a6 (P i).ni k6) (.slice a7 (P i).nl k7))
  have hbB:Below wA.heap.size wA w':=by
   rw [hw']
   exact hb1.trans (hb2.mono hb1.size)
  have HFS:=hide (show FlS w' (wA.heap.size+1) wA.heap.size gW gN (P i) (.slice a4 (P i).nu k4) (.slice a5 (P i).nc k5) (.slice a6 (P i).ni k6) (.slice a7 (P i).nl k7) from by
   have h1:=dA.mk (wA.alloc (.cells #[.pointer (some ⟨gW,0,none⟩)] 50)) (P i) (.slice a4 (P i).nu k4) (.slice a5 (P i).nc k5) (.slice a6 (P i).ni k6) (.slice a7 (P i).nl k7)
   have h2:(wA.alloc (.cells #[.pointer (some ⟨gW,0,none⟩)] 50)).heap.size=wA.heap.size+1:=by simp
   rw [h2] at h1
   have h3:=gu wA 50 (.pointer (some ⟨gW,0,none⟩))
   rw [hw']
   exact ⟨h1,ah.low h3 hb2 (ah.lt h3),HSA.out.n.low (hb1.trans (hb2.mono hb1.size))⟩)
  have HJB:=hide (HC.out.step HJA.out hbB)
  have HSB:=hide (HSA.out.low hbB)
  have HMB:=hide (HMA.out.low hbB)
  have hsz:w'.heap.size=wA.heap.size+2:=by rw [hw'];simp
  have hA8:B9+2<=wA.heap.size:=(HC.out.hJI _ _ HJA.out).2
  clear hb1 hb2 hbB hw' HJA HSA HMA hbA
  generalize wA.heap.size=gA at *
  have hA9:B9+2<=w'.heap.size:=(HC.out.hJI _ _ HJB.out).2
  have hDs:∀ D,D∈Ds->D<w'.heap.size:=fun D hD=>(Array.getElem?_eq_some_iff.1 (HMB.out.2 D hD).2).1
  have HDs:=hide hDs
  have hRB:=HC.out.hRB
  have hZR:=HC.out.hZR
  have HX2:=hide HC.out.hX
  clear hDs
  gi_wp2
  refine zM (α:=List UInt8) (gf:=71) (bd:=#[]) (lb:=#[.pointer (some ⟨gA+1,0,none⟩),.pointer (some ⟨gA,0,none⟩)]) (encs:=fun x=>#[Value.string (bT x)]) (Kp:=KpL (fun c=>X c∨c=w'.heap.size+1) R w0.heap.size) (S:=fun xs _=>xs=aJ T (P i)) (Sp:=fun _=>True) (N:=(aJ T (P i)).length)
   rfl (by omega) rfl trivial (enters_of Tryz.func71 (by kernel_rfl) rfl) (fun _=>rfl) (ownFrom_pure _ _) (fun h k=>h.trans k) (fun Wd o1 o2 h1 h2 _=>KpL.put (.inr rfl) (by omega) (by omega) h1 h2)
   (fun pre Wd=>J (aG T i P++pre) Wd/\LnS Wd gB gY gW gN l/\Bt Ds (B9+2) Wd)
   (fun c pre Wd=>c=.ret/\Jx (aG T i P++pre) Wd/\Bt Ds (B9+2) Wd) ?hI ?hIx ?h0
   (fun pre x _=>pre++[x]<+:aJ T (P i))
   (fun pre x a' _=>pre++[x]<+:aJ T (P i)/\a'={ tmps:=#[Value.func (.yield l) #[] #[],.pointer (some ⟨gC,0,none⟩),.pointer (some ⟨gB,0,none⟩),.pointer (some ⟨gY,0,none⟩),undef,.pointer (some ⟨wr.heap.size,0,none⟩),.string (bT x),u7,.slice (some ⟨b,o,none⟩) n pc,.int .i64 (n:Int),.int .i64 (i:Int),.bool true,.pointer (some ⟨b,o+i*8,none⟩),(P i).agg (.slice a4 (P i).nu k4) (.slice a5 (P i).nc k5) (.slice a6 (P i).ni k6) (.slice a7 (P i).nl k7),.pointer (some ⟨gW,0,none⟩),(P i).agg (.slice a4 (P i).nu k4) (.slice a5 (P i).nc k5) (.slice a6 (P i).ni k6) (.slice a7 (P i).nl k7),.func (.func 71) #[] #[.pointer (some ⟨gA+1,0,none⟩),.pointer (some ⟨gA,0,none⟩)],.string (bT x),u18,u19,u20,u21,u22],defers:=[] }) ?hAx ?hseq ?assign ?body ?done ?stop
  case hI=>
   intro s A B row hs hg hr
   refine ⟨HC.out.own hs.1 hg (fun r e=>⟨by have:=(hr r e).1;omega,(hr r e).2⟩),hs.2.1.grown hg (fun r e=>(hr r e).2),hs.2.2.1,fun D hD=>⟨(hs.2.2.2 D hD).1,?_⟩⟩
   have h1:=(hs.2.2.2 D hD).2
   refine (hg.block D (Array.getElem?_eq_some_iff.1 h1).1 (fun e=>?_)).trans h1
   have:=(hr D e.symm).1
   have:=HDs.out D hD
   omega
  case hIx=>
   intro c s A B row hs hg hr
   refine ⟨hs.1,HC.out.hJx _ _ _ row hs.2.1 hg (fun r e=>⟨by have:=(hr r e).1;omega,(hr r e).2⟩),hs.2.2.1,fun D hD=>⟨(hs.2.2.2 D hD).1,?_⟩⟩
   have h1:=(hs.2.2.2 D hD).2
   refine (hg.block D (Array.getElem?_eq_some_iff.1 h1).1 (fun e=>?_)).trans h1
   have:=(hr D e.symm).1
   have:=HDs.out D hD
   omega
  case h0=>exact ⟨by rw [List.append_nil];exact HJB.out,HSB.out,HMB.out⟩
  case hAx=>exact fun pre x a'=>ownFrom_pure _ (fun _=>pre++[x]<+:aJ T (P i)/\a'=_)
  case hseq=>
   intro l2 J2 Jx2 W2 hJI2 hJs2 hY2 hJx2 h02 hold
   have hFS2:FlS W2 (gA+1) gA gW gN (P i) (.slice a4 (P i).nu k4) (.slice a5 (P i).nc k5) (.slice a6 (P i).ni k6) (.slice a7 (P i).nl k7):=HFS.out.same hold
   have hXn:∀ g,g<w'.heap.size->¬ X g->¬ (X g∨g=w'.heap.size+1):=fun g h1 h2 h3=>by
    rcases h3 with h3|h3
    ·exact h2 h3
    ·omega
   have e:(#[]++#[Value.func (.yield l2) #[] #[]]++#[Value.pointer (some ⟨gA+1,0,none⟩),.pointer (some ⟨gA,0,none⟩)]:Array Value)=#[.func (.yield l2) #[] #[],.pointer (some ⟨gA+1,0,none⟩),.pointer (some ⟨gA,0,none⟩)]:=rfl
   rw [e]
   refine (NZ (T:=T) (p:=P i) (w0:=w0) (R:=R) (B9:=w'.heap.size) (X:=fun c=>X c∨c=w'.heap.size+1) (I:=fun pre Wd=>J (aG T i P++pre) Wd/\LnS Wd gB gY gW gN l/\Bt Ds (B9+2) Wd) (J:=J2) (Jx:=Jx2) ⟨HC.out.hT,HC.out.hw i hin,HC.out.nm i hin,HP8.out,HC.out.hE,HC.out.hF,hZR,fun pre A h=>⟨(hJI2 pre A h).1,(hJI2 pre A h).2,fun c hc=>by
    have h3:=(hJI2 pre A h).2
    rcases hc with hc|hc
    ·have:=HX2.out c hc;omega
    ·omega⟩,hJs2,fun pre A C2 h hb=>⟨HC.out.step h.1 hb,h.2.1.low hb,h.2.2.low hb⟩,fun pre A h=>HC.out.hIB _ _ (HC.out.hJI _ _ h.1).1⟩ (m-1) l2 (by omega) ?_ W2 h02 hFS2 ⟨?_,?_,?_,?_⟩).mono ?_
   ·intro k x W3 hj hx
    have hp:(aJ T (P i)).take k++[x]<+:aJ T (P i):=by rw [<-Dk hx];exact List.take_prefix _ _
    have hl:((aJ T (P i)).take k).length<(aJ T (P i)).length:=by
     obtain ⟨h1,_⟩:=List.getElem?_eq_some_iff.1 hx
     rw [List.length_take];omega
    have h5:=hY2 _ x W3 hj hp hl
    rw [<-Dk hx] at h5
    exact YieldAt.mono h5 (fun e W' h=>h.elim .inl (fun h=>.inr ⟨h.1,h.2.1⟩))
   ·exact fun h=>h.elim (fun h=>by have:=HX2.out _ h;omega) (fun h=>by omega)
   ·exact fun h=>h.elim (fun h=>by have:=HX2.out _ h;omega) (fun h=>by omega)
   ·exact hXn _ (ah.lt HFS.out.n.p) HXg.out.2.2.1
   ·exact hXn _ (ah.lt HFS.out.n.n) HXg.out.2.2.2
   ·rintro e W3 ⟨h1,h2|⟨k,h2⟩⟩
    ·exact ⟨h1,.inl ⟨_,rfl,h2⟩⟩
    ·exact ⟨h1,.inr ⟨_,trivial,h2⟩⟩
  case assign=>
   rintro l2 pre x Wd K hI hV hK
   gi_wp2
   exact hK _ _ (KeepsFrom.refl _ _) (KpL.refl _ _ _ _) hI ⟨hV,rfl⟩
  case body=>
   rintro l2 pre x a' Wd ⟨hJ1,hS1,hM1⟩ ⟨hV,rfl⟩ hlt
   have hp:aG T i P++pre++[x]<+:aG T n P:=by
    rw [List.append_assoc]
    exact (List.prefix_append_right_inj _).2 hV|>.trans (by rw [<-lN];exact rQ T P (by omega))
   obtain ⟨fn,tmps,assign,body,hy,hR⟩:=HY.out (aG T i P++pre) x Wd hJ1 hp
   have HR:=hide (fun m'=>RoundIn.toIn l2 m' hR)
   have cY:Wd.cell? ⟨gY,0,none⟩=some (.func (.yield l) #[] #[]):=ah.cell hS1.fy (j:=0) (by omega)
   have HJ1:=hide hJ1
   have HS1:=hide hS1
   have HM1:=hide hM1
   clear hJ1 hS1 hM1 hR hV hp hlt
   gi_wp2
   refine ⟨fun _=>by omega,?_⟩
   refine (HR.out _).mono ?_
   rintro e W4 (⟨rfl,hj4,hk4⟩|⟨rfl,hx4,hkf4⟩)
   ·obtain ⟨L9,ad9,bf9,hr9⟩:=HC.out.bu HJ1.out
    have HQ:=hide (show KeepsFrom w'.heap.size Wd W4/\KpL (fun c=>X c∨c=w'.heap.size+1) R w0.heap.size Wd W4/\J (aG T i P++(pre++[x])) W4/\LnS W4 gB gY gW gN l/\Bt Ds (B9+2) W4 from
     ⟨hk4.from hr9 (fun c hc=>by have:=HX2.out c hc;omega),hk4.mono (fun c hc=>.inl hc),by rw [<-List.append_assoc];exact hj4,HS1.out.kp hk4 hr9 HXg.out,HM1.out.keep (hk4.from hr9 (fun c hc=>HX2.out c hc))⟩)
    clear hj4 hk4 HR hy cY hr9
    gi_wp2
    exact HQ.out
   ·have HQ:=hide (show KeepsFrom w'.heap.size Wd W4/\Jx (aG T i P++(pre++[x])) W4/\Bt Ds (B9+2) W4 from ⟨KeepsFrom.lift hkf4 hA9,by rw [<-List.append_assoc];exact hx4,HM1.out.keep hkf4⟩)
    clear hx4 hkf4 HR hy cY
    gi_wp2
    exact ⟨HQ.out.1,rfl,HQ.out.2⟩
  case done=>
   rintro D xs Wd hD rfl ⟨hJ1,hS1,hM1⟩ hK
   have HL:=hide (show J (aG T (i+1) P) Wd/\LnS Wd gB gY gW gN l/\Bt (D::Ds) (B9+2) Wd from
    ⟨by rw [lN];exact hJ1,hS1,List.nodup_cons.2 ⟨fun h=>by have:=HDs.out D h;omega,hM1.1⟩,fun D' hD'=>by
     rcases List.mem_cons.1 hD' with e|e
     ·subst e;exact ⟨by omega,hK⟩
     ·exact hM1.2 D' e⟩)
   clear hJ1 hS1 hM1 hK
   gi_wp2
   have ei:(i:Int)+1=((i+1:Nat):Int):=by omega
   rw [ei]
   exact ⟨⟨i+1,D::Ds,_,_,_,_,_,_,_,_,_,_,_,_,_,_,_,rfl,by omega,HL.out.1,HL.out.2.1,HL.out.2.2⟩,by simp [gX];omega⟩
  case stop=>
   rintro D c pre Wd hD _ ⟨rfl,hx,hM1⟩ hK
   have HL:=hide (show Bt (D::Ds) (B9+2) Wd/\Jx (aG T i P++pre) Wd from
    ⟨⟨List.nodup_cons.2 ⟨fun h=>by have:=HDs.out D h;omega,hM1.1⟩,fun D' hD'=>by
      rcases List.mem_cons.1 hD' with e|e
      ·subst e;exact ⟨by omega,hK⟩
      ·exact hM1.2 D' e⟩,hx⟩)
   clear hx hM1 hK
   gi_wp2
   exact jU (B:=B9+2) (u:=.tuple #[]) (fun w=>results_none rfl _ _ w) (D::Ds) Wd HL.out.1 (HSt.out) ⟨⟨_,rfl⟩,.inr ⟨_,HL.out.2⟩⟩
 ·obtain rfl:i=n:=by omega
  gi_wp2
  exact jU (B:=B9+2) (u:=.tuple #[]) (fun w=>results_none rfl _ _ w) Ds wr HM.out (HSt.out) ⟨⟨_,rfl⟩,.inl HJ.out⟩
end Go.Proofs.YtjibjahfbblieaaGreatDoor
