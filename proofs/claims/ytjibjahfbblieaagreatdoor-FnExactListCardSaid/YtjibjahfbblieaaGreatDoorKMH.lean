import Derived.Test.YtjibjahfbblieaaGreatDoorKP1R2
namespace Go.Proofs.YtjibjahfbblieaaGreatDoor
open Go Go.RowKit Go.Shelf
set_option linter.unusedVariables false
attribute [local go_sem] Oper.semAt_some
attribute [local go_sem] CK
set_option maxRecDepth 100000 in
set_option maxHeartbeats 6400000 in
theorem Gz (T:Int->List UInt8) (hT:FltP T) (a:Option Addr) (n cap:Nat) (P:Nat->PV) (w:World) (hn:n<=1048576) (hf:allFit n P 1048576) (hbit:iw n P) (hc1:∀ i,i<n->∀ k,k<(P i).nc->lD ((P i).c1 k)) (h:bY w (.slice a n cap) n P) (hE:PE w) (hF:F.FE w) (hTB:qm w):
 Calls Tryz.prog 7 #[.agg #[.slice a n cap]] w fun e w'=>∃ t c,e=.returned (.tuple #[.string t,.int .i64 c])/\Gg T n P t c/\Below w.heap.size w w':=by
 refine (callsIn_wide (n:=10)).1 ?_
 have HT:=hide hT
 have HFit:=hide hf
 have HBit:=hide hbit
 have HC1:=hide hc1
 have HA:=hide h
 have HE:=hide hE
 have HF:=hide hF
 have HTB:=hide hTB
 have hb1:=b_1 w (.cells #[.slice a n cap] 30)
 have hb2:=b_1 (w.alloc (.cells #[.slice a n cap] 30)) (.cells #[.string ⟨#[]⟩] 9)
 have hb3:=b_1 ((w.alloc (.cells #[.slice a n cap] 30)).alloc (.cells #[.string ⟨#[]⟩] 9)) (.cells #[.int .i64 0] 3)
 have hsz1:(w.alloc (.cells #[.slice a n cap] 30)).heap.size=w.heap.size+1:=by simp
 have hsz2:((w.alloc (.cells #[.slice a n cap] 30)).alloc (.cells #[.string ⟨#[]⟩] 9)).heap.size=w.heap.size+2:=by simp
 have r1:=gu w 30 (.slice a n cap)
 have r2:=gu (w.alloc (.cells #[.slice a n cap] 30)) 9 (.string ⟨#[]⟩)
 have r3:=gu ((w.alloc (.cells #[.slice a n cap] 30)).alloc (.cells #[.string ⟨#[]⟩] 9)) 3 (.int .i64 0)
 rw [hsz1] at r2
 rw [hsz2] at r3
 have HR0:=hide (show ResC _ w.heap.size (bT []) 0 from ⟨ah.low r2 hb3 (ah.lt r2),r3⟩)
 have HCb:=hide (ah.low (ah.low r1 hb2 (ah.lt r1)) hb3 (by rw [hsz2];omega))
 have HB0:=hide ((hb1.trans (hb2.mono hb1.size)).trans (hb3.mono (by rw [hsz2];omega)))
 clear hT hf hbit hc1 h hE hF hTB hb1 hb2 hb3 hsz1 hsz2 r1 r2 r3
 obtain ⟨Z,hZ⟩:∃ Z,w.heap.size=Z:=⟨_,rfl⟩
 have HZ:=hide hZ
 refine callsIn_of_wp_marks Tryz.func7 rfl trivial ?_ rfl
 simp only [Tryz.ntmps7,List.size_toArray,List.length_cons,List.length_nil,Nat.reduceAdd,Nat.reduceSub,Array.replicate_succ,Array.replicate_zero,List.push_toArray,List.append_toArray,List.nil_append,List.cons_append]
 have f1:Fence.wide.fn 14:=trivial
 have f2:Fence.wide.fn 15:=trivial
 have f3:Fence.wide.fn 16:=trivial
 have f4:Fence.wide.fn 18:=trivial
 have f5:Fence.wide.fn 22:=trivial
 have c0:(((w.alloc (.cells #[.slice a n cap] 30)).alloc (.cells #[.string ⟨#[]⟩] 9)).alloc (.cells #[.int .i64 0] 3)).cell? ⟨w.heap.size,0,none⟩=some (.slice a n cap):=ah.cell HCb.out (j:=0) (by omega)
 gi_wp2
 clear hZ
 rw [HZ.out] at HR0 HCb HB0 c0
 clear c0
 generalize ((w.alloc (.cells #[.slice a n cap] 30)).alloc (.cells #[.string ⟨#[]⟩] 9)).alloc (.cells #[.int .i64 0] 3)=w1 at *
 refine (callsIn_wide.2 (xI a n cap P w1 hn HFit.out HBit.out (HA.out.low HB0.out (by rw [HZ.out];exact Nat.le_refl _)))).mono ?_
 rintro e w2 ⟨r,rfl,hr,hb2⟩
 have HRe2:=hide (HR0.out.low hb2)
 have HCb2:=hide (ah.low HCb.out hb2 (ah.lt HCb.out))
 have HB2:=hide (HB0.out.trans (hb2.mono (by have:=HZ.out;have:=HB0.out.size;omega)))
 clear hb2 HR0 HCb HB0
 obtain ⟨q1,q2,z1,z2⟩:=HRe2.out.cells
 rcases hr with ⟨rfl,hr⟩|⟨rfl,hr⟩
 case inr=>
  have HNo:=hide hr
  have HP:=hide (HRe2.out.put (bT []) 12)
  have HBP:=hide (kD HB2.out (.string (bT [])) (.int .i64 12))
  clear hr
  gi_wp2
  exact leave0 (iN _ rfl rfl HP.out) ⟨_,_,rfl,.inl ⟨HNo.out,rfl,rfl⟩,by rw [HZ.out];exact HBP.out⟩
 have HYes:=hide hr
 clear hr
 have HW:Hid (∀ i,i<n->Wri (P i)):=hide (fun i hi=>⟨HYes.out.2 i hi,fun k hk=>HC1.out i hi k hk,HBit.out i hi⟩)
 clear HC1 z1 z2 q1 q2
 gi_wp2_with (first
  |(gi_at_call 15
    refine (callsIn_wide.2 (EN _ (HTB.out.low (by rw [HZ.out];exact HB2.out)))).mono ?_
    rintro e w3 ⟨gN,rfl,hgN,hN,hb3⟩
    have HRe3:=hide (HRe2.out.low hb3)
    have HCb3:=hide (ah.low HCb2.out hb3 (ah.lt HCb2.out))
    have HB3:=hide (HB2.out.trans (hb3.mono (by have:=HZ.out;have:=HB2.out.size;omega)))
    have hb4:=b_1 w3 (.cells #[.slice (some ⟨gN,0,none⟩) 79 79] 54)
    have HRe4:=hide (HRe3.out.low hb4)
    have HCb4:=hide (ah.low HCb3.out hb4 (ah.lt HCb3.out))
    have HB4:=hide (HB3.out.trans (hb4.mono (by have:=HZ.out;have:=HB3.out.size;omega)))
    have HN4:=hide (show NamW _ w3.heap.size gN from ⟨gu w3 54 (.slice (some ⟨gN,0,none⟩) 79 79),ah.low hN hb4 (ah.lt hN)⟩)
    have q0:(w3.alloc (.cells #[.slice (some ⟨gN,0,none⟩) 79 79] 54)).cell? ⟨Z,0,none⟩=some (.slice a n cap):=ah.cell HCb4.out (j:=0) (by omega)
    clear hb3 hb4 hN HRe3 HCb3 HB3 HRe2 HCb2 HB2)
  |fail)
 clear q0
 generalize w3.alloc (.cells #[.slice (some ⟨gN,0,none⟩) 79 79] 54)=w4 at *
 generalize w3.heap.size=gW at *
 refine (callsIn_wide.2 (vZ gW gN _ n P w4 hn HW.out (HA.out.low HB4.out (by rw [HZ.out];exact Nat.le_refl _)) HN4.out)).mono ?_
 rintro e w5 ⟨r,rfl,hr,hb5⟩
 have HRe5:=hide (HRe4.out.low hb5)
 have HCb5:=hide (ah.low HCb4.out hb5 (ah.lt HCb4.out))
 have HB5:=hide (HB4.out.trans (hb5.mono (by have:=HZ.out;have:=HB4.out.size;omega)))
 have HN5:=hide (HN4.out.low hb5)
 clear hb5 HRe4 HCb4 HB4 HN4
 rcases hr with ⟨rfl,hr⟩|⟨rfl,hr⟩
 case inr=>
  obtain ⟨q1,q2,z1,z2⟩:=HRe5.out.cells
  have HNo:=hide hr
  have HP:=hide (HRe5.out.put (bT []) 2)
  have HBP:=hide (kD HB5.out (.string (bT [])) (.int .i64 2))
  clear hr
  gi_wp2
  exact leave0 (iN _ rfl rfl HP.out) ⟨_,_,rfl,.inr ⟨HYes.out,.inl ⟨HNo.out,rfl,rfl⟩⟩,by rw [HZ.out];exact HBP.out⟩
 have HNm:=hide hr
 clear hr
 have hb6:=b_1 w5 (.cells #[.pointer none,.slice none 0 0] 59)
 have HRe6:=hide (HRe5.out.low hb6)
 have HCb6:=hide (ah.low HCb5.out hb6 (ah.lt HCb5.out))
 have HB6:=hide (HB5.out.trans (hb6.mono (by have:=HZ.out;have:=HB5.out.size;omega)))
 have HN6:=hide (HN5.out.low hb6)
 have HBu6:=hide (show RwI (w5.alloc (.cells #[.pointer none,.slice none 0 0] 59)) w5.heap.size w5.heap.size [] (.pointer none) (.slice none 0 0) from
  ⟨⟨_,heap_alloc_new w5 _,rfl,fun j hj=>by
    rcases j with _|_|j
    ·rfl
    ·rfl
    ·omega⟩,.inl rfl,World.ownsRow_nil _ _ _ _⟩)
 have q0:(w5.alloc (.cells #[.pointer none,.slice none 0 0] 59)).cell? ⟨Z,0,none⟩=some (.slice a n cap):=ah.cell HCb6.out (j:=0) (by omega)
 have hRe:Z+3<=w5.heap.size/\gW<w5.heap.size/\gN<w5.heap.size:=⟨by have:=ah.lt HRe5.out.b;omega,ah.lt HN5.out.p,ah.lt HN5.out.n⟩
 clear hb6 HRe5 HCb5 HB5 HN5
 gi_wp2_with (first
  |(gi_at_call 18
    refine (callsIn_wide.2 (DT gW (.slice a n cap) _)).mono ?_
    rintro e w7 ⟨rfl,hw7⟩)
  |fail)
 have hbA:=b_1 (w5.alloc (.cells #[.pointer none,.slice none 0 0] 59)) (.cells #[.pointer (some ⟨gW,0,none⟩)] 50)
 have hbB:=b_1 ((w5.alloc (.cells #[.pointer none,.slice none 0 0] 59)).alloc (.cells #[.pointer (some ⟨gW,0,none⟩)] 50)) (.cells #[.slice a n cap] 30)
 have hbAB:=hbA.trans (hbB.mono hbA.size)
 have e6:(w5.alloc (.cells #[.pointer none,.slice none 0 0] 59)).heap.size=w5.heap.size+1:=by simp
 have e6a:((w5.alloc (.cells #[.pointer none,.slice none 0 0] 59)).alloc (.cells #[.pointer (some ⟨gW,0,none⟩)] 50)).heap.size=w5.heap.size+1+1:=by simp
 have e7:(((w5.alloc (.cells #[.pointer none,.slice none 0 0] 59)).alloc (.cells #[.pointer (some ⟨gW,0,none⟩)] 50)).alloc (.cells #[.slice a n cap] 30)).heap.size=w5.heap.size+3:=by simp
 have hrB:=gu (w5.alloc (.cells #[.pointer none,.slice none 0 0] 59)) 50 (.pointer (some ⟨gW,0,none⟩))
 have hrC:=gu ((w5.alloc (.cells #[.pointer none,.slice none 0 0] 59)).alloc (.cells #[.pointer (some ⟨gW,0,none⟩)] 50)) 30 (.slice a n cap)
 have HRB:=hide (ah.low hrB hbB (ah.lt hrB))
 have HRC:=hide hrC
 have HRe7:=hide (HRe6.out.low hbAB)
 have HB7:=hide (HB6.out.trans (hbAB.mono (by rw [e6];omega)))
 have HN7:=hide (HN6.out.low hbAB)
 have HBu7:=hide (HBu6.out.low (Keeps.of hbAB (Nat.le_refl _) (fun _=>False)))
 clear hbA hbB hbAB hrB hrC HRe6 HB6 HN6 HBu6 HCb6 hw7 q0
 rw [e6] at HRB
 rw [e6a] at HRC
 clear e6 e6a
 generalize (((w5.alloc (.cells #[.pointer none,.slice none 0 0] 59)).alloc (.cells #[.pointer (some ⟨gW,0,none⟩)] 50)).alloc (.cells #[.slice a n cap] 30))=w8 at *
 obtain ⟨R,hRe5⟩:∃ R,w5.heap.size=R:=⟨_,rfl⟩
 rw [hRe5] at HRB HRC HBu7 hRe e7 ⊢
 clear hRe5
 have HLn:Hid (∀ pre x,pre++[x]<+:aG T n P->x.length<=300000):=hide (fun pre x h=>D7 HT.out.len HW.out (h.subset (by simp)))
 obtain ⟨hR1,hR2,hR3⟩:=hRe
 refine zM (α:=List UInt8) (gf:=43) (bd:=#[]) (lb:=#[.pointer (some ⟨R+1+1,0,none⟩),.pointer (some ⟨R+1,0,none⟩)]) (encs:=fun x=>#[Value.string (bT x)]) (Kp:=KpL (fun c=>c=w8.heap.size+1) R Z) (S:=fun xs _=>xs=aG T n P) (Sp:=fun _=>True) (N:=(aG T n P).length)
  rfl (by omega) rfl trivial (enters_of Tryz.func43 (by kernel_rfl) rfl) (fun _=>rfl) (ownFrom_pure _ _) (fun h k=>h.trans k) (fun Wd o1 o2 h1 h2 _=>KpL.put rfl (by omega) (by omega) h1 h2)
  (fun pre Wd=>(∃ ad bf,RwI Wd R R (flat pre) ad bf)/\Below Z w Wd/\ResC Wd Z (bT []) 0/\(flat pre).length<=262144)
  (fun c pre Wd=>c=.ret/\ResC Wd Z (bT []) 31/\Below Z w Wd/\pre<+:aG T n P/\262144<(flat pre).length) ?hI ?hIx ?h0
  (fun pre x _=>pre++[x]<+:aG T n P)
  (fun pre x a' _=>pre++[x]<+:aG T n P/\a'={ tmps:=#[.agg #[.slice a n cap],.pointer (some ⟨Z,0,none⟩),.pointer (some ⟨Z+1,0,none⟩),.pointer (some ⟨Z+1+1,0,none⟩),.pointer (some ⟨gW,0,none⟩),.pointer (some ⟨R,0,none⟩),.string (bT x),.agg #[.slice a n cap],.bool true,.bool false,.slice (some ⟨gN,0,none⟩) 79 79,.agg #[.slice (some ⟨gN,0,none⟩) 79 79],.pointer (some ⟨gW,0,none⟩),.pointer (some ⟨Z,0,none⟩),.slice a n cap,.pointer (some ⟨gW,0,none⟩),.func (.func 17) #[.pointer (some ⟨gW,0,none⟩)] #[],.bool true,.bool false,.pointer (some ⟨gW,0,none⟩),.agg #[.slice a n cap],.func (.func 43) #[] #[.pointer (some ⟨R+1+1,0,none⟩),.pointer (some ⟨R+1,0,none⟩)],.string (bT x),undef,undef,undef,undef,undef,undef,undef,undef,undef,undef],defers:=[] }) ?hAx ?hseq ?assign ?body ?done ?stop
 case hI=>
  rintro s A B row ⟨⟨ad,bf,h1⟩,h2,h3,h4⟩ hg hr
  exact ⟨⟨ad,bf,h1.grown hg (fun r e=>(hr r e).2)⟩,h2.grown hg (by have:=h2.size;rw [HZ.out] at this;omega) (fun q hq=>by have:=(hr q hq).1;omega),h3.grown hg (fun r e=>(hr r e).2),h4⟩
 case hIx=>
  rintro c s A B row ⟨h1,h2,h3,h4⟩ hg hr
  exact ⟨h1,h2.grown hg (fun r e=>(hr r e).2),h3.grown hg (by have:=h3.size;rw [HZ.out] at this;omega) (fun q hq=>by have:=(hr q hq).1;omega),h4⟩
 case h0=>exact ⟨⟨_,_,HBu7.out⟩,HB7.out,HRe7.out,by simp [flat]⟩
 case hAx=>exact fun pre x a'=>ownFrom_pure _ (fun _=>pre++[x]<+:aG T n P/\a'=_)
 case hseq=>
  intro l2 J2 Jx2 W2 hJI2 hJs2 hY2 hJx2 h02 hold
  have e:(#[]++#[Value.func (.yield l2) #[] #[]]++#[Value.pointer (some ⟨R+1+1,0,none⟩),.pointer (some ⟨R+1,0,none⟩)]:Array Value)=#[.func (.yield l2) #[] #[],.pointer (some ⟨R+1+1,0,none⟩),.pointer (some ⟨R+1,0,none⟩)]:=rfl
  rw [e]
  refine (Ee (T:=T) (n:=n) (P:=P) (pa:=a) (pc:=cap) (w0:=w) (R:=R) (B9:=w8.heap.size) (gC:=R+1+1) (gB:=R+1) (gW:=gW) (gN:=gN) (X:=fun c=>c=w8.heap.size+1)
   (I:=fun pre Wd=>(∃ ad bf,RwI Wd R R (flat pre) ad bf)/\Below Z w Wd/\ResC Wd Z (bT []) 0/\(flat pre).length<=262144) (J:=J2) (Jx:=Jx2)
   ⟨HT.out,HW.out,HNm.out,HA.out,HE.out,HF.out,by rw [HZ.out];omega,by omega,hJI2,fun c hc=>by omega,hJs2,?_,?_,hJx2⟩ 9 l2 (by omega) ?_ W2 h02 (ah.same HRC.out (hold _ (by omega))) (ah.same HRB.out (hold _ (by omega))) ⟨ah.same HN7.out.p (hold _ (by omega)),ah.same HN7.out.n (hold _ (by omega))⟩ ⟨by omega,by omega,by omega⟩ hn).mono ?_
  ·rintro s A B row ⟨⟨ad,bf,h1⟩,h2,h3,h4⟩ hg hr
   exact ⟨⟨ad,bf,h1.grown hg (fun r e=>(hr r e).2)⟩,h2.grown hg (by have:=h2.size;rw [HZ.out] at this;omega) (fun q hq=>by have:=(hr q hq).1;omega),h3.grown hg (fun r e=>(hr r e).2),h4⟩
  ·rintro pre A ⟨⟨ad,bf,h1⟩,h2,h3,h4⟩
   rw [HZ.out]
   exact ⟨⟨_,ad,bf,h1.less (by omega)⟩,h2⟩
  ·intro pre x W3 hj hp
   have hl:pre.length<(aG T n P).length:=by
    have:=hp.length_le
    simp at this
    omega
   rw [HZ.out]
   exact hY2 pre x W3 hj hp hl
  ·rintro e W3 ⟨h1,h2|⟨pre,h2⟩⟩
   ·exact ⟨h1,.inl ⟨_,rfl,h2⟩⟩
   ·exact ⟨h1,.inr ⟨_,trivial,h2⟩⟩
 case assign=>
  rintro l2 pre x Wd K hI hV hK
  gi_wp2
  exact hK _ _ (KeepsFrom.refl _ _) (KpL.refl _ _ _ _) hI ⟨hV,rfl⟩
 case body=>
  rintro l2 pre x a' Wd ⟨⟨ad,bf,hr⟩,hb,hRs,hL⟩ ⟨hV,rfl⟩ hlt
  have hxl:=HLn.out pre x hV
  have HV:=hide hV
  have HRs:=hide hRs
  have HBw:=hide hb
  have HRw:=hide hr
  obtain ⟨s,hs⟩:∃ s,bT x=s:=⟨_,rfl⟩
  have hss:s.size=x.length:=by rw [<-hs];exact dN x
  have HSd:Hid (s.data.toList=x):=hide (by rw [<-hs];exact bP x)
  rw [hs]
  obtain ⟨N,hN⟩:∃ N,x.length=N:=⟨_,rfl⟩
  obtain ⟨M,hM⟩:∃ M,(flat pre).length=M:=⟨_,rfl⟩
  rw [hN] at hxl hss
  rw [hM] at hL
  have HN:=hide hN
  have HM:=hide hM
  have HRl:=hide (ah.lt hr.r.f)
  obtain ⟨q1,q2,z1,z2⟩:=HRs.out.cells
  have g1:Fence.wide.fn 19:=trivial
  have g2:Fence.wide.fn 20:=trivial
  have g3:Fence.wide.fn 21:=trivial
  clear hs hN hM hV hRs hb hr hlt
  have hLi:(M:Int)<=262144:=by omega
  have hxi:(N:Int)<=300000:=by omega
  have HLn9:=hide hL
  have HXn9:=hide hxl
  clear hL hxl
  by_cases hbig:(262144:Int)<(M:Int)+(N:Int)+1
  ·have HP:=hide (HRs.out.put (bT []) 31)
   have HBP:=hide (kD HBw.out (.string (bT [])) (.int .i64 31))
   have HKo:=hide (((KeepsOthers.setCell Wd ⟨Z+1,0,none⟩ (.string (bT []))).trans (KeepsOthers.setCell _ ⟨Z+1+1,0,none⟩ (.int .i64 31))).from w8.heap.size)
   gi_wp2_with (first
    |(gi_at_call 19
      refine (CallsIn.toIn l2 _ (Dh Wd R R (flat pre) ad bf HRw.out)).mono ?_
      rintro e w9 ⟨he,hw9⟩
      obtain rfl:=hw9.symm
      rw [HM.out] at he
      subst he)
    |fail)
   exact ⟨HKo.out,rfl,HP.out,HBP.out,HV.out,by
    rw [pz,List.length_append,List.length_append,HM.out,HN.out]
    simp only [List.length_cons,List.length_nil]
    omega⟩
  ·have hbf:decide ((262144:Int)<(M:Int)+(N:Int)+1)=false:=decide_eq_false hbig
   have HLE:=hide hbig
   clear hbig
   have HLX:=hide (show (flat pre).length+s.size<=140737488355328 from by rw [HM.out];have:=HLn9.out;have:=HXn9.out;omega)
   clear q1 q2 z1 z2
   gi_wp2_with (first
    |(gi_at_call 19
      refine (CallsIn.toIn l2 _ (Dh Wd R R (flat pre) ad bf HRw.out)).mono ?_
      rintro e w9 ⟨he,hw9⟩
      obtain rfl:=hw9.symm
      rw [HM.out] at he
      subst he)
    |(gi_at_call 20
      refine (CallsIn.toIn l2 _ (BK Wd R R (flat pre) ad bf s HRw.out (Nat.le_of_lt HRl.out) HLX.out)).mono ?_
      rintro e w9 ⟨rfl,⟨bf9,hr9⟩,hk9⟩
      have HR9:=hide hr9
      have HK9:=hide hk9
      have HL9:=hide (show (flat pre++s.data.toList).length+1<=140737488355328 from by
       rw [List.length_append,HSd.out,HM.out,HN.out]
       have:=HLn9.out
       have:=HXn9.out
       omega)
      have HRl9:=hide (ah.lt hr9.r.f)
      clear hr9 hk9)
    |(gi_at_call 21
      refine (CallsIn.toIn l2 _ (yj w9 R R (flat pre++s.data.toList) _ bf9 HR9.out (Nat.le_of_lt HRl9.out) HL9.out)).mono ?_
      rintro e w10 ⟨rfl,⟨bf10,hr10⟩,hk10⟩
      have HR10:=hide hr10
      have HK10:=hide (HK9.out.trans hk10)
      clear hr10 hk10)
    |fail)
   have hkl:=KpL.of (X:=fun _=>False) (Z:=R) HK10.out HRw.out (Nat.le_refl _) (Nat.le_of_lt HRl.out)
   refine ⟨hkl.from HRw.out (fun _ h=>h.elim),⟨hkl.b.mono (by omega),fun b o h1 h2 h3 h4=>hkl.k b o h1 (fun h=>h) h3 h4⟩,⟨.pointer (some ⟨R,0,none⟩),bf10,?_⟩,HBw.out.trans (hkl.b.mono (by omega)),HRs.out.kp hkl HRw.out (fun h=>h) (fun h=>h),?_⟩
   ·have h9:=HR10.out
    rw [HSd.out,List.append_assoc,<-pz] at h9
    exact h9
   ·rw [pz,List.length_append,List.length_append,HM.out,HN.out]
    simp only [List.length_cons,List.length_nil]
    have:=HLE.out
    omega
 case done=>
  rintro D xs Wd hD rfl ⟨⟨ad,bf,hr⟩,hb,hRs,hL⟩ hK
  have HL:=hide hL
  have HBw:=hide hb
  have HRs:=hide hRs
  have HRw:=hide hr
  have HRl:=hide (ah.lt hr.r.f)
  have HK:=hide hK
  clear hr hb hRs hL hK
  gi_wp2_with (first
   |(gi_at_call 22
     refine (callsIn_wide.2 (Ah Wd R R (flat (aG T n P)) ad bf HRw.out (Nat.le_of_lt HRl.out))).mono ?_
     rintro e w9 ⟨rfl,hb9,hko9⟩
     have HRs9:=hide (show ResC w9 Z (bT []) 0 from ⟨ah.low HRs.out.a hb9 (by omega),ah.low HRs.out.b hb9 (by omega)⟩)
     obtain ⟨q1,q2,z1,z2⟩:=HRs9.out.cells
     have HB9:=hide (HBw.out.trans (hb9.mono (by omega)))
     have HK9:=hide (hko9.same D _ HK.out rfl)
     clear hb9 hko9)
   |fail)
  have HP:=hide (HRs9.out.put (bT (flat (aG T n P))) 0)
  have HBP:=hide (kD HB9.out (.string (bT (flat (aG T n P)))) (.int .i64 0))
  have HKP:=hide (((KeepsOthers.setCell w9 ⟨Z+1,0,none⟩ (.string (bT (flat (aG T n P))))).trans (KeepsOthers.setCell _ ⟨Z+1+1,0,none⟩ (.int .i64 0))).same D _ HK9.out rfl)
  change bodyPostM _ _ _ _ _ _ _ ((w9.setCell ⟨Z+1,0,none⟩ (.string (bT (flat (aG T n P))))).setCell ⟨Z+1+1,0,none⟩ (.int .i64 0))
  generalize (w9.setCell ⟨Z+1,0,none⟩ (.string (bT (flat (aG T n P))))).setCell ⟨Z+1+1,0,none⟩ (.int .i64 0)=wF at *
  refine ⟨by simp,.inl ⟨D,_,rfl,run_takeDeferred HKP.out,?_⟩⟩
  have hg:=grownBy_putObj' wF D (.deferred none)
  have hr9:∀ r,some D=some r->∃ o:Obj,wF.heap[r]?=some o/\o.isCells=false:=fun r e=>by cases e;exact ⟨_,HKP.out,rfl⟩
  exact leave0 (iN _ rfl rfl (HP.out.grown hg hr9)) ⟨_,_,rfl,.inr ⟨HYes.out,.inr ⟨HNm.out,.inr ⟨HL.out,rfl,rfl⟩⟩⟩,by
   rw [HZ.out]
   exact HBP.out.grown hg (by have:=HBP.out.size;rw [HZ.out] at this;omega) (fun q hq=>by cases hq;omega)⟩
 case stop=>
  rintro D c pre Wd hD _ ⟨rfl,hRs,hb,hp,hl⟩ hK
  have HRs:=hide hRs
  have HBw:=hide hb
  have HK:=hide hK
  have HL:=hide (Nat.lt_of_lt_of_le hl (C_ hp))
  clear hRs hb hp hl hK
  gi_wp2
  refine ⟨by simp,.inl ⟨D,_,rfl,run_takeDeferred HK.out,?_⟩⟩
  have hg:=grownBy_putObj' Wd D (.deferred none)
  have hr9:∀ r,some D=some r->∃ o:Obj,Wd.heap[r]?=some o/\o.isCells=false:=fun r e=>by cases e;exact ⟨_,HK.out,rfl⟩
  exact leave0 (iN _ rfl rfl (HRs.out.grown hg hr9)) ⟨_,_,rfl,.inr ⟨HYes.out,.inr ⟨HNm.out,.inl ⟨HL.out,rfl,rfl⟩⟩⟩,by
   rw [HZ.out]
   exact HBw.out.grown hg (by have:=HBw.out.size;rw [HZ.out] at this;omega) (fun q hq=>by cases hq;omega)⟩
end Go.Proofs.YtjibjahfbblieaaGreatDoor
