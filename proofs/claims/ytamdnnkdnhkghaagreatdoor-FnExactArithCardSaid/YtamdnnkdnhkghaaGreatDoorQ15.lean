import Derived.Laws.Bits64
import Derived.Test.YtamdnnkdnhkghaaGreatDoorQ14
set_option maxHeartbeats 12800000
set_option maxRecDepth 100000
set_option linter.unusedVariables false
namespace Go.Proofs.YtamdnnkdnhkghaaGreatDoor
open Go Go.RowKit
theorem fb_hi (n d g P po G o nd:Nat) (D:Nat->Int) (dp:Int) (w:World) (h:DecAt w g D nd dp false) (hI:FInfo w g P po G o) (hne:nd≠0) (hdp:310<dp) (hr:Hid (IsRnd (n*2^1074) d infW)):
 Calls Tryz.prog 225 #[.pointer (some ⟨g,0,none⟩),.pointer (some ⟨14,0,none⟩)] w fun e w'=>FBits n d g w e w':=by
 have c0:=h.nd
 have c9:=h.dp
 have cN:=h.neg
 have c60:=hI.mant
 have c61:=hI.expb
 have c62:=hI.bias
 have h0:((nd:Int)==0)=false:=by rw [beq_eq_false_iff_ne];omega
 have eInf:bits .or .u64 (bits .and .u64 0 4503599627370495) (IntKind.u64.wrap (IntKind.u64.wrap (bits .and .i64 2047 2047)*4503599627370496))=9218868437227405312:=zdK (m:=0) (y:=2047) (W:=9218868437227405312) (by omega) rfl rfl (by omega) (by omega)
 clear h hI hne
 go_enter Tryz.func225,Tryz.ntmps225
 go_wp2
 refine zdj rfl rfl ?_
 go_hide hQ
 have HQ:=hide hQ
 clear hQ
 go_wp2
 go_step3
 repeat rw [zbR]
 rw [<-HQ.out]
 rw [fwd_1]
 clear HQ
 go_wp2
 go_quiet (fail)
 go_wp2
 go_step3
 go_wp2
 go_quiet (fail)
 go_wp2
 rw [Exit.noGoto_ret]
 go_ret2
 exact ⟨infW,rfl,hr.out,below_drewN (Below.refl g w) _⟩
theorem fb_lo (n d g P po G o nd:Nat) (D:Nat->Int) (dp:Int) (w:World) (h:DecAt w g D nd dp false) (hI:FInfo w g P po G o) (hne:nd≠0) (hdp:dp< -330) (hr:Hid (IsRnd (n*2^1074) d 0)):
 Calls Tryz.prog 225 #[.pointer (some ⟨g,0,none⟩),.pointer (some ⟨14,0,none⟩)] w fun e w'=>FBits n d g w e w':=by
 have c0:=h.nd
 have c9:=h.dp
 have cN:=h.neg
 have c60:=hI.mant
 have c61:=hI.expb
 have c62:=hI.bias
 have h0:((nd:Int)==0)=false:=by rw [beq_eq_false_iff_ne];omega
 have eInf:bits .or .u64 (bits .and .u64 0 4503599627370495) (IntKind.u64.wrap (IntKind.u64.wrap (bits .and .i64 0 2047)*4503599627370496))=0:=zdK (m:=0) (y:=0) (W:=0) (by omega) rfl rfl (by omega) (by omega)
 clear h hI hne
 go_enter Tryz.func225,Tryz.ntmps225
 go_wp2
 refine zdj rfl rfl ?_
 go_hide hQ
 have HQ:=hide hQ
 clear hQ
 go_wp2
 go_step3
 repeat rw [zbR]
 rw [<-HQ.out]
 rw [fwd_0]
 clear HQ
 go_wp2
 go_quiet (fail)
 go_wp2
 rw [Exit.noGoto_ret]
 go_ret2
 exact zem (W:=0) rfl rfl (by rw [infW_eq];omega) hr.out (below_drewN (Below.refl g w) _)
theorem zg2 (N g P po G o nd:Nat) (E dp:Int) (D:Nat->Int) (w:World) (h:DecAt w g D nd dp false) (hI:FInfo w g P po G o) (hN0:N≠0) (hN:N<10^100) (hv:dv D nd=N) (hnd:nd=zaC N) (hnorm:Norm D nd) (hdp:dp=nd+E)
 (hE1: -430<=E) (hE2:E<=1000):
 Calls Tryz.prog 225 #[.pointer (some ⟨g,0,none⟩),.pointer (some ⟨14,0,none⟩)] w fun e w'=>FBits (N*10^E.toNat) (10^(-E).toNat) g w e w':=by
 have hK:=KK_eq
 have hne:nd≠0:=by
  intro e
  rw [e] at hv
  exact hN0 hv.symm
 have hnd100:nd<=100:=by
  have h1:=zdX hN0
  have:=zcr (Nat.lt_of_le_of_lt h1 hN)
  omega
 by_cases c1:310<dp
 ·exact fb_hi _ _ g P po G o nd D dp w h hI hne c1 (hide (zdH hN0 (by omega)))
 by_cases c2:dp< -330
 ·exact fb_lo _ _ g P po G o nd D dp w h hI hne c2 (hide (ze6 (by omega)))
 have hrep:∀ Q,Q<=800->RepV (N*10^E.toNat) (10^(-E).toNat) KK Q (dv D nd*10^(dp-nd+KK).toNat) false:=by
  intro Q hQ
  refine RepV.of_eq (p10 _) (by omega) ?_
  rw [hv,Nat.mul_assoc,Nat.mul_assoc,<-Nat.pow_add,<-Nat.pow_add]
  congr 2
  omega
 have hfb:∀ Q,Q<=800->FB (N*10^E.toNat) (10^(-E).toNat) Q D nd dp false:=fun Q hQ=>⟨hnorm,hne,by omega,by omega,hQ,p10 _,hrep Q hQ⟩
 have hlo:∃ y,y=331/\10^(-E).toNat<=N*10^E.toNat*10^y:=by
  refine ⟨331,rfl,?_⟩
  have F:=hfb 0 (by omega)
  have h1:=F.vlo
  have h2:=Nat.le_trans (Nat.mul_le_mul_right (10^(-E).toNat) h1) F.rep.le
  obtain ⟨y,hy⟩:∃ y,y=331:=⟨_,rfl⟩
  rw [<-hy]
  have e1:10^(-E).toNat*10^(KK-y)<=10^(dp-1+KK).toNat*10^(-E).toNat:=by
   rw [Nat.mul_comm]
   exact Nat.mul_le_mul_right _ (Nat.pow_le_pow_right (by omega) (by omega))
  have e2:N*10^E.toNat*10^y*10^(KK-y)=N*10^E.toNat*10^KK:=by rw [Nat.mul_assoc _ (10^y),<-Nat.pow_add,show y+(KK-y)=KK by omega]
  have e3:10^(-E).toNat*10^(KK-y)<=N*10^E.toNat*10^y*10^(KK-y):=by rw [e2];exact Nat.le_trans e1 h2
  exact Nat.le_of_mul_le_mul_right e3 (p10 _)
 have hn:0<N*10^E.toNat:=Nat.mul_pos (by omega) (p10 _)
 by_cases hs:E<0
 ·refine zmt true _ _ (-E).toNat 200 g P po G o nd D dp w h hI ⟨⟨hn,p10 _,?_,hlo,fun _=>⟨rfl,by omega,?_,rfl⟩,fun h=>by cases h⟩,?_,.inl rfl⟩ (by omega) (by omega)
  ·have e0:E.toNat=0:=by omega
   rw [e0,Nat.pow_zero,Nat.mul_one]
   refine Nat.lt_of_lt_of_le hN ?_
   rw [<-Nat.pow_add]
   exact Nat.pow_le_pow_right (by omega) (by omega)
  ·have e0:E.toNat=0:=by omega
   rw [e0,Nat.pow_zero,Nat.mul_one]
   exact hN
  rw [Nat.pow_zero,Nat.mul_one]
  exact hfb _ (by unfold QQ;simp)
 have e0:(-E).toNat=0:=by omega
 have e1:10^(-E).toNat=1:=by rw [e0,Nat.pow_zero]
 obtain ⟨y,hy⟩:∃ y,y=310:=⟨_,rfl⟩
 refine zmt false _ _ 0 y g P po G o nd D dp w h hI ⟨⟨hn,p10 _,?_,hlo,(fun h=>by cases h),fun _=>⟨e1,hy⟩⟩,?_,.inl rfl⟩ (by omega) (by omega)
 ·have F:=hfb 0 (by omega)
  have h1:=F.rep.eq rfl
  have h2:=F.vhi
  rw [e1,Nat.mul_one] at h1
  rw [e1,Nat.one_mul]
  refine Nat.lt_of_mul_lt_mul_right (a:=10^KK) ?_
  rw [<-h1,<-Nat.pow_add]
  exact Nat.lt_of_lt_of_le h2 (Nat.pow_le_pow_right (by omega) (by omega))
 rw [Nat.pow_zero,Nat.mul_one]
 exact hfb _ (by unfold QQ;simp)
structure Txt (s:ByteArray) (k:Nat) (ds:List Int) (b p:Nat) (x:Int):Prop where
 hs:s.size<=100
 hk:k<=s.size
 dp:∀ j,j<k->isDP ((bs s).getD j 0)=true
 scan:dscan ((bs s).take k)=(ds,b,p)
 p1:p<=1
 ne:ds≠[]
 ex:(k=s.size/\x=0)∨(k<s.size/\expV ((bs s).drop k)=some x)
theorem ziL {l:List Int} {i:Nat} (h:i<l.length):(dscan (l.take i)).2.2<=(dscan (l.take (i+1))).2.2:=by
 rw [zeI h];unfold dstep;split
 ·exact Nat.le_succ _
 exact Nat.le_refl _
theorem ze0 {l:List Int} {i:Nat}:∀ {k:Nat},i<=k->k<=l.length->(dscan (l.take i)).2.2<=(dscan (l.take k)).2.2
 |0,h,_=>by rw [show i=0 by omega];exact Nat.le_refl _
 |k+1,h,hk=>by
  by_cases e:i=k+1
  ·rw [e];exact Nat.le_refl _
  exact Nat.le_trans (ze0 (k:=k) (by omega) (by omega)) (ziL (by omega))
theorem dscan_b0:∀ (l:List Int),(dscan l).2.2=0->(dscan l).2.1=0:=by
 have key:∀ (l:List Int) (st:List Int × Nat × Nat),(st.2.2=0->st.2.1=0)->(l.foldl dstep st).2.2=0->(l.foldl dstep st).2.1=0:=by
  intro l
  induction l with
  |nil=>intro st h;exact h
  |cons c l ih=>
   intro st h
   refine ih (dstep st c) ?_
   unfold dstep
   split
   ·intro hh;simp at hh
   intro hh
   have hp:st.2.2=0:=hh
   have hb:=h hp
   show st.2.1+st.2.2=0
   omega
 exact fun l=>key l _ (fun _=>rfl)
theorem Txt.pi {s:ByteArray} {k b p i b' p':Nat} {ds ds':List Int} {x:Int} (h:Txt s k ds b p x) (hi:i<=k) (hsc:dscan ((bs s).take i)=(ds',b',p')):p'<=1/\(p'=0->b'=0):=by
 have h1:=ze0 (l:=bs s) (i:=i) (k:=k) hi (by rw [zad];exact h.hk)
 rw [hsc,h.scan] at h1
 have h2:=dscan_b0 ((bs s).take i)
 rw [hsc] at h2
 have h3:p'<=p:=h1
 have:=h.p1
 exact ⟨by omega,h2⟩
structure SetS (N b p i:Nat) (D:Nat->Int) (nd:Nat) (dp:Int):Prop where
 v:dv D nd=N
 n:nd=zaC N
 ok:OkDig D nd
 head:nd≠0->D 0≠48
 dpp:p=1->dp=(nd:Int)-b
 lo: -(i:Int)<=dp
 hi:dp<=i
 le:nd<=i
theorem SetS.start (D:Nat->Int):SetS 0 0 0 0 D 0 0:=
 ⟨rfl,size10_zero.symm,fun i h=>by omega,fun h=>absurd rfl h,fun h=>by omega,by omega,by omega,by omega⟩
theorem SetS.zero {N b p i:Nat} {D:Nat->Int} {dp:Int} (h:SetS N b p i D 0 dp) (hp:p<=1):SetS (N*10+(48-48:Int).toNat) (b+p) p (i+1) D 0 (dp-1):=by
 have hN:N=0:=by have:=h.v;simpa [dv] using this.symm
 subst hN
 have h1:=h.dpp
 have h2:=h.lo
 have h3:=h.hi
 refine ⟨rfl,size10_zero.symm,h.ok,h.head,fun e=>?_,by omega,by omega,by omega⟩
 have:=h1 e
 omega
theorem SetS.put {N b p i nd:Nat} {D:Nat->Int} {dp c:Int} (h:SetS N b p i D nd dp) (hp:p<=1) (hc1:48<=c) (hc2:c<=57) (hz:nd≠0∨c≠48):SetS (N*10+(c-48).toNat) (b+p) p (i+1) (updD D nd c) (nd+1) dp:=by
 have h1:=h.dpp
 have h2:=h.lo
 have h3:=h.hi
 have h4:=h.le
 have hv:=h.v
 have hne:N*10+(c-48).toNat≠0:=by
  rcases hz with g|g
  ·have:=dv_ge h.ok g (h.head g)
   have:=p10 (nd-1)
   omega
  omega
 refine ⟨by rw [zl4,hv],?_,fun j hj=>?_,fun _=>?_,fun e=>?_,by omega,by omega,by omega⟩
 ·rw [zcW _ _ (by omega),if_neg hne,<-h.n]
 ·by_cases e:j=nd
  ·subst e;rw [zbQ];exact ⟨hc1,hc2⟩
  rw [zaP e];exact h.ok j (by omega)
 ·by_cases e:nd=0
  ·subst e;rw [zbQ];rcases hz with g|g
   ·exact absurd rfl g
   exact g
  rw [zaP (by omega)];exact h.head e
 have:=h1 e;omega
theorem SetS.point {N i nd:Nat} {D:Nat->Int} {dp:Int} (h:SetS N 0 0 i D nd dp):SetS N 0 1 (i+1) D nd (nd:Int):=by
 have h4:=h.le
 exact ⟨h.v,h.n,h.ok,h.head,fun _=>by omega,by omega,by omega,by omega⟩
structure ExpAt (s:ByteArray) (t v:Nat):Prop where
 lt:t<s.size
 le:s.size<=t+3
 dig:∀ j,t<=j->j<s.size->48<=(bs s).getD j 0/\(bs s).getD j 0<=57
 val:v=dval ((bs s).drop t)
theorem zjJ {s:ByteArray} {t:Nat} {y:Int} (h:expB ((bs s).drop t)=some y):∃ v:Nat,y=v/\ExpAt s t v:=by
 unfold expB at h
 split at h
 ·rename_i hh
  obtain ⟨h1,h2,h3⟩:=hh
  rw [List.length_drop,zad] at h1 h2
  refine ⟨dval ((bs s).drop t),by simpa using h.symm,by omega,by omega,fun j j1 j2=>?_,rfl⟩
  unfold zae at h3
  rw [List.all_eq_true] at h3
  have hm:(bs s).getD j 0∈(bs s).drop t:=by
   have hl:j-t<((bs s).drop t).length:=by rw [List.length_drop,zad];omega
   have e:((bs s).drop t)[j-t]=(bs s).getD j 0:=by
    rw [List.getElem_drop,List.getD_eq_getElem?_getD,List.getElem?_eq_getElem (by rw [zad];exact j2)]
    simp only [Option.getD_some]
    congr 1
    omega
   rw [<-e];exact List.getElem_mem hl
  have:=h3 _ hm
  unfold zax at this
  rw [decide_eq_true_eq] at this
  exact this
 cases h
theorem zdi {s:ByteArray} {k:Nat} {x:Int} (h:expV ((bs s).drop k)=some x):((bs s).getD k 0=101∨(bs s).getD k 0=69)/\
 ∃ v:Nat,((bs s).getD (k+1) 0=45/\x= -(v:Int)/\ExpAt s (k+2) v)∨((bs s).getD (k+1) 0=43/\x=v/\ExpAt s (k+2) v)∨((bs s).getD (k+1) 0≠45/\(bs s).getD (k+1) 0≠43/\x=v/\ExpAt s (k+1) v):=by
 have g0:∀ j,((bs s).drop k).getD j 0=(bs s).getD (k+j) 0:=fun j=>by simp [List.getD_eq_getElem?_getD,List.getElem?_drop]
 have g1:(((bs s).drop k).drop 1).getD 0 0=(bs s).getD (k+1) 0:=by simp [List.getD_eq_getElem?_getD,List.getElem?_drop]
 unfold expV at h
 rw [g0] at h
 split at h
 ·rename_i hc
  refine ⟨hc,?_⟩
  unfold expS at h
  rw [g1,List.drop_drop,List.drop_drop] at h
  split at h
  ·rename_i h45
   cases hb:expB ((bs s).drop (k+(1+1))) with
   |none=>rw [hb] at h;cases h
   |some y=>
    rw [hb] at h
    obtain ⟨v,hv,hE⟩:=zjJ hb
    have:x= -y:=by simpa using h.symm
    exact ⟨v,.inl ⟨h45,by omega,hE⟩⟩
  rename_i h45
  split at h
  ·rename_i h43
   obtain ⟨v,hv,hE⟩:=zjJ h
   exact ⟨v,.inr (.inl ⟨h43,hv,hE⟩)⟩
  rename_i h43
  rw [List.drop_drop] at h
  obtain ⟨v,hv,hE⟩:=zjJ h
  exact ⟨v,.inr (.inr ⟨h45,h43,hv,hE⟩)⟩
 cases h
def eVal (s:ByteArray) (t q:Nat):Nat:=dval (((bs s).drop t).take q)
theorem ztD (s:ByteArray) (t:Nat):eVal s t 0=0:=rfl
theorem ziU {s:ByteArray} {t q:Nat} (h:t+q<s.size):eVal s t (q+1)=eVal s t q*10+(((s[t+q].toNat:Nat):Int)-48).toNat:=by
 unfold eVal
 have hl:q<((bs s).drop t).length:=by rw [List.length_drop,zad];omega
 rw [List.take_succ_eq_append_getElem hl,zb4]
 congr 3
 rw [List.getElem_drop]
 have:=zaf h
 rw [List.getD_eq_getElem?_getD,List.getElem?_eq_getElem (by rw [zad];exact h)] at this
 exact this
theorem zaN {s:ByteArray} {t q v:Nat} (h:ExpAt s t v) (hq:t+q=s.size):eVal s t q=v:=by
 unfold eVal
 rw [h.val,List.take_of_length_le]
 rw [List.length_drop,zad];omega
theorem zoC {s:ByteArray} {t v:Nat} (h:ExpAt s t v):∀ {q:Nat},t+q<=s.size->eVal s t q<10^q
 |0,_=>by rw [ztD];decide
 |q+1,hq=>by
  rw [ziU (by omega),Nat.pow_succ]
  have h1:=zoC h (q:=q) (by omega)
  have h2:=h.dig (t+q) (by omega) (by omega)
  rw [zaf (show t+q<s.size by omega)] at h2
  omega
theorem zau {s:ByteArray} {t v q:Nat} (h:ExpAt s t v) (hq:t+q<=s.size):eVal s t q<1000:=by
 have h1:=zoC h hq
 have h2:=h.le
 have:10^q<=10^3:=Nat.pow_le_pow_right (by omega) (by omega)
 omega
end Go.Proofs.YtamdnnkdnhkghaaGreatDoor
namespace Go.Proofs.YtamdnnkdnhkghaaGreatDoor
def wM (r:Nat):Nat:=if r<4503599627370496 then r else r%4503599627370496+4503599627370496
def wK (r:Nat):Nat:=r/4503599627370496-1
def wE (r:Nat):Int:=(wK r:Int)-1074
theorem wM_lt (r:Nat):wM r<9007199254740992:=by unfold wM;split<;>omega
theorem wM_ge {r:Nat} (h:1<=wK r):4503599627370496<=wM r:=by unfold wK at h;unfold wM;split<;>omega
theorem zcX (r:Nat):wK r*4503599627370496+wM r=r:=by unfold wK wM;split<;>omega
theorem wK_lt {r:Nat} (h:r<infW):wK r<2046:=by unfold infW at h;unfold wK;omega
theorem zhj {r:Nat} (h:r<infW):Ieee.double.read r=.number false (wM r) (wE r):=by
 have h1:wK r=0∨4503599627370496<=wM r:=by
  by_cases h0:wK r=0
  ·exact .inl h0
  exact .inr (wM_ge (by omega))
 have:=zbO (k:=wK r) (q:=wM r) (wM_lt r) h1 (by rw [zcX];exact h)
 rw [zcX] at this
 exact this
theorem zfB {r:Nat} (h:r<9223372036854775808):Ieee.double.read (9223372036854775808+r)=(Ieee.double.read r).opposite:=by
 unfold Ieee.Format.read
 rw [dbl_sw,dbl_bn,dbl_ir,dbl_lp]
 have h1:(9223372036854775808+r)%9223372036854775808=r:=by omega
 have h2:(9223372036854775808+r)/9223372036854775808=1:=by omega
 have h3:r%9223372036854775808=r:=by omega
 have h4:r/9223372036854775808=0:=by omega
 simp only [h1,h2,h3,h4]
 split
 ·rfl
 split
 ·rfl
 split
 ·rfl
 rfl
def wordS (s:Bool) (r:Nat):Nat:=if s then 9223372036854775808+r else r
theorem zeW {s:Bool} {r:Nat} (h:r<9223372036854775808):Ieee.double.read (wordS s r)=if s then (Ieee.double.read r).opposite else Ieee.double.read r:=by
 cases s with
 |false=>rfl
 |true=>exact zfB h
theorem zaj {s:Bool} {r:Nat} (h:r<infW):Ieee.double.read (wordS s r)=.number s (wM r) (wE r):=by
 cases s with
 |false=>exact zhj h
 |true=>
  show Ieee.double.read (9223372036854775808+r)=_
  rw [zfB (by unfold infW at h;omega),zhj h]
  rfl
theorem zaq (s:Bool):Ieee.double.read (wordS s infW)=.infinity s:=by cases s<;>decide+kernel
theorem zhz {r:Nat} (h1:infW<r) (h2:r<9223372036854775808):Ieee.double.read r=.nan false (r-infW):=by
 unfold Ieee.Format.read
 rw [dbl_sw,dbl_bn,dbl_ir,dbl_lp]
 have h3:r%9223372036854775808=r:=by omega
 have h4:r/9223372036854775808=0:=by omega
 simp only [h3,h4]
 rw [if_neg (by unfold infW at h1;omega),if_neg (by omega),if_neg (by omega)]
 rfl
theorem zaI {s:Bool} {r:Nat} (h1:infW<r) (h2:r<9223372036854775808):Ieee.double.read (wordS s r)=.nan s (r-infW):=by
 cases s with
 |false=>exact zhz h1 h2
 |true=>
  show Ieee.double.read (9223372036854775808+r)=_
  rw [zfB h2,zhz h1 h2]
  rfl
theorem zbo {W:Nat} (h:W<18446744073709551616):W=wordS (decide (9223372036854775808<=W)) (W%9223372036854775808):=by
 unfold wordS
 by_cases h1:9223372036854775808<=W
 ·rw [if_pos (decide_eq_true h1)];omega
 rw [if_neg (by rw [decide_eq_true_iff];exact h1)];omega
def sgZ (s:Bool) (n:Nat):Int:=if s then -(n:Int) else n
theorem zbd (s:Bool) (m u:Nat):Ieee.signed s m u=sgZ s (m*2^u):=by
 unfold Ieee.signed sgZ
 rw [Nat.shiftLeft_eq]
theorem zbx {a b:Int} (h:a<b):compare a b=.lt:=by
 show compareOfLessAndEq a b=.lt
 unfold compareOfLessAndEq
 rw [if_pos h]
theorem zcK {a b:Int} (h:a=b):compare a b=.eq:=Int.compare_eq_eq.2 h
theorem zbY {a b:Int} (h:b<a):compare a b=.gt:=by
 show compareOfLessAndEq a b=.gt
 unfold compareOfLessAndEq
 rw [if_neg (by omega),if_neg (by omega)]
theorem zue {s:Bool} {a b:Nat} (h:sgZ s a=sgZ s b):a=b:=by
 unfold sgZ at h
 cases s with
 |false=>simp only [Bool.false_eq_true,if_false] at h;omega
 |true=>simp only [if_true] at h;omega
theorem zfp {s:Bool} {m n:Nat} {i j:Int} {a c:Nat} (hac:(a:Int)-c=i-j):
 Ieee.Datum.order (.number s m i) (.number s n j)=some .eq↔m*2^a=n*2^c:=by
 unfold Ieee.Datum.order
 simp only [zbd]
 obtain ⟨x,hx⟩:∃ x,x=(i-min i j).toNat:=⟨_,rfl⟩
 obtain ⟨y,hy⟩:∃ y,y=(j-min i j).toNat:=⟨_,rfl⟩
 rw [<-hx,<-hy]
 have hxy:a+y=c+x:=by omega
 clear hx hy hac
 have p:∀ x:Nat,0<2^x:=fun x=>Nat.pow_pos (by omega)
 have key:m*2^x=n*2^y↔m*2^a=n*2^c:=by
  have e:m*2^x*2^c=m*2^a*2^y:=by
   rw [Nat.mul_assoc,Nat.mul_assoc,<-Nat.pow_add,<-Nat.pow_add,Nat.add_comm x c,<-hxy]
  have e2:n*2^y*2^c=n*2^c*2^y:=by rw [Nat.mul_assoc,Nat.mul_comm (2^y),Nat.mul_assoc]
  constructor
  ·intro h
   rw [h,e2] at e
   exact (Nat.eq_of_mul_eq_mul_right (p y) e).symm
  intro h
  rw [h,<-e2] at e
  exact Nat.eq_of_mul_eq_mul_right (p c) e
 constructor
 ·intro h
  exact key.1 (zue (Int.compare_eq_eq.1 (Option.some.inj h)))
 intro h
 rw [key.2 h,zcK rfl]
theorem zqH (neg:Bool) (n drop:Nat):Ieee.Toward.zero.cut neg n drop=n/2^drop:=by
 unfold Ieee.Toward.cut
 simp only [Bool.toNat_false,Nat.add_zero,Nat.one_shiftLeft]
 by_cases h:drop<=n.log2+2
 ·rw [Nat.min_eq_left h]
 rw [Nat.min_eq_right (by omega)]
 have h1:n<2^(n.log2+1):=Nat.lt_log2_self
 have h2:2^(n.log2+1)<=2^(n.log2+2):=Nat.pow_le_pow_right (by omega) (by omega)
 have h3:2^(n.log2+2)<=2^drop:=Nat.pow_le_pow_right (by omega) (by omega)
 rw [Nat.div_eq_of_lt (by omega),Nat.div_eq_of_lt (by omega)]
theorem zbW (s:Bool) (m:Nat) (p:Int):Ieee.double.nearest s m p=wordS s (Ieee.double.nearest false m p):=by
 unfold Ieee.Format.nearest
 by_cases h:m=0
 ·rw [if_pos h,if_pos h]
  unfold Ieee.Format.word wordS
  simp only [dbl_sw,Bool.false_eq_true,if_false]
 rw [if_neg h,if_neg h]
 simp only [zft]
 unfold Ieee.Format.word wordS
 simp only [dbl_sw,Bool.false_eq_true,if_false]
def wT (m:Nat) (e:Int):Nat:=m*2^e.toNat/2^(-e).toNat
theorem zev (s:Bool) (m:Nat) (e:Int):Ieee.Datum.integral .zero (.number s m e)=.number s (wT m e) 0:=by
 unfold Ieee.Datum.integral
 simp only [zqH,Nat.shiftLeft_eq,wT]
theorem zbr (m:Nat) (p:Int):Ieee.double.nearest false m p<=infW:=by
 unfold Ieee.Format.nearest
 split
 ·exact Nat.zero_le _
 unfold Ieee.Format.word
 simp only [Bool.false_eq_true,if_false]
 rw [dbl_ir]
 exact Nat.min_le_right _ _
theorem znt {s:Bool} {m:Nat} {e:Int} (hm:m<9007199254740992) (he:e<0):
 Ieee.Datum.order (.number s m e) (Ieee.double.read (Ieee.double.nearest s (wT m e) 0))=some .eq↔m%2^(-e).toNat=0:=by
 obtain ⟨d,hd⟩:∃ d:Nat,d=(-e).toNat:=⟨_,rfl⟩
 have e0:e.toNat=0:=by omega
 have hT:wT m e=m/2^d:=by unfold wT;rw [e0,Nat.pow_zero,Nat.mul_one,hd]
 rw [hT,<-hd]
 have p:∀ x:Nat,0<2^x:=fun x=>Nat.pow_pos (by omega)
 have key:m%2^d=0↔m=m/2^d*2^d:=by
  have:=Nat.div_add_mod m (2^d)
  rw [Nat.mul_comm] at this
  constructor
  ·intro h;omega
  intro h;omega
 rw [key]
 by_cases h0:m/2^d=0
 ·rw [h0]
  have r0:Ieee.double.read (Ieee.double.nearest s 0 0)=.number s 0 (-1074):=by cases s<;>decide+kernel
  rw [r0]
  obtain ⟨a,c,hac⟩:∃ a c:Nat,(a:Int)-c=e- -1074:=⟨(e+1074).toNat,(-(e+1074)).toNat,by omega⟩
  rw [zfp hac,Nat.zero_mul,Nat.zero_mul]
  constructor
  ·intro h
   rcases Nat.mul_eq_zero.1 h with h|h
   ·exact h
   have:=p a;omega
  intro h;rw [h,Nat.zero_mul]
 have hlt:m/2^d<9007199254740992:=Nat.lt_of_le_of_lt (Nat.div_le_self _ _) hm
 obtain ⟨q,g,hr,hq,hg⟩:=zhD h0 hlt
 have hrs:Ieee.double.read (Ieee.double.nearest s (m/2^d) 0)=.number s q (-(g:Int)):=by
  have hle:=zbr (m/2^d) 0
  rw [zbW,zeW (by unfold infW at hle;omega),hr]
  cases s<;>rfl
 rw [hrs,zfp (a:=g) (c:=d) (by omega),hq]
 have e3:m/2^d*2^g*2^d=m/2^d*2^d*2^g:=by rw [Nat.mul_assoc,Nat.mul_comm (2^g),Nat.mul_assoc]
 rw [e3]
 constructor
 ·intro h;exact Nat.eq_of_mul_eq_mul_right (p g) h
 intro h;rw [<-h]
theorem zez {r:Nat} (hr:r<infW) (he:0<=wE r):Ieee.double.nearest false (wT (wM r) (wE r)) 0=r:=by
 obtain ⟨c,hc⟩:∃ c:Nat,c=1074:=⟨_,rfl⟩
 have hk:1<=wK r:=by unfold wE at he;omega
 have hm:=wM_ge hk
 have hm2:=wM_lt r
 obtain ⟨u,hu⟩:∃ u:Nat,u=(wE r).toNat:=⟨_,rfl⟩
 have hK:wK r=u+c:=by unfold wE at hu he;omega
 have e0:(-(wE r)).toNat=0:=by omega
 have hT:wT (wM r) (wE r)=wM r*2^u:=by unfold wT;rw [e0,Nat.pow_zero,Nat.div_one,hu]
 rw [hT]
 have p:∀ x:Nat,0<2^x:=fun x=>Nat.pow_pos (by omega)
 have n0:wM r*2^u≠0:=Nat.mul_ne_zero (by omega) (Nat.pos_iff_ne_zero.1 (p u))
 have h1:=zbk (mag:=wM r*2^u) (place:=0) n0 (A:=c) (B:=0) (by omega)
 rw [Nat.pow_zero] at h1
 refine IsRnd.unique h1 ⟨wK r,?_,?_,?_⟩
 ·rw [Nat.one_mul,Nat.mul_assoc,<-Nat.pow_add,<-hK,Nat.pow_add]
  exact Nat.mul_lt_mul_of_pos_right hm2 (p _)
 ·right
  rw [Nat.one_mul,Nat.mul_assoc,<-Nat.pow_add,<-hK,Nat.pow_add]
  exact Nat.mul_le_mul_right _ hm
 rw [Nat.one_mul,Nat.mul_assoc,<-Nat.pow_add,<-hK]
 have:rq (wM r*2^wK r) (2^wK r)=wM r:=by
  have hp:=p (wK r)
  unfold rq
  rw [Nat.mul_div_cancel _ hp,Nat.mul_mod_left]
  generalize 2^wK r=Z at hp
  rw [if_neg (by omega),Nat.add_zero]
 rw [this,zcX,Nat.min_eq_left (Nat.le_of_lt hr)]
theorem read_low:Ieee.double.read 14114281232179134464=.number true 4503599627370496 11:=by decide+kernel
theorem read_high:Ieee.double.read 4890909195324358656=.number false 4503599627370496 11:=by decide+kernel
theorem zgw {a:Nat} (h:1<=a):9007199254740992<=4503599627370496*2^a:=by
 have:2^1<=2^a:=Nat.pow_le_pow_right (by omega) h
 omega
theorem zrU {s:Bool} {m:Nat} {e:Int} (hm:m<9007199254740992) (he:e<=10):
 Ieee.Datum.order (.number s m e) (.number false 4503599627370496 11)=some .lt:=by
 unfold Ieee.Datum.order
 simp only [zbd]
 have hb:min e 11=e:=by omega
 rw [hb]
 have e1:(e-e).toNat=0:=by omega
 rw [e1,Nat.pow_zero,Nat.mul_one]
 have:=zgw (a:=(11-e).toNat) (by omega)
 generalize 4503599627370496*2^(11-e).toNat=X at *
 congr 1
 refine zbx ?_
 unfold sgZ
 cases s<;>simp<;>omega
theorem ztC {s:Bool} {m:Nat} {e:Int} (hm:m<9007199254740992) (he:e<=10):
 Ieee.Datum.order (.number s m e) (.number true 4503599627370496 11)=some .gt:=by
 unfold Ieee.Datum.order
 simp only [zbd]
 have hb:min e 11=e:=by omega
 rw [hb]
 have e1:(e-e).toNat=0:=by omega
 rw [e1,Nat.pow_zero,Nat.mul_one]
 have:=zgw (a:=(11-e).toNat) (by omega)
 generalize 4503599627370496*2^(11-e).toNat=X at *
 congr 1
 refine zbY ?_
 unfold sgZ
 cases s<;>simp<;>omega
theorem zpb {m:Nat} {e:Int} (hm:4503599627370496<=m) (he:11<=e):
 Ieee.Datum.order (.number false m e) (.number false 4503599627370496 11)≠some .lt:=by
 unfold Ieee.Datum.order
 simp only [zbd]
 have hb:min e 11=11:=by omega
 rw [hb]
 have e1:((11:Int)-11).toNat=0:=by omega
 rw [e1,Nat.pow_zero,Nat.mul_one]
 have h1:1<=2^(e-11).toNat:=Nat.one_le_two_pow
 have h2:m*1<=m*2^(e-11).toNat:=Nat.mul_le_mul_left _ h1
 generalize m*2^(e-11).toNat=X at *
 intro h
 have h3:=Option.some.inj h
 unfold sgZ at h3
 simp only [Bool.false_eq_true,if_false] at h3
 by_cases h4:X=4503599627370496
 ·rw [h4,zcK rfl] at h3;cases h3
 rw [zbY (by omega)] at h3;cases h3
theorem zsZ {m:Nat} {e:Int} (hm:4503599627370496<=m) (he:11<=e) (hne:¬ (m=4503599627370496/\e=11)):
 Ieee.Datum.order (.number true m e) (.number true 4503599627370496 11)=some .lt:=by
 unfold Ieee.Datum.order
 simp only [zbd]
 have hb:min e 11=11:=by omega
 rw [hb]
 have e1:((11:Int)-11).toNat=0:=by omega
 rw [e1,Nat.pow_zero,Nat.mul_one]
 have h2:4503599627370496<m*2^(e-11).toNat:=by
  by_cases h11:e=11
  ·rw [h11,e1,Nat.pow_zero];omega
  have h1:2^1<=2^(e-11).toNat:=Nat.pow_le_pow_right (by omega) (by omega)
  have:=Nat.mul_le_mul_left m h1
  omega
 generalize m*2^(e-11).toNat=X at *
 congr 1
 refine zbx ?_
 unfold sgZ
 simp only [if_true]
 omega
def fitsB (s:Bool) (r:Nat):Bool:=decide (r<infW/\(wE r<=10∨(s=true/\r=4890909195324358656)))
theorem top_M:wM 4890909195324358656=4503599627370496:=by decide
theorem top_E:wE 4890909195324358656=11:=by decide
theorem zuk {r:Nat} (h1:wM r=4503599627370496) (h2:wE r=11):r=4890909195324358656:=by
 have h3:=zcX r
 unfold wE at h2
 have h4:wK r=1085:=by omega
 rw [h4,h1] at h3
 omega
def loB (W:Nat):Bool:=Ieee.double.order W 14114281232179134464==some .gt||Ieee.double.order W 14114281232179134464==some .eq
def hiB (W:Nat):Bool:=Ieee.double.order W 4890909195324358656==some .lt
theorem zoI {s:Bool} {r:Nat} (hr:r<9223372036854775808):(loB (wordS s r)&&hiB (wordS s r))=fitsB s r:=by
 unfold loB hiB Ieee.Format.order
 rw [read_low,read_high]
 by_cases h:r<infW
 ·rw [zaj h]
  have hm:=wM_lt r
  by_cases he:wE r<=10
  ·rw [ztC hm he,zrU hm he]
   have:fitsB s r=true:=decide_eq_true ⟨h,.inl he⟩
   rw [this]
   rfl
  have hk:1<=wK r:=by unfold wE at he;omega
  have hm2:=wM_ge hk
  cases s with
  |false=>
   have h1:=zpb hm2 (e:=wE r) (by omega)
   have h2:(Ieee.Datum.order (.number false (wM r) (wE r)) (.number false 4503599627370496 11)==some .lt)=false:=by rw [beq_eq_false_iff_ne];exact h1
   rw [h2,Bool.and_false]
   exact (decide_eq_false (fun hh=>hh.2.elim he (fun h3=>Bool.noConfusion h3.1))).symm
  |true=>
   by_cases ht:wM r=4503599627370496/\wE r=11
   ·have:=zuk ht.1 ht.2
    subst this
    rw [top_M,top_E]
    decide+kernel
   rw [zsZ hm2 (by omega) ht]
   have:fitsB true r=false:=by
    refine decide_eq_false (fun hh=>hh.2.elim he (fun h3=>ht ?_))
    rw [h3.2]
    exact ⟨top_M,top_E⟩
   rw [this]
   rfl
 have hf:fitsB s r=false:=decide_eq_false (fun hh=>h hh.1)
 rw [hf]
 by_cases hi:r=infW
 ·rw [hi,zaq]
  cases s<;>rfl
 rw [zaI (by omega) hr]
 rfl
def zbZ (s:Bool) (r:Nat):Nat:=Ieee.double.nearest s (wT (wM r) (wE r)) 0
theorem zgf {s:Bool} {r:Nat} (h:r<infW):(Ieee.double.order (wordS s r) (zbZ s r)==some .eq)=decide (wM r%2^(-(wE r)).toNat=0):=by
 have key:Ieee.double.order (wordS s r) (zbZ s r)=some .eq↔wM r%2^(-(wE r)).toNat=0:=by
  unfold zbZ
  by_cases he:0<=wE r
  ·have e0:(-(wE r)).toNat=0:=by omega
   rw [zbW,zez h he,e0,Nat.pow_zero,Nat.mod_one]
   unfold Ieee.Format.order
   rw [zaj h,zfp (a:=0) (c:=0) (by omega)]
   simp only
  unfold Ieee.Format.order
  rw [zaj h]
  exact znt (wM_lt r) (by omega)
 by_cases hx:wM r%2^(-(wE r)).toNat=0
 ·rw [key.2 hx,decide_eq_true hx];rfl
 rw [decide_eq_false hx,beq_eq_false_iff_ne]
 exact fun hh=>hx (key.1 hh)
theorem zeE {s:Bool} {r:Nat} (h:r<infW):FloatKind.f64.decode (wordS s r)=.number s (wM r) (wE r):=zaj h
theorem ziz (s:Bool) (r:Nat):FloatKind.f64.encode (Ieee.Datum.integral .zero (.number s (wM r) (wE r)))=zbZ s r:=by
 rw [zev]
 rfl
theorem wT_lt {r:Nat} (he:wE r<=10):wT (wM r) (wE r)<9223372036854775808:=by
 have hm:=wM_lt r
 unfold wT
 by_cases h:0<=wE r
 ·have e0:(-(wE r)).toNat=0:=by omega
  rw [e0,Nat.pow_zero,Nat.div_one]
  have h1:2^(wE r).toNat<=2^10:=Nat.pow_le_pow_right (by omega) (by omega)
  have h2:=Nat.mul_le_mul_left (wM r) h1
  omega
 have e0:(wE r).toNat=0:=by omega
 rw [e0,Nat.pow_zero,Nat.mul_one]
 have:=Nat.div_le_self (wM r) (2^(-(wE r)).toNat)
 omega
theorem wT_top:wT 4503599627370496 11=9223372036854775808:=by decide
theorem zfx {s:Bool} {r:Nat} (h:fitsB s r=true): -9223372036854775808<=sgZ s (wT (wM r) (wE r))/\sgZ s (wT (wM r) (wE r))<=9223372036854775807:=by
 rcases (of_decide_eq_true h).2 with he|⟨hs,hr⟩
 ·have:=wT_lt he
  unfold sgZ
  split<;>omega
 rw [hs,hr,top_M,top_E,wT_top]
 decide
theorem zfY {s:Bool} {r:Nat} (h:fitsB s r=true):floatToIntVal .f64 (wordS s r) .i64=some (sgZ s (wT (wM r) (wE r))):=by
 have hf:=(of_decide_eq_true h).1
 have h1:(FloatKind.f64.decode (wordS s r)).toInt .zero=some (sgZ s (wT (wM r) (wE r))):=by
  rw [zeE hf]
  unfold Ieee.Datum.toInt
  rw [zev]
  simp only [zbd,Nat.pow_zero,Nat.mul_one]
 have h2:=zfx h
 unfold floatToIntVal
 rw [h1]
 simp only
 rw [if_pos]
 exact h2
def zaL (s:Bool) (r:Nat):Option Int:=if fitsB s r=true/\wM r%2^(-(wE r)).toNat=0 then some (sgZ s (wT (wM r) (wE r))) else none
end Go.Proofs.YtamdnnkdnhkghaaGreatDoor
namespace Go.Proofs.YtamdnnkdnhkghaaGreatDoor
open Go Go.RowKit
theorem zag {B:Nat} {a w:World} (h:Below B a w) (n:Nat):Below B a (w.drewN n):=⟨h.os,h.tape,h.output,h.size,h.block⟩
theorem zkN (s:Bool) (r:Nat) (w:World) (hr:r<9223372036854775808):
 Rs 76 #[.float .f64 (wordS s r)] w (.bool (fitsB s r)):=by
 have hf:=zoI (s:=s) hr
 unfold loB hiB at hf
 generalize wordS s r=W at *
 generalize fitsB s r=F at *
 obtain ⟨b1,h1⟩:∃ b,(FloatKind.f64.format.order W 14114281232179134464==some Ordering.gt)=b:=⟨_,rfl⟩
 obtain ⟨b2,h2⟩:∃ b,(FloatKind.f64.format.order W 14114281232179134464==some Ordering.eq)=b:=⟨_,rfl⟩
 obtain ⟨b3,h3⟩:∃ b,(FloatKind.f64.format.order W 4890909195324358656==some Ordering.lt)=b:=⟨_,rfl⟩
 have hf2:((b1||b2)&&b3)=F:=by rw [<-h1,<-h2,<-h3];exact hf
 subst hf2
 clear hf hr
 cases b1<;>cases b2<;>cases b3
 all_goals (go_enter Tryz.func76,Tryz.ntmps76;go_wp2;all_goals go_ret;all_goals exact ⟨rfl,rfl⟩)
theorem zof {s:Bool} {r:Nat} (h:r<infW) (w:World):(callFunc 123 #[.float .f64 (wordS s r)]).run Tryz.prog w=.ok (.value (.float .f64 (zbZ s r))) w:=by
 rw [run_callFunc_extern (e:=Extern.MathFloor.toIntegral "math.archTrunc" .zero) Tryz.func123 (by kernel_rfl) (by kernel_rfl) (by kernel_rfl) (by kernel_rfl)]
 have:Extern.MathFloor.toIntegral "math.archTrunc" .zero #[.float .f64 (wordS s r)]=pure (.float .f64 (zbZ s r)):=by
  refine Eq.trans (b:=Extern.MathFloor.toIntegral.match_1 (motive:=fun _=>Sem Value) (FloatKind.f64.decode (wordS s r)) _ _) rfl ?_
  rw [zeE h,<-ziz]
 rw [this]
 rfl
theorem zhY (s:Bool) (r:Nat) (w:World) (h:r<infW):
 Rs 77 #[.float .f64 (wordS s r)] w (.float .f64 (zbZ s r)):=by
 have ht:=fun w=>zof (s:=s) h w
 generalize wordS s r=W at *
 generalize zbZ s r=T at *
 go_enter Tryz.func77,Tryz.ntmps77
 go_wp2
 all_goals go_ret
 all_goals exact ⟨rfl,rfl⟩
theorem zaJ (W:Nat) (w:World):(callFunc 51 #[.int .u64 W]).run Tryz.prog w=.ok (.value (.float .f64 W)) w:=by
 rw [run_callFunc_extern (e:=Extern.MathFloatBits.float64frombits) Tryz.func51 (by kernel_rfl) (by kernel_rfl) (by kernel_rfl) (by kernel_rfl)]
 rfl
theorem zc4 (W:Nat) (w:World):
 Rb 22 #[.agg #[.bool true,.int .i64 0,.int .u64 W]] w (.float .f64 W):=by
 have ht:=zaJ W
 go_enter Tryz.func22,Tryz.ntmps22
 go_wp2
 all_goals go_ret
 all_goals exact ⟨rfl,(Below.refl _ _).alloc (Nat.le_refl _) _⟩
def zc9 (ev:Value):Option Int->Value
 |some i=>.tuple #[.int .i64 i,.nilIface]
 |none=>.tuple #[.int .i64 0,ev]
theorem zjt (i:Int) (ev:Value) (w:World):
 Rb 41 #[.agg #[.bool false,.int .i64 i,.int .u64 0]] w (zc9 ev (some i)):=by
 go_enter Tryz.func41,Tryz.ntmps41
 go_wp2
 all_goals go_ret2
 all_goals exact ⟨rfl,(Below.refl _ _).alloc (Nat.le_refl _) _⟩
abbrev numW (w:World) (W:Nat):World:=w.alloc (.cells #[.bool true,.int .i64 0,.int .u64 W] 26)
theorem zdq {w w':World} {W:Nat} (h:Below (w.heap.size+1) (numW w W) w'):Below w.heap.size w w':=
 ((Below.refl w.heap.size w).alloc (Nat.le_refl _) _).trans (h.mono (Nat.le_succ _))
theorem zhr (s:Bool) (r:Nat) (ev:Value) (w:World) (hr:r<9223372036854775808) (hf:fitsB s r=false) (h5:5<w.heap.size) (hev:w.cell? ⟨5,0,none⟩=some ev):
 Rb 41 #[.agg #[.bool true,.int .i64 0,.int .u64 (wordS s r)]] w (zc9 ev none):=by
 have HF:=hide (fun w'=>zkN s r w' hr)
 rw [hf] at HF
 have HO:=hide (fun w'=>zc4 (wordS s r) w')
 generalize wordS s r=W at *
 clear hr hf
 have Hev:=hide hev
 clear hev
 go_enter Tryz.func41,Tryz.ntmps41
 go_wp2_with fail
 refine rb (HO.out _) fun w1 hb=>?_
 have hb1:Below (w.heap.size+1) (numW w W) w1:=hb.mono (by simp)
 have Hb1:=hide hb1
 have hc:w1.cell? ⟨5,0,none⟩=some ev:=((zdq hb1).cell (show 5<w.heap.size from h5)).trans Hev.out
 clear hb hb1
 go_wp2_with fail
 refine rs (HF.out _) ?_
 go_wp2
 go_quiet (fail)
 go_wp2
 go_ret2
 exact ⟨rfl,zag (zdq Hb1.out) _⟩
theorem zjq (s:Bool) (r:Nat) (ev:Value) (w:World) (hr:r<9223372036854775808) (hf:fitsB s r=true) (h5:5<w.heap.size) (hev:w.cell? ⟨5,0,none⟩=some ev):
 Rb 41 #[.agg #[.bool true,.int .i64 0,.int .u64 (wordS s r)]] w (zc9 ev (zaL s r)):=by
 have hfin:=(of_decide_eq_true hf).1
 have HF:=hide (fun w'=>zkN s r w' hr)
 rw [hf] at HF
 have HO:=hide (fun w'=>zc4 (wordS s r) w')
 have HT:=hide (fun w'=>zhY s r w' hfin)
 have hto:=zgf (s:=s) hfin
 have hti:=zfY hf
 have hz:zaL s r=if (Ieee.double.order (wordS s r) (zbZ s r)==some .eq)=true then some (sgZ s (wT (wM r) (wE r))) else none:=by
  rw [hto]
  unfold zaL
  simp only [hf,true_and,decide_eq_true_iff]
 rw [hz]
 clear hz hto hf hfin hr
 obtain ⟨b,hb0⟩:∃ b,(FloatKind.f64.format.order (wordS s r) (zbZ s r)==some Ordering.eq)=b:=⟨_,rfl⟩
 have hb1:(Ieee.double.order (wordS s r) (zbZ s r)==some Ordering.eq)=b:=hb0
 have hbn:(FloatKind.f64.format.order (wordS s r) (zbZ s r) !=some Ordering.eq)=!b:=by rw [<-hb0];rfl
 rw [hb1]
 clear hb1
 generalize sgZ s (wT (wM r) (wE r))=i at *
 generalize zbZ s r=T at *
 generalize wordS s r=W at *
 have Hev:=hide hev
 clear hev
 cases b with
 |false=>
  go_enter Tryz.func41,Tryz.ntmps41
  go_wp2_with fail
  refine rb (HO.out _) fun w1 hb=>?_
  have hb1:Below (w.heap.size+1) (numW w W) w1:=hb.mono (by simp)
  have Hb1:=hide hb1
  have hc:w1.cell? ⟨5,0,none⟩=some ev:=((zdq hb1).cell (show 5<w.heap.size from h5)).trans Hev.out
  clear hb hb1
  go_wp2_with fail
  refine rs (HF.out _) ?_
  go_wp2_with fail
  refine rs (HT.out _) ?_
  go_wp2
  go_quiet (fail)
  go_wp2
  go_ret2
  exact ⟨rfl,zag (zdq Hb1.out) _⟩
 |true=>
  go_enter Tryz.func41,Tryz.ntmps41
  go_wp2_with fail
  refine rb (HO.out _) fun w1 hb=>?_
  have hb1:Below (w.heap.size+1) (numW w W) w1:=hb.mono (by simp)
  have Hb1:=hide hb1
  clear hb hb1
  go_wp2_with fail
  refine rs (HF.out _) ?_
  go_wp2_with fail
  refine rs (HT.out _) ?_
  have hconv:=fun w=>run_convert_float_int (P:=Tryz.prog) w 45 3 .f64 .i64 W i (by kernel_rfl) (by kernel_rfl) hti
  go_wp2
  go_ret2
  exact ⟨rfl,zdq Hb1.out⟩
theorem zjw (s:Bool) (r:Nat) (ev:Value) (w:World) (hr:r<9223372036854775808) (h5:5<w.heap.size) (hev:w.cell? ⟨5,0,none⟩=some ev):
 Rb 41 #[.agg #[.bool true,.int .i64 0,.int .u64 (wordS s r)]] w (zc9 ev (zaL s r)):=by
 cases hf:fitsB s r with
 |false=>
  have:zaL s r=none:=by unfold zaL;rw [if_neg];rw [hf];exact fun h=>Bool.noConfusion h.1
  rw [this]
  exact zhr s r ev w hr hf h5 hev
 |true=>exact zjq s r ev w hr hf h5 hev
theorem zcF (x:Int) (w:World) (h0:0<=x):Rs 46 #[.int .u64 x] w (.bool (decide (9218868437227405312<x%9223372036854775808))):=by
 go_enter Tryz.func46,Tryz.ntmps46
 go_wp2
 all_goals go_ret
 all_goals exact ⟨rfl,rfl⟩
theorem zmb (x:Int) (w:World) (h0:0<=x):Rs 48 #[.int .u64 x] w (.bool (x%9223372036854775808==9218868437227405312)):=by
 go_enter Tryz.func48,Tryz.ntmps48
 go_wp2
 all_goals go_ret
 all_goals exact ⟨rfl,rfl⟩
theorem zdZ (x:Int) (w:World):Rs 47 #[.int .u64 x] w (.bool (decide (9223372036854775808<=x))):=by
 go_enter Tryz.func47,Tryz.ntmps47
 go_wp2
 all_goals go_ret
 all_goals exact ⟨rfl,rfl⟩
theorem ztr {a b c d:Int} (h1:a=c) (h2:b=d):Ending.returned (.tuple #[.int .i64 a,.int .i64 b])=.returned (.tuple #[.int .i64 c,.int .i64 d]):=by rw [h1,h2]
theorem zaw (r:Nat) (w:World) (hr:r<infW):Rs 71 #[.int .u64 r] w (.tuple #[.int .i64 (wM r),.int .i64 (wE r)]):=by
 have h0:(r:Int)<9218868437227405312:=by unfold infW at hr;omega
 by_cases hs:r<4503599627370496
 ·have hM:(wM r:Int)=(r:Int)%4503599627370496:=by unfold wM;rw [if_pos hs];omega
  have hE:wE r= -1074:=by unfold wE wK;omega
  have hq:(r:Int)/4503599627370496%2048=0:=by omega
  rw [hM,hE]
  go_enter Tryz.func71,Tryz.ntmps71
  go_wp2
  all_goals go_ret2
  all_goals exact ⟨rfl,rfl⟩
 have hM:(wM r:Int)=(r:Int)%4503599627370496+4503599627370496:=by unfold wM;rw [if_neg hs];omega
 have hE:wE r=(r:Int)/4503599627370496%2048-1075:=by unfold wE wK;omega
 have hb:((r:Int)/4503599627370496%2048==0)=false:=by rw [beq_eq_false_iff_ne];omega
 have h1:0<=(r:Int)%4503599627370496/\(r:Int)%4503599627370496<4503599627370496:=by omega
 have h2:0<=(r:Int)/4503599627370496%2048/\(r:Int)/4503599627370496%2048<2048:=by omega
 rw [hM,hE]
 go_enter Tryz.func71,Tryz.ntmps71
 generalize hxx:(r:Int)%4503599627370496=x at *
 generalize hyy:(r:Int)/4503599627370496%2048=y at *
 go_wp2
 all_goals go_ret2
 all_goals exact ⟨ztr (by first |rfl|(unfold wrap64;omega)) (by first |rfl|(unfold wrap64;omega)),rfl⟩
def asIntV:Option Int->Value
 |some i=>.tuple #[.int .i64 i,.bool true]
 |none=>.tuple #[.int .i64 0,.bool false]
abbrev fltV (W:Nat):Value:=.agg #[.bool true,.int .i64 0,.int .u64 W]
theorem znv (i:Int) (w:World):
 Rb 37 #[.agg #[.bool false,.int .i64 i,.int .u64 0]] w (asIntV (some i)):=by
 go_enter Tryz.func37,Tryz.ntmps37
 go_wp2
 all_goals go_ret2
 all_goals exact ⟨rfl,(Below.refl _ _).alloc (Nat.le_refl _) _⟩
structure zjz (W:Nat) (nan inf:Bool):Prop where
 c1:∀ w,Rs 46 #[.int .u64 W] w (.bool nan)
 c2:∀ w,Rs 48 #[.int .u64 W] w (.bool inf)
theorem zaB {s:Bool} {r:Nat} (hr:r<9223372036854775808):((wordS s r:Nat):Int)%9223372036854775808=r:=by
 unfold wordS;cases s<;>simp<;>omega
theorem zcZ {s:Bool} {r:Nat} (hr:r<9223372036854775808):decide (9223372036854775808<=((wordS s r:Nat):Int))=s:=by
 unfold wordS;cases s<;>simp<;>omega
theorem zeA {s:Bool} {r:Nat} (hr:r<9223372036854775808):zjz (wordS s r) (decide (infW<r)) (decide (r=infW)):={
 c1:=fun w=>by
  have:=zcF (wordS s r:Nat) w (by omega)
  rw [zaB hr] at this
  have e:decide ((9218868437227405312:Int)<r)=decide (infW<r):=by
   by_cases h:infW<r
   ·rw [decide_eq_true h,decide_eq_true];unfold infW at h;omega
   rw [decide_eq_false h,decide_eq_false];unfold infW at h;omega
  rw [e] at this
  exact this
 c2:=fun w=>by
  have:=zmb (wordS s r:Nat) w (by omega)
  rw [zaB hr] at this
  have e:((r:Int)==9218868437227405312)=decide (r=infW):=by
   by_cases h:r=infW
   ·rw [decide_eq_true h,beq_iff_eq];unfold infW at h;omega
   rw [decide_eq_false h,beq_eq_false_iff_ne];unfold infW at h;omega
  rw [e] at this
  exact this }
theorem zmX {W:Nat} {nan inf:Bool} (h:zjz W nan inf) (hn:(nan||inf)=true) (w:World):
 Rb 37 #[fltV W] w (asIntV none):=by
 have H1:=hide h.c1
 have H2:=hide h.c2
 clear h
 cases nan with
 |true=>
  go_enter Tryz.func37,Tryz.ntmps37
  go_wp2_with (go_at_call 46;refine (H1.out _).mono ?_;rintro e w' ⟨rfl,rfl⟩)
  all_goals go_ret2
  all_goals exact ⟨rfl,(Below.refl _ _).alloc (Nat.le_refl _) _⟩
 |false=>
  rw [Bool.false_or] at hn
  subst hn
  go_enter Tryz.func37,Tryz.ntmps37
  go_wp2_with (first |(go_at_call 46;refine (H1.out _).mono ?_;rintro e w' ⟨rfl,rfl⟩)|(go_at_call 48;refine (H2.out _).mono ?_;rintro e w' ⟨rfl,rfl⟩))
  all_goals go_ret2
  all_goals exact ⟨rfl,(Below.refl _ _).alloc (Nat.le_refl _) _⟩
structure AsFin (W r:Nat) (M E:Int) (s:Bool):Prop where
 a:zjz W false false
 p:∀ w,Rs 71 #[.int .u64 r] w (.tuple #[.int .i64 M,.int .i64 E])
 n:∀ w,Rs 47 #[.int .u64 W] w (.bool s)
 m:(W:Int)%9223372036854775808=r
theorem asFin {s:Bool} {r:Nat} (hr:r<infW):AsFin (wordS s r) r (wM r) (wE r) s:={
 a:=by
  have hr':r<9223372036854775808:=by unfold infW at hr;omega
  have:=zeA (s:=s) hr'
  rw [decide_eq_false (by omega),decide_eq_false (by omega)] at this
  exact this
 p:=fun w=>zaw r w hr
 n:=fun w=>by
  have hr':r<9223372036854775808:=by unfold infW at hr;omega
  have:=zdZ (wordS s r:Nat) w
  rw [zcZ hr'] at this
  exact this
 m:=zaB (by unfold infW at hr;omega) }
theorem zi5 {r:Nat} {M E:Int} {s:Bool} (h:AsFin 14114281232179134464 r M E s) (hE:0<=E) (w:World):
 Rb 37 #[fltV 14114281232179134464] w (asIntV (some (-9223372036854775808))):=by
 have H1:=hide h.a.c1
 have H2:=hide h.a.c2
 have H3:=hide h.p
 have H4:=hide h.n
 have hm:=h.m
 clear h
 have hr:(r:Int)=4890909195324358656:=by omega
 clear hm
 have hr':r=4890909195324358656:=by omega
 subst hr'
 clear hr
 go_enter Tryz.func37,Tryz.ntmps37
 go_wp2_with (first |(go_at_call 46;refine (H1.out _).mono ?_;rintro e w' ⟨rfl,rfl⟩)|(go_at_call 48;refine (H2.out _).mono ?_;rintro e w' ⟨rfl,rfl⟩)|(go_at_call 71;refine (H3.out _).mono ?_;rintro e w' ⟨rfl,rfl⟩))
 all_goals go_ret2
 all_goals exact ⟨rfl,(Below.refl _ _).alloc (Nat.le_refl _) _⟩
theorem zju {W r:Nat} {M E:Int} {s:Bool} (h:AsFin W r M E s) (hE:10<E) (hW:W≠14114281232179134464) (w:World):
 Rb 37 #[fltV W] w (asIntV none):=by
 have H1:=hide h.a.c1
 have H2:=hide h.a.c2
 have H3:=hide h.p
 have H4:=hide h.n
 have hm:=h.m
 clear h
 have hb:((W:Int)==14114281232179134464)=false:=by rw [beq_eq_false_iff_ne];omega
 clear hW
 have hE0:0<=E:=by omega
 go_enter Tryz.func37,Tryz.ntmps37
 go_wp2_with (first |(go_at_call 46;refine (H1.out _).mono ?_;rintro e w' ⟨rfl,rfl⟩)|(go_at_call 48;refine (H2.out _).mono ?_;rintro e w' ⟨rfl,rfl⟩)|(go_at_call 71;refine (H3.out _).mono ?_;rintro e w' ⟨rfl,rfl⟩))
 all_goals go_ret2
 all_goals exact ⟨rfl,(Below.refl _ _).alloc (Nat.le_refl _) _⟩
theorem zqF {W r:Nat} {M E X:Int} {s:Bool} (h:AsFin W r M E s) (hE:0<=E) (hE2:E<=10) (hW:W≠14114281232179134464) (hX:wrap64 (M*2^E.toNat)=X) (h0:0<=X) (h1:X<=9223372036854775807) (w:World):
 Rb 37 #[fltV W] w (asIntV (some (if s then -X else X))):=by
 have H1:=hide h.a.c1
 have H2:=hide h.a.c2
 have H3:=hide h.p
 have H4:=hide h.n
 have hm:=h.m
 clear h
 have hb:((W:Int)==14114281232179134464)=false:=by rw [beq_eq_false_iff_ne];omega
 clear hW
 cases s
 all_goals (go_enter Tryz.func37,Tryz.ntmps37;go_wp2_with (first |(go_at_call 46;refine (H1.out _).mono ?_;rintro e w' ⟨rfl,rfl⟩)|(go_at_call 48;refine (H2.out _).mono ?_;rintro e w' ⟨rfl,rfl⟩)|(go_at_call 71;refine (H3.out _).mono ?_;rintro e w' ⟨rfl,rfl⟩)|(go_at_call 47;refine (H4.out _).mono ?_;rintro e w' ⟨rfl,rfl⟩)))
 all_goals go_ret2
 all_goals exact ⟨rfl,(Below.refl _ _).alloc (Nat.le_refl _) _⟩
theorem zk3 {W r:Nat} {M E T:Int} {s b:Bool} (h:AsFin W r M E s) (hE:E<0) (hE2: -63<E) (hM:(M !=0)=true) (hM0:0<=M) (hT:M/2^(-E).toNat=T) (hb:(wrap64 (T*2^(-E).toNat) !=M)=b) (h0:0<=T) (h1:T<=9223372036854775807) (w:World):
 Rb 37 #[fltV W] w (asIntV (if b then none else some (if s then -T else T))):=by
 have H1:=hide h.a.c1
 have H2:=hide h.a.c2
 have H3:=hide h.p
 have H4:=hide h.n
 have hm:=h.m
 clear h
 cases b<;>cases s
 all_goals (go_enter Tryz.func37,Tryz.ntmps37;go_wp2_with (first |(go_at_call 46;refine (H1.out _).mono ?_;rintro e w' ⟨rfl,rfl⟩)|(go_at_call 48;refine (H2.out _).mono ?_;rintro e w' ⟨rfl,rfl⟩)|(go_at_call 71;refine (H3.out _).mono ?_;rintro e w' ⟨rfl,rfl⟩)|(go_at_call 47;refine (H4.out _).mono ?_;rintro e w' ⟨rfl,rfl⟩)))
 all_goals go_ret2
 all_goals exact ⟨rfl,(Below.refl _ _).alloc (Nat.le_refl _) _⟩
theorem zlL {W r:Nat} {M E:Int} {s:Bool} (h:AsFin W r M E s) (hE:E<= -63) (hM:(M !=0)=true) (w:World):
 Rb 37 #[fltV W] w (asIntV none):=by
 have H1:=hide h.a.c1
 have H2:=hide h.a.c2
 have H3:=hide h.p
 have H4:=hide h.n
 have hm:=h.m
 clear h
 have hE0:E<0:=by omega
 go_enter Tryz.func37,Tryz.ntmps37
 go_wp2_with (first |(go_at_call 46;refine (H1.out _).mono ?_;rintro e w' ⟨rfl,rfl⟩)|(go_at_call 48;refine (H2.out _).mono ?_;rintro e w' ⟨rfl,rfl⟩)|(go_at_call 71;refine (H3.out _).mono ?_;rintro e w' ⟨rfl,rfl⟩)|(go_at_call 47;refine (H4.out _).mono ?_;rintro e w' ⟨rfl,rfl⟩))
 all_goals go_ret2
 all_goals exact ⟨rfl,(Below.refl _ _).alloc (Nat.le_refl _) _⟩
theorem ziW {W r:Nat} {E:Int} {s:Bool} (h:AsFin W r 0 E s) (hE:E<0) (w:World):
 Rb 37 #[fltV W] w (asIntV (some 0)):=by
 have H1:=hide h.a.c1
 have H2:=hide h.a.c2
 have H3:=hide h.p
 have H4:=hide h.n
 have hm:=h.m
 clear h
 by_cases hE0:E<= -63
 all_goals cases s
 all_goals (go_enter Tryz.func37,Tryz.ntmps37;go_wp2_with (first |(go_at_call 46;refine (H1.out _).mono ?_;rintro e w' ⟨rfl,rfl⟩)|(go_at_call 48;refine (H2.out _).mono ?_;rintro e w' ⟨rfl,rfl⟩)|(go_at_call 71;refine (H3.out _).mono ?_;rintro e w' ⟨rfl,rfl⟩)|(go_at_call 47;refine (H4.out _).mono ?_;rintro e w' ⟨rfl,rfl⟩)))
 all_goals go_ret2
 all_goals exact ⟨rfl,(Below.refl _ _).alloc (Nat.le_refl _) _⟩
theorem zif (s:Bool) (r:Nat) (w:World) (hr:r<9223372036854775808):
 Rb 37 #[fltV (wordS s r)] w (asIntV (zaL s r)):=by
 by_cases hf:r<infW
 ·have A:=asFin (s:=s) hf
  have hm:=wM_lt r
  by_cases htop:wordS s r=14114281232179134464
  ·have hs:s=true/\r=4890909195324358656:=by
    unfold wordS at htop
    unfold infW at hf
    cases s with
    |false=>rw [if_neg (by decide)] at htop;omega
    |true=>rw [if_pos rfl] at htop;exact ⟨rfl,by omega⟩
   have hz:zaL s r=some (-9223372036854775808):=by
    rw [hs.1,hs.2]
    decide+kernel
   rw [hz]
   rw [htop] at A ⊢
   exact zi5 A (by rw [hs.2,top_E];decide) w
  by_cases hg:10<wE r
  ·have hz:zaL s r=none:=by
    unfold zaL
    rw [if_neg]
    intro hh
    rcases (of_decide_eq_true hh.1).2 with h1|⟨h1,h2⟩
    ·omega
    refine htop ?_
    rw [h1,h2]
    rfl
   rw [hz]
   exact zju A hg htop w
  have hfit:fitsB s r=true:=decide_eq_true ⟨hf,.inl (by omega)⟩
  have hlt:=wT_lt (r:=r) (by omega)
  by_cases he:0<=wE r
  ·have e0:(-(wE r)).toNat=0:=by omega
   have hT:wT (wM r) (wE r)=wM r*2^(wE r).toNat:=by unfold wT;rw [e0,Nat.pow_zero,Nat.div_one]
   have hz:zaL s r=some (if s then -((wT (wM r) (wE r):Nat):Int) else ((wT (wM r) (wE r):Nat):Int)):=by
    unfold zaL
    rw [if_pos ⟨hfit,by rw [e0,Nat.pow_zero,Nat.mod_one]⟩]
    rfl
   rw [hz]
   refine zqF A he (by omega) htop ?_ (by omega) (by omega) w
   have:((wM r:Int)*2^(wE r).toNat)=((wT (wM r) (wE r):Nat):Int):=by rw [hT];norm_cast
   rw [this]
   generalize wT (wM r) (wE r)=T at *
   unfold wrap64
   omega
  have e0:(wE r).toNat=0:=by omega
  have hT:wT (wM r) (wE r)=wM r/2^(-(wE r)).toNat:=by unfold wT;rw [e0,Nat.pow_zero,Nat.mul_one]
  have hz:zaL s r=if wM r%2^(-(wE r)).toNat=0 then some (if s then -((wT (wM r) (wE r):Nat):Int) else ((wT (wM r) (wE r):Nat):Int)) else none:=by
   unfold zaL
   simp only [hfit,true_and]
   rfl
  by_cases h0:wM r=0
  ·have hz0:zaL s r=some 0:=by
    rw [hz,if_pos (by rw [h0,Nat.zero_mod]),hT,h0,Nat.zero_div]
    cases s<;>rfl
   rw [hz0]
   rw [h0] at A
   exact ziW A (by omega) w
  have hM:((wM r:Int) !=0)=true:=by rw [bne_iff_ne];omega
  by_cases hd:wE r<= -63
  ·have hz0:zaL s r=none:=by
    rw [hz,if_neg]
    have h2:2^53<=2^(-(wE r)).toNat:=Nat.pow_le_pow_right (by omega) (by omega)
    rw [Nat.mod_eq_of_lt (by omega)]
    exact h0
   rw [hz0]
   exact zlL A hd hM w
  rw [hz]
  have hp:0<2^(-(wE r)).toNat:=Nat.pow_pos (by omega)
  have hTi:(wM r:Int)/2^(-(wE r)).toNat=((wT (wM r) (wE r):Nat):Int):=by rw [hT];norm_cast
  have hle:wT (wM r) (wE r)*2^(-(wE r)).toNat<=wM r:=by rw [hT];exact Nat.div_mul_le_self _ _
  have hmul:((wT (wM r) (wE r):Nat):Int)*2^(-(wE r)).toNat=((wT (wM r) (wE r)*2^(-(wE r)).toNat:Nat):Int):=by norm_cast
  have hbb:(wrap64 (((wT (wM r) (wE r):Nat):Int)*2^(-(wE r)).toNat) !=(wM r:Int))=!decide (wM r%2^(-(wE r)).toNat=0):=by
   rw [hmul]
   have hdm:=Nat.div_add_mod (wM r) (2^(-(wE r)).toNat)
   rw [Nat.mul_comm,<-hT] at hdm
   generalize wT (wM r) (wE r)*2^(-(wE r)).toNat=Y at *
   generalize wM r%2^(-(wE r)).toNat=Z at *
   have hw:wrap64 (Y:Int)=Y:=by unfold wrap64;omega
   rw [hw]
   by_cases hZ:Z=0
   ·rw [decide_eq_true hZ];show _=false;rw [bne_eq_false_iff_eq];omega
   rw [decide_eq_false hZ];show _=true;rw [bne_iff_ne];omega
  have:=zk3 A (by omega) (by omega) hM (by omega) hTi hbb (by omega) (by omega) w
  by_cases hZ:wM r%2^(-(wE r)).toNat=0
  ·rw [decide_eq_true hZ] at this
   rw [if_pos hZ]
   exact this
  rw [decide_eq_false hZ] at this
  rw [if_neg hZ]
  exact this
 have hz:zaL s r=none:=by
  unfold zaL
  rw [if_neg]
  exact fun hh=>hf (of_decide_eq_true hh.1).1
 rw [hz]
 refine zmX (zeA hr) ?_ w
 by_cases h:r=infW
 ·rw [decide_eq_true h,Bool.or_true]
 rw [decide_eq_true (show infW<r by omega),Bool.true_or]
theorem zar {n:Nat} (h:n<9223372036854775808):(dig n).length<=5:=zaA (by omega)
theorem zbf (n:Nat) (w:World) (hn:n<9223372036854775808):
 Calls Tryz.prog 107 #[.int .i64 n] w fun e w'=>∃ v',e=.returned v'/\Big w' v' (dig n)/\Below w.heap.size w w':=by
 have H5:=hide (zar hn)
 go_enter Tryz.func107,Tryz.ntmps107
 go_wp2
 go_loopw [0,3] (fun v o wr=>∃ (x:Nat) (L:List Int),v=.int .i64 x/\x<9223372036854775808/\OwnI wr w.heap.size o L/\Hid (dig n=L++dig x)/\Below w.heap.size w wr) (fun v _ _=>(intOf v).toNat)
 case atStart=>exact ⟨n,[],rfl,hn,zdt w,hide rfl,(Below.refl _ _).alloc (Nat.le_refl _) _⟩
 obtain ⟨x,L,rfl,hx,hown,He,hb⟩:=hrel
 have hbs:=hb.size
 by_cases h0:0<x
 ·have hL:L.length<=5:=by
   have h1:=H5.out
   rw [He.out,List.length_append] at h1
   omega
  have HL:=hide hL
  have Hn:=hide (show dig n=(L++[((x%10000:Nat):Int)])++dig (x/10000) by rw [He.out,zb8 (show x≠0 by omega),List.append_assoc];rfl)
  clear hL He
  go_wp2_with (first
   |(at_builtin;(refine zcQ rfl _ _ rfl w.heap.size _ L ((x:Int)%10000) hown rfl rfl (by have:=HL.out;omega) hbs ?_;intro v' w1 hown' hgrow))
   |go_in)
  have R:OwnI w1 w.heap.size v' (L++[((x%10000:Nat):Int)])/\Below w.heap.size w w1:=⟨by exact hown',hgrow _ _ hb (Nat.le_refl _)⟩
  clear hown' hgrow hown
  go_wp2
  go_roundw
  case rel=>exact ⟨x/10000,L++[((x%10000:Nat):Int)],by go_num,by omega,R.1,Hn,R.2⟩
  case measure=>simp [intOf];omega
 have hx0:x=0:=by omega
 subst hx0
 go_wp2
 go_ret
 exact ⟨_,rfl,by rw [He.out,dig_zero,List.append_nil];exact hown.big,hb⟩
theorem zix (vd:Value) (vn:Value) (w:World) (hn:Big w vn (dig 0)) (e0:Int):
 Rs 106 #[vn,vd,.int .i64 e0] w (.int .u64 0):=by
 obtain ⟨gn,cn,hvn⟩:=hn.len
 rw [dig_zero] at hvn
 subst hvn
 clear hn
 go_enter Tryz.func106,Tryz.ntmps106
 go_wp2
 all_goals go_ret
 all_goals exact ⟨rfl,rfl⟩
theorem zfu (n:Nat) (w:World) (vn vd:Value) (hn:n<9223372036854775808) (h:Big w vn (dig n)) (hd:Big w vd (dig 1)):
 Calls Tryz.prog 106 #[vn,vd,.int .i64 0] w fun e w'=>∃ W:Nat,e=.returned (.int .u64 W)/\IsRnd (n*2^((0:Int)+1074).toNat) (1*2^(-1074-(0:Int)).toNat) W/\Below w.heap.size w w':=by
 by_cases h0:n=0
 ·subst h0
  refine rs (zix vd vn w h 0) ?_
  refine ⟨0,rfl,?_,Below.refl _ _⟩
  rw [Nat.zero_mul]
  exact zbV (Nat.mul_pos (by omega) (Nat.pow_pos (by omega)))
 have h1:=zar hn
 have h2:=zar (n:=1) (by omega)
 exact zfm n 1 0 vn vd w h hd (by omega) (by omega) (by omega) (by omega) (by omega) h0
theorem zjg (i:Int) (w:World) (h0: -9223372036854775808<=i) (h1:i<=9223372036854775807):
 Calls Tryz.prog 59 #[.int .i64 i] w fun e w'=>∃ W:Int,e=.returned (.int .u64 W)/\Below w.heap.size w w':=by
 by_cases hl:i= -9223372036854775808
 ·subst hl
  go_enter Tryz.func59,Tryz.ntmps59
  go_wp2
  all_goals go_ret
  all_goals exact ⟨_,rfl,Below.refl _ _⟩
 have hb:(i== -9223372036854775808)=false:=by rw [beq_eq_false_iff_ne];exact hl
 by_cases hn:i<0
 ·obtain ⟨n,hni,hn2⟩:∃ n:Nat,-i=n/\n<9223372036854775808:=⟨(-i).toNat,by omega,by omega⟩
  have O:=hide (fun w'=>zbf n w' hn2)
  have Wd:=hide (fun w' vn vd h hd=>zfu n w' vn vd hn2 h hd)
  go_enter Tryz.func59,Tryz.ntmps59
  go_wp2_with fail
  refine (O.out _).mono ?_
  rintro e w1 ⟨v1,rfl,hbig,hb1⟩
  go_wp2_with fail
  refine (Wd.out _ _ _ (hbig.below ((Below.refl _ _).alloc (Nat.le_refl _) _)) (zdJ w1)).mono ?_
  rintro e w2 ⟨W,rfl,_,hb2⟩
  go_wp2
  go_ret
  exact ⟨_,rfl,hb1.trans (((Below.refl w1.heap.size w1).alloc (Nat.le_refl _) _).trans (hb2.mono (by simp))|>.mono hb1.size)⟩
 obtain ⟨n,hni,hn2⟩:∃ n:Nat,i=n/\n<9223372036854775808:=⟨i.toNat,by omega,by omega⟩
 subst hni
 have O:=hide (fun w'=>zbf n w' hn2)
 have Wd:=hide (fun w' vn vd h hd=>zfu n w' vn vd hn2 h hd)
 go_enter Tryz.func59,Tryz.ntmps59
 go_wp2_with fail
 refine (O.out _).mono ?_
 rintro e w1 ⟨v1,rfl,hbig,hb1⟩
 go_wp2_with fail
 refine (Wd.out _ _ _ (hbig.below ((Below.refl _ _).alloc (Nat.le_refl _) _)) (zdJ w1)).mono ?_
 rintro e w2 ⟨W,rfl,_,hb2⟩
 go_wp2
 go_ret
 exact ⟨_,rfl,hb1.trans (((Below.refl w1.heap.size w1).alloc (Nat.le_refl _) _).trans (hb2.mono (by simp))|>.mono hb1.size)⟩
theorem zd7 (x:Nat) (w:World) (h:x%9223372036854775808<=infW):Rb 28 #[.int .u64 x] w (fltV x):=by
 have N:=zcF (x:Int)
 have hd:decide (9218868437227405312<(x:Int)%9223372036854775808)=false:=by unfold infW at h;rw [decide_eq_false];omega
 rw [hd] at N
 have HN:=hide N
 clear N hd h
 go_enter Tryz.func28,Tryz.ntmps28
 go_wp2_with (go_at_call 46;refine (HN.out _ (by omega)).mono ?_;rintro e w' ⟨rfl,rfl⟩)
 exact bodyPost_ret (v:=fltV x) (by simp [results,Tryz.results28,go_sem]) rfl ⟨rfl,(Below.refl _ _).alloc (Nat.le_refl _) _⟩
theorem zm5 (w:World):Rb 28 #[.int .u64 9221120237041090560] w (fltV 9221120237041090560):=by
 have HN:=hide (zcF 9221120237041090560)
 go_enter Tryz.func28,Tryz.ntmps28
 go_wp2_with (go_at_call 46;refine (HN.out _ (by omega)).mono ?_;rintro e w' ⟨rfl,rfl⟩)
 all_goals exact bodyPost_ret (v:=fltV 9221120237041090560) (by simp [results,Tryz.results28,go_sem]) rfl ⟨rfl,(Below.refl _ _).alloc (Nat.le_refl _) _⟩
abbrev intV (i:Int):Value:=.agg #[.bool false,.int .i64 i,.int .u64 0]
theorem zjv (i:Int) (w:World) (h0: -9223372036854775808<=i) (h1:i<=9223372036854775807):
 Calls Tryz.prog 84 #[intV i] w fun e w'=>∃ W:Int,e=.returned (.int .u64 W)/\Below w.heap.size w w':=by
 have HF:=hide (fun w=>zjg i w h0 h1)
 clear h0 h1
 go_enter Tryz.func84,Tryz.ntmps84
 go_wp2_with fail
 refine (HF.out _).mono ?_
 rintro e w1 ⟨W,rfl,hb⟩
 go_wp2
 go_ret
 exact ⟨_,rfl,((Below.refl w.heap.size w).alloc (Nat.le_refl _) _).trans (hb.mono (by simp))⟩
theorem zlH (x:Int) (w:World):(Instr.field 26 (.agg #[.bool true,.int .i64 0,.int .u64 x]) 2).run Tryz.prog w=.ok (.int .u64 x) w:=by kernel_rfl
theorem zjA (x:Nat) (w:World) (h:x%9223372036854775808<=infW):
 Rb 84 #[fltV x] w (.int .u64 x):=by
 have HF:=hide (fun w=>zd7 x w h)
 clear h
 unfold fltV at HF ⊢
 have hfb:=zlH
 go_enter Tryz.func84,Tryz.ntmps84
 go_wp2_with fail
 refine rb (HF.out _) fun w1 hb=>?_
 go_wp2
 all_goals go_ret
 all_goals exact ⟨rfl,((Below.refl w.heap.size w).alloc (Nat.le_refl _) _).trans (hb.mono (by simp))⟩
theorem zgD {w wr:World} {A B C:Obj} (h:Below (((w.alloc A).alloc B).alloc C).heap.size (((w.alloc A).alloc B).alloc C) wr):Below w.heap.size w wr:=
 ((((Below.refl w.heap.size w).alloc (Nat.le_refl _) A).alloc (by simp) B).alloc (by simp;omega) C).trans (h.mono (by simp;omega))
theorem zhf (i:Int) (w:World) (h0: -9223372036854775808<=i) (h1:i<=9223372036854775807):
 Rb 44 #[.int .i64 13,intV i,intV i] w (.tuple #[intV (wrap64 (-i)),.int .i64 0]):=by
 have HF:=hide (fun w=>zjv i w h0 h1)
 go_enter Tryz.func44,Tryz.ntmps44
 go_wp2_with fail
 refine (HF.out _).mono ?_
 rintro e w1 ⟨W1,rfl,hb1⟩
 obtain ⟨hc,hf⟩:=bcell hb1
 have HB1:=hide hb1
 clear hb1
 go_wp2_with fail
 refine (HF.out _).mono ?_
 rintro e w2 ⟨W2,rfl,hb2⟩
 have hb12:=bt HB1.out hb2
 clear hc hf hb2
 obtain ⟨hc,hf⟩:=bcell hb12
 have HB2:=hide hb12
 clear hb12
 go_wp2_with fail
 refine rb (zdR _ _) fun w3 hb3=>?_
 have hb13:=bt HB2.out hb3
 clear hc hf hb3
 obtain ⟨hc,hf⟩:=bcell hb13
 have HB3:=hide hb13
 clear hb13
 go_wp2
 refine bodyPost_ret (v:=.tuple #[intV (wrap64 (-i)),.int .i64 0]) ?_ rfl ⟨rfl,?_⟩
 ·simp [results,Tryz.results44,go_sem,hc]
 refine Below.setCell (Below.setCell (Below.setCell (zgD HB3.out) ?_ _) ?_ _) ?_ _
 all_goals (simp;try omega)
theorem zhd {x:Nat} (h:x<9223372036854775808):x^^^9223372036854775808=9223372036854775808+x:=by
 show x^^^2^63=2^63+x
 apply Nat.eq_of_testBit_eq
 intro i
 rw [Nat.testBit_xor,Nat.testBit_two_pow]
 rcases Nat.lt_trichotomy i 63 with hi|hi|hi
 ·rw [Nat.testBit_two_pow_add_gt hi,decide_eq_false (by omega),Bool.xor_false]
 ·subst hi
  rw [Nat.testBit_two_pow_add_eq,decide_eq_true rfl,Bool.xor_true]
 have h1:x<2^i:=Nat.lt_of_lt_of_le h (Nat.pow_le_pow_right (show 2 > 0 by omega) (show 63<=i by omega))
 have h2:2^63+x<2^i:=Nat.lt_of_lt_of_le (show 2^63+x<2^64 by omega) (Nat.pow_le_pow_right (by omega) (by omega))
 rw [Nat.testBit_lt_two_pow h1,Nat.testBit_lt_two_pow h2,decide_eq_false (by omega),Bool.xor_false]
theorem zeh (x y:Nat) (w:World) (hx:x<=infW) (hy:y=9223372036854775808+x):
 Rb 44 #[.int .i64 13,fltV x,fltV x] w (.tuple #[fltV y,.int .i64 0]):=by
 have HF:=hide (fun w=>zjA x w (by unfold infW at *;omega))
 have HN:=hide (fun w=>zd7 y w (by unfold infW at *;omega))
 unfold fltV at *
 go_enter Tryz.func44,Tryz.ntmps44
 go_wp2_with fail
 refine rb (HF.out _) fun w1 hb1=>?_
 obtain ⟨hc,hf⟩:=bcell hb1
 have HB1:=hide hb1
 clear hb1
 go_wp2_with fail
 refine rb (HF.out _) fun w2 hb2=>?_
 have hb12:=bt HB1.out hb2
 clear hc hf hb2
 obtain ⟨hc,hf⟩:=bcell hb12
 have HB2:=hide hb12
 clear hb12
 have hxor:bits BinOp.xor IntKind.u64 (x:Int) 9223372036854775808=(y:Int):=by
  have hx2:x<9223372036854775808:=by unfold infW at hx;omega
  have:=bits_xor_u64_nat x 9223372036854775808 (by omega) (by omega)
  rw [zhd hx2,<-hy] at this
  exact this
 clear hy hx
 go_wp2_with fail
 refine rb (HN.out _) fun w3 hb3=>?_
 have hb13:=bt HB2.out hb3
 clear hc hf hb3
 obtain ⟨hc,hf⟩:=bcell hb13
 have HB3:=hide hb13
 clear hb13
 go_wp2
 refine bodyPost_ret (v:=.tuple #[.agg #[.bool true,.int .i64 0,.int .u64 y],.int .i64 0]) ?_ rfl ⟨rfl,?_⟩
 ·simp [results,Tryz.results44,go_sem,hc]
 refine Below.setCell (Below.setCell (Below.setCell (zgD HB3.out) ?_ _) ?_ _) ?_ _
 all_goals (simp;try omega)
end Go.Proofs.YtamdnnkdnhkghaaGreatDoor
