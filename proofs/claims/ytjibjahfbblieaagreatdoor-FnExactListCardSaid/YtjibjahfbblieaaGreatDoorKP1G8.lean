import Derived.Test.YtjibjahfbblieaaGreatDoorKP1G3
import Derived.Test.YtjibjahfbblieaaGreatDoorKP1G1
namespace Go.Proofs.YtjibjahfbblieaaGreatDoor.F
set_option linter.unusedVariables false
theorem PL:∃ K:Nat,K=3000:=⟨3000,rfl⟩
noncomputable def KK:Nat:=Classical.choose PL
theorem kE:KK=3000:=Classical.choose_spec PL
structure FB (A B Q:Nat) (D:Nat->Int) (nd:Nat) (dp:Int) (tr:Bool):Prop where
 norm:Norm D nd
 ne:nd≠0
 lo: -2000<=dp
 hi:dp<=2000
 hQ:Q<=800
 hB:0<B
 rep:RepV A B KK Q (dv D nd*10^(dp-nd+KK).toNat) tr
theorem iC {a b:Nat} (h:10^a<10^b):a<b:=by
 rcases Nat.lt_or_ge a b with g|g
 ·exact g
 ·have:=Nat.pow_le_pow_right (show 0<10 by omega) g;omega
theorem FB.vlo {A B Q nd:Nat} {D:Nat->Int} {dp:Int} {tr:Bool} (h:FB A B Q D nd dp tr):10^(dp-1+KK).toNat<=dv D nd*10^(dp-nd+KK).toNat:=by
 have hK:=kE
 have h1:=h.lo
 have h2:=h.norm.le
 have h3:=h.ne
 have:=pV h.norm.ok h.ne (h.norm.head h.ne)
 have:=Nat.mul_le_mul_right (10^(dp-nd+KK).toNat) this
 rw [<-Nat.pow_add,show nd-1+(dp-nd+KK).toNat=(dp-1+KK).toNat by omega] at this
 exact this
theorem FB.vhi {A B Q nd:Nat} {D:Nat->Int} {dp:Int} {tr:Bool} (h:FB A B Q D nd dp tr):dv D nd*10^(dp-nd+KK).toNat<10^(dp+KK).toNat:=by
 have hK:=kE
 have h1:=h.lo
 have h2:=h.norm.le
 have:=Nat.mul_lt_mul_of_pos_right (uo h.norm.ok) (jy (dp-nd+KK).toNat)
 rw [<-Nat.pow_add,show nd+(dp-nd+KK).toNat=(dp+KK).toNat by omega] at this
 exact this
theorem FB.ub {A B Q nd b:Nat} {D:Nat->Int} {dp:Int} {tr:Bool} (h:FB A B Q D nd dp tr) (hb:A<B*10^b):dp<=b:=by
 have hK:=kE
 have h1:=h.lo
 have h3:=Nat.mul_le_mul_right B h.vlo
 have h4:=h.rep.le
 have h5:=Nat.mul_lt_mul_of_pos_right hb (jy KK)
 have h6:10^(dp-1+KK).toNat*B<10^(b+KK)*B:=by
  rw [Nat.pow_add,Nat.mul_comm _ B,Nat.mul_comm _ B,<-Nat.mul_assoc]
  rw [Nat.mul_comm _ B] at h3
  omega
 have:=iC (Nat.lt_of_mul_lt_mul_right h6)
 omega
theorem FB.lb {A B Q nd a:Nat} {D:Nat->Int} {dp:Int} {tr:Bool} (h:FB A B Q D nd dp tr) (ha:a<=Q) (hb:B<=A*10^a): -(a:Int)<dp:=by
 have hK:=kE
 have h1:=h.lo
 have hQ:=h.hQ
 have h3:=h.rep.fl (10^(Q-a)) (by
  have:=Nat.mul_le_mul_right (10^(Q-a)) hb
  rw [Nat.mul_assoc,<-Nat.pow_add,show a+(Q-a)=Q by omega] at this
  rw [Nat.mul_comm];exact this)
 rw [<-Nat.pow_add] at h3
 have:=iC (Nat.lt_of_le_of_lt h3 h.vhi)
 omega
theorem FB.small {A B Q nd a:Nat} {D:Nat->Int} {dp:Int} {tr:Bool} (h:FB A B Q D nd dp tr) (ha:a<=Q) (hd:dp<= -(a:Int)):A*10^a<B:=by
 rcases Nat.lt_or_ge (A*10^a) B with g|g
 ·exact g
 ·have:=h.lb ha g;omega
theorem FB.great {A B Q nd b:Nat} {D:Nat->Int} {dp:Int} {tr:Bool} (h:FB A B Q D nd dp tr) (hd:(b:Int)<dp):B*10^b<=A:=by
 rcases Nat.lt_or_ge A (B*10^b) with g|g
 ·have:=h.ub g;omega
 ·exact g
theorem Jd {D:Nat->Int} {n:Nat} (h:dh D n) (hn:n≠0) (hh:53<=D 0):5*10^(n-1)<=dv D n:=by
 obtain ⟨m,rfl⟩:∃ m,n=1+m:=⟨n-1,by omega⟩
 rw [ji m 1]
 have h0:=h 0 (by omega)
 have:5<=dv D 1:=by simp [dv,eT];omega
 have:=Nat.mul_le_mul_right (10^m) this
 rw [show 1+m-1=m by omega]
 omega
theorem Gv {D:Nat->Int} {n:Nat} (h:dh D n) (hn:n≠0) (hh:D 0<53):dv D n<5*10^(n-1):=by
 obtain ⟨m,rfl⟩:∃ m,n=1+m:=⟨n-1,by omega⟩
 rw [ji m 1]
 have h0:=h 0 (by omega)
 have:dv D 1+1<=5:=by simp [dv,eT];omega
 have:=Nat.mul_le_mul_right (10^m) this
 have h2:=sP (D:=D) (n:=m) (a:=1) h
 rw [Nat.add_mul,Nat.one_mul] at this
 rw [show 1+m-1=m by omega]
 omega
theorem FB.half {A B Q nd:Nat} {D:Nat->Int} {tr:Bool} (h:FB A B Q D nd 0 tr) (h5:53<=D 0):B<=2*A:=by
 have hK:=kE
 have h2:=h.norm.le
 have h3:=h.ne
 have g:=Nat.mul_le_mul_right (10^(0-(nd:Int)+KK).toNat) (Jd h.norm.ok h.ne h5)
 rw [Nat.mul_assoc,<-Nat.pow_add,show nd-1+(0-(nd:Int)+KK).toNat=KK-1 by omega] at g
 have g2:=Nat.le_trans (Nat.mul_le_mul_right B g) h.rep.le
 have e:10^KK=2*(5*10^(KK-1)):=by rw [show KK=(KK-1)+1 by omega,Nat.pow_succ,Nat.add_sub_cancel];omega
 rw [e] at g2
 have hp:0<5*10^(KK-1):=Nat.mul_pos (by omega) (jy _)
 generalize 5*10^(KK-1)=y at *
 have g3:y*B<=y*(2*A):=by
  rw [Nat.mul_comm A,Nat.mul_comm 2 y,Nat.mul_assoc] at g2
  exact g2
 exact Nat.le_of_mul_le_mul_left g3 hp
theorem FB.lthalf {A B Q nd:Nat} {D:Nat->Int} {tr:Bool} (h:FB A B Q D nd 0 tr) (hQ1:1<=Q) (h5:D 0<53):A*2<B:=by
 have hK:=kE
 have h2:=h.norm.le
 have h3:=h.ne
 have hQ:=h.hQ
 rcases Nat.lt_or_ge (A*2) B with g|g
 ·exact g
 ·exfalso
  have f:=h.rep.fl (5*10^(Q-1)) (by
   have:=Nat.mul_le_mul_right (5*10^(Q-1)) g
   have e:A*2*(5*10^(Q-1))=A*10^Q:=by
    rw [Nat.mul_assoc];congr 1
    rw [show Q=(Q-1)+1 by omega,Nat.pow_succ,Nat.add_sub_cancel];omega
   rw [e,Nat.mul_comm] at this
   exact this)
  rw [Nat.mul_assoc,<-Nat.pow_add,show Q-1+(KK-Q)=KK-1 by omega] at f
  have g2:=Nat.mul_lt_mul_of_pos_right (Gv h.norm.ok h.ne h5) (jy (0-(nd:Int)+KK).toNat)
  rw [Nat.mul_assoc,<-Nat.pow_add,show nd-1+(0-(nd:Int)+KK).toNat=KK-1 by omega] at g2
  omega
theorem JX {A B Q X S b nd:Nat} {E dp:Int} {D:Nat->Int} {tr tr':Bool} (hB:0<B) (h:RepV A B KK Q (X*10^S) tr) (hS:(S:Int)=E+KK) (hs:Mq X E tr D nd dp tr') (hb:A<B*10^b) (hbQ:b+Q<=800) (hlo:B<=A*10^Q):
 FB A B Q D nd dp tr':=by
 have hK:=kE
 obtain ⟨hN,hn0,_,j,t,r,hX,hr,hdp,hj,htr⟩:=hs
 have hx:X*10^S=dv D nd*10^t*10^(j+S)+r*10^S:=by rw [hX,Nat.add_mul,Nat.pow_add,<-Nat.mul_assoc (_*_)]
 have hr':r*10^S<10^(j+S):=by rw [Nat.pow_add];exact Nat.mul_lt_mul_of_pos_right hr (jy S)
 have hge:=pV hN.ok hn0 (hN.head hn0)
 have hub:dp<=b:=by
  have a1:10^(nd-1+t+(j+S))<=X*10^S:=by
   rw [hx,Nat.pow_add,Nat.pow_add]
   exact Nat.le_trans (Nat.mul_le_mul_right _ (Nat.mul_le_mul_right _ hge)) (Nat.le_add_right _ _)
  have a2:=Nat.le_trans (Nat.mul_le_mul_right B a1) h.le
  have a3:=Nat.lt_of_le_of_lt a2 (Nat.mul_lt_mul_of_pos_right hb (jy KK))
  rw [Nat.mul_assoc,<-Nat.pow_add,Nat.mul_comm] at a3
  have:=iC (Nat.lt_of_mul_lt_mul_left a3)
  omega
 have hc:=RepV.cut (a:=10^(KK-Q-(j+S))) hB h hx hr' (by
  rcases hj with hj|hj
  ·left;subst hj;rw [Nat.pow_zero] at hr;rw [show r=0 by omega,Nat.zero_mul]
  ·right;rw [<-Nat.pow_add];congr 1;omega) (tr':=tr') (by
  have hp:=jy S
  rw [htr];congr 1
  by_cases h0:r=0
  ·simp [h0]
  ·have:r*10^S≠0:=Nat.mul_ne_zero h0 (by omega)
   rw [decide_eq_true this,decide_eq_true h0])
 have e:dv D nd*10^t*10^(j+S)=dv D nd*10^(dp-nd+KK).toNat:=by
  rw [Nat.mul_assoc,<-Nat.pow_add];congr 2;omega
 rw [e] at hc
 have hlb: -(Q:Int)<dp:=by
  have f:=hc.fl 1 (by rw [Nat.one_mul];exact hlo)
  rw [Nat.one_mul] at f
  have g:=Nat.mul_lt_mul_of_pos_right (uo hN.ok) (jy (dp-nd+KK).toNat)
  rw [<-Nat.pow_add] at g
  have:=iC (Nat.lt_of_le_of_lt f g)
  omega
 exact ⟨hN,hn0,by omega,by omega,by omega,hB,hc⟩
theorem FB.left {A B Q Q' b k nd nd':Nat} {D D':Nat->Int} {dp dp':Int} {tr tr':Bool} (h:FB A B Q D nd dp tr) (hs:Mq (dv D nd*2^k) (dp-nd) tr D' nd' dp' tr') (hQ':Q'+k<=Q∨(B ∣ A*10^Q/\Q'=Q))
 (hb:A*2^k<B*10^b) (hbQ:b+Q'<=800) (hlo:B<=A*2^k*10^Q'):FB (A*2^k) B Q' D' nd' dp' tr':=by
 have hK:=kE
 have h1:=h.lo
 have h2:=h.norm.le
 have hQ:=h.hQ
 refine JX (S:=(dp-nd+KK).toNat) h.hB ?_ (by omega) hs hb hbQ hlo
 rw [Nat.mul_right_comm]
 rcases hQ' with g|⟨g,rfl⟩
 ·exact h.rep.left (by omega) g
 ·have ht:=h.rep.exact (by omega) g
  have he:=h.rep.eq ht
  rw [ht]
  refine RepV.of_eq h.hB (by omega) ?_
  rw [Nat.mul_right_comm,he,Nat.mul_right_comm]
theorem FB.right {A B Q b k nd nd':Nat} {D D':Nat->Int} {dp dp':Int} {tr tr':Bool} (h:FB A B Q D nd dp tr) (hk:k<=60) (hs:Mq (dv D nd*5^k) (dp-nd-k) tr D' nd' dp' tr')
 (hb:A<B*2^k*10^b) (hbQ:b+Q<=800) (hlo:B*2^k<=A*10^Q):FB A (B*2^k) Q D' nd' dp' tr':=by
 have hK:=kE
 have h1:=h.lo
 have h2:=h.norm.le
 have hQ:=h.hQ
 refine JX (S:=(dp-nd+KK).toNat-k) (Nat.mul_pos h.hB (Nat.pow_pos (by omega))) ?_ (by omega) hs hb hbQ hlo
 refine h.rep.right ?_
 have e10:(5:Nat)^k*2^k=10^k:=by rw [<-Nat.mul_pow]
 rw [Nat.mul_right_comm,Nat.mul_assoc (dv D nd),e10,Nat.mul_assoc,<-Nat.pow_add]
 congr 2;omega
theorem FB.mono {A B Q Q' nd:Nat} {D:Nat->Int} {dp:Int} {tr:Bool} (h:FB A B Q D nd dp tr) (hQ:Q'<=Q):FB A B Q' D nd dp tr:=by
 have hK:=kE
 have hQ8:=h.hQ
 refine ⟨h.norm,h.ne,h.lo,h.hi,by omega,h.hB,h.rep.le,h.rep.eq,h.rep.lt,fun p hp=>?_⟩
 have:=h.rep.fl (p*10^(Q-Q')) (by
  have:=Nat.mul_le_mul_right (10^(Q-Q')) hp
  rw [Nat.mul_right_comm,Nat.mul_assoc A,<-Nat.pow_add,show Q'+(Q-Q')=Q by omega] at this
  exact this)
 rw [Nat.mul_assoc,<-Nat.pow_add,show Q-Q'+(KK-Q)=KK-Q' by omega] at this
 exact this
end Go.Proofs.YtjibjahfbblieaaGreatDoor.F
namespace Go.Proofs.YtjibjahfbblieaaGreatDoor.F
open Go Go.RowKit
set_option linter.unusedVariables false
def pX (D:Nat->Int) (nd:Nat) (dp:Int) (tr:Bool):Bool:=
 if dp<0∨(nd:Int)<=dp then false
 else if D dp.toNat=53/\dp+1=nd then (tr||(decide (0<dp)&&decide (eT D (dp.toNat-1)%2=1)))
 else decide (53<=D dp.toNat)
theorem KJ (D:Nat->Int) (a n:Nat):sg D a (n+1)=sg D a n*10+eT D (a+n):=by
 have h1:=ji (D:=D) (n+1) a
 have h2:=ji (D:=D) n a
 have h3:dv D (a+(n+1))=dv D (a+n)*10+eT D (a+n):=rfl
 have e:dv D a*10^(n+1)=dv D a*10^n*10:=by rw [Nat.pow_succ,Nat.mul_assoc]
 rw [h1,h2,e] at h3
 omega
theorem Oi {D:Nat->Int} {a n:Nat} (hn:n≠0) (h0:48<=D (a+n-1)) (h:D (a+n-1)≠48):0<sg D a n:=by
 obtain ⟨m,rfl⟩:∃ m,n=m+1:=⟨n-1,by omega⟩
 rw [KJ]
 have:a+(m+1)-1=a+m:=by omega
 rw [this] at h h0
 have:0<eT D (a+m):=by unfold eT;omega
 omega
theorem FB.rq {A B Q nd:Nat} {D:Nat->Int} {dp:Int} {tr:Bool} (h:FB A B Q D nd dp tr) (hQ1:1<=Q) (hlast:D (nd-1)≠48):
 rq A B=Pz D nd dp.toNat+(if pX D nd dp tr=true then 1 else 0):=by
 have hK:=kE
 have h1:=h.lo
 have h2:=h.norm.le
 have hQ:=h.hQ
 have hok:=h.norm.ok
 rw [h.rep.rq h.hB hQ1 (by omega)]
 have hU:=jy KK
 by_cases c1:dp<0
 ·have hv:=h.vhi
  have hle:10^(dp+KK).toNat<=10^(KK-1):=Nat.pow_le_pow_right (by omega) (by omega)
  have e:10^KK=10^(KK-1)*10:=by rw [<-Nat.pow_succ];congr 1;omega
  generalize dv D nd*10^(dp-nd+KK).toNat=v at *
  have hs:pX D nd dp tr=false:=by unfold pX;rw [if_pos (.inl c1)]
  rw [hs,show dp.toNat=0 by omega,pY (Nat.zero_le _),Nat.div_eq_of_lt (by omega),Nat.mod_eq_of_lt (by omega)]
  rw [if_neg (by omega)]
  simp [dv]
 ·by_cases c2:(nd:Int)<=dp
  ·have e:dv D nd*10^(dp-nd+KK).toNat=Pz D nd dp.toNat*10^KK:=by
    rw [xP (by omega),Nat.mul_assoc,<-Nat.pow_add];congr 2;omega
   have hs:pX D nd dp tr=false:=by unfold pX;rw [if_pos (.inr c2)]
   rw [hs,e,Nat.mul_div_cancel _ hU,Nat.mul_mod_left,if_neg (by omega)]
   simp
  ·obtain ⟨p,hp⟩:∃ p:Nat,dp=p:=⟨dp.toNat,by omega⟩
   subst hp
   obtain ⟨c,rfl⟩:∃ c,nd=p+(c+1):=⟨nd-p-1,by omega⟩
   have ev:dv D (p+(c+1))*10^((p:Int)-(p+(c+1):Nat)+KK).toNat=sg D p (c+1)*10^(KK-(c+1))+dv D p*10^KK:=by
    rw [show ((p:Int)-(p+(c+1):Nat)+KK).toNat=KK-(c+1) by omega,ji,Nat.add_mul,Nat.mul_assoc,<-Nat.pow_add,show c+1+(KK-(c+1))=KK by omega,Nat.add_comm]
   have hsg:=sP hok
   have eU:10^KK=10^(c+1)*10^(KK-(c+1)):=by rw [<-Nat.pow_add];congr 1;omega
   have hpo:=jy (KK-(c+1))
   have hrest:sg D p (c+1)*10^(KK-(c+1))<10^KK:=by rw [eU];exact Nat.mul_lt_mul_of_pos_right hsg hpo
   rw [ev,Nat.add_mul_div_right _ _ hU,Nat.add_mul_mod_self_right,Nat.div_eq_of_lt hrest,Nat.mod_eq_of_lt hrest,Nat.zero_add]
   rw [show ((p:Int)).toNat=p by omega,pY (by omega)]
   congr 1
   have k1:(10^KK<2*(sg D p (c+1)*10^(KK-(c+1))))↔(10^(c+1)<2*sg D p (c+1)):=by
    rw [eU,<-Nat.mul_assoc];exact Nat.mul_lt_mul_right hpo
   have k2:(2*(sg D p (c+1)*10^(KK-(c+1)))=10^KK)↔(2*sg D p (c+1)=10^(c+1)):=by
    rw [eU,<-Nat.mul_assoc];exact Nat.mul_right_cancel_iff hpo
   simp only [k1,k2]
   have e0:sg D p (c+1)=eT D p*10^c+sg D (p+1) c:=rfl
   have hs2:sg D (p+1) c<10^c:=sP (by rw [show p+1+c=p+(c+1) by omega];exact hok)
   have hd9:=Ag hok (i:=p) (by omega)
   have hDp:=NR hok (i:=p) (by omega)
   have e5:10^(c+1)=10*10^c:=by rw [Nat.pow_succ,Nat.mul_comm]
   have hpc:=jy c
   simp only [e0,e5]
   by_cases hc:c=0
   ·subst hc
    have hs0:sg D (p+1) 0=0:=rfl
    rw [hs0,Nat.pow_zero,Nat.mul_one,Nat.mul_one,Nat.add_zero]
    by_cases h5:D p=53
    ·have d5:eT D p=5:=by unfold eT;omega
     have hs:pX D (p+(0+1)) p tr=(tr||(decide (0<(p:Int))&&decide (eT D (p-1)%2=1))):=by
      unfold pX
      rw [if_neg (by omega),show ((p:Int)).toNat=p by omega,if_pos ⟨h5,by omega⟩]
     rw [hs,d5]
     have hpar:(dv D p%2=1)↔(0<(p:Int)/\eT D (p-1)%2=1):=by
      cases p with
      |zero=>simp [dv]
      |succ q=>
       rw [show dv D (q+1)=dv D q*10+eT D q from rfl,Nat.add_sub_cancel]
       constructor
       ·intro hh;exact ⟨by omega,by omega⟩
       ·rintro ⟨_,hh⟩;omega
     simp only [hpar,Bool.or_eq_true,Bool.and_eq_true,decide_eq_true_eq]
     have:¬ (10<2*5):=by omega
     simp [this]
    ·have hs:pX D (p+(0+1)) p tr=decide (53<=D p):=by
      unfold pX
      rw [if_neg (by omega),show ((p:Int)).toNat=p by omega,if_neg (fun hh=>h5 hh.1)]
     rw [hs]
     have d5:eT D p≠5:=by unfold eT;have:=hok p (by omega);omega
     have:(10<2*eT D p∨2*eT D p=10/\(tr=true∨dv D p%2=1))↔(decide (53<=D p)=true):=by
      rw [decide_eq_true_eq];omega
     simp only [this]
   ·have hspos:0<sg D (p+1) c:=Oi hc (by rw [show p+1+c-1=p+(c+1)-1 by omega];exact (hok _ (by omega)).1) (by rw [show p+1+c-1=p+(c+1)-1 by omega];exact hlast)
    have hs:pX D (p+(c+1)) p tr=decide (53<=D p):=by
     unfold pX
     rw [if_neg (by omega),show ((p:Int)).toNat=p by omega,if_neg (by omega)]
    rw [hs]
    have:(10*10^c<2*(eT D p*10^c+sg D (p+1) c)∨2*(eT D p*10^c+sg D (p+1) c)=10*10^c/\(tr=true∨dv D p%2=1))↔(decide (53<=D p)=true):=by
     rw [decide_eq_true_eq]
     generalize 10^c=y at *
     generalize sg D (p+1) c=s at *
     constructor
     ·intro hh
      rcases Nat.lt_or_ge (eT D p) 5 with g|g
      ·exfalso
       have:=Nat.mul_le_mul_right y (show eT D p<=4 by omega)
       omega
      ·omega
     ·intro hh
      have:=Nat.mul_le_mul_right y (show 5<=eT D p by omega)
      left;omega
    simp only [this]
end Go.Proofs.YtjibjahfbblieaaGreatDoor.F
namespace Go.Proofs.YtjibjahfbblieaaGreatDoor.F
open Go Go.RowKit
set_option linter.unusedVariables false
set_option maxHeartbeats 800000 in
set_option maxRecDepth 100000 in
theorem J9 (g nd:Nat) (D:Nat->Int) (dp:Int) (tr:Bool) (w:World) (h:DecAt w g D nd dp tr) (hc:dp<0∨(nd:Int)<=dp):
 Calls Tryz.prog 240 #[.pointer (some ⟨g,0,none⟩),.int .i64 dp] w fun e w'=>e=.returned (.bool (pX D nd dp tr))/\∃ m,w'=w.drewN m:=by
 have hs:pX D nd dp tr=false:=by unfold pX;rw [if_pos hc]
 rw [hs]
 have c0:=h.nd
 clear h hs
 go_enter Tryz.func240,Tryz.ntmps240
 by_cases h0:dp<0
 ·go_wp2
  go_ret
  exact ⟨rfl,0,rfl⟩
 ·have h1:(nd:Int)<=dp:=by omega
  go_wp2
  go_ret
  exact ⟨rfl,0,rfl⟩
set_option maxHeartbeats 800000 in
set_option maxRecDepth 100000 in
theorem Lr (g nd p:Nat) (D:Nat->Int) (tr:Bool) (w:World) (h:DecAt w g D nd (p:Int) tr) (hn:nd<=800) (hc:p<nd) (h5:¬ (D p=53/\p+1=nd)):
 Calls Tryz.prog 240 #[.pointer (some ⟨g,0,none⟩),.int .i64 (p:Int)] w fun e w'=>e=.returned (.bool (pX D nd (p:Int) tr))/\∃ m,w'=w.drewN m:=by
 have hs:pX D nd (p:Int) tr=decide (53<=D p):=by
  unfold pX
  rw [if_neg (by omega),show ((p:Int)).toNat=p by omega,if_neg (by omega)]
 rw [hs]
 have c0:=h.nd
 have c1:=h.dig p (by omega)
 clear h hs
 have h1:(p:Int)<nd:=by omega
 have h8:(p:Int)<800:=by omega
 go_enter Tryz.func240,Tryz.ntmps240
 by_cases e5:D p=53
 ·have h6:((p:Int)+1==(nd:Int))=false:=by rw [beq_eq_false_iff_ne];omega
  have h7:(D p==53)=true:=by rw [e5];rfl
  have h9:decide (53<=D p)=true:=by rw [e5];rfl
  rw [h9]
  go_wp2
  go_ret
  exact ⟨rfl,0,rfl⟩
 ·have h7:(D p==53)=false:=by rw [beq_eq_false_iff_ne];exact e5
  go_wp2
  go_ret
  exact ⟨rfl,0,rfl⟩
set_option maxHeartbeats 800000 in
set_option maxRecDepth 100000 in
theorem PY (g nd p:Nat) (D:Nat->Int) (tr:Bool) (w:World) (h:DecAt w g D nd (p:Int) tr) (hok:dh D nd) (hn:nd<=800) (hc:p+1=nd) (h5:D p=53):
 Calls Tryz.prog 240 #[.pointer (some ⟨g,0,none⟩),.int .i64 (p:Int)] w fun e w'=>e=.returned (.bool (pX D nd (p:Int) tr))/\∃ m,w'=w.drewN m:=by
 have hs:pX D nd (p:Int) tr=(tr||(decide (0<(p:Int))&&decide (eT D (p-1)%2=1))):=by
  unfold pX
  rw [if_neg (by omega),show ((p:Int)).toNat=p by omega,if_pos ⟨h5,by omega⟩]
 rw [hs]
 have c0:=h.nd
 have c1:=h.dig p (by omega)
 have c3:=h.tr
 have c4:=h.dig (p-1) (by omega)
 have hq:=fun (hp:p≠0)=>hok (p-1) (by omega)
 have Hq:=hide hq
 clear h hs hok hq
 have h1:(p:Int)<nd:=by omega
 have h8:(p:Int)<800:=by omega
 have h6:((p:Int)+1==(nd:Int))=true:=by rw [beq_iff_eq];omega
 have h7:(D p==53)=true:=by rw [h5];rfl
 go_enter Tryz.func240,Tryz.ntmps240
 cases tr with
 |true=>
  go_wp2
  go_ret
  exact ⟨rfl,0,rfl⟩
 |false=>
  by_cases hp:p=0
  ·have hp0:¬ (0:Int)<(p:Int):=by omega
   have hp1:¬ 0<p:=by omega
   have e0:decide ((0:Int)<(p:Int))=false:=by simp;omega
   rw [e0]
   have Hp:=hide hp
   clear hp e0
   go_wp2
   go_ret
   exact ⟨rfl,0,rfl⟩
  ·have hp1:(0:Int)<p:=by omega
   have hp2:((p:Int)-1).toNat=p-1:=by omega
   have hq:=Hq.out hp
   obtain ⟨q1,q2⟩:=hq
   have e0:(false||(decide ((0:Int)<(p:Int))&&decide (eT D (p-1)%2=1)))=((D (p-1)-48)%2 !=0):=by
    have h2:D (p-1)-48=(eT D (p-1):Int):=by unfold eT;omega
    rw [h2,decide_eq_true hp1]
    by_cases c:eT D (p-1)%2=1
    ·have:((eT D (p-1):Int)%2)=1:=by omega
     rw [this];simp [c]
    ·have:((eT D (p-1):Int)%2)=0:=by omega
     rw [this];simp [c]
   rw [e0]
   clear e0
   go_wp2
   go_ret
   exact ⟨rfl,0,rfl⟩
theorem Me (g nd:Nat) (D:Nat->Int) (dp:Int) (tr:Bool) (w:World) (h:DecAt w g D nd dp tr) (hN:Norm D nd):
 Calls Tryz.prog 240 #[.pointer (some ⟨g,0,none⟩),.int .i64 dp] w fun e w'=>e=.returned (.bool (pX D nd dp tr))/\∃ m,w'=w.drewN m:=by
 by_cases c:dp<0∨(nd:Int)<=dp
 ·exact J9 g nd D dp tr w h c
 ·obtain ⟨p,rfl⟩:∃ p:Nat,dp=p:=⟨dp.toNat,by omega⟩
  by_cases c5:D p=53/\p+1=nd
  ·exact PY g nd p D tr w h hN.ok hN.le c5.2 c5.1
  ·exact Lr g nd p D tr w h hN.le (by omega) c5
theorem Ac {D:Nat->Int} {nd r:Nat} (hok:dh D nd):Pz D nd r<10^r:=by
 rcases Nat.le_total r nd with h|h
 ·rw [pY h];exact uo (hok.mono h)
 ·rw [xP h]
  have:=Nat.mul_lt_mul_of_pos_right (uo hok) (jy (r-nd))
  rw [<-Nat.pow_add,show nd+(r-nd)=r by omega] at this
  exact this
theorem qJ {n r:Nat} (h:n<10^r) (hr:r<=17):n<100000000000000000:=by
 have:=Nat.pow_le_pow_right (show 0<10 by omega) hr
 have e:(10:Nat)^17=100000000000000000:=by decide
 omega
set_option maxHeartbeats 800000 in
set_option maxRecDepth 100000 in
theorem G_ (g nd:Nat) (D:Nat->Int) (dp:Int) (tr:Bool) (w:World) (h:DecAt w g D nd dp tr) (hN:Norm D nd) (hdp:dp<=17) (hdp1: -100000<=dp) (R:Nat) (hR:Hid (R=Pz D nd dp.toNat+(if pX D nd dp tr=true then 1 else 0))):
 Calls Tryz.prog 262 #[.pointer (some ⟨g,0,none⟩)] w fun e w'=>e=.returned (.int .u64 R)/\∃ m,w'=w.drewN m:=by
 have H:=hide h
 have HN:=hide hN
 have c0:=h.nd
 have c9:=h.dp
 have f0:=h.fr
 have hle':nd<=800:=hN.le
 have S:=fun (m:Nat)=>Me g nd D dp tr (w.drewN m) (h.drewN m) hN
 have HS:=hide S
 clear h hN S
 go_enter Tryz.func262,Tryz.ntmps262
 go_wp2
 go_loop [3,4] (fun iv nv=>∃ (r n:Nat),iv=.int .i64 r/\nv=.int .u64 n/\Hid (n=Pz D nd r)/\r<=dp.toNat/\r<=nd) (fun iv _=>nd-(intOf iv).toNat)
 case atStart=>exact ⟨0,0,rfl,rfl,hide (by rw [pY (Nat.zero_le _)];rfl),Nat.zero_le _,Nat.zero_le _⟩
 case round=>
  obtain ⟨r,n,rfl,rfl,Hn,hr,hrn⟩:=hrel
  by_cases hc:(r:Int)<dp/\r<nd
  ·obtain ⟨hc1,hc2⟩:=hc
   have cR:=H.out.dig r (by omega)
   obtain ⟨hx1,hx2⟩:=HN.out.ok r hc2
   obtain ⟨m,hm⟩:∃ m,m=n*10+(D r-48).toNat:=⟨_,rfl⟩
   have Hm:Hid (m=Pz D nd (r+1)):=hide (by rw [hm,Hn.out,Gl hc2];rfl)
   have hb1:n<100000000000000000:=qJ (r:=r) (by rw [Hn.out];exact Ac HN.out.ok) (by omega)
   have e0:IntKind.u64.wrap ((n:Int)*10)=(n:Int)*10:=bA (by omega) (by omega)
   have e1:IntKind.u64.wrap ((n:Int)*10+(D r-48))=(m:Int):=by rw [bA (by omega) (by omega)];omega
   have hr8:(r:Int)<800:=by omega
   have hc3:(r:Int)<nd:=by omega
   clear hm
   go_wp2
   go_round
   case rel=>exact ⟨r+1,m,by go_num,rfl,Hm,by omega,by omega⟩
   case measure=>simp [intOf];omega
  ·have HL:Hid ((r=dp.toNat∨nd<=r)/\r<=dp.toNat):=hide ⟨by omega,hr⟩
   by_cases hc1:(r:Int)<dp
   ·have hc2:¬ r<nd:=fun hh=>hc ⟨hc1,hh⟩
    have hc3:(nd:Int)<=r:=by omega
    clear hc
    go_wp2
    go_loop [3,4] (fun iv nv=>∃ (r n:Nat),iv=.int .i64 r/\nv=.int .u64 n/\Hid (n=Pz D nd r)/\Hid ((r=dp.toNat∨nd<=r)/\r<=dp.toNat)) (fun iv _=>dp.toNat-(intOf iv).toNat)
    case atStart=>exact ⟨r,n,rfl,rfl,Hn,HL⟩
    case round=>
     clear Hn HL
     obtain ⟨r,n,rfl,rfl,Hn,HL⟩:=hrel
     have hb1:n<100000000000000000:=qJ (r:=r) (by rw [Hn.out];exact Ac HN.out.ok) (by have:=HL.out;omega)
     by_cases hc4:(r:Int)<dp
     ·have hnr:nd<=r:=by have:=HL.out;omega
      obtain ⟨m,hm⟩:∃ m,m=n*10:=⟨_,rfl⟩
      have Hm:Hid (m=Pz D nd (r+1)):=hide (by rw [hm,Hn.out,kR hnr,Nat.add_zero])
      have e0:IntKind.u64.wrap ((n:Int)*10)=(m:Int):=by rw [bA (by omega) (by omega)];omega
      clear hm
      go_wp2
      go_round
      case rel=>exact ⟨r+1,m,by go_num,rfl,Hm,hide (by omega)⟩
      case measure=>simp [intOf];omega
     ·have HR:Hid (R=n+(if pX D nd dp tr=true then 1 else 0)):=hide (by
       have e:r=dp.toNat:=by have:=HL.out;omega
       rw [hR.out,Hn.out,e])
      go_wp2_with fail
      refine (HS.out 0).mono ?_
      rintro e w' ⟨rfl,q,rfl⟩
      cases hs:pX D nd dp tr with
      |true=>
       have Hs:=hide hs
       clear hs
       have e2:IntKind.u64.wrap ((n:Int)+1)=(R:Int):=by
        have h1:=HR.out
        rw [Hs.out,if_pos rfl] at h1
        rw [bA (by omega) (by omega),h1];omega
       go_wp2
       go_ret
       exact ⟨rfl,_,rfl⟩
      |false=>
       have Hs:=hide hs
       clear hs
       have e2:(n:Int)=(R:Int):=by
        have h1:=HR.out
        rw [Hs.out] at h1
        simp at h1
        omega
       have E2:=hide e2
       clear e2
       go_wp2
       go_ret
       refine ⟨?_,_,rfl⟩
       rw [<-E2.out]
       rfl
   ·clear hc
    go_wp2
    go_loop [3,4] (fun iv nv=>∃ (r n:Nat),iv=.int .i64 r/\nv=.int .u64 n/\Hid (n=Pz D nd r)/\Hid (r=dp.toNat)) (fun iv _=>dp.toNat-(intOf iv).toNat)
    case atStart=>exact ⟨r,n,rfl,rfl,Hn,hide (by have:=HL.out;omega)⟩
    case round=>
     clear Hn HL
     obtain ⟨r,n,rfl,rfl,Hn,HL⟩:=hrel
     have hb1:n<100000000000000000:=qJ (r:=r) (by rw [Hn.out];exact Ac HN.out.ok) (by have:=HL.out;omega)
     by_cases hc4:(r:Int)<dp
     ·exfalso;have:=HL.out;omega
     ·have HR:Hid (R=n+(if pX D nd dp tr=true then 1 else 0)):=hide (by
       have e:r=dp.toNat:=by have:=HL.out;omega
       rw [hR.out,Hn.out,e])
      go_wp2_with fail
      refine (HS.out 0).mono ?_
      rintro e w' ⟨rfl,q,rfl⟩
      cases hs:pX D nd dp tr with
      |true=>
       have Hs:=hide hs
       clear hs
       have e2:IntKind.u64.wrap ((n:Int)+1)=(R:Int):=by
        have h1:=HR.out
        rw [Hs.out,if_pos rfl] at h1
        rw [bA (by omega) (by omega),h1];omega
       go_wp2
       go_ret
       exact ⟨rfl,_,rfl⟩
      |false=>
       have Hs:=hide hs
       clear hs
       have e2:(n:Int)=(R:Int):=by
        have h1:=HR.out
        rw [Hs.out] at h1
        simp at h1
        omega
       have E2:=hide e2
       clear e2
       go_wp2
       go_ret
       refine ⟨?_,_,rfl⟩
       rw [<-E2.out]
       rfl
end Go.Proofs.YtjibjahfbblieaaGreatDoor.F
