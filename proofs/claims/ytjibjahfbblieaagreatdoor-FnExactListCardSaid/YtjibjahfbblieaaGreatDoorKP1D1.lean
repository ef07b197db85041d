import Derived.Test.YtjibjahfbblieaaGreatDoorKP1N2
import Derived.Test.YtjibjahfbblieaaGreatDoorKP1A5
import Derived.Test.YtjibjahfbblieaaGreatDoorKMK3
import Derived.Laws.BitsAllLaws
import Derived.Lib.Strings
import Derived.Test.YtjibjahfbblieaaGreatDoorKShelf
import Derived.Deep.QuietTactic
import Derived.BigQuiet
import Derived.WalkSmall
namespace Go.Proofs.YtjibjahfbblieaaGreatDoor.F
theorem e64:aF=18446744073709551616:=rfl
theorem e128:bg=340282366920938463463374607431768211456:=rfl
theorem MU {p:Int} (hp1: -345<=p) (hp2:p<=310) {x s:Nat} (hx1:9223372036854775808<=x) (hx2:x<aF) (hs:8<=s):
 sM x (rowAt p).1 (rowAt p).2 s=unr (x*eO p) (aS p*(2^s*bg)):=by
 have hrow:=of_decide_eq_true (wR (p:=p) (by omega) (by omega))
 have hhi:=wh (p:=p) (by omega) (by omega)
 have hfr:=fun h3=>Oa (Ky hp1 hp2 h3) x hx1 hx2
 have hpm:dn (rowAt p)=(rowAt p).1*aF-(rowAt p).2:=rfl
 obtain ⟨r1,r2,r3,r4,r5⟩:=hrow
 generalize hrr:rowAt p=r at *
 obtain ⟨hi,lo⟩:=r
 simp only at *
 have hden:0<aS p:=Nat.mul_pos (Nat.pow_pos (by omega)) (Nat.pow_pos (by omega))
 have hS2:2<=2^s:=by
  have:2^1<=2^s:=Nat.pow_le_pow_right (by omega) (by omega)
  omega
 have hP:x*dn (hi,lo)+x*lo=x*hi*aF:=by
  rw [<-Nat.mul_add,hpm,Nat.mul_assoc]
  congr 1
  have:lo<=hi*aF:=r3
  omega
 have A1:x*eO p<=aS p*(x*dn (hi,lo)):=by
  have:=Nat.mul_le_mul_left x r4
  calc x*eO p<=x*(dn (hi,lo)*aS p):=this
   _=aS p*(x*dn (hi,lo)):=by rw [<-Nat.mul_assoc,Nat.mul_comm]
 have A2:aS p*(x*dn (hi,lo))<x*eO p+aS p*x:=by
  have:=Nat.mul_lt_mul_of_pos_left r5 (show 0<x by omega)
  rw [Nat.mul_add] at this
  calc aS p*(x*dn (hi,lo))=x*(dn (hi,lo)*aS p):=by rw [<-Nat.mul_assoc x,Nat.mul_comm (aS p)]
   _<x*eO p+x*aS p:=this
   _=x*eO p+aS p*x:=by rw [Nat.mul_comm x (aS p)]
 unfold sM
 refine uS (P:=x*dn (hi,lo)) hx1 hx2 r2 hS2 hden hP A1 A2 ?_ ?_
 ·rw [Nat.div_pos_iff]
  refine ⟨by rw [e64];omega,?_⟩
  have:9223372036854775808*9223372036854775808<=x*hi:=Nat.mul_le_mul hx1 hhi
  rw [e64];omega
 ·intro h hH hm1 hm2
  have hPf:x*dn (hi,lo)+x*lo%aF=h*2^s*bg+(x*hi%aF-x*lo/aF)*aF:=by
   have d1:=Nat.div_add_mod (x*hi) aF
   have d2:=Nat.div_add_mod (x*lo) aF
   rw [hH] at d1
   have e:x*hi*aF=h*2^s*bg+x*hi%aF*aF:=by
    conv=>lhs;rw [<-d1]
    rw [Nat.add_mul,NI,Nat.mul_comm aF,Nat.mul_assoc]
   rw [e] at hP
   rw [Nat.sub_mul,Nat.mul_comm (x*lo/aF)]
   have hle:aF*(x*lo/aF)<=x*hi%aF*aF:=by rw [Nat.mul_comm];exact Nat.mul_le_mul_right _ hm1
   omega
  have hf:x*lo%aF<aF:=Nat.mod_lt _ (by rw [e64];omega)
  by_cases hfarp:p< -30∨27<p
  ·exfalso
   have hq:=hfr hfarp
   have hM:(x*hi%aF-x*lo/aF)*aF<=aF:=by
    have:x*hi%aF-x*lo/aF<=1:=by omega
    calc _<=1*aF:=Nat.mul_le_mul_right _ this
     _=aF:=Nat.one_mul _
   have hZ:h*2^s*bg=h*2^(s-8)*87112285931760246646623899502532662132736:=by
    have:s=s-8+8:=by omega
    conv=>lhs;rw [this,Nat.pow_add]
    rw [e128,Nat.mul_assoc h,Nat.mul_assoc h,Nat.mul_assoc (2^(s-8))]
   rw [hZ] at hPf
   generalize x*dn (hi,lo)=P at *
   generalize h*2^(s-8)=Y at *
   generalize (x*hi%aF-x*lo/aF)*aF=M at *
   generalize x*lo%aF=f at *
   rw [e64] at hM hf
   clear hP A1 A2 r4 r5 hZ hpm hfr hH
   by_cases hge:Y*87112285931760246646623899502532662132736<=P
   ·have e:P=87112285931760246646623899502532662132736*Y+(P-Y*87112285931760246646623899502532662132736):=by omega
    rw [e,Nat.mul_add_mod,Nat.mod_eq_of_lt (by omega)] at hq
    omega
   ·obtain ⟨Y',rfl⟩:∃ Y',Y=Y'+1:=⟨Y-1,by
     rcases Nat.eq_zero_or_pos Y with e|e
     ·subst e;omega
     ·omega⟩
    have e:P=87112285931760246646623899502532662132736*Y'+(P-Y'*87112285931760246646623899502532662132736):=by omega
    rw [e,Nat.mul_add_mod,Nat.mod_eq_of_lt (by omega)] at hq
    omega
  ·by_cases hp0:0<=p
   ·have hsm:=of_decide_eq_true (b_ oo (i:=p.toNat) (by omega))
    have ei:348+p.toNat=(p+348).toNat:=by omega
    have ep:((p.toNat:Nat):Int)=p:=by omega
    rw [ei,ep] at hsm
    have hra:Go.Pinned.pow10Rows.getD (p+348).toNat (0,0)=(hi,lo):=hrr
    rw [hra] at hsm
    obtain ⟨l0,h0,d1⟩:=hsm
    simp only at l0 h0
    subst l0
    rw [d1] at A1 A2 ⊢
    rw [Nat.one_mul] at A1 A2 ⊢
    rw [d1] at r4 r5
    have hev:x*hi%aF=0:=by
     have h2:x*hi%aF%2=0:=by
      rw [e64,Nat.mod_mod_of_dvd _ (by decide:2 ∣ 18446744073709551616),Nat.mul_mod,h0,Nat.mul_zero,Nat.zero_mod]
     rw [Nat.mul_zero,Nat.zero_div] at hm2
     omega
    rw [hev,Nat.mul_zero,Nat.zero_mod,Nat.zero_div,Nat.sub_zero,Nat.zero_mul,Nat.add_zero,Nat.add_zero] at hPf
    have hnp:eO p=dn (hi,0):=by omega
    rw [hnp,hPf,Nat.mul_assoc]
   ·have hng:=of_decide_eq_true (b_ AZ (i:=(-p).toNat) (by omega))
    have ei:(((-p).toNat:Nat):Int)= -p:=by omega
    rw [ei,Int.neg_neg] at hng
    obtain ⟨g1,g2,g3⟩:=hng
    have hnum:eO p=2^(127-dP p).toNat:=by
     unfold eO
     have:p.toNat=0:=by omega
     rw [this,Nat.pow_zero,Nat.one_mul]
    have hdn:aS p=10^(-p).toNat:=by unfold aS;rw [g3,Nat.pow_zero,Nat.mul_one]
    have hM:(x*hi%aF-x*lo/aF)*aF<=aF:=by
     have:x*hi%aF-x*lo/aF<=1:=by omega
     calc _<=1*aF:=Nat.mul_le_mul_right _ this
      _=aF:=Nat.one_mul _
    have hv:h*(aS p*(2^s*bg))=aS p*(h*2^s*bg):=by rw [Nat.mul_left_comm,Nat.mul_assoc h]
    refine mF (g:=2^min (127-dP p).toNat (136+(-p).toNat)) (d:=36893488147419103232*aS p) ?_ ?_ ?_ ?_ ?_
    ·rw [hnum]
     exact Nat.dvd_trans (Nat.pow_dvd_pow 2 (Nat.min_le_left _ _)) (Nat.dvd_mul_left _ _)
    ·rw [hdn]
     have e10:10^(-p).toNat=5^(-p).toNat*2^(-p).toNat:=by rw [<-Nat.mul_pow]
     have e3:h*(10^(-p).toNat*(2^s*bg))=h*5^(-p).toNat*2^(s-8)*2^(136+(-p).toNat):=by
      have f1:2^s=2^(s-8)*2^8:=by rw [<-Nat.pow_add];congr 1;omega
      have f2:(2:Nat)^(136+(-p).toNat)=2^8*bg*2^(-p).toNat:=by rw [Nat.pow_add];rfl
      rw [e10,f1,f2]
      generalize 5^(-p).toNat=a5
      generalize 2^(-p).toNat=a2
      generalize 2^(s-8)=a3
      generalize 2^8=a4
      generalize bg=a6
      simp only [Nat.mul_comm,Nat.mul_left_comm]
     rw [e3]
     exact Nat.dvd_trans (Nat.pow_dvd_pow 2 (Nat.min_le_right _ _)) (Nat.dvd_mul_left _ _)
    ·rw [hv]
     have h1:aS p*(x*dn (hi,lo))<=aS p*(h*2^s*bg+aF):=Nat.mul_le_mul_left _ (by omega)
     rw [Nat.mul_add,e64] at h1
     omega
    ·rw [hv]
     have h1:aS p*(h*2^s*bg)<=aS p*(x*dn (hi,lo)+aF):=Nat.mul_le_mul_left _ (by omega)
     have h2:aS p*x<=aS p*aF:=Nat.mul_le_mul_left _ (Nat.le_of_lt hx2)
     rw [Nat.mul_add,e64] at h1
     rw [e64] at h2
     omega
    ·rw [hdn]
     rcases Nat.le_total (127-dP p).toNat (136+(-p).toNat) with hh|hh
     ·rw [Nat.min_eq_left hh];exact g1
     ·rw [Nat.min_eq_right hh];exact g2
end Go.Proofs.YtjibjahfbblieaaGreatDoor.F
namespace Go.Proofs.YtjibjahfbblieaaGreatDoor.F
def fu (u:Nat):Nat:=(u+1+u/4%2)/4
theorem or_one (n:Nat):n|||1=n/2*2+1:=by
 have key:2*(n/2)|||1=2*(n/2)+1:=by
  have:=Nat.two_pow_add_eq_or_of_lt (i:=1) (b:=1) (by decide) (n/2)
  simpa using this.symm
 rcases Nat.mod_two_eq_zero_or_one n with h|h
 ·have e:n=2*(n/2):=by omega
  rw [Nat.mul_comm (n/2)]
  conv=>lhs;rw [e]
  exact key
 ·have e:n=2*(n/2)|||1:=by rw [key];omega
  rw [Nat.mul_comm (n/2),<-key]
  conv=>lhs;rw [e]
  rw [Nat.or_assoc,Nat.or_self]
theorem iy (A B:Nat):unr A B=if A%B=0 then A/B else A/B/2*2+1:=by unfold unr;rw [or_one]
theorem kP {N D:Nat} (hD:0<D):fu (unr (4*N) D)=rq N D:=by
 have h1:=Nat.div_add_mod N D
 have h2:=Nat.mod_lt N hD
 unfold rq
 generalize N/D=q at *
 generalize N%D=r at *
 have e4:4*N=D*(4*q)+4*r:=by rw [<-h1];grind
 have hdiv:4*N/D=4*q+4*r/D:=by rw [e4,Nat.mul_add_div hD]
 have hmod:4*N%D=4*r%D:=by rw [e4,Nat.mul_add_mod]
 have ht:=Nat.div_add_mod (4*r) D
 have htl:=Nat.mod_lt (4*r) hD
 have ht4:4*r/D<4:=(Nat.div_lt_iff_lt_mul hD).2 (by omega)
 rw [iy,hdiv,hmod]
 generalize 4*r/D=t at *
 generalize 4*r%D=w at *
 clear e4 hdiv hmod h1
 unfold fu
 have ht':t=0∨t=1∨t=2∨t=3:=by omega
 rcases ht' with rfl|rfl|rfl|rfl
 ·simp only [Nat.mul_zero] at ht
  split<;>split<;>omega
 ·simp only [Nat.mul_one] at ht
  split<;>split<;>omega
 ·split<;>split<;>omega
 ·split<;>split<;>omega
theorem JE {A B:Nat} (hB:0<B):unr A B/2|||unr A B%2=unr A (2*B):=by
 have h1:=Nat.div_add_mod A B
 have h2:=Nat.mod_lt A hB
 generalize hq:A/B=q at *
 generalize hr:A%B=r at *
 have e2:A/(2*B)=q/2:=by rw [Nat.mul_comm,<-Nat.div_div_eq_div_mul,hq]
 have e3:A%(2*B)=q%2*B+r:=by
  have:=Nat.div_add_mod A (2*B)
  rw [e2] at this
  have h3:=Nat.div_add_mod q 2
  have h4:A=B*(2*(q/2)+q%2)+r:=by rw [h3];omega
  have h5:B*(2*(q/2)+q%2)=2*B*(q/2)+q%2*B:=by grind
  omega
 have hor:∀ a c:Nat,c<2->a|||c=if c=0 then a else a/2*2+1:=by
  intro a c hc
  have:c=0∨c=1:=by omega
  rcases this with rfl|rfl
  ·simp
  ·rw [or_one];simp
 rw [hor _ _ (Nat.mod_lt _ (by omega)),iy,iy,hq,hr,e2,e3]
 have hq2:q%2=0∨q%2=1:=by omega
 by_cases hr0:r=0
 ·subst hr0
  rcases hq2 with h|h
  ·rw [if_pos rfl,h,if_pos rfl,if_pos (by omega)]
  ·rw [if_pos rfl,h,if_neg (by omega),if_neg (by omega)]
 ·rw [if_neg hr0,if_neg (by omega),if_neg (by omega)]
  omega
theorem uw {A B c:Nat} (hc:0<c):unr (A*c) (B*c)=unr A B:=by
 unfold unr
 rw [Nat.mul_div_mul_right _ _ hc,Nat.mul_mod_mul_right]
 by_cases h:A%B=0
 ·rw [if_pos h,if_pos (by rw [h,Nat.zero_mul])]
 ·rw [if_neg h,if_neg (by intro e;rcases Nat.mul_eq_zero.1 e with e|e<;>omega)]
theorem uK {A B A' B':Nat} (hB:0<B) (hB':0<B') (h:A*B'=A'*B):unr A B=unr A' B':=by
 rw [<-uw (A:=A) (B:=B) hB',<-uw (A:=A') (B:=B') hB,h,Nat.mul_comm B B']
theorem Mk {N D:Nat} (hD:0<D) {k:Nat} (h:rq N D<k):N<D*k:=by
 have h1:=G7 N D
 have h2:N/D<k:=by omega
 rw [Nat.div_lt_iff_lt_mul hD] at h2
 rw [Nat.mul_comm];exact h2
theorem nE {N D k:Nat} (hD:0<D) (h:N<=D*k):rq N D<=k:=by
 unfold rq
 have h1:=Nat.div_add_mod N D
 have h2:=Nat.mod_lt N hD
 by_cases e:N/D=k
 ·rw [e] at h1
  rw [if_neg (by rintro (h|h)<;>omega)]
  omega
 ·have:N/D<k:=by
   rcases Nat.lt_or_ge (N/D) k with h3|h3
   ·exact h3
   ·have:D*(k+1)<=D*(N/D):=Nat.mul_le_mul_left _ (by omega)
    rw [Nat.mul_add] at this
    omega
  split<;>omega
theorem pq {N D k:Nat} (hD:0<D) (h:D*k<=N):k<=rq N D:=
 Nat.le_trans ((Nat.le_div_iff_mul_le hD).2 (by rw [Nat.mul_comm];exact h)) (G7 N D)
theorem GA {N D c:Nat} (hD:0<D) (h1:N<D*(2*c)) (h2:rq N D=2*c):rq N (2*D)=c:=by
 have hc:0<c:=by
  rcases Nat.eq_zero_or_pos c with e|e
  ·subst e;simp at h1
  ·exact e
 have hq:=Nat.div_add_mod N D
 have hr:=Nat.mod_lt N hD
 have hqlt:N/D<2*c:=(Nat.div_lt_iff_lt_mul hD).2 (by rw [Nat.mul_comm];exact h1)
 unfold rq at h2
 generalize N/D=q at *
 generalize N%D=r at *
 have hq1:q=2*c-1:=by split at h2<;>omega
 have hup:D<=2*r:=by
  split at h2
  ·omega
  ·omega
 have hN:N=2*D*(c-1)+(D+r):=by
  subst hq1
  have e:2*D*(c-1)+D=D*(2*c-1):=by
   obtain ⟨b,rfl⟩:∃ b,c=b+1:=⟨c-1,by omega⟩
   have:2*(b+1)-1=2*b+1:=by omega
   rw [this,Nat.add_sub_cancel];grind
  omega
 unfold rq
 have d1:N/(2*D)=c-1:=by rw [hN,Nat.mul_add_div (by omega),Nat.div_eq_of_lt (by omega)];omega
 have d2:N%(2*D)=D+r:=by rw [hN,Nat.mul_add_mod,Nat.mod_eq_of_lt (by omega)]
 rw [d1,d2,if_pos (by left;omega)]
 omega
end Go.Proofs.YtjibjahfbblieaaGreatDoor.F
namespace Go.Proofs.YtjibjahfbblieaaGreatDoor.F
theorem Mv (D:Nat):D*2^53=D*9007199254740992:=rfl
theorem JA (D:Nat):D*2^52=D*4503599627370496:=rfl
theorem jR (den ke:Nat) (a:Nat):den*2^(a+ke)=den*2^ke*2^a:=by rw [Nat.pow_add,Nat.mul_comm (2^a),Nat.mul_assoc]
theorem xX {N den ke:Nat} (hden:0<den) (L:ke=0∨den*2^ke*4503599627370496<=N) (hu:unr (4*N) (den*2^ke)<36028797018963966):
 fu (unr (4*N) (den*2^ke))<9007199254740992/\aC N den (min (ke*4503599627370496+fu (unr (4*N) (den*2^ke))) ak)/\(ke=0∨4503599627370496<=fu (unr (4*N) (den*2^ke))):=by
 have hD:0<den*2^ke:=Nat.mul_pos hden (Nat.pow_pos (by omega))
 have hr:fu (unr (4*N) (den*2^ke))<9007199254740992:=by unfold fu;omega
 rw [kP hD] at hr ⊢
 have hN:=Mk hD hr
 refine ⟨hr,⟨ke,?_,?_,rfl⟩,?_⟩
 ·rw [jR,Mv];exact hN
 ·rcases L with L|L
  ·left;exact L
  ·right;rw [jR,JA];exact L
 ·rcases L with L|L
  ·left;exact L
  ·right;exact pq hD L
theorem y8 {N den ke:Nat} (hden:0<den) (U:N*1048576<den*2^ke*18889447917080071372800) (L:ke=0∨den*2^ke*4503599627370496<=N)
 (hu:36028797018963966<=unr (4*N) (den*2^ke)):
 fu (unr (4*N) (den*2^ke)/2|||unr (4*N) (den*2^ke)%2)<9007199254740992/\4503599627370496<=fu (unr (4*N) (den*2^ke)/2|||unr (4*N) (den*2^ke)%2)/\
  aC N den (min ((ke+1)*4503599627370496+fu (unr (4*N) (den*2^ke)/2|||unr (4*N) (den*2^ke)%2)) ak):=by
 have hD:0<den*2^ke:=Nat.mul_pos hden (Nat.pow_pos (by omega))
 have hr:9007199254740992<=fu (unr (4*N) (den*2^ke)):=by unfold fu;omega
 rw [kP hD] at hr
 rw [JE hD,kP (by omega)]
 have hD2:den*2^(ke+1)=2*(den*2^ke):=by rw [Nat.pow_succ];grind
 generalize hDD:den*2^ke=D at *
 have hup:rq N (2*D)<9007199254740992:=by
  have h1:N<=2*D*9007199254740991:=by omega
  have:=nE (k:=9007199254740991) (show 0<2*D by omega) h1
  omega
 by_cases hge:D*9007199254740992<=N
 ·have hlow:4503599627370496<=rq N (2*D):=pq (N:=N) (D:=2*D) (k:=4503599627370496) (by omega) (by rw [Nat.mul_comm 2 D,Nat.mul_assoc];exact hge)
  refine ⟨hup,hlow,⟨ke+1,?_,.inr ?_,?_⟩⟩
  ·have e:den*2^(53+(ke+1))=2*D*9007199254740992:=by
    rw [jR,hD2]
   rw [e];omega
  ·have e:den*2^(52+(ke+1))=D*9007199254740992:=by
    rw [jR,hD2,JA];omega
   rw [e];exact hge
  ·rw [hD2]
 ·have hlt:N<D*9007199254740992:=Nat.lt_of_not_le hge
  have hle:=nE hD (Nat.le_of_lt hlt)
  have heq:rq N D=9007199254740992:=by omega
  have hc:=GA (c:=4503599627370496) hD hlt heq
  rw [hc]
  refine ⟨by omega,Nat.le_refl _,⟨ke,?_,?_,?_⟩⟩
  ·rw [jR,Mv,hDD];exact hlt
  ·rcases L with L|L
   ·left;exact L
   ·right;rw [jR,JA,hDD];exact L
  ·rw [hDD,heq];omega
def Nk:Bool:=(List.range 656).all fun i=>
 decide (aS ((i:Int)-345)*170141183460469231731687303715884105728<=eO ((i:Int)-345)/\eO ((i:Int)-345)*1048576<=aS ((i:Int)-345)*356811582894123049326108028987766352327475200)
set_option maxRecDepth 100000 in
theorem FW:Nk=true:=by decide+kernel
end Go.Proofs.YtjibjahfbblieaaGreatDoor.F
namespace Go.Proofs.YtjibjahfbblieaaGreatDoor.F
theorem xU:bg=2^128:=by decide
theorem Md {d x1 x2 a1 a2 a3 c1 c2 c3:Nat} (h:a1+a2+a3=2+c1+c2+c3+128):
 d*2^a1*(x1*2^a2)*(x2*2^a3)=4*(d*x1*2^c1)*(x2*2^c2*(2^c3*bg)):=by
 have e1:d*2^a1*(x1*2^a2)*(x2*2^a3)=d*x1*x2*2^(a1+a2+a3):=by
  rw [Nat.pow_add,Nat.pow_add]
  generalize 2^a1=p1
  generalize 2^a2=p2
  generalize 2^a3=p3
  grind
 have e2:4*(d*x1*2^c1)*(x2*2^c2*(2^c3*bg))=d*x1*x2*2^(2+c1+c2+c3+128):=by
  rw [xU,Nat.pow_add,Nat.pow_add,Nat.pow_add,Nat.pow_add]
  have e4:(2:Nat)^2=4:=rfl
  rw [e4]
  generalize 2^c1=p1
  generalize 2^c2=p2
  generalize 2^c3=p3
  generalize 2^128=p4
  grind
 rw [e1,e2,h]
structure PF (d:Nat) (p:Int) (b s ke:Nat):Prop where
 hb:b<=64
 hd1:2^(b-1)<=d
 hd2:d<2^b
 hb0:1<=b
 hp1: -345<=p
 hp2:p<=310
 hs:8<=s
 hrel:(s:Int)=61-(1074-(ke:Int))-b-dP p
 hke:ke=0∨s=8
theorem PF.x {d:Nat} {p:Int} {b s ke:Nat} (h:PF d p b s ke):9223372036854775808<=d*2^(64-b)/\d*2^(64-b)<aF:=by
 obtain ⟨hb,hd1,hd2,hb0,_,_,_,_,_⟩:=h
 have e1:2^(b-1)*2^(64-b)=9223372036854775808:=by rw [<-Nat.pow_add,show b-1+(64-b)=63 by omega]
 have e2:2^b*2^(64-b)=aF:=by rw [<-Nat.pow_add,show b+(64-b)=64 by omega];rfl
 constructor
 ·rw [<-e1];exact Nat.mul_le_mul_right _ hd1
 ·rw [<-e2];exact Nat.mul_lt_mul_of_pos_right hd2 (Nat.pow_pos (by omega))
theorem Aq {p:Int} (hp1: -345<=p) (hp2:p<=310):
 aS p*170141183460469231731687303715884105728<=eO p/\eO p*1048576<=aS p*356811582894123049326108028987766352327475200:=by
 have:=b_ FW (i:=(p+345).toNat) (by omega)
 have e:(((p+345).toNat:Nat):Int)-345=p:=by omega
 rw [e] at this
 exact of_decide_eq_true this
theorem PF.bal {d:Nat} {p:Int} {b s ke c:Nat} (h:PF d p b s ke) (hc:c=1074):
 d*2^(64-b)*eO p*(10^(-p).toNat*2^ke)=4*(d*10^p.toNat*2^c)*(aS p*(2^s*bg)):=by
 obtain ⟨hb,_,_,_,_,_,_,hrel,_⟩:=h
 unfold eO aS
 refine Md ?_
 omega
theorem PF.unr {d:Nat} {p:Int} {b s ke c:Nat} (h:PF d p b s ke) (hc:c=1074):
 unr (d*2^(64-b)*eO p) (aS p*(2^s*bg))=unr (4*(d*10^p.toNat*2^c)) (10^(-p).toNat*2^ke):=by
 refine uK ?_ ?_ (h.bal hc)
 ·exact Nat.mul_pos (Nat.mul_pos (Nat.pow_pos (by omega)) (Nat.pow_pos (by omega))) (Nat.mul_pos (Nat.pow_pos (by omega)) (by rw [e128];omega))
 ·exact Nat.mul_pos (Nat.pow_pos (by omega)) (Nat.pow_pos (by omega))
theorem PF.upper {d:Nat} {p:Int} {b s ke c:Nat} (h:PF d p b s ke) (hc:c=1074):
 d*10^p.toNat*2^c*1048576<10^(-p).toNat*2^ke*18889447917080071372800:=by
 have hbal:=h.bal hc
 have hx:=h.x.2
 have hr:=(Aq h.hp1 h.hp2).2
 have hden:0<aS p:=Nat.mul_pos (Nat.pow_pos (by omega)) (Nat.pow_pos (by omega))
 have hS:2^8<=2^s:=Nat.pow_le_pow_right (by omega) h.hs
 have hDd:0<10^(-p).toNat*2^ke:=Nat.mul_pos (Nat.pow_pos (by omega)) (Nat.pow_pos (by omega))
 generalize d*10^p.toNat*2^c=N at *
 generalize 10^(-p).toNat*2^ke=D at *
 generalize d*2^(64-b)=x at *
 generalize eO p=a at *
 generalize aS p=q at *
 generalize 2^s=S at *
 clear h hc
 have hx':x<=18446744073709551615:=by rw [e64] at hx;omega
 have hB:0<q*(S*bg):=Nat.mul_pos hden (Nat.mul_pos (by omega) (by rw [e128];omega))
 have h1:x*a*1048576<q*(S*bg)*75557791668320285491200:=by
  have s1:x*(a*1048576)<=x*(q*356811582894123049326108028987766352327475200):=Nat.mul_le_mul_left _ hr
  have s2:x*(q*356811582894123049326108028987766352327475200)<=18446744073709551615*(q*356811582894123049326108028987766352327475200):=Nat.mul_le_mul_right _ hx'
  have s3:q*(256*bg)<=q*(S*bg):=Nat.mul_le_mul_left _ (Nat.mul_le_mul_right _ hS)
  rw [Nat.mul_assoc x a]
  refine Nat.lt_of_le_of_lt (Nat.le_trans s1 s2) (Nat.lt_of_lt_of_le ?_ (Nat.mul_le_mul_right _ s3))
  rw [Nat.mul_left_comm,Nat.mul_assoc q]
  exact Nat.mul_lt_mul_of_pos_left (by decide) hden
 have h2:x*a*D*1048576<q*(S*bg)*75557791668320285491200*D:=by
  have:=Nat.mul_lt_mul_of_pos_right h1 hDd
  calc x*a*D*1048576=x*a*1048576*D:=by rw [Nat.mul_right_comm]
   _<_:=this
 rw [hbal] at h2
 generalize q*(S*bg)=Y at *
 have h3:Y*(4*N*1048576)<Y*(75557791668320285491200*D):=by
  calc Y*(4*N*1048576)=4*N*Y*1048576:=by grind
   _<Y*75557791668320285491200*D:=h2
   _=_:=by rw [Nat.mul_assoc]
 have h4:=Nat.lt_of_mul_lt_mul_left h3
 have h5:4*(N*1048576)<4*(D*18889447917080071372800):=by
  rw [<-Nat.mul_assoc,Nat.mul_comm D,<-Nat.mul_assoc 4]
  exact h4
 exact Nat.lt_of_mul_lt_mul_left h5
theorem PF.lower {d:Nat} {p:Int} {b s ke c:Nat} (h:PF d p b s ke) (hc:c=1074):
 ke=0∨10^(-p).toNat*2^ke*4503599627370496<=d*10^p.toNat*2^c:=by
 rcases h.hke with hk|hs8
 ·left;exact hk
 ·right
  have hbal:=h.bal hc
  have hx:=h.x.1
  have hr:=(Aq h.hp1 h.hp2).1
  have hden:0<aS p:=Nat.mul_pos (Nat.pow_pos (by omega)) (Nat.pow_pos (by omega))
  have hDd:0<10^(-p).toNat*2^ke:=Nat.mul_pos (Nat.pow_pos (by omega)) (Nat.pow_pos (by omega))
  subst hs8
  have e8:(2:Nat)^8=256:=rfl
  rw [e8] at hbal
  generalize d*10^p.toNat*2^c=N at *
  generalize 10^(-p).toNat*2^ke=D at *
  generalize d*2^(64-b)=x at *
  generalize eO p=a at *
  generalize aS p=q at *
  clear h hc
  have s1:9223372036854775808*(q*170141183460469231731687303715884105728)<=x*a:=Nat.mul_le_mul hx hr
  have s2:9223372036854775808*(q*170141183460469231731687303715884105728)*D<=x*a*D:=Nat.mul_le_mul_right _ s1
  rw [hbal,e128] at s2
  have s3:q*(18014398509481984*D)<=q*(4*N):=by
   have e1:9223372036854775808*(q*170141183460469231731687303715884105728)*D=q*(18014398509481984*D)*87112285931760246646623899502532662132736:=by grind
   have e2:4*N*(q*(256*340282366920938463463374607431768211456))=q*(4*N)*87112285931760246646623899502532662132736:=by grind
   rw [e1,e2] at s2
   exact Nat.le_of_mul_le_mul_right s2 (by omega)
  have s4:=Nat.le_of_mul_le_mul_left s3 hden
  have s5:4*(D*4503599627370496)<=4*N:=by
   rw [Nat.mul_comm D,<-Nat.mul_assoc 4]
   exact s4
  exact Nat.le_of_mul_le_mul_left s5 (Nat.succ_pos 3)
end Go.Proofs.YtjibjahfbblieaaGreatDoor.F
namespace Go.Proofs.YtjibjahfbblieaaGreatDoor.F
open Go Go.RowKit
set_option linter.unusedVariables false
theorem iA (p:Int) (w:World) (h1: -400<=p) (h2:p<=400):
 Calls Tryz.prog 229 #[.int .i64 p] w fun e w'=>e=.returned (.int .i64 (dP p))/\w'=w:=by
 go_enter Tryz.func229,Tryz.ntmps229
 go_wp2
 go_ret
 exact ⟨rfl,rfl⟩
theorem uN (w:World):
 Calls Tryz.prog 235 #[.int .u64 9007199254740992] w fun e w'=>e=.returned (.int .u64 36028797018963966)/\w'=w:=by
 go_enter Tryz.func235,Tryz.ntmps235
 go_wp2
 go_ret
 exact ⟨rfl,rfl⟩
theorem dX (b:Bool) (w:World):
 Calls Tryz.prog 252 #[.bool b] w fun e w'=>e=.returned (.int .u64 (if b=true then 1 else 0))/\w'=w:=by
 cases b
 all_goals go_enter Tryz.func252,Tryz.ntmps252
 all_goals go_wp2
 all_goals go_ret
 all_goals exact ⟨rfl,rfl⟩
theorem Fq {u:Nat} (h:u<9223372036854775808):IntKind.u64.wrap ((u:Int)+1+bits .and .u64 ((u:Int)/4) 1)/4=((fu u:Nat):Int):=by
 have e1:bits .and .u64 ((u:Int)/4) 1=((u/4%2:Nat):Int):=by
  have:=u64_and_nat (u/4) 1 (by omega) (by omega)
  rw [Nat.and_one_is_mod] at this
  exact this
 rw [e1,wrap_u64 (by omega) (by omega)]
 unfold fu
 omega
theorem lU (u:Nat) (w:World) (h:u<9223372036854775808):
 Calls Tryz.prog 234 #[.int .u64 u] w fun e w'=>e=.returned (.int .u64 (fu u))/\w'=w:=by
 have H:=hide (Fq h)
 go_enter Tryz.func234,Tryz.ntmps234
 go_wp2
 go_ret
 exact ⟨dD H.out,rfl⟩
theorem dw (x y H L:Nat) (hH:H=x*y/aF) (hL:L=x*y%aF) (hx:x<18446744073709551616) (hy:y<18446744073709551616) (w:World):
 Calls Tryz.prog 198 #[.int .u64 x,.int .u64 y] w fun e w'=>e=.returned (.tuple #[.int .u64 H,.int .u64 L])/\w'=w:=by
 subst hH;subst hL
 exact Tryz.bits_Mul64 x y hx hy w
theorem Eb:∀ s:Fin 64,bits .and .i64 ((s.val:Nat):Int) 63=((s.val:Nat):Int):=by decide+kernel
theorem Pn {s:Nat} (h:s<64):bits .and .i64 (s:Int) 63=(s:Int):=Eb ⟨s,h⟩
theorem eF (H s:Nat):(H:Int)/2^s=((H/2^s:Nat):Int):=by rw [oz];simp
theorem Gc {H s:Nat} (hH:H<18446744073709551616):(IntKind.u64.wrap ((H:Int)/2^s*2^s) !=(H:Int))=decide (H/2^s*2^s≠H):=by
 have hle:H/2^s*2^s<=H:=Nat.div_mul_le_self H (2^s)
 have e:(H:Int)/2^s*2^s=((H/2^s*2^s:Nat):Int):=by rw [eF,oz,Int.natCast_mul]
 rw [e]
 generalize H/2^s*2^s=K at *
 rw [wrap_u64 (by omega) (by omega)]
 by_cases h:K=H
 ·subst h;simp
 ·rw [decide_eq_true h,bne_iff_ne];omega
theorem or_val {a b:Nat} (ha:a<18446744073709551616) (hb:b<18446744073709551616):bits .or .u64 (a:Int) (b:Int)=((a|||b:Nat):Int):=u64_or_nat a b ha hb
set_option maxHeartbeats 1600000 in
set_option maxRecDepth 100000 in
theorem mR (x hi lo s g:Nat) (w:World) (hx:x<18446744073709551616) (hhi:hi<18446744073709551616) (hlo:lo<18446744073709551616) (hs:s<64) (hpos:0<x*hi/aF)
 (c0:w.cell? ⟨g,0,none⟩=some (.int .u64 hi)) (c1:w.cell? ⟨g,1,none⟩=some (.int .u64 lo)) (c2:w.cell? ⟨g,2,none⟩=some (.int .i64 s)):
 Calls Tryz.prog 230 #[.int .u64 x,.pointer (some ⟨g,0,none⟩)] w fun e w'=>e=.returned (.int .u64 (sM x hi lo s))/\∃ n,w'=w.drewN n:=by
 have ha:=Pn hs
 obtain ⟨H,hH⟩:∃ H,H=x*hi/aF:=⟨_,rfl⟩
 obtain ⟨M,hM⟩:∃ M,M=x*hi%aF:=⟨_,rfl⟩
 obtain ⟨M2,hM2⟩:∃ M2,M2=x*lo/aF:=⟨_,rfl⟩
 have hHl:H<18446744073709551616:=by
  rw [hH,Nat.div_lt_iff_lt_mul (by rw [e64];omega),e64]
  exact Nat.mul_lt_mul_of_lt_of_le hx (Nat.le_of_lt hhi) (by omega)
 have hMl:M<18446744073709551616:=by rw [hM];exact Nat.mod_lt _ (by rw [e64];omega)
 have hM2l:M2<18446744073709551616:=by
  rw [hM2,Nat.div_lt_iff_lt_mul (by rw [e64];omega),e64]
  exact Nat.mul_lt_mul_of_lt_of_le hx (Nat.le_of_lt hlo) (by omega)
 have HU:Hid (sM x hi lo s=if H/2^s*2^s≠H then H/2^s|||1 else (H-(if M<M2 then 1 else 0))/2^s|||(if 1<(M+aF-M2)%aF then 1 else 0)):=hide (by unfold sM;rw [<-hH,<-hM,<-hM2])
 rw [<-hH] at hpos
 have HH:=hide hH
 have HM:=hide hM
 have HM2:=hide hM2
 have hdl:H/2^s<18446744073709551616:=Nat.lt_of_le_of_lt (Nat.div_le_self _ _) hHl
 clear hH hM hM2
 have ht:=Gc (s:=s) hHl
 by_cases h1:H/2^s*2^s≠H
 ·rw [decide_eq_true h1] at ht
  have HV:Hid (bits .or .u64 ((H:Int)/2^s) 1=((sM x hi lo s:Nat):Int)):=hide (by rw [HU.out,if_pos h1,eF];exact or_val (b:=1) hdl (by omega))
  clear h1 hdl
  go_enter Tryz.func230,Tryz.ntmps230
  go_wp2_with fail
  refine (dw x hi H M HH.out HM.out hx hhi _).mono ?_
  rintro e w1 ⟨rfl,rfl⟩
  go_wp2
  go_ret
  exact ⟨dD HV.out,0,rfl⟩
 ·rw [decide_eq_false h1] at ht
  have h1':H/2^s*2^s=H:=by
   by_cases e:H/2^s*2^s=H
   ·exact e
   ·exact absurd e h1
  by_cases h2:M<M2
  ·have e2:IntKind.u64.wrap ((M:Int)-M2)=(((M+aF-M2)%aF:Nat):Int):=by
    simp only [IntKind.wrap,IntKind.signed,IntKind.bits,e64];simp;omega
   by_cases h3:1<(M+aF-M2)%aF
   ·have HV:Hid (bits .or .u64 (((H:Int)-1)/2^s) 1=((sM x hi lo s:Nat):Int)):=hide (by
     rw [HU.out,if_neg h1,if_pos h2,if_pos h3]
     have e1:(H:Int)-1=((H-1:Nat):Int):=by omega
     rw [e1,eF]
     exact or_val (b:=1) (Nat.lt_of_le_of_lt (Nat.div_le_self _ _) (by omega)) (by omega))
    have hw:(1:Int)<IntKind.u64.wrap ((M:Int)-M2):=by rw [e2];omega
    clear e2 h1 h1' hdl h3
    go_enter Tryz.func230,Tryz.ntmps230
    go_wp2_with fail
    refine (dw x hi H M HH.out HM.out hx hhi _).mono ?_
    rintro e w1 ⟨rfl,rfl⟩
    go_wp2_with fail
    refine (dw x lo M2 (x*lo%aF) HM2.out rfl hx hlo _).mono ?_
    rintro e w1 ⟨rfl,rfl⟩
    go_wp2_with fail
    refine (dX _ _).mono ?_
    rintro e w1 ⟨rfl,rfl⟩
    go_wp2_with fail
    go_quiet ((go_at_call 252;exact Calls.quiet_of_same (dX _ _)))
    go_wp2
    all_goals go_ret
    all_goals exact ⟨dD HV.out,_,rfl⟩
   ·have HV:Hid (bits .or .u64 (((H:Int)-1)/2^s) 0=((sM x hi lo s:Nat):Int)):=hide (by
     rw [HU.out,if_neg h1,if_pos h2,if_neg h3]
     have e1:(H:Int)-1=((H-1:Nat):Int):=by omega
     rw [e1,eF]
     exact or_val (b:=0) (Nat.lt_of_le_of_lt (Nat.div_le_self _ _) (by omega)) (by omega))
    have hw:¬ (1:Int)<IntKind.u64.wrap ((M:Int)-M2):=by rw [e2];omega
    clear e2 h1 h1' hdl h3
    go_enter Tryz.func230,Tryz.ntmps230
    go_wp2_with fail
    refine (dw x hi H M HH.out HM.out hx hhi _).mono ?_
    rintro e w1 ⟨rfl,rfl⟩
    go_wp2_with fail
    refine (dw x lo M2 (x*lo%aF) HM2.out rfl hx hlo _).mono ?_
    rintro e w1 ⟨rfl,rfl⟩
    go_wp2_with fail
    refine (dX _ _).mono ?_
    rintro e w1 ⟨rfl,rfl⟩
    go_wp2_with fail
    go_quiet ((go_at_call 252;exact Calls.quiet_of_same (dX _ _)))
    go_wp2
    all_goals go_ret
    all_goals exact ⟨dD HV.out,_,rfl⟩
  ·have e2:IntKind.u64.wrap ((M:Int)-M2)=(((M+aF-M2)%aF:Nat):Int):=by
    simp only [IntKind.wrap,IntKind.signed,IntKind.bits,e64];simp;omega
   by_cases h3:1<(M+aF-M2)%aF
   ·have HV:Hid (bits .or .u64 ((H:Int)/2^s) 1=((sM x hi lo s:Nat):Int)):=hide (by
     rw [HU.out,if_neg h1,if_neg h2,Nat.sub_zero,if_pos h3]
     skip
     rw [eF]
     exact or_val (b:=1) hdl (by omega))
    have hw:(1:Int)<IntKind.u64.wrap ((M:Int)-M2):=by rw [e2];omega
    have hw2:(1:Int)<(M:Int)-M2:=by rw [e64] at h3;omega
    clear e2 h1 h1' hdl h3
    go_enter Tryz.func230,Tryz.ntmps230
    go_wp2_with fail
    refine (dw x hi H M HH.out HM.out hx hhi _).mono ?_
    rintro e w1 ⟨rfl,rfl⟩
    go_wp2_with fail
    refine (dw x lo M2 (x*lo%aF) HM2.out rfl hx hlo _).mono ?_
    rintro e w1 ⟨rfl,rfl⟩
    go_wp2_with fail
    refine (dX _ _).mono ?_
    rintro e w1 ⟨rfl,rfl⟩
    go_wp2_with fail
    go_quiet ((go_at_call 252;exact Calls.quiet_of_same (dX _ _)))
    go_wp2
    all_goals go_ret
    all_goals exact ⟨dD HV.out,_,rfl⟩
   ·have HV:Hid (bits .or .u64 ((H:Int)/2^s) 0=((sM x hi lo s:Nat):Int)):=hide (by
     rw [HU.out,if_neg h1,if_neg h2,Nat.sub_zero,if_neg h3]
     skip
     rw [eF]
     exact or_val (b:=0) hdl (by omega))
    have hw:¬ (1:Int)<IntKind.u64.wrap ((M:Int)-M2):=by rw [e2];omega
    have hw2:¬ (1:Int)<(M:Int)-M2:=by rw [e64] at h3;omega
    clear e2 h1 h1' hdl h3
    go_enter Tryz.func230,Tryz.ntmps230
    go_wp2_with fail
    refine (dw x hi H M HH.out HM.out hx hhi _).mono ?_
    rintro e w1 ⟨rfl,rfl⟩
    go_wp2_with fail
    refine (dw x lo M2 (x*lo%aF) HM2.out rfl hx hlo _).mono ?_
    rintro e w1 ⟨rfl,rfl⟩
    go_wp2_with fail
    refine (dX _ _).mono ?_
    rintro e w1 ⟨rfl,rfl⟩
    go_wp2_with fail
    go_quiet ((go_at_call 252;exact Calls.quiet_of_same (dX _ _)))
    go_wp2
    all_goals go_ret
    all_goals exact ⟨dD HV.out,_,rfl⟩
end Go.Proofs.YtjibjahfbblieaaGreatDoor.F
