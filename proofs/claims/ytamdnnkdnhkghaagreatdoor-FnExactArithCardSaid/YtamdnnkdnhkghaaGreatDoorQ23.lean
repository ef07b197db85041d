import Derived.Test.YtamdnnkdnhkghaaGreatDoorQ09
set_option maxHeartbeats 12800000
set_option maxRecDepth 100000
set_option linter.unusedVariables false
namespace Go.Proofs.YtamdnnkdnhkghaaGreatDoor
def far53 (r:Nat × Nat):Bool:=
 let off:=pmOf r*4503599627370496%2658455991569831745807614120560689152
 let l:=(5316911983139663491615228241121378304-9007199254740992-off)%2658455991569831745807614120560689152
 decide (0<l/\l+18014398509481984<2658455991569831745807614120560689152/\pmOf r%2658455991569831745807614120560689152≠0/\4503599627370496<=lb 300 (pmOf r%2658455991569831745807614120560689152) 2658455991569831745807614120560689152 l (l+18014398509481984))
theorem zpa {r:Nat × Nat} (h:far53 r=true) (x:Nat) (h1:4503599627370496<=x) (h2:x<9007199254740992):
 9007199254740992<x*pmOf r%2658455991569831745807614120560689152/\x*pmOf r%2658455991569831745807614120560689152<2658455991569831745807614120560689152-9007199254740992:=by
 have h':=of_decide_eq_true h
 generalize pmOf r=P at *
 obtain ⟨t,rfl⟩:∃ t,x=4503599627370496+t:=⟨x-4503599627370496,by omega⟩
 have ht:t<4503599627370496:=by omega
 have e:(4503599627370496+t)*P%2658455991569831745807614120560689152=(P*4503599627370496%2658455991569831745807614120560689152+P%2658455991569831745807614120560689152*t%2658455991569831745807614120560689152)%2658455991569831745807614120560689152:=by
  rw [Nat.add_mul,Nat.add_mod,Nat.mul_comm 4503599627370496 P,Nat.mul_comm t P,Nat.mod_mul_mod]
 rw [e]
 generalize ho:P*4503599627370496%2658455991569831745807614120560689152=off at *
 have hoff:off<2658455991569831745807614120560689152:=by rw [<-ho];exact Nat.mod_lt _ (by omega)
 obtain ⟨c1,c2,c3,c4⟩:=h'
 have snd:=zkd 300 (P%2658455991569831745807614120560689152) 2658455991569831745807614120560689152 ((5316911983139663491615228241121378304-9007199254740992-off)%2658455991569831745807614120560689152) ((5316911983139663491615228241121378304-9007199254740992-off)%2658455991569831745807614120560689152+18014398509481984) t c1 (by omega) c2
 generalize hzz:P%2658455991569831745807614120560689152*t%2658455991569831745807614120560689152=z at *
 have hz:z<2658455991569831745807614120560689152:=by rw [<-hzz];exact Nat.mod_lt _ (by omega)
 have hl:(5316911983139663491615228241121378304-9007199254740992-off)%2658455991569831745807614120560689152=if off<=2658455991569831745807614120560689152-9007199254740992 then 2658455991569831745807614120560689152-9007199254740992-off else 5316911983139663491615228241121378304-9007199254740992-off:=by
  split<;>omega
 have hPm:P%2658455991569831745807614120560689152<2658455991569831745807614120560689152:=Nat.mod_lt _ (by omega)
 generalize lb 300 (P%2658455991569831745807614120560689152) 2658455991569831745807614120560689152 ((5316911983139663491615228241121378304-9007199254740992-off)%2658455991569831745807614120560689152) ((5316911983139663491615228241121378304-9007199254740992-off)%2658455991569831745807614120560689152+18014398509481984)=LB at *
 generalize (5316911983139663491615228241121378304-9007199254740992-off)%2658455991569831745807614120560689152=l at *
 by_cases hin:l<=z/\z<=l+18014398509481984
 ·have:=snd hin.1 hin.2 hPm
  omega
 have hr:(off+z)%2658455991569831745807614120560689152=if off+z<2658455991569831745807614120560689152 then off+z else off+z-2658455991569831745807614120560689152:=by
  split<;>omega
 rw [hr]
 split at hl<;>split<;>omega
def farRows53:Bool:=(List.range 696).all fun i=>(decide (326<=i)&&decide (i<=373))||far53 (Go.Pinned.pow10Rows.getD i (0,0))
theorem farRows53_ok:farRows53=true:=by decide+kernel
def negRows53:Bool:=(List.range 23).all fun i=>decide (36893488147419103232*10^i<=2^((127-lp10 (-(i:Int))).toNat+11)/\36893488147419103232*10^i<=2^(132+i)/\(lp10 (-(i:Int))-127).toNat=0)
theorem negRows53_ok:negRows53=true:=by decide+kernel
theorem zn6 {p:Int} (h1: -348<=p) (h2:p<=347) (h3:p< -22∨25<p):far53 (rowAt p)=true:=by
 have:=za2 farRows53_ok (i:=(p+348).toNat) (by omega)
 unfold rowAt
 simp only [Bool.or_eq_true,Bool.and_eq_true,decide_eq_true_eq] at this
 rcases this with h|h
 ·omega
 exact h
theorem ztb {p:Int} (hp1: -348<=p) (hp2:p<=347) {x y s:Nat} (hxy:x=2048*y) (hx1:9223372036854775808<=x) (hx2:x<T64) (hs:4<=s):
 usc x (rowAt p).1 (rowAt p).2 s=unr (x*numT p) (denT p*(2^s*T128)):=by
 have hrow:=of_decide_eq_true (zjO (p:=p) (by omega) (by omega))
 have hhi:=zkG (p:=p) (by omega) (by omega)
 have hfr:=fun h3=>zpa (zn6 hp1 hp2 h3) y (by omega) (by rw [e64] at hx2;omega)
 have hpm:pmOf (rowAt p)=(rowAt p).1*T64-(rowAt p).2:=rfl
 obtain ⟨r1,r2,r3,r4,r5⟩:=hrow
 generalize hrr:rowAt p=r at *
 obtain ⟨hi,lo⟩:=r
 simp only at *
 have hden:0<denT p:=Nat.mul_pos (Nat.pow_pos (by omega)) (Nat.pow_pos (by omega))
 have hS2:2<=2^s:=by
  have:2^1<=2^s:=Nat.pow_le_pow_right (by omega) (by omega)
  omega
 have hP:x*pmOf (hi,lo)+x*lo=x*hi*T64:=by
  rw [<-Nat.mul_add,hpm,Nat.mul_assoc]
  congr 1
  have:lo<=hi*T64:=r3
  omega
 have A1:x*numT p<=denT p*(x*pmOf (hi,lo)):=by
  have:=Nat.mul_le_mul_left x r4
  calc x*numT p<=x*(pmOf (hi,lo)*denT p):=this
   _=denT p*(x*pmOf (hi,lo)):=by rw [<-Nat.mul_assoc,Nat.mul_comm]
 have A2:denT p*(x*pmOf (hi,lo))<x*numT p+denT p*x:=by
  have:=Nat.mul_lt_mul_of_pos_left r5 (show 0<x by omega)
  rw [Nat.mul_add] at this
  calc denT p*(x*pmOf (hi,lo))=x*(pmOf (hi,lo)*denT p):=by rw [<-Nat.mul_assoc x,Nat.mul_comm (denT p)]
   _<x*numT p+x*denT p:=this
   _=x*numT p+denT p*x:=by rw [Nat.mul_comm x (denT p)]
 unfold usc
 refine ziu (P:=x*pmOf (hi,lo)) hx1 hx2 r2 hS2 hden hP A1 A2 ?_ ?_
 ·rw [Nat.div_pos_iff]
  refine ⟨by rw [e64];omega,?_⟩
  have:9223372036854775808*9223372036854775808<=x*hi:=Nat.mul_le_mul hx1 hhi
  rw [e64];omega
 intro h hH hm1 hm2
 have hPf:x*pmOf (hi,lo)+x*lo%T64=h*2^s*T128+(x*hi%T64-x*lo/T64)*T64:=by
  have d1:=Nat.div_add_mod (x*hi) T64
  have d2:=Nat.div_add_mod (x*lo) T64
  rw [hH] at d1
  have e:x*hi*T64=h*2^s*T128+x*hi%T64*T64:=by
   conv=>lhs;rw [<-d1]
   rw [Nat.add_mul,t128,Nat.mul_comm T64,Nat.mul_assoc]
  rw [e] at hP
  rw [Nat.sub_mul,Nat.mul_comm (x*lo/T64)]
  have hle:T64*(x*lo/T64)<=x*hi%T64*T64:=by rw [Nat.mul_comm];exact Nat.mul_le_mul_right _ hm1
  omega
 have hf:x*lo%T64<T64:=Nat.mod_lt _ (by rw [e64];omega)
 by_cases hfarp:p< -22∨25<p
 ·exfalso
  have hq:=hfr hfarp
  have hM:(x*hi%T64-x*lo/T64)*T64<=T64:=by
   have:x*hi%T64-x*lo/T64<=1:=by omega
   calc _<=1*T64:=Nat.mul_le_mul_right _ this
    _=T64:=Nat.one_mul _
  have hZ:h*2^s*T128=2048*(h*2^(s-4)*2658455991569831745807614120560689152):=by
   have:s=s-4+4:=by omega
   conv=>lhs;rw [this,Nat.pow_add]
   rw [e128]
   generalize 2^(s-4)=z
   have:(2:Nat)^4=16:=rfl
   rw [this]
   have e0:h*(z*16)*340282366920938463463374607431768211456=h*z*(16*340282366920938463463374607431768211456):=by rw [<-Nat.mul_assoc h z 16,Nat.mul_assoc (h*z)]
   rw [e0,Nat.mul_left_comm 2048]
  have hPx:x*pmOf (hi,lo)=2048*(y*pmOf (hi,lo)):=by rw [hxy,Nat.mul_assoc]
  rw [hZ,hPx] at hPf
  generalize y*pmOf (hi,lo)=P at *
  generalize h*2^(s-4)=Y at *
  generalize (x*hi%T64-x*lo/T64)*T64=M at *
  generalize x*lo%T64=f at *
  rw [e64] at hM hf
  clear hP A1 A2 r4 r5 hZ hpm hfr hH hPx
  by_cases hge:Y*2658455991569831745807614120560689152<=P
  ·have e:P=2658455991569831745807614120560689152*Y+(P-Y*2658455991569831745807614120560689152):=by omega
   rw [e,Nat.mul_add_mod,Nat.mod_eq_of_lt (by omega)] at hq
   omega
  obtain ⟨Y',rfl⟩:∃ Y',Y=Y'+1:=⟨Y-1,by
   rcases Nat.eq_zero_or_pos Y with e|e
   ·subst e;omega
   omega⟩
  have e:P=2658455991569831745807614120560689152*Y'+(P-Y'*2658455991569831745807614120560689152):=by omega
  rw [e,Nat.mul_add_mod,Nat.mod_eq_of_lt (by omega)] at hq
  omega
 by_cases hp0:0<=p
 ·have hsm:=of_decide_eq_true (za2 smallRows_ok (i:=p.toNat) (by omega))
  have ei:348+p.toNat=(p+348).toNat:=by omega
  have ep:((p.toNat:Nat):Int)=p:=by omega
  rw [ei,ep] at hsm
  have hra:Go.Pinned.pow10Rows.getD (p+348).toNat (0,0)=(hi,lo):=hrr
  rw [hra] at hsm
  obtain ⟨l0,h0,d1⟩:=hsm
  simp only at l0 h0
  subst l0
  rw [d1] at A1 A2 ⊢
  rw [Nat.one_mul] at A1 A2 ⊢
  rw [d1] at r4 r5
  have hev:x*hi%T64=0:=by
   have h2:x*hi%T64%2=0:=by
    rw [e64,Nat.mod_mod_of_dvd _ (by decide:2 ∣ 18446744073709551616),Nat.mul_mod,h0,Nat.mul_zero,Nat.zero_mod]
   rw [Nat.mul_zero,Nat.zero_div] at hm2
   omega
  rw [hev,Nat.mul_zero,Nat.zero_mod,Nat.zero_div,Nat.sub_zero,Nat.zero_mul,Nat.add_zero,Nat.add_zero] at hPf
  have hnp:numT p=pmOf (hi,0):=by omega
  rw [hnp,hPf,Nat.mul_assoc]
 have hng:=of_decide_eq_true (za2 negRows53_ok (i:=(-p).toNat) (by omega))
 have ei:(((-p).toNat:Nat):Int)= -p:=by omega
 rw [ei,Int.neg_neg] at hng
 obtain ⟨g1,g2,g3⟩:=hng
 have hnum:numT p=2^(127-lp10 p).toNat:=by
  unfold numT
  have:p.toNat=0:=by omega
  rw [this,Nat.pow_zero,Nat.one_mul]
 have hdn:denT p=10^(-p).toNat:=by unfold denT;rw [g3,Nat.pow_zero,Nat.mul_one]
 have hM:(x*hi%T64-x*lo/T64)*T64<=T64:=by
  have:x*hi%T64-x*lo/T64<=1:=by omega
  calc _<=1*T64:=Nat.mul_le_mul_right _ this
   _=T64:=Nat.one_mul _
 have hv:h*(denT p*(2^s*T128))=denT p*(h*2^s*T128):=by rw [Nat.mul_left_comm,Nat.mul_assoc h]
 refine zeu (g:=2^min ((127-lp10 p).toNat+11) (132+(-p).toNat)) (d:=36893488147419103232*denT p) ?_ ?_ ?_ ?_ ?_
 ·have e11:x*numT p=y*2^((127-lp10 p).toNat+11):=by
   rw [hnum,hxy,Nat.pow_add,Nat.mul_comm 2048 y,Nat.mul_assoc]
   congr 1
   rw [Nat.mul_comm]
  rw [e11]
  exact Nat.dvd_trans (Nat.pow_dvd_pow 2 (Nat.min_le_left _ _)) (Nat.dvd_mul_left _ _)
 ·rw [hdn]
  have e10:10^(-p).toNat=5^(-p).toNat*2^(-p).toNat:=by rw [<-Nat.mul_pow]
  have e3:h*(10^(-p).toNat*(2^s*T128))=h*5^(-p).toNat*2^(s-4)*2^(132+(-p).toNat):=by
   have f1:2^s=2^(s-4)*2^4:=by rw [<-Nat.pow_add];congr 1;omega
   have f2:(2:Nat)^(132+(-p).toNat)=2^4*T128*2^(-p).toNat:=by rw [Nat.pow_add];rfl
   rw [e10,f1,f2]
   generalize 5^(-p).toNat=a5
   generalize 2^(-p).toNat=a2
   generalize 2^(s-4)=a3
   generalize 2^4=a4
   generalize T128=a6
   simp only [Nat.mul_comm,Nat.mul_left_comm]
  rw [e3]
  exact Nat.dvd_trans (Nat.pow_dvd_pow 2 (Nat.min_le_right _ _)) (Nat.dvd_mul_left _ _)
 ·rw [hv]
  have h1:denT p*(x*pmOf (hi,lo))<=denT p*(h*2^s*T128+T64):=Nat.mul_le_mul_left _ (by omega)
  rw [Nat.mul_add,e64] at h1
  omega
 ·rw [hv]
  have h1:denT p*(h*2^s*T128)<=denT p*(x*pmOf (hi,lo)+T64):=Nat.mul_le_mul_left _ (by omega)
  have h2:denT p*x<=denT p*T64:=Nat.mul_le_mul_left _ (Nat.le_of_lt hx2)
  rw [Nat.mul_add,e64] at h1
  rw [e64] at h2
  omega
 rw [hdn]
 rcases Nat.le_total ((127-lp10 p).toNat+11) (132+(-p).toNat) with hh|hh
 ·rw [Nat.min_eq_left hh];exact g1
 rw [Nat.min_eq_right hh];exact g2
end Go.Proofs.YtamdnnkdnhkghaaGreatDoor
