import Derived.Lib.BitFns
import Ieee.Arith
import Derived.Laws.FloatArith
import Derived.Test.YtamdnnkdnhkghaaGreatDoorQ09
set_option maxHeartbeats 12800000
set_option maxRecDepth 100000
set_option linter.unusedVariables false
namespace Go.Proofs.YtamdnnkdnhkghaaGreatDoor
open Go Go.RowKit
theorem zcO (x:Nat) (h0:x≠0) (h:x<2^64):1<=Lib.bitLen x/\2^(Lib.bitLen x-1)<=x/\x<2^Lib.bitLen x:=by
 induction x using Nat.strongRecOn with
 |ind x ih=>
  rw [Lib.bitLen_half x h0 h]
  by_cases h1:x/2=0
  ·have hx:x=1:=by omega
   subst hx
   have:Lib.bitLen (1/2)=0:=by decide
   rw [this];decide
  have:=ih (x/2) (by omega) h1 (by omega)
  obtain ⟨g1,g2,g3⟩:=this
  generalize Lib.bitLen (x/2)=b at *
  refine ⟨by omega,?_,?_⟩
  ·have e:1+b-1=(b-1)+1:=by omega
   rw [e,Nat.pow_succ];omega
  rw [Nat.add_comm,Nat.pow_succ];omega
theorem zfS (x:Nat) (h0:x≠0) (h:x<2^64):Lib.bitLen x<=64:=by
 have hb:=zcO x h0 h
 have h2:2^(Lib.bitLen x-1)<2^64:=Nat.lt_of_le_of_lt hb.2.1 h
 have:=(Nat.pow_lt_pow_iff_right (by omega)).1 h2
 omega
theorem zc3 (d b:Nat) (hd:d<18446744073709551616) (hb:b=Lib.bitLen d) (w:World):
 Rs 177 #[.int .u64 d] w (.int .i64 b):=by
 subst hb
 exact Tryz.bits_Len64 d w (by omega) (by omega)
theorem zld {p:Int} (h1: -345<=p) (h2:p<=310): -1147<=lp10 p/\lp10 p<=1030:=by unfold lp10;omega
theorem zfT (k m:Nat):∃ f v,packR k m=.tuple #[.float .f64 f,v]:=by
 unfold packR;split
 ·exact ⟨_,_,rfl⟩
 exact ⟨_,_,rfl⟩
def pfR (ke u:Nat):Value:=if 36028797018963966<=u then packR (ke+1) (rnd2 (u/2|||u%2)) else packR ke (rnd2 u)
theorem and1 {u:Nat} (h:u<288230376151711744):bits .and .u64 (u:Int) 1=((u%2:Nat):Int):=by
 have:=u64_and_nat u 1 (by omega) (by omega)
 rw [Nat.and_one_is_mod] at this
 exact this
theorem zrJ {u:Nat} (h:u<288230376151711744):bits .or .u64 ((u:Int)/2) (bits .and .u64 (u:Int) 1)=((u/2|||u%2:Nat):Int):=by
 rw [and1 h]
 exact u64_or_nat (u/2) (u%2) (by omega) (by omega)
theorem zs7 {u:Nat} (h:u<288230376151711744):bits .or .u64 (u:Int) (bits .and .u64 (u:Int) 1)=(u:Int):=by
 rw [and1 h,u64_or_nat u (u%2) (by omega) (by omega)]
 rw [<-Nat.and_one_is_mod]
 have:u|||(u&&&1)=u:=by
  apply Nat.eq_of_testBit_eq
  intro i
  rw [Nat.testBit_or,Nat.testBit_and]
  cases u.testBit i<;>simp
 rw [this]
theorem zero_or {m:Nat} (h:m<18446744073709551616):bits .or .u64 0 (m:Int)=(m:Int):=by
 have:=u64_or_nat 0 m (by omega) h
 rw [Nat.zero_or] at this
 exact this
theorem zk9 {u:Nat} (h:u<288230376151711744):(u/2|||u%2)<9223372036854775808:=by
 have:(u/2|||u%2)<2^63:=Nat.or_lt_two_pow (by omega) (by omega)
 exact this
theorem zbn {w:World} {o:Obj} {b k:Nat} {v:Value} (hb:b<w.heap.size) (h:w.cell? ⟨b,k,none⟩=some v):(w.alloc o).cell? ⟨b,k,none⟩=some v:=
 (((Below.refl w.heap.size w).alloc (Nat.le_refl _) o).cell (p:=⟨b,k,none⟩) hb).trans h
theorem znA (d b i hi lo s x:Nat) (p lp:Int) (w:World) (hd:d<18446744073709551616) (hb:Hid (b=Lib.bitLen d)) (hb1:1<=b) (hb2:b<=64) (hp1: -345<=p) (hp2:p<=310)
 (hlp:Hid (lp=lp10 p)) (hl1: -1147<=lp) (hl2:lp<=1030) (hp:Hid (p+348=(i:Int))) (hi696:i<696) (hg:20<w.heap.size)
 (t0:w.cell? ⟨20,i*2,none⟩=some (.int .u64 hi)) (t1:w.cell? ⟨20,i*2+1,none⟩=some (.int .u64 lo))
 (hs:Hid ((s:Int)=61-min 1074 (53-(b:Int)-lp)-b-lp)) (hs64:s<64) (hx:Hid (x=d*2^(64-b))) (hx2:x<18446744073709551616) (hhi:hi<18446744073709551616) (hlo:lo<18446744073709551616) (hpos:Hid (0<x*hi/T64)) (u:Nat) (hu:Hid (u=usc x hi lo s)) (hu63:u<288230376151711744) (ke:Nat)
 (hke:Hid ((ke:Int)=1074-min 1074 (53-(b:Int)-lp))) (hm1:Hid (36028797018963966<=u->rnd2 (u/2|||u%2)<9007199254740992/\4503599627370496<=rnd2 (u/2|||u%2)))
 (hm2:Hid (u<36028797018963966->rnd2 u<9007199254740992/\(ke=0∨4503599627370496<=rnd2 u))):
 Rb 229 #[.int .u64 d,.int .i64 p,.int .u64 0] w (pfR ke u):=by
 go_enter Tryz.func229,Tryz.ntmps229
 go_wp2_with fail
 refine rs (zc3 d b hd hb.out _) ?_
 go_wp2_with fail
 refine rs (zb1 p _ (by omega) (by omega)) ?_
 rw [<-hlp.out]
 go_wp2_with fail
 have he1: -1100<=min 1074 (53-(b:Int)-lp):=by omega
 have he2:min 1074 (53-(b:Int)-lp)<=1074:=by omega
 generalize min 1074 (53-(b:Int)-lp)=e at *
 refine (zcn i hi lo _ (e-(64-(b:Int))) lp p _ hp.out hi696 (by omega) (by omega) (by omega) (by omega) hg (by simp) (by simp) (by simp) (zbn (by omega) t0) (zbn (by omega) t1) (by simp) (by simp) (by simp)).mono ?_
 rintro r w2 ⟨rfl,rfl⟩
 have hss: -(e-(64-(b:Int))+lp+3)=(s:Int):=by have:=hs.out;omega
 have HSS:=hide hss
 rw [hss]
 clear hss
 go_wp2_with fail
 have hxw:IntKind.u64.wrap ((d:Int)*2^(64-b))=(x:Int):=by
  have e1:(d:Int)*2^(64-b)=(x:Int):=by rw [hx.out,Int.natCast_mul,zfs]
  rw [e1,wrap_u64 (by omega) (by omega)]
 rw [hxw]
 refine (zeV x hi lo s _ _ hx2 hhi hlo hs64 hpos.out (by simp) (by simp) (by simp)).mono ?_
 rintro r w2 ⟨rfl,n,rfl⟩
 rw [<-hu.out]
 clear hxw
 by_cases hsh:36028797018963966<=(u:Int)
 ·go_wp2_with fail
  refine rs (zhZ _) ?_
  go_wp2_with fail
  refine rs (Tryz.internal_strconv_bool2_int _ _) ?_
  go_wp2_with fail
  rw [zrJ hu63]
  refine rs (zea (u/2|||u%2) _ (zk9 hu63)) ?_
  have hm:=hm1.out (by omega)
  have HP:Hid (pfR ke u=packR (ke+1) (rnd2 (u/2|||u%2))):=hide (by unfold pfR;rw [if_pos (by omega)])
  generalize rnd2 (u/2|||u%2)=m at *
  obtain ⟨hma,hmb⟩:=hm
  have hz:=zero_or (m:=m) (by omega)
  go_wp2_with fail
  refine rs (zkJ (ke+1) m _ _ _ rfl (by have:=hke.out;omega) hma (.inr hmb)) ?_
  obtain ⟨f,v,hv⟩:=zfT (ke+1) m
  have HV:=hide hv
  rw [hv]
  clear hv
  go_wp2
  go_ret2
  exact ⟨by rw [HP.out,HV.out];rfl,below_drewN ((Below.refl _ _).alloc (Nat.le_refl _) _) _⟩
 go_wp2_with fail
 refine rs (zhZ _) ?_
 go_wp2_with fail
 have hsf:decide ((36028797018963966:Int)<=(u:Int))=false:=decide_eq_false (by omega)
 rw [hsf]
 refine rs (Tryz.internal_strconv_bool2_int false _) ?_
 rw [if_neg (by decide)]
 have Hsh:=hide hsh
 clear hsf hsh
 go_wp2_with fail
 rw [zs7 hu63]
 refine rs (zea u _ (by omega)) ?_
 have hsh:=Hsh.out
 have hm:=hm2.out (by omega)
 have HP:Hid (pfR ke u=packR ke (rnd2 u)):=hide (by unfold pfR;rw [if_neg (by omega)])
 generalize rnd2 u=m at *
 obtain ⟨hma,hmb⟩:=hm
 have Hmb:=hide hmb
 clear hmb
 have hz:=zero_or (m:=m) (by omega)
 go_wp2_with fail
 refine rs (zkJ ke m _ _ _ rfl (by have:=hke.out;omega) hma Hmb.out) ?_
 obtain ⟨f,v,hv⟩:=zfT ke m
 have HV:=hide hv
 rw [hv]
 clear hv
 go_wp2
 go_ret2
 exact ⟨by rw [HP.out,HV.out];rfl,below_drewN ((Below.refl _ _).alloc (Nat.le_refl _) _) _⟩
def pfV (W:Nat):Value:=if W=infW then .tuple #[.float .f64 infW,.iface 149 (.int .i64 1)] else .tuple #[.float .f64 W,.nilIface]
theorem zir (k m:Nat):packR k m=pfV (min (k*4503599627370496+m) infW):=by
 unfold packR pfV
 by_cases h:infW<=k*4503599627370496+m
 ·rw [if_pos h,Nat.min_eq_right h,if_pos rfl]
 rw [if_neg h,Nat.min_eq_left (by omega),if_neg (by omega)]
theorem zrp (A B:Nat):unr A B<=A/B+1:=by rw [zcu];split<;>omega
theorem zso {N D:Nat} (hD:0<D) (U:N*1048576<D*18889447917080071372800):unr (4*N) D<288230376151711744:=by
 have h1:=zrp (4*N) D
 have h2:4*N/D<144115188075855872:=by
  rw [Nat.div_lt_iff_lt_mul hD]
  omega
 omega
theorem PF.tiny {d:Nat} {p:Int} {b s ke c:Nat} (h:PF d p b s ke) (hc:c=1074) (hs:64<=s):2*(d*10^p.toNat*2^c)<10^(-p).toNat:=by
 have hk:ke=0:=by rcases h.hke with hk|hk;exact hk;omega
 have hbal:=h.bal hc
 have hx:=h.x.2
 have hr:=(znQ h.hp1 h.hp2).2
 have hden:0<denT p:=Nat.mul_pos (Nat.pow_pos (by omega)) (Nat.pow_pos (by omega))
 have hS:2^64<=2^s:=Nat.pow_le_pow_right (by omega) hs
 subst hk
 rw [Nat.pow_zero,Nat.mul_one] at hbal
 have hDd:0<10^(-p).toNat:=Nat.pow_pos (by omega)
 generalize d*10^p.toNat*2^c=N at *
 generalize 10^(-p).toNat=D at *
 generalize d*2^(64-b)=x at *
 generalize numT p=a at *
 generalize denT p=q at *
 generalize 2^s=S at *
 clear h hc
 have h1:x*a*1048576<q*(S*T128)*1048576:=by
  have s1:x*(a*1048576)<=x*(q*356811582894123049326108028987766352327475200):=Nat.mul_le_mul_left _ hr
  have s2:x*(q*356811582894123049326108028987766352327475200)<=18446744073709551616*(q*356811582894123049326108028987766352327475200):=Nat.mul_le_mul_right _ (Nat.le_of_lt hx)
  have s3:q*(18446744073709551616*T128)<=q*(S*T128):=Nat.mul_le_mul_left _ (Nat.mul_le_mul_right _ hS)
  rw [Nat.mul_assoc x a]
  refine Nat.lt_of_le_of_lt (Nat.le_trans s1 s2) (Nat.lt_of_lt_of_le ?_ (Nat.mul_le_mul_right _ s3))
  rw [Nat.mul_left_comm,Nat.mul_assoc q]
  exact Nat.mul_lt_mul_of_pos_left (by decide) hden
 have h2:x*a<q*(S*T128):=Nat.lt_of_mul_lt_mul_right h1
 have h3:x*a*D<q*(S*T128)*D:=Nat.mul_lt_mul_of_pos_right h2 hDd
 rw [hbal] at h3
 have h4:q*(S*T128)*(4*N)<q*(S*T128)*D:=by rw [Nat.mul_comm _ (4*N)];exact h3
 have h5:=Nat.lt_of_mul_lt_mul_left h4
 omega
theorem zou (d b i hi lo s:Nat) (p lp:Int) (w:World) (hd:d<18446744073709551616) (hb:Hid (b=Lib.bitLen d)) (hb1:1<=b) (hb2:b<=64) (hp1: -345<=p) (hp2:p<=310)
 (hlp:Hid (lp=lp10 p)) (hl1: -1147<=lp) (hl2:lp<=1030) (hp:Hid (p+348=(i:Int))) (hi696:i<696) (hg:20<w.heap.size)
 (t0:w.cell? ⟨20,i*2,none⟩=some (.int .u64 hi)) (t1:w.cell? ⟨20,i*2+1,none⟩=some (.int .u64 lo))
 (hs:Hid ((s:Int)=61-min 1074 (53-(b:Int)-lp)-b-lp)) (hs64:64<=s):
 Calls Tryz.prog 229 #[.int .u64 d,.int .i64 p,.int .u64 0] w fun r w'=>r=.returned (.tuple #[.float .f64 0,.nilIface])/\Below w.heap.size w w':=by
 have hfb:=zaS
 have hz:bits .or .u64 0 0=0:=zero_or (m:=0) (by omega)
 go_enter Tryz.func229,Tryz.ntmps229
 go_wp2_with fail
 refine (zc3 d b hd hb.out _).mono ?_
 rintro r w1 ⟨rfl,rfl⟩
 go_wp2_with fail
 refine (zb1 p _ (by omega) (by omega)).mono ?_
 rintro r w1 ⟨rfl,rfl⟩
 rw [<-hlp.out]
 go_wp2_with fail
 have he1: -1100<=min 1074 (53-(b:Int)-lp):=by omega
 have he2:min 1074 (53-(b:Int)-lp)<=1074:=by omega
 generalize min 1074 (53-(b:Int)-lp)=e at *
 refine (zcn i hi lo _ (e-(64-(b:Int))) lp p _ hp.out hi696 (by omega) (by omega) (by omega) (by omega) hg (by simp) (by simp) (by simp) (zbn (by omega) t0) (zbn (by omega) t1) (by simp) (by simp) (by simp)).mono ?_
 rintro r w2 ⟨rfl,rfl⟩
 have hss: -(e-(64-(b:Int))+lp+3)=(s:Int):=by have:=hs.out;omega
 rw [hss]
 clear hss
 go_wp2
 go_ret2
 exact ⟨by simp,(Below.refl _ _).alloc (Nat.le_refl _) _⟩
theorem zg3 (d:Nat) (p:Int) (w:World) (hd0:d≠0) (hd:d<18446744073709551616) (hp1: -345<=p) (hp2:p<=310) (hg:20<w.heap.size)
 (t0:w.cell? ⟨20,(p+348).toNat*2,none⟩=some (.int .u64 (rowAt p).1)) (t1:w.cell? ⟨20,(p+348).toNat*2+1,none⟩=some (.int .u64 (rowAt p).2)):
 Calls Tryz.prog 229 #[.int .u64 d,.int .i64 p,.int .u64 0] w fun r w'=>∃ W,r=.returned (pfV W)/\zam d p W/\Below w.heap.size w w':=by
 obtain ⟨b1,b2,b3⟩:=zcO d hd0 hd
 have b4:=zfS d hd0 hd
 obtain ⟨l1,l2⟩:=zld hp1 hp2
 have hrow:=of_decide_eq_true (zjO (p:=p) (by omega) (by omega))
 have hhi:=zkG (p:=p) (by omega) (by omega)
 obtain ⟨r1,r2,_,_,_⟩:=hrow
 generalize hb:Lib.bitLen d=b at *
 generalize hlp:lp10 p=lp at *
 obtain ⟨s,hs⟩:∃ s:Nat,(s:Int)=61-min 1074 (53-(b:Int)-lp)-b-lp:=⟨(61-min 1074 (53-(b:Int)-lp)-b-lp).toNat,by omega⟩
 obtain ⟨ke,hke⟩:∃ ke:Nat,(ke:Int)=1074-min 1074 (53-(b:Int)-lp):=⟨(1074-min 1074 (53-(b:Int)-lp)).toNat,by omega⟩
 have pf:PF d p b s ke:=⟨b4,b2,b3,b1,hp1,hp2,by omega,by rw [hlp];omega,by omega⟩
 have hden:0<10^(-p).toNat:=Nat.pow_pos (by omega)
 by_cases h64:s<64
 ·have hu:=zu0 hp1 hp2 (s:=s) pf.x.1 pf.x.2 pf.hs
  rw [pf.unr rfl] at hu
  have L:=pf.lower rfl
  have U:=pf.upper rfl
  have hpos:0<d*2^(64-b)*(rowAt p).1/T64:=by
   rw [Nat.div_pos_iff]
   refine ⟨by rw [e64];omega,?_⟩
   have:9223372036854775808*9223372036854775808<=d*2^(64-b)*(rowAt p).1:=Nat.mul_le_mul pf.x.1 hhi
   rw [e64];omega
  refine (znA d b (p+348).toNat (rowAt p).1 (rowAt p).2 s (d*2^(64-b)) p lp w hd (hide hb.symm) b1 b4 hp1 hp2 (hide hlp.symm) l1 l2 (hide (by omega)) (by omega) hg t0 t1 (hide hs) h64 (hide rfl) pf.x.2 r1 r2 (hide hpos) _ (hide rfl) ?_ ke (hide hke) (hide ?_) (hide ?_)).mono ?_
  ·rw [hu]
   exact zso (Nat.mul_pos hden (Nat.pow_pos (by omega))) U
  ·intro h
   rw [hu] at h ⊢
   have:=zj4 hden U L h
   exact ⟨this.1,this.2.1⟩
  ·intro h
   rw [hu] at h ⊢
   have:=zj7 hden L h
   exact ⟨this.1,this.2.2⟩
  rintro r w' ⟨rfl,hbel⟩
  unfold pfR
  rw [hu]
  by_cases h:36028797018963966<=unr (4*(d*10^p.toNat*2^1074)) (10^(-p).toNat*2^ke)
  ·rw [if_pos h,zir]
   exact ⟨_,rfl,(zj4 hden U L h).2.2,hbel⟩
  rw [if_neg h,zir]
  exact ⟨_,rfl,(zj7 hden L (Nat.lt_of_not_le h)).2.1,hbel⟩
 refine (zou d b (p+348).toNat (rowAt p).1 (rowAt p).2 s p lp w hd (hide hb.symm) b1 b4 hp1 hp2 (hide hlp.symm) l1 l2 (hide (by omega)) (by omega) hg t0 t1 (hide hs) (by omega)).mono ?_
 have tiny:∀ c,c=1074->IsRnd (d*10^p.toNat*2^c) (10^(-p).toNat) 0:=fun c hc=>zbV (pf.tiny hc (by omega))
 rintro r w' ⟨rfl,hbel⟩
 exact ⟨0,rfl,tiny 1074 rfl,hbel⟩
end Go.Proofs.YtamdnnkdnhkghaaGreatDoor
namespace Go.Proofs.YtamdnnkdnhkghaaGreatDoor
theorem zc1 {A B A' B':Nat} (hB:0<B) (hB':0<B') (h:A*B'=A'*B):rq A B=rq A' B':=by
 rw [<-zes (N:=A) (D:=B) hB',<-zes (N:=A') (D:=B') hB,h,Nat.mul_comm B B']
theorem zft (neg:Bool) (n drop:Nat):Ieee.Toward.even.cut neg n drop=rq n (2^drop):=by
 unfold Ieee.Toward.cut
 have hlt:n<2^(n.log2+1):=Nat.lt_log2_self
 rw [Nat.one_shiftLeft]
 have key:∀ g,(n/g+(decide (g<2*(n%g))||(g==2*(n%g)&&n/g%2==1)).toNat)=rq n g:=by
  intro g
  unfold rq
  congr 1
  by_cases h1:g<2*(n%g)
  ·simp [h1]
  by_cases h2:2*(n%g)=g
  ·by_cases h3:n/g%2=1
   ·simp [h2,h3]
   simp [h2,h3]
  have h2':¬ g=2*(n%g):=fun e=>h2 e.symm
  simp [h1,h2,h2']
 by_cases hd:drop<=n.log2+2
 ·rw [Nat.min_eq_left hd]
  exact key _
 rw [Nat.min_eq_right (by omega)]
 have k1:=key (2^(n.log2+2))
 have small:∀ j,n.log2+2<=j->rq n (2^j)=0:=by
  intro j hj
  have h2:2^(n.log2+2)<=2^j:=Nat.pow_le_pow_right (by omega) hj
  have h3:2^(n.log2+2)=2*2^(n.log2+1):=by rw [Nat.pow_succ];omega
  unfold rq
  rw [Nat.div_eq_of_lt (by omega),Nat.mod_eq_of_lt (by omega),if_neg (by omega)]
 rw [small drop (by omega)]
 rw [small _ (Nat.le_refl _)] at k1
 exact k1
theorem zbk {mag:Nat} {place:Int} (hm:mag≠0) {A B:Nat} (hAB:(A:Int)-B=place+1074):
 IsRnd (mag*2^A) (2^B) (Ieee.double.nearest false mag place):=by
 have hlo:2^mag.log2<=mag:=Nat.log2_self_le hm
 have hhi:mag<2^(mag.log2+1):=Nat.lt_log2_self
 unfold Ieee.Format.nearest
 rw [if_neg hm]
 have lp:Ieee.double.leastPlace= -1074:=by decide
 have fb:(Ieee.double.fractionBits:Int)=52:=rfl
 have bn:Ieee.double.binade=4503599627370496:=by decide
 have ir:Ieee.double.infRung=infW:=by decide
 simp only [lp,fb,bn,ir]
 generalize hlast:max (place+(mag.log2:Int)-52) (-1074)=last
 rw [zft,Nat.shiftLeft_eq]
 unfold Ieee.Format.word
 simp only [Bool.false_eq_true,if_false]
 have p:∀ x:Nat,0<2^x:=fun x=>Nat.pow_pos (by omega)
 obtain ⟨k,hk⟩:∃ k:Nat,(k:Int)=last+1074:=⟨(last+1074).toNat,by omega⟩
 refine ⟨k,?_,?_,?_⟩
 ·
  have h1:mag*2^A<2^(mag.log2+1)*2^A:=Nat.mul_lt_mul_of_pos_right hhi (p A)
  refine Nat.lt_of_lt_of_le h1 ?_
  rw [<-Nat.pow_add,<-Nat.pow_add]
  exact Nat.pow_le_pow_right (by omega) (by omega)
 ·by_cases h0:k=0
  ·left;exact h0
  right
  have h1:2^mag.log2*2^A<=mag*2^A:=Nat.mul_le_mul_right _ hlo
  refine Nat.le_trans ?_ h1
  rw [<-Nat.pow_add,<-Nat.pow_add]
  exact Nat.pow_le_pow_right (by omega) (by omega)
 have e1:(last- -1074).toNat=k:=by omega
 rw [e1]
 have e2:rq (mag*2^(place-last).toNat) (2^(last-place).toNat)=rq (mag*2^A) (2^B*2^k):=by
  refine zc1 (p _) (Nat.mul_pos (p _) (p _)) ?_
  rw [Nat.mul_assoc,Nat.mul_assoc,<-Nat.pow_add,<-Nat.pow_add,<-Nat.pow_add]
  congr 2
  omega
 rw [e2]
theorem zui {A B t:Nat} (hB:0<B) (ht:2<=t):rq (unr A B) (2^t)=rq A (B*2^t):=by
 obtain ⟨h,hh⟩:∃ h,2^t=4*h:=⟨2^(t-2),by
  have:t=2+(t-2):=by omega
  conv=>lhs;rw [this,Nat.pow_add]⟩
 rw [hh]
 have hpos:0<h:=by
  rcases Nat.eq_zero_or_pos h with e|e
  ·subst e;have:=Nat.pow_pos (n:=t) (show 0<2 by omega);omega
  exact e
 have hBh:0<B*(4*h):=Nat.mul_pos hB (by omega)
 have d1:=Nat.div_add_mod A (B*(4*h))
 have d2:=Nat.mod_lt A hBh
 unfold rq
 generalize A/(B*(4*h))=q at *
 generalize A%(B*(4*h))=r at *
 have d3:=Nat.div_add_mod r B
 have d4:=Nat.mod_lt r hB
 generalize hy:r/B=y at *
 generalize hz:r%B=z at *
 have hy4:y<4*h:=by rw [<-hy,Nat.div_lt_iff_lt_mul hB,Nat.mul_comm];exact d2
 have hA:A=B*(4*h*q+y)+z:=by rw [<-d1,<-d3,Nat.mul_add,<-Nat.mul_assoc B (4*h) q];omega
 have e1:A/B=4*h*q+y:=by rw [hA,Nat.mul_add_div hB,Nat.div_eq_of_lt d4];omega
 have e2:A%B=z:=by rw [hA,Nat.mul_add_mod,Nat.mod_eq_of_lt d4]
 have hu:unr A B=4*h*q+(if z=0 then y else y/2*2+1):=by
  rw [zcu,e1,e2]
  have e4:4*h*q=2*(2*h*q):=by grind
  rw [e4]
  split
  ·rfl
  omega
 rw [hu]
 generalize hρ:(if z=0 then y else y/2*2+1)=ρ
 have hρ4:ρ<4*h:=by rw [<-hρ];split<;>omega
 have f1:(4*h*q+ρ)/(4*h)=q:=by rw [Nat.mul_add_div (by omega),Nat.div_eq_of_lt hρ4];omega
 have f2:(4*h*q+ρ)%(4*h)=ρ:=by rw [Nat.mul_add_mod,Nat.mod_eq_of_lt hρ4]
 rw [f1,f2]
 have bh:B*(4*h)=2*(B*(2*h)):=by grind
 have cmpy:∀ c,(B*c<=r↔c<=y):=by
  intro c
  rw [<-hy,Nat.le_div_iff_mul_le hB,Nat.mul_comm]
 have c1:=cmpy (2*h)
 have c2:=cmpy (2*h+1)
 have m1:B*(2*h+1)=B*(2*h)+B:=by rw [Nat.mul_add,Nat.mul_one]
 rw [m1] at c2
 rw [bh]
 have hzz:z=0↔r=B*y:=by omega
 congr 1
 by_cases hlt:y<2*h
 ·have:¬ B*(2*h)<=r:=fun e=>by have:=c1.1 e;omega
  rw [if_neg (by rw [<-hρ];split<;>omega),if_neg (by omega)]
 have hge:B*(2*h)<=r:=c1.2 (by omega)
 by_cases heq:y=2*h
 ·by_cases hz0:z=0
  ·have hr:r=B*(2*h):=by rw [hzz.1 hz0,heq]
   rw [if_pos hz0] at hρ
   have a1:(4*h<2*ρ∨2*ρ=4*h/\q%2=1)↔(2*(B*(2*h))<2*r∨2*r=2*(B*(2*h))/\q%2=1):=by omega
   simp only [a1]
  rw [if_neg hz0] at hρ
  have hr:B*(2*h)<r:=by
   rcases Nat.lt_or_eq_of_le hge with e|e
   ·exact e
   exact absurd (hzz.2 (by rw [<-e,heq])) hz0
  rw [if_pos (by omega),if_pos (by omega)]
 have hr:B*(2*h)<r:=by
  have:=c2.2 (by omega)
  omega
 rw [if_pos (by rw [<-hρ];split<;>omega),if_pos (by omega)]
theorem ziP {m n a b a' b':Nat} (h:m*2^a<n*2^b) (hh:b+a'<=b'+a):m*2^a'<n*2^b':=by
 have p:∀ x:Nat,0<2^x:=fun x=>Nat.pow_pos (by omega)
 have h1:m*2^a*2^a'<n*2^b*2^a':=Nat.mul_lt_mul_of_pos_right h (p a')
 have h2:n*2^b*2^a'<=n*2^b'*2^a:=by
  rw [Nat.mul_assoc,Nat.mul_assoc,<-Nat.pow_add,<-Nat.pow_add]
  exact Nat.mul_le_mul_left _ (Nat.pow_le_pow_right (by omega) hh)
 have h3:m*2^a*2^a'=m*2^a'*2^a:=by rw [Nat.mul_right_comm]
 rw [h3] at h1
 exact Nat.lt_of_mul_lt_mul_right (Nat.lt_of_lt_of_le h1 h2)
theorem ziI {m n a b a' b':Nat} (h:n*2^b<=m*2^a) (hh:b'+a<=b+a'):n*2^b'<=m*2^a':=by
 have p:∀ x:Nat,0<2^x:=fun x=>Nat.pow_pos (by omega)
 have h1:n*2^b*2^a'<=m*2^a*2^a':=Nat.mul_le_mul_right _ h
 have h2:n*2^b'*2^a<=n*2^b*2^a':=by
  rw [Nat.mul_assoc,Nat.mul_assoc,<-Nat.pow_add,<-Nat.pow_add]
  exact Nat.mul_le_mul_left _ (Nat.pow_le_pow_right (by omega) hh)
 have h3:m*2^a*2^a'=m*2^a'*2^a:=by rw [Nat.mul_right_comm]
 rw [h3] at h1
 exact Nat.le_of_mul_le_mul_right (Nat.le_trans h2 h1) (p a)
theorem zrv {x n:Nat} (hn:0<n):2*(x/n)+(x%n !=0).toNat=unr (2*x) n:=by
 have h1:=Nat.div_add_mod x n
 have h2:=Nat.mod_lt x hn
 generalize x/n=q at *
 generalize x%n=r at *
 have e:2*x=n*(2*q)+2*r:=by rw [<-h1];grind
 rw [zcu]
 by_cases hr:r=0
 ·subst hr
  have e1:2*x%n=0:=by rw [e];simp
  have e2:2*x/n=2*q:=by rw [e];simp [Nat.mul_div_cancel_left _ hn]
  rw [if_pos e1,e2];rfl
 have hb:(r !=0).toNat=1:=by simp [hr]
 rw [hb]
 by_cases hlt:2*r<n
 ·have e2:2*x/n=2*q:=by rw [e,Nat.mul_add_div hn,Nat.div_eq_of_lt hlt,Nat.add_zero]
  have e1:2*x%n=2*r:=by rw [e,Nat.mul_add_mod,Nat.mod_eq_of_lt hlt]
  rw [e1,if_neg (by omega),e2];omega
 have e3:2*x=n*(2*q+1)+(2*r-n):=by rw [e,Nat.mul_add n,Nat.mul_one];omega
 have e2:2*x/n=2*q+1:=by rw [e3,Nat.mul_add_div hn,Nat.div_eq_of_lt (by omega)]
 rw [e2]
 split<;>omega
theorem zkB {m n:Nat} {i j:Int} (hm:m≠0) (hn:n≠0) {A B:Nat} (hAB:(A:Int)-B=i-j+1074) {D:Ieee.Datum}
 (hD:Ieee.Datum.quotient 54 (.number false m i) (.number false n j)=some D):IsRnd (m*2^A) (n*2^B) (Ieee.double.write D):=by
 have p:∀ x:Nat,0<2^x:=fun x=>Nat.pow_pos (by omega)
 have hn0:0<n:=Nat.pos_of_ne_zero hn
 unfold Ieee.Datum.quotient at hD
 simp only [hn,if_false,Bool.false_bne] at hD
 have hD':=Option.some.inj hD
 subst hD'
 generalize hmo:54+n.log2-m.log2=more at *
 rw [Nat.shiftLeft_eq,zrv hn0]
 have hmlo:2^m.log2<=m:=Nat.log2_self_le hm
 have hnhi:n<2^(n.log2+1):=Nat.lt_log2_self
 have e9:m*2^(more+1)=2*(m*2^more):=by rw [Nat.pow_succ];grind
 have hfl:2^54<=2*(m*2^more)/n:=by
  rw [Nat.le_div_iff_mul_le hn0]
  have h1:2^54*n<=2^54*2^(n.log2+1):=Nat.mul_le_mul_left _ (Nat.le_of_lt hnhi)
  have h2:2^m.log2*2^more<=m*2^more:=Nat.mul_le_mul_right _ hmlo
  have h3:2^54*2^(n.log2+1)<=2*(2^m.log2*2^more):=by
   have:2*(2^m.log2*2^more)=2^(1+(m.log2+more)):=by rw [Nat.pow_add,Nat.pow_add]
   rw [this,<-Nat.pow_add]
   exact Nat.pow_le_pow_right (by omega) (by omega)
  omega
 have hdm:=Nat.div_add_mod (2*(m*2^more)) n
 have hml:=Nat.mod_lt (2*(m*2^more)) hn0
 have huge:2*(m*2^more)/n<=unr (2*(m*2^more)) n:=by rw [zcu];split<;>omega
 have hmag:unr (2*(m*2^more)) n≠0:=by have:=p 54;omega
 have hL1:2^(unr (2*(m*2^more)) n).log2<=unr (2*(m*2^more)) n:=Nat.log2_self_le hmag
 have hL2:unr (2*(m*2^more)) n<2^((unr (2*(m*2^more)) n).log2+1):=Nat.lt_log2_self
 have hL3:54<=(unr (2*(m*2^more)) n).log2:=(Nat.le_log2 hmag).2 (Nat.le_trans hfl huge)
 have hlow:n*2^(unr (2*(m*2^more)) n).log2<=m*2^(more+1):=by
  have hev:∃ g,2^(unr (2*(m*2^more)) n).log2=2*g:=⟨2^((unr (2*(m*2^more)) n).log2-1),by rw [<-Nat.pow_succ'];congr 1;omega⟩
  obtain ⟨g,hg⟩:=hev
  have hfl2:2^(unr (2*(m*2^more)) n).log2<=2*(m*2^more)/n:=by
   have hv:=zcu (2*(m*2^more)) n
   rw [hg] at hL1 ⊢
   split at hv<;>omega
  have h5:=(Nat.le_div_iff_mul_le hn0).1 hfl2
  rw [Nat.mul_comm] at h5
  rw [e9]
  exact h5
 have hhigh:m*2^(more+1)<n*2^((unr (2*(m*2^more)) n).log2+1):=by
  have h6:2*(m*2^more)<n*(2*(m*2^more)/n+1):=by rw [Nat.mul_add,Nat.mul_one];omega
  have h7:n*(2*(m*2^more)/n+1)<=n*2^((unr (2*(m*2^more)) n).log2+1):=Nat.mul_le_mul_left _ (by omega)
  rw [e9]
  exact Nat.lt_of_lt_of_le h6 h7
 have hrq:=fun t (ht:2<=t)=>zui (A:=2*(m*2^more)) (B:=n) (t:=t) hn0 ht
 generalize unr (2*(m*2^more)) n=U at *
 show IsRnd (m*2^A) (n*2^B) (Ieee.double.nearest false U (i-j-more-1))
 unfold Ieee.Format.nearest
 rw [if_neg hmag]
 have lp:Ieee.double.leastPlace= -1074:=by decide
 have fb:(Ieee.double.fractionBits:Int)=52:=rfl
 have bn:Ieee.double.binade=4503599627370496:=by decide
 have ir:Ieee.double.infRung=infW:=by decide
 simp only [lp,fb,bn,ir]
 generalize hlast:max (i-j-(more:Int)-1+(U.log2:Int)-52) (-1074)=last
 rw [zft,Nat.shiftLeft_eq]
 unfold Ieee.Format.word
 simp only [Bool.false_eq_true,if_false]
 obtain ⟨k,hk⟩:∃ k:Nat,(k:Int)=last+1074:=⟨(last+1074).toNat,by omega⟩
 have e0:(i-j-(more:Int)-1-last).toNat=0:=by omega
 have e1:(last- -1074).toNat=k:=by omega
 rw [e0,e1,Nat.pow_zero,Nat.mul_one,hrq _ (by omega)]
 refine ⟨k,?_,?_,?_⟩
 ·rw [Nat.mul_assoc,<-Nat.pow_add]
  exact ziP hhigh (by omega)
 ·by_cases h0:k=0
  ·left;exact h0
  right
  rw [Nat.mul_assoc,<-Nat.pow_add]
  exact ziI hlow (by omega)
 congr 2
 refine zc1 (Nat.mul_pos hn0 (p _)) (Nat.mul_pos (Nat.mul_pos hn0 (p _)) (p _)) ?_
 have e2:2*(m*2^more)*(n*2^B*2^k)=m*n*2^(1+more+B+k):=by
  rw [Nat.pow_add,Nat.pow_add,Nat.pow_add];grind
 have e3:m*2^A*(n*2^(last-(i-j-(more:Int)-1)).toNat)=m*n*2^(A+(last-(i-j-(more:Int)-1)).toNat):=by
  rw [Nat.pow_add];grind
 rw [e2,e3]
 congr 2
 omega
theorem dbl_lp:Ieee.double.leastPlace= -1074:=by decide
theorem dbl_bn:Ieee.double.binade=4503599627370496:=by decide
theorem dbl_ir:Ieee.double.infRung=infW:=by decide
theorem dbl_sw:Ieee.double.signWeight=9223372036854775808:=by decide
theorem zbO {k q:Nat} (hq:q<9007199254740992) (hk:k=0∨4503599627370496<=q) (hw:k*4503599627370496+q<infW):
 Ieee.double.read (k*4503599627370496+q)=.number false q ((k:Int)-1074):=by
 unfold Ieee.Format.read
 rw [dbl_sw,dbl_bn,dbl_ir,dbl_lp]
 unfold infW at hw ⊢
 have h1:(k*4503599627370496+q)%9223372036854775808=k*4503599627370496+q:=Nat.mod_eq_of_lt (by omega)
 have h2:(k*4503599627370496+q)/9223372036854775808=0:=Nat.div_eq_of_lt (by omega)
 simp only [h1,h2]
 by_cases hs:k*4503599627370496+q<4503599627370496
 ·rw [if_pos hs]
  have hk0:k=0:=by omega
  subst hk0
  simp
 rw [if_neg hs,if_pos hw]
 have e1:(k*4503599627370496+q)/4503599627370496=k+q/4503599627370496:=by
  rw [Nat.add_comm,Nat.add_mul_div_right _ _ (by omega),Nat.add_comm]
 have e2:(k*4503599627370496+q)%4503599627370496=q%4503599627370496:=by
  rw [Nat.add_comm,Nat.add_mul_mod_self_right]
 have e3:q/4503599627370496=1:=by omega
 have e4:4503599627370496+q%4503599627370496=q:=by omega
 rw [e1,e2,e3,e4]
 simp
 omega
theorem zhD {d:Nat} (h0:d≠0) (h:d<9007199254740992):∃ (q g:Nat),Ieee.double.read (Ieee.double.nearest false d 0)=.number false q (-(g:Int))/\q=d*2^g/\g<=52:=by
 have hlo:2^d.log2<=d:=Nat.log2_self_le h0
 have hhi:d<2^(d.log2+1):=Nat.lt_log2_self
 have hL:d.log2<=52:=by
  have:2^d.log2<2^53:=Nat.lt_of_le_of_lt hlo h
  have:=(Nat.pow_lt_pow_iff_right (by omega)).1 this
  omega
 have hnear:Ieee.double.nearest false d 0=(1022+d.log2)*4503599627370496+d*2^(52-d.log2):=by
  unfold Ieee.Format.nearest
  rw [if_neg h0]
  have fb:(Ieee.double.fractionBits:Int)=52:=rfl
  simp only [dbl_lp,fb,dbl_bn,dbl_ir]
  have hlast:max ((0:Int)+(d.log2:Int)-52) (-1074)=(d.log2:Int)-52:=by omega
  rw [hlast,zft,Nat.shiftLeft_eq]
  unfold Ieee.Format.word
  simp only [Bool.false_eq_true,if_false]
  have e1:((d.log2:Int)-52- -1074).toNat=1022+d.log2:=by omega
  have e2:((0:Int)-((d.log2:Int)-52)).toNat=52-d.log2:=by omega
  have e3:((d.log2:Int)-52-0).toNat=0:=by omega
  rw [e1,e2,e3]
  have e4:rq (d*2^(52-d.log2)) (2^0)=d*2^(52-d.log2):=by
   unfold rq
   rw [Nat.pow_zero,Nat.div_one,Nat.mod_one]
   simp
  rw [e4]
  have hb:d*2^(52-d.log2)<9007199254740992:=by
   have:d*2^(52-d.log2)<2^(d.log2+1)*2^(52-d.log2):=Nat.mul_lt_mul_of_pos_right hhi (Nat.pow_pos (by omega))
   rw [<-Nat.pow_add,show d.log2+1+(52-d.log2)=53 by omega] at this
   exact this
  rw [Nat.min_eq_left (by unfold infW;omega)]
 have hb:d*2^(52-d.log2)<9007199254740992:=by
  have:d*2^(52-d.log2)<2^(d.log2+1)*2^(52-d.log2):=Nat.mul_lt_mul_of_pos_right hhi (Nat.pow_pos (by omega))
  rw [<-Nat.pow_add,show d.log2+1+(52-d.log2)=53 by omega] at this
  exact this
 have hb2:4503599627370496<=d*2^(52-d.log2):=by
  have:2^d.log2*2^(52-d.log2)<=d*2^(52-d.log2):=Nat.mul_le_mul_right _ hlo
  rw [<-Nat.pow_add,show d.log2+(52-d.log2)=52 by omega] at this
  exact this
 rw [hnear]
 refine ⟨d*2^(52-d.log2),52-d.log2,?_,rfl,by omega⟩
 rw [zbO hb (.inr hb2) (by unfold infW;omega)]
 congr 1
 omega
theorem ztd {x y q1 q2:Nat} {i1 i2:Int} (hx:Ieee.double.read x=.number false q1 i1) (hy:Ieee.double.read y=.number false q2 i2) (h1:q1≠0) (h2:q2≠0) {A B:Nat} (hAB:(A:Int)-B=i1+i2+1074):
 ∃ r,Ieee.double.mul x y=some r/\IsRnd (q1*q2*2^A) (2^B) r:=by
 unfold Ieee.Format.mul
 rw [hx,hy]
 refine ⟨_,rfl,?_⟩
 show IsRnd (q1*q2*2^A) (2^B) (Ieee.double.nearest (false^^false) (q1*q2) (i1+i2))
 exact zbk (Nat.mul_ne_zero h1 h2) hAB
theorem zts {x y q1 q2:Nat} {i1 i2:Int} (hx:Ieee.double.read x=.number false q1 i1) (hy:Ieee.double.read y=.number false q2 i2) (h1:q1≠0) (h2:q2≠0) {A B:Nat} (hAB:(A:Int)-B=i1-i2+1074):
 ∃ r,Ieee.double.div x y=some r/\IsRnd (q1*2^A) (q2*2^B) r:=by
 unfold Ieee.Format.div
 rw [hx,hy]
 have hq:∃ D,Ieee.Datum.quotient 54 (.number false q1 i1) (.number false q2 i2)=some D:=by
  unfold Ieee.Datum.quotient
  simp only [h2,if_false]
  exact ⟨_,rfl⟩
 obtain ⟨D,hD⟩:=hq
 refine ⟨Ieee.double.write D,?_,zkB h1 h2 hAB hD⟩
 have:Ieee.double.fractionBits+2=54:=rfl
 rw [this,hD]
 rfl
def zcR (x v:Nat):Prop:=∃ (q:Nat) (i:Int),Ieee.double.read x=.number false q i/\ -60<=i/\i<=60/\q*2^(i+60).toNat=v*2^60/\q≠0
theorem ziE {d:Nat} (h0:d≠0) (h:d<9007199254740992):zcR (Ieee.double.nearest false d 0) d:=by
 obtain ⟨q,g,hr,hq,hg⟩:=zhD h0 h
 refine ⟨q,-(g:Int),hr,by omega,by omega,?_,?_⟩
 ·rw [hq,Nat.mul_assoc,<-Nat.pow_add]
  congr 2
  omega
 rw [hq];exact Nat.mul_ne_zero h0 (Nat.pos_iff_ne_zero.1 (Nat.pow_pos (by omega)))
def pow10Words:List Nat:=[4607182418800017408,4621819117588971520,4636737291354636288,4652007308841189376,4666723172467343360,4681608360884174848,4696837146684686336,4711630319722168320,4726483295884279808,4741671816366391296,4756540486875873280,4771362005757984768,4786511204640096256,4801453603149578240,4816244402031689728,4831355200913801216,4846369599423283200,4861130398305394688,4876203697187506176,4891288408196988160,4906019910204099648,4921056587992461136,4936209963552724370]
def zl0 (x v:Nat):Bool:=match Ieee.double.read x with
 | .number false q i=>decide (-60<=i/\i<=60/\q*2^(i+60).toNat=v*2^60/\q≠0)
 |_=>false
theorem znG {x v:Nat} (h:zl0 x v=true):zcR x v:=by
 unfold zl0 at h
 split at h
 ·rename_i q i hr
  have:=of_decide_eq_true h
  exact ⟨q,i,hr,this.1,this.2.1,this.2.2.1,this.2.2.2⟩
 cases h
theorem pow10_whole:∀ k:Fin 23,zl0 (pow10Words.getD k.val 0) (10^k.val)=true:=by decide+kernel
theorem zcE {x y v u:Nat} (hx:zcR x v) (hy:zcR y u) {c:Nat} (hc:c=1074):∃ r,Ieee.double.mul x y=some r/\IsRnd (v*u*2^c) 1 r:=by
 obtain ⟨q1,i1,r1,a1,b1,e1,n1⟩:=hx
 obtain ⟨q2,i2,r2,a2,b2,e2,n2⟩:=hy
 obtain ⟨r,hr,hrnd⟩:=ztd r1 r2 n1 n2 (A:=(i1+i2+1074).toNat) (B:=0) (by omega)
 refine ⟨r,hr,?_⟩
 rw [Nat.pow_zero] at hrnd
 have e:q1*q2*2^(i1+i2+1074).toNat=v*u*2^c:=by
  obtain ⟨n9,h9⟩:∃ n9:Nat,n9=954:=⟨_,rfl⟩
  have h1:(i1+i2+1074).toNat=(i1+60).toNat+(i2+60).toNat+n9:=by omega
  have h2:c=60+60+n9:=by omega
  clear h9 hrnd hc
  subst h2
  rw [h1,Nat.pow_add,Nat.pow_add,Nat.pow_add (2:Nat) (60+60),Nat.pow_add]
  generalize 2^n9=z
  calc q1*q2*(2^(i1+60).toNat*2^(i2+60).toNat*z)=(q1*2^(i1+60).toNat)*(q2*2^(i2+60).toNat)*z:=by grind
   _=(v*2^60)*(u*2^60)*z:=by rw [e1,e2]
   _=_:=by grind
 rw [e] at hrnd
 exact hrnd
theorem ziY {x y v u:Nat} (hx:zcR x v) (hy:zcR y u) {c:Nat} (hc:c=1074):∃ r,Ieee.double.div x y=some r/\IsRnd (v*2^c) u r:=by
 obtain ⟨q1,i1,r1,a1,b1,e1,n1⟩:=hx
 obtain ⟨q2,i2,r2,a2,b2,e2,n2⟩:=hy
 obtain ⟨r,hr,hrnd⟩:=zts r1 r2 n1 n2 (A:=(i1-i2+1074).toNat) (B:=0) (by omega)
 refine ⟨r,hr,?_⟩
 rw [Nat.pow_zero,Nat.mul_one] at hrnd
 rw [<-IsRnd.scale (c:=2^(i2+60).toNat) (Nat.pow_pos (by omega)),e2] at hrnd
 have e:q1*2^(i1-i2+1074).toNat*2^(i2+60).toNat=v*2^c*2^60:=by
  have h1:(i1-i2+1074).toNat+(i2+60).toNat=(i1+60).toNat+c:=by omega
  clear hc hrnd
  rw [Nat.mul_assoc,<-Nat.pow_add,h1,Nat.pow_add,<-Nat.mul_assoc,e1]
  generalize 2^c=z
  grind
 rw [e] at hrnd
 exact (IsRnd.scale (Nat.pow_pos (by omega))).1 hrnd
end Go.Proofs.YtamdnnkdnhkghaaGreatDoor
namespace Go.Proofs.YtamdnnkdnhkghaaGreatDoor
open Go Go.RowKit
theorem zma (d:Nat) (z p:Int) (w:World) (hz:Hid (z=(d:Int))) (h0:0<=z) (h1:z<18446744073709551616) (hbig:4503599627370496<=z) (m0:w.cell? ⟨14,0,none⟩=some (.int .u64 52)):
 Rs 228 #[.int .u64 z,.int .i64 p,.bool false] w (.tuple #[.float .f64 0,.bool false]):=by
 have hne:(z/4503599627370496 !=0)=true:=by rw [bne_iff_ne];omega
 go_enter Tryz.func228,Tryz.ntmps228
 go_wp2
 go_ret2
 exact ⟨rfl,rfl⟩
theorem zkO (d f:Nat) (z:Int) (w:World) (hz:Hid (z=(d:Int))) (h0:0<=z) (hs:z<4503599627370496) (m0:w.cell? ⟨14,0,none⟩=some (.int .u64 52)) (hf:floatOfInt .f64 z=f):
 Rs 228 #[.int .u64 z,.int .i64 0,.bool false] w (.tuple #[.float .f64 f,.bool true]):=by
 have hne:(z/4503599627370496 !=0)=false:=by rw [bne_eq_false_iff_eq];omega
 go_enter Tryz.func228,Tryz.ntmps228
 go_wp2
 go_ret2
 exact ⟨rfl,rfl⟩
theorem zmM (d f g r k G o:Nat) (z:Int) (w:World) (hz:Hid (z=(d:Int))) (h0:0<=z) (hs:z<4503599627370496) (m0:w.cell? ⟨14,0,none⟩=some (.int .u64 52)) (hf:floatOfInt .f64 z=f)
 (k1:1<=k) (k2:k<=22) (sl:w.cell? ⟨19,0,none⟩=some (.slice (some ⟨G,o,none⟩) 23 23)) (tb:w.cell? ⟨G,o+k,none⟩=some (.float .f64 g)) (hq:floatBits .quo .f64 f g=some r):
 Rs 228 #[.int .u64 z,.int .i64 (-(k:Int)),.bool false] w (.tuple #[.float .f64 r,.bool true]):=by
 have hne:(z/4503599627370496 !=0)=false:=by rw [bne_eq_false_iff_eq];omega
 have hk0:(-(k:Int)==0)=false:=by rw [beq_eq_false_iff_ne];omega
 have hd:=fun (w:World)=>run_float_arith (P:=Tryz.prog) w .quo 45 .f64 f g r hq
 clear hq
 go_enter Tryz.func228,Tryz.ntmps228
 go_wp2
 go_ret2
 exact ⟨rfl,rfl⟩
def OkIs (r:Nat) (e:Ending):Prop:=∃ f ok,e=.returned (.tuple #[.float .f64 f,.bool ok])/\(ok=true->f=r)
theorem zn0 {r:Nat} {e:Ending} (f:Nat) (h:e=.returned (.tuple #[.float .f64 f,.bool false])):OkIs r e:=⟨f,false,h,fun h=>by cases h⟩
theorem zjN {r:Nat} {e:Ending} (h:e=.returned (.tuple #[.float .f64 r,.bool true])):OkIs r e:=⟨r,true,h,fun _=>rfl⟩
theorem zot (d f g r k G o:Nat) (z:Int) (w:World) (hz:Hid (z=(d:Int))) (h0:0<=z) (hs:z<4503599627370496) (m0:w.cell? ⟨14,0,none⟩=some (.int .u64 52)) (hf:floatOfInt .f64 z=f)
 (k1:1<=k) (k2:k<=22) (sl:w.cell? ⟨19,0,none⟩=some (.slice (some ⟨G,o,none⟩) 23 23)) (tb:w.cell? ⟨G,o+k,none⟩=some (.float .f64 g)) (hq:floatBits .mul .f64 f g=some r):
 Calls Tryz.prog 228 #[.int .u64 z,.int .i64 (k:Int),.bool false] w fun e w'=>OkIs r e/\w'=w:=by
 have hne:(z/4503599627370496 !=0)=false:=by rw [bne_eq_false_iff_eq];omega
 have hk0:((k:Int)==0)=false:=by rw [beq_eq_false_iff_ne];omega
 have hd:=fun (w:World)=>run_float_arith (P:=Tryz.prog) w .mul 45 .f64 f g r hq
 clear hq
 go_enter Tryz.func228,Tryz.ntmps228
 go_wp2
 all_goals go_ret2
 all_goals first
  |exact ⟨zn0 f rfl,rfl⟩
  |exact ⟨zjN rfl,rfl⟩
theorem zh7 (d f g1 r1 k G o:Nat) (z:Int) (w:World) (hz:Hid (z=(d:Int))) (h0:0<=z) (hs:z<4503599627370496) (m0:w.cell? ⟨14,0,none⟩=some (.int .u64 52)) (hf:floatOfInt .f64 z=f)
 (k1:23<=k) (k2:k<=37) (sl:w.cell? ⟨19,0,none⟩=some (.slice (some ⟨G,o,none⟩) 23 23)) (tb1:w.cell? ⟨G,o+(k-22),none⟩=some (.float .f64 g1))
 (hq1:floatBits .mul .f64 f g1=some r1) (ho:FloatKind.f64.format.order r1 4831355200913801216=some .gt):
 Rs 228 #[.int .u64 z,.int .i64 (k:Int),.bool false] w (.tuple #[.float .f64 r1,.bool false]):=by
 have hne:(z/4503599627370496 !=0)=false:=by rw [bne_eq_false_iff_eq];omega
 have hk0:((k:Int)==0)=false:=by rw [beq_eq_false_iff_ne];omega
 have hd1:=fun (w:World)=>run_float_arith (P:=Tryz.prog) w .mul 45 .f64 f g1 r1 hq1
 clear hq1
 have hob:(FloatKind.f64.format.order r1 4831355200913801216==some .gt)=true:=by rw [ho];rfl
 go_enter Tryz.func228,Tryz.ntmps228
 go_wp2
 all_goals go_ret2
 all_goals exact ⟨rfl,rfl⟩
theorem znT (d f g1 r1 k G o:Nat) (z:Int) (w:World) (hz:Hid (z=(d:Int))) (h0:0<=z) (hs:z<4503599627370496) (m0:w.cell? ⟨14,0,none⟩=some (.int .u64 52)) (hf:floatOfInt .f64 z=f)
 (k1:23<=k) (k2:k<=37) (sl:w.cell? ⟨19,0,none⟩=some (.slice (some ⟨G,o,none⟩) 23 23)) (tb1:w.cell? ⟨G,o+(k-22),none⟩=some (.float .f64 g1))
 (hq1:floatBits .mul .f64 f g1=some r1) (g2 r2:Nat) (tb2:w.cell? ⟨G,o+22,none⟩=some (.float .f64 g2)) (ho:¬ FloatKind.f64.format.order r1 4831355200913801216=some .gt) (hq2:floatBits .mul .f64 r1 g2=some r2):
 Calls Tryz.prog 228 #[.int .u64 z,.int .i64 (k:Int),.bool false] w fun e w'=>OkIs r2 e/\w'=w:=by
 have hne:(z/4503599627370496 !=0)=false:=by rw [bne_eq_false_iff_eq];omega
 have hk0:((k:Int)==0)=false:=by rw [beq_eq_false_iff_ne];omega
 have hd1:=fun (w:World)=>run_float_arith (P:=Tryz.prog) w .mul 45 .f64 f g1 r1 hq1
 clear hq1
 have hob:(FloatKind.f64.format.order r1 4831355200913801216==some .gt)=false:=by rw [beq_eq_false_iff_ne];exact ho
 have hd2:=fun (w:World)=>run_float_arith (P:=Tryz.prog) w .mul 45 .f64 r1 g2 r2 hq2
 clear hq2
 go_enter Tryz.func228,Tryz.ntmps228
 go_wp2
 all_goals go_ret2
 all_goals first
  |exact ⟨zn0 r1 rfl,rfl⟩
  |exact ⟨zjN rfl,rfl⟩
theorem zlU (d f:Nat) (z p:Int) (w:World) (hz:Hid (z=(d:Int))) (h0:0<=z) (hs:z<4503599627370496) (m0:w.cell? ⟨14,0,none⟩=some (.int .u64 52)) (hf:floatOfInt .f64 z=f)
 (hp:37<p∨p< -22):
 Rs 228 #[.int .u64 z,.int .i64 p,.bool false] w (.tuple #[.float .f64 f,.bool false]):=by
 have hne:(z/4503599627370496 !=0)=false:=by rw [bne_eq_false_iff_eq];omega
 have hk0:(p==0)=false:=by rw [beq_eq_false_iff_ne];omega
 rcases hp with hp|hp
 all_goals go_enter Tryz.func228,Tryz.ntmps228
 all_goals go_wp2
 all_goals go_ret2
 all_goals exact ⟨rfl,rfl⟩
end Go.Proofs.YtamdnnkdnhkghaaGreatDoor
namespace Go.Proofs.YtamdnnkdnhkghaaGreatDoor
theorem zsT {N d W a:Nat} (hd:0<d) (ha:a<=2096) (h:N<d*2^a) (hw:IsRnd N d W):W<infW:=by
 obtain ⟨k,h1,h2,h3⟩:=hw
 have hD:0<d*2^k:=Nat.mul_pos hd (Nat.pow_pos (by omega))
 have hk:k<=2043:=by
  rcases h2 with h2|h2
  ·rw [h2];exact Nat.zero_le _
  have h4:d*2^(52+k)<d*2^a:=Nat.lt_of_le_of_lt h2 h
  have h5:2^(52+k)<2^a:=Nat.lt_of_mul_lt_mul_left h4
  have h6:=(Nat.pow_lt_pow_iff_right (show 1<2 from Nat.lt_succ_self 1)).1 h5
  clear h h1 h2 h3 h4 h5 hD
  omega
 clear h
 have hq:rq N (d*2^k)<=9007199254740992:=by
  refine rq_le hD ?_
  have e:d*2^(53+k)=d*2^k*9007199254740992:=by rw [Nat.pow_add,Nat.mul_comm (2^53),<-Nat.mul_assoc]
  rw [e] at h1
  exact Nat.le_of_lt h1
 rw [h3]
 generalize rq N (d*2^k)=q at *
 clear h1 h2 h3 hD
 unfold infW
 omega
theorem zh2 {v r c:Nat} (h0:v≠0) (hv:v<9007199254740992) (hc:c=1074) (h:IsRnd (v*2^c) 1 r):zcR r v:=by
 have h2:=zbk (mag:=v) (place:=0) h0 (A:=c) (B:=0) (by omega)
 rw [Nat.pow_zero] at h2
 rw [IsRnd.unique h h2]
 exact ziE h0 hv
theorem read_1e15:Ieee.double.read 4831355200913801216=.number false 8000000000000000 (-3):=by decide+kernel
theorem ztu {X Y:Nat} (h:Y<X):some (compare (X:Int) (Y:Int))=some Ordering.gt:=by
 have:compare (X:Int) (Y:Int)=.gt:=by
  show compareOfLessAndEq (X:Int) (Y:Int)=.gt
  unfold compareOfLessAndEq
  rw [if_neg (by omega),if_neg (by omega)]
 rw [this]
theorem zqO {v r c:Nat} (hv:9007199254740992<=v) (hc:c=1074) (h:IsRnd (v*2^c) 1 r):Ieee.double.order r 4831355200913801216=some .gt:=by
 obtain ⟨k,h1,h2,h3⟩:=h
 rw [Nat.one_mul] at h1 h2
 have hk:1075<=k:=by
  have h4:2^(53+c)<2^(53+k):=by
   refine Nat.lt_of_le_of_lt ?_ h1
   rw [Nat.pow_add]
   exact Nat.mul_le_mul_right _ hv
  have h6:=(Nat.pow_lt_pow_iff_right (show 1<2 from Nat.lt_succ_self 1)).1 h4
  clear h1 h2 h3 h4
  omega
 have hlow:2^(52+k)<=v*2^c:=by
  rcases h2 with h2|h2
  ·clear h1 h3;omega
  exact h2
 have hD:0<1*2^k:=Nat.mul_pos (by omega) (Nat.pow_pos (by omega))
 have hq1:4503599627370496<=rq (v*2^c) (1*2^k):=by
  refine zgQ hD ?_
  rw [Nat.one_mul]
  have e:2^(52+k)=2^k*4503599627370496:=by rw [Nat.pow_add,Nat.mul_comm]
  rw [e] at hlow
  exact hlow
 have hq2:rq (v*2^c) (1*2^k)<=9007199254740992:=by
  refine rq_le hD ?_
  rw [Nat.one_mul]
  have e:2^(53+k)=2^k*9007199254740992:=by rw [Nat.pow_add,Nat.mul_comm]
  rw [e] at h1
  exact Nat.le_of_lt h1
 generalize rq (v*2^c) (1*2^k)=q at *
 clear h1 h2 hlow hD
 unfold Ieee.Format.order
 rw [read_1e15]
 have big:∀ (k q:Nat),1075<=k->4503599627370496<=q->q<9007199254740992->k*4503599627370496+q<infW->
  Ieee.Datum.order (Ieee.double.read (k*4503599627370496+q)) (.number false 8000000000000000 (-3))=some .gt:=by
  intro k q hk hq1 hq2 hw
  rw [zbO hq2 (.inr hq1) hw]
  unfold Ieee.Datum.order
  have hmin:min ((k:Int)-1074) (-3)= -3:=by omega
  simp only [hmin]
  have e1:((-3:Int)- -3).toNat=0:=by decide
  rw [e1]
  unfold Ieee.signed
  simp only [Bool.false_eq_true,if_false]
  rw [Nat.shiftLeft_eq,Nat.shiftLeft_zero]
  have hp:1<=2^((k:Int)-1074- -3).toNat:=Nat.one_le_two_pow
  have h2:2^1<=2^((k:Int)-1074- -3).toNat:=Nat.pow_le_pow_right (by omega) (by omega)
  have h3:q*2<=q*2^((k:Int)-1074- -3).toNat:=Nat.mul_le_mul_left _ h2
  generalize q*2^((k:Int)-1074- -3).toNat=X at *
  exact ztu (by omega)
 by_cases hinf:infW<=k*4503599627370496+q
 ·rw [h3,Nat.min_eq_right hinf]
  have:Ieee.double.read infW=.infinity false:=by decide+kernel
  rw [this]
  rfl
 rw [h3,Nat.min_eq_left (by omega)]
 by_cases hq3:q<9007199254740992
 ·exact big k q hk hq1 hq3 (by omega)
 have hq4:q=9007199254740992:=by omega
 subst hq4
 have e:k*4503599627370496+9007199254740992=(k+1)*4503599627370496+4503599627370496:=by omega
 rw [e]
 exact big (k+1) 4503599627370496 (by omega) (by omega) (by omega) (by omega)
end Go.Proofs.YtamdnnkdnhkghaaGreatDoor
