import Derived.Test.YtjibjahfbblieaaGreatDoorKP1F4a
import Derived.Test.YtjibjahfbblieaaGreatDoorKP1F4b
import Derived.Test.YtjibjahfbblieaaGreatDoorKP1G2a
import Derived.Test.YtjibjahfbblieaaGreatDoorKP1G2b
import Derived.Test.YtjibjahfbblieaaGreatDoorKP1G8
import Derived.WalkMore
import Derived.ScopeJumps
import Derived.Laws.Bits128
import Derived.Test.YtjibjahfbblieaaGreatDoorKMK3
import Derived.Laws.BitsAllLaws
import Derived.Lib.Strings
import Derived.BigRegion
namespace Go.Proofs.YtjibjahfbblieaaGreatDoor.F
open Go Go.RowKit
set_option linter.unusedVariables false
theorem Jo (g G o nd k:Nat) (D:Nat->Int) (dp:Int) (tr:Bool) (w:World) (h:DecAt w g D nd dp tr) (hC:Cheats w G o) (hN:Norm D nd) (hnd0:nd≠0) (hk1:1<=k) (hk:k<=60) (hdp1: -100000<=dp) (hdp2:dp<=100000):
 Calls Tryz.prog 238 #[.pointer (some ⟨g,0,none⟩),.int .u64 k] w fun e w'=>ShR (dv D nd*2^k) (dp-nd) tr g w e w':=by
 have hr:=EO ⟨k,by omega⟩
 unfold JK at hr
 rw [decide_eq_true_eq] at hr
 obtain ⟨r1,r2,r3,r4,r5,r6,r7,r8,r9⟩:=hr hk1
 simp only at r1 r2 r3 r4 r5 r6 r7 r8 r9
 obtain ⟨s,hs1,hs2⟩:=hC.cut k (by omega)
 obtain ⟨hs3,hs4⟩:=Io hs2
 have hd:=hC.delta k (by omega)
 have hok:dh (sb s) s.size:=fun i hi=>by rw [hs4 i hi];exact r8 i (by omega)
 have hlast:sb s (s.size-1)≠48:=by rw [hs4 _ (by omega),hs3];exact r9
 have h5:dv (sb s) s.size=5^k:=by rw [jO hs4,hs3];exact r5
 have hdig:=wZ r6 r7 r3 r2 (pV hN.ok hnd0 (hN.head hnd0)) (uo hN.ok) hnd0
 cases hb:yI D nd s with
 |true=>
  have hlt:dv D nd*10^s.size<dv (sb s) s.size*10^nd:=by
   have:=hb;unfold yI at this;rwa [decide_eq_true_eq] at this
  rw [h5,hs3] at hlt
  have hd2:=hdig.1 hlt
  refine Na g G o nd k (nd+(k-(aN k).2.length)) (k-(aN k).2.length) D dp tr s w h hC.slice ?_ hs1 hN hnd0 hk1 hk hdp1 hdp2 (by omega) hok hlast (by omega) hb (hide rfl) hd2.1 hd2.2
  rw [hd];congr 2;omega
 |false=>
  have hge:¬ dv D nd*10^s.size<dv (sb s) s.size*10^nd:=by
   have:=hb;unfold yI at this;rwa [decide_eq_false_iff_not] at this
  rw [h5,hs3] at hge
  have hd2:=hdig.2 (by omega)
  refine OD g G o nd k (nd+(k-(aN k).2.length+1)) (k-(aN k).2.length+1) D dp tr s w h hC.slice ?_ hs1 hN hnd0 hk1 hk hdp1 hdp2 (by omega) hok hlast (by omega) hb (hide rfl) hd2.1 hd2.2
  rw [hd];congr 2;omega
theorem Fw (g nd k:Nat) (D:Nat->Int) (dp:Int) (tr:Bool) (w:World) (h:DecAt w g D nd dp tr) (hN:Norm D nd) (hnd0:nd≠0) (hk1:1<=k) (hk:k<=60) (hdp1: -100000<=dp) (hdp2:dp<=100000):
 Calls Tryz.prog 239 #[.pointer (some ⟨g,0,none⟩),.int .u64 k] w fun e w'=>ShR (dv D nd*5^k) (dp-nd-k) tr g w e w':=by
 rcases Nat.lt_or_ge (dv D nd) (2^k) with c|c
 ·exact Lm g nd k D dp tr w h hN hnd0 hk1 hk hdp1 hdp2 (hide c)
 ·exact Li g nd k D dp tr w h hN hnd0 hk1 hk hdp1 hdp2 (hide c)
theorem Cheats.below {w w':World} {g G o:Nat} (h:Cheats w G o) (hb:Below g w w') (h12:18<g) (hG:G<g):Cheats w' G o:=by
 have hc:∀ i,w'.cell? ⟨G,i,none⟩=w.cell? ⟨G,i,none⟩:=fun i=>hb.cell hG
 refine ⟨Nat.lt_of_lt_of_le h.size hb.size,Nat.lt_of_lt_of_le h.hG hb.size,(hb.cell (by show 15<g;omega)).trans h.slice,fun k hk=>(hc _).trans (h.delta k hk),fun k hk=>?_⟩
 obtain ⟨s,h1,h2⟩:=h.cut k hk
 exact ⟨s,(hc _).trans h1,h2⟩
def Qn (A B Q g:Nat) (w:World) (e:Ending) (w':World):Prop:=
 e=.returned (.tuple #[])/\∃ D nd dp tr,DecAt w' g D (nd:Nat) dp tr/\FB A B Q D nd dp tr/\D (nd-1)≠48/\Below g w w'
theorem Km {A B Q Q' b g G o nd k:Nat} {D:Nat->Int} {dp:Int} {tr:Bool} {w:World} (h:DecAt w g D nd dp tr) (hC:Cheats w G o) (hF:FB A B Q D nd dp tr) (hk1:1<=k) (hk:k<=60) (hQ':Q'+k<=Q∨(B ∣ A*10^Q/\Q'=Q))
 (hb:A*2^k<B*10^b) (hbQ:b+Q'<=800) (hlo:B<=A*2^k*10^Q'):Calls Tryz.prog 238 #[.pointer (some ⟨g,0,none⟩),.int .u64 k] w fun e w'=>Qn (A*2^k) B Q' g w e w':=by
 have h1:=hF.lo
 have h2:=hF.hi
 refine (Jo g G o nd k D dp tr w h hC hF.norm hF.ne hk1 hk (by omega) (by omega)).mono ?_
 rintro e w' ⟨rfl,D',nd',dp',tr',a1,a2,a3⟩
 exact ⟨rfl,D',nd',dp',tr',a1,hF.left a2 hQ' hb hbQ hlo,a2.2.2.1,a3⟩
theorem yw {A B Q b g nd k:Nat} {D:Nat->Int} {dp:Int} {tr:Bool} {w:World} (h:DecAt w g D nd dp tr) (hF:FB A B Q D nd dp tr) (hk1:1<=k) (hk:k<=60)
 (hb:A<B*2^k*10^b) (hbQ:b+Q<=800) (hlo:B*2^k<=A*10^Q):Calls Tryz.prog 239 #[.pointer (some ⟨g,0,none⟩),.int .u64 k] w fun e w'=>Qn A (B*2^k) Q g w e w':=by
 have h1:=hF.lo
 have h2:=hF.hi
 refine (Fw g nd k D dp tr w h hF.norm hF.ne hk1 hk (by omega) (by omega)).mono ?_
 rintro e w' ⟨rfl,D',nd',dp',tr',a1,a2,a3⟩
 exact ⟨rfl,D',nd',dp',tr',a1,hF.right hk a2 hb hbQ hlo,a2.2.2.1,a3⟩
end Go.Proofs.YtjibjahfbblieaaGreatDoor.F
namespace Go.Proofs.YtjibjahfbblieaaGreatDoor.F
open Go Go.RowKit
set_option linter.unusedVariables false
set_option maxHeartbeats 800000 in
set_option maxRecDepth 100000 in
theorem Bd {A B Q Q' b g G o nd k:Nat} {D:Nat->Int} {dp:Int} {tr:Bool} {w:World} (h:DecAt w g D nd dp tr) (hC:Cheats w G o) (hF:FB A B Q D nd dp tr) (hk1:1<=k) (hk:k<=60) (hQ':Q'+k<=Q∨(B ∣ A*10^Q/\Q'=Q))
 (hb:A*2^k<B*10^b) (hbQ:b+Q'<=800) (hlo:B<=A*2^k*10^Q'):Calls Tryz.prog 215 #[.pointer (some ⟨g,0,none⟩),.int .i64 k] w fun e w'=>Qn (A*2^k) B Q' g w e w':=by
 have c0:=h.nd
 have h0:((nd:Int)==0)=false:=by have:=hF.ne;rw [beq_eq_false_iff_ne];omega
 have L:=fun (w':World) (e:w'=w)=>e ▸ Km h hC hF hk1 hk hQ' hb hbQ hlo
 have HL:=hide L
 clear L h hC hF hQ' hb hbQ hlo
 have hk2:(1:Int)<=k:=by omega
 have hk3:(k:Int)<=60:=by omega
 have hk4:IntKind.u64.wrap (k:Int)=(k:Int):=bA (by omega) (by omega)
 go_enter Tryz.func215,Tryz.ntmps215
 go_wp2
 go_loopg [1] 0 (fun gk kv wr=>kv=.int .i64 k/\wr=w)
 case atStart=>exact ⟨rfl,rfl⟩
 case round=>
  obtain ⟨rfl,rfl⟩:=hrel
  go_wp2_with fail
  refine (HL.out _ rfl).mono ?_
  rintro e w' ⟨rfl,hh⟩
  go_wp2
  go_end0
  exact ⟨rfl,hh⟩
set_option maxHeartbeats 800000 in
set_option maxRecDepth 100000 in
theorem JW {A B Q b g nd k:Nat} {D:Nat->Int} {dp:Int} {tr:Bool} {w:World} (h:DecAt w g D nd dp tr) (hF:FB A B Q D nd dp tr) (hk1:1<=k) (hk:k<=10000)
 (hb:A<B*10^b) (hbQ:b+Q<=800) (hlo:B*2^k<=A*10^Q) (z:Int) (hz:z= -(k:Int)):Calls Tryz.prog 215 #[.pointer (some ⟨g,0,none⟩),.int .i64 z] w fun e w'=>Qn A (B*2^k) Q g w e w':=by
 have H:=hide h
 have HF:=hide hF
 have Hb:=hide hb
 have Hlo:=hide hlo
 have HbQ:=hide hbQ
 have c0:=h.nd
 have h0:((nd:Int)==0)=false:=by have:=hF.ne;rw [beq_eq_false_iff_ne];omega
 clear h hF hb hlo hbQ
 have hz1:z<0:=by omega
 have Hz:=hide hz
 clear hz
 go_enter Tryz.func215,Tryz.ntmps215
 go_wp2
 go_loopg [1] k (fun gk kv wr=>∃ (m nd':Nat) (y:Int) (D':Nat->Int) (dp':Int) (tr':Bool),gk=m/\1<=m/\m<=k/\kv=.int .i64 y/\Hid (y= -(m:Int))/\DecAt wr g D' nd' dp' tr'/\Hid (FB A (B*2^(k-m)) Q D' nd' dp' tr')/\Below g w wr)
 case atStart=>exact ⟨k,nd,z,D,dp,tr,rfl,hk1,Nat.le_refl _,rfl,Hz,H.out,hide (by rw [Nat.sub_self,Nat.pow_zero,Nat.mul_one];exact HF.out),Below.refl _ _⟩
 case round=>
  obtain ⟨m,nd',y,D',dp',tr',rfl,hm1,hmk,rfl,Hy,hd,HF',hbw⟩:=hrel
  have Hd:=hide hd
  have Hbw:=hide hbw
  clear hd hbw c0 h0 H HF
  have up:∀ x:Nat,Hid (A<B*2^x*10^b):=fun x=>hide (by
   have h1:=Hb.out
   have h2:B*1<=B*2^x:=Nat.mul_le_mul_left _ (Nat.pow_pos (by omega))
   have h3:=Nat.mul_le_mul_right (10^b) h2
   rw [Nat.mul_one] at h3
   omega)
  have lw:∀ x:Nat,Hid (x<=k->B*2^x<=A*10^Q):=fun x=>hide (fun hx=>Nat.le_trans (Nat.mul_le_mul_left _ (Nat.pow_le_pow_right (by omega) hx)) Hlo.out)
  by_cases h60:60<gk
  ·have hy:y< -60:=by have:=Hy.out;omega
   have e1:B*2^(k-gk)*2^60=B*2^(k-(gk-60)):=by rw [Nat.mul_assoc,<-Nat.pow_add];congr 2;omega
   have R:=yw (b:=b) Hd.out HF'.out (k:=60) (by omega) (by omega) (by rw [e1];exact (up _).out) HbQ.out (by rw [e1];exact (lw _).out (by omega))
   rw [e1] at R
   have HR:=hide R
   clear R e1
   go_wp2_with fail
   refine (HR.out).mono ?_
   rintro e w' ⟨rfl,D2,nd2,dp2,tr2,hd2,hF2,hl2,hb2⟩
   have Hd2:=hide hd2
   have HF2:=hide hF2
   have Hb2:=hide hb2
   clear hd2 hF2 hb2 hl2
   have hy2: -100000<=y:=by have:=Hy.out;omega
   go_wp2
   go_roundg (gk-60)
   case rel=>exact ⟨gk-60,nd2,y+60,D2,dp2,tr2,rfl,by omega,by omega,by go_num,hide (by have:=Hy.out;omega),Hd2.out,HF2,Hbw.out.trans Hb2.out⟩
   case measure=>omega
  ·have hy:¬ y< -60:=by have:=Hy.out;omega
   have hy1: -60<=y:=by omega
   have hy2:y<0:=by have:=Hy.out;omega
   have hy3:IntKind.u64.wrap (-y)=(gk:Int):=by have:=Hy.out;rw [bA (by omega) (by omega)];omega
   have e1:B*2^(k-gk)*2^gk=B*2^k:=by rw [Nat.mul_assoc,<-Nat.pow_add];congr 2;omega
   have R:=yw (b:=b) Hd.out HF'.out (k:=gk) (by omega) (by omega) (by rw [e1];exact (up _).out) HbQ.out (by rw [e1];exact (lw _).out (by omega))
   rw [e1] at R
   have HR:=hide R
   clear R e1
   go_wp2_with fail
   refine (HR.out).mono ?_
   rintro e w' ⟨rfl,D2,nd2,dp2,tr2,hd2,hF2,hl2,hb2⟩
   go_wp2
   go_end0
   exact ⟨rfl,D2,nd2,dp2,tr2,hd2,hF2,hl2,Hbw.out.trans hb2⟩
end Go.Proofs.YtjibjahfbblieaaGreatDoor.F
namespace Go.Proofs.YtjibjahfbblieaaGreatDoor.F
open Go Go.RowKit
set_option linter.unusedVariables false
structure Kind1 (sm:Bool) (n d e0 b:Nat):Prop where
 hn:0<n
 hd:0<d
 up:n<d*10^b
 lo:∃ y,y=331/\d<=n*10^y
 yes:sm=true->d=10^e0/\e0<=430/\n<10^100/\b=200
 no:sm=false->d=1/\b=310
def QQ (sm:Bool) (j:Nat):Nat:=if sm=true then 600 else 400-j
theorem wT {y z:Nat} (h:y<=3*z):10^y<=2^(10*z):=by
 refine Nat.le_trans (Nat.pow_le_pow_right (by omega) h) ?_
 rw [Nat.pow_mul,Nat.pow_mul]
 exact Nat.pow_le_pow_left (by decide) z
theorem vH:(2:Nat)^27<=10^9:=by decide
theorem p2 (n:Nat):0<2^n:=Nat.pow_pos (by omega)
theorem qG {a b:Nat} (h:2^a<2^b):a<b:=by
 rcases Nat.lt_or_ge a b with g|g
 ·exact g
 ·have:=Nat.pow_le_pow_right (show 0<2 by omega) g;omega
structure L1 (sm:Bool) (n d e0 b i:Nat) (D:Nat->Int) (nd:Nat) (dp:Int) (tr:Bool):Prop where
 k:Kind1 sm n d e0 b
 fb:FB n (d*2^i) (QQ sm 0) D nd dp tr
 st:i=0∨d*2^i<=n*2^27
theorem QJ {sm:Bool} {n d e0 b:Nat} (k:Kind1 sm n d e0 b) (j:Nat):b+QQ sm j<=800/\9<=QQ sm 0:=by
 unfold QQ
 cases sm with
 |true=>have:=k.yes rfl;simp;omega
 |false=>have:=k.no rfl;simp;omega
theorem L1.ge {sm:Bool} {n d e0 b i nd:Nat} {D:Nat->Int} {dp:Int} {tr:Bool} (h:L1 sm n d e0 b i D nd dp tr) (hdp:0<dp):d*2^i<=n:=by
 have:=h.fb.great (b:=0) (by omega)
 rwa [Nat.pow_zero,Nat.mul_one] at this
theorem L1.may {sm:Bool} {n d e0 b i nd m:Nat} {D:Nat->Int} {dp:Int} {tr:Bool} (h:L1 sm n d e0 b i D nd dp tr) (hdp:0<dp) (hm:m<=27):
 n<d*2^i*10^b/\b+QQ sm 0<=800/\d*2^i*2^m<=n*10^QQ sm 0/\d*2^(i+m)<=n*2^27:=by
 have hg:=h.ge hdp
 have hq:=QJ h.k 0
 have hm2:2^m<=2^27:=Nat.pow_le_pow_right (by omega) hm
 refine ⟨?_,hq.1,?_,?_⟩
 ·have h1:=h.k.up
  have h2:d*1<=d*2^i:=Nat.mul_le_mul_left _ (p2 i)
  have h3:=Nat.mul_le_mul_right (10^b) h2
  rw [Nat.mul_one] at h3
  omega
 ·refine Nat.mul_le_mul hg (Nat.le_trans hm2 (Nat.le_trans vH (Nat.pow_le_pow_right (by omega) hq.2)))
 ·rw [Nat.pow_add,<-Nat.mul_assoc];exact Nat.mul_le_mul hg hm2
theorem L1.next {sm:Bool} {n d e0 b i nd m nd':Nat} {D D':Nat->Int} {dp dp':Int} {tr tr':Bool} (h:L1 sm n d e0 b i D nd dp tr) (hdp:0<dp) (hm:m<=27) (hF:FB n (d*2^i*2^m) (QQ sm 0) D' nd' dp' tr'):
 L1 sm n d e0 b (i+m) D' nd' dp' tr':=by
 refine ⟨h.k,?_,.inr (h.may hdp hm).2.2.2⟩
 rw [Nat.mul_assoc,<-Nat.pow_add] at hF
 exact hF
theorem L1.meas {sm:Bool} {n d e0 b i nd m:Nat} {D:Nat->Int} {dp:Int} {tr:Bool} (h:L1 sm n d e0 b i D nd dp tr) (hdp:0<dp) (hm:1<=m):n/(d*2^(i+m))<n/(d*2^i):=by
 have hg:=h.ge hdp
 have hp:0<d*2^i:=Nat.mul_pos h.k.hd (p2 i)
 have h1:1<=n/(d*2^i):=(Nat.one_le_div_iff hp).2 hg
 rw [Nat.pow_add,<-Nat.mul_assoc,<-Nat.div_div_eq_div_mul]
 have h2:2^1<=2^m:=Nat.pow_le_pow_right (by omega) hm
 exact Nat.div_lt_self (by omega) (by omega)
structure L2 (sm:Bool) (n d e0 b i j:Nat) (D:Nat->Int) (nd:Nat) (dp:Int) (tr:Bool):Prop where
 k:Kind1 sm n d e0 b
 fb:FB (n*2^j) (d*2^i) (QQ sm j) D nd dp tr
 lt:n*2^j<d*2^i
 st:(i=0/\sm=true)∨(d*2^i<=n*2^27)
theorem L1.exit {sm:Bool} {n d e0 b i nd:Nat} {D:Nat->Int} {dp:Int} {tr:Bool} (h:L1 sm n d e0 b i D nd dp tr) (hdp:dp<=0):L2 sm n d e0 b i 0 D nd dp tr:=by
 have hlt:n<d*2^i:=by
  have:=h.fb.small (a:=0) (Nat.zero_le _) (by omega)
  rwa [Nat.pow_zero,Nat.mul_one] at this
 refine ⟨h.k,by rw [Nat.pow_zero,Nat.mul_one];exact h.fb,by rw [Nat.pow_zero,Nat.mul_one];exact hlt,?_⟩
 rcases h.st with h0|h0
 ·left
  refine ⟨h0,?_⟩
  cases hs:sm with
  |true=>rfl
  |false=>
   have h1:=(h.k.no hs).1
   have h2:=h.k.hn
   rw [h0,h1] at hlt
   simp at hlt
   omega
 ·right;exact h0
theorem L2.jle {sm:Bool} {n d e0 b i j nd:Nat} {D:Nat->Int} {dp:Int} {tr:Bool} (h:L2 sm n d e0 b i j D nd dp tr):j<1110+i/\((i=0/\sm=true)∨j<27):=by
 have hlt:=h.lt
 obtain ⟨y,hy,hlo⟩:=h.k.lo
 have hn:=h.k.hn
 constructor
 ·have h1:n*2^j<n*10^y*2^i:=Nat.lt_of_lt_of_le hlt (Nat.mul_le_mul_right _ hlo)
  obtain ⟨z,hz⟩:∃ z,z=111:=⟨_,rfl⟩
  have h2:n*2^j<n*(2^(10*z)*2^i):=by
   refine Nat.lt_of_lt_of_le h1 ?_
   rw [Nat.mul_assoc]
   exact Nat.mul_le_mul_left _ (Nat.mul_le_mul_right _ (wT (by omega)))
  rw [<-Nat.pow_add] at h2
  have:=qG (Nat.lt_of_mul_lt_mul_left h2)
  omega
 ·rcases h.st with g|g
  ·left;exact g
  ·right
   exact qG (Nat.lt_of_mul_lt_mul_left (Nat.lt_of_lt_of_le hlt g))
theorem PG {sm:Bool} {n d e0 b i:Nat} (k:Kind1 sm n d e0 b) (hs:sm=true) (st:(i=0/\sm=true)∨(d*2^i<=n*2^27)):(i=0/\e0<=430)∨e0+i<=500:=by
 obtain ⟨h1,h2,h3,_⟩:=k.yes hs
 rcases st with g|g
 ·left;exact ⟨g.1,h2⟩
 ·right
  have h4:10^e0*2^i<10^100*2^27:=by
   rw [<-h1];exact Nat.lt_of_le_of_lt g (Nat.mul_lt_mul_of_pos_right h3 (p2 27))
  have h5:10^e0*1<=10^e0*2^i:=Nat.mul_le_mul_left _ (p2 i)
  have h6:1*2^i<=10^e0*2^i:=Nat.mul_le_mul_right _ (jy e0)
  have h7:10^e0<10^109:=by
   have:(10:Nat)^100*2^27<=10^109:=by decide+kernel
   omega
  obtain ⟨z,hz⟩:∃ z,z=34:=⟨_,rfl⟩
  have h8:2^i<2^(10*z+27):=by
   have:(10:Nat)^100*2^27<=2^(10*z+27):=by rw [Nat.pow_add];exact Nat.mul_le_mul_right _ (wT (by omega))
   omega
  have:=iC h7
  have:=qG h8
  omega
theorem oO {n d e0 i Q:Nat} (hd:d=10^e0) (h:e0+i<=Q):d*2^i ∣ n*10^Q:=by
 rw [hd]
 have h1:2^i ∣ 10^i:=⟨5^i,by rw [<-Nat.mul_pow]⟩
 have h2:10^e0*2^i ∣ 10^(e0+i):=by rw [Nat.pow_add];exact Nat.mul_dvd_mul_left _ h1
 exact Nat.dvd_mul_left_of_dvd (Nat.dvd_trans h2 (Nat.pow_dvd_pow 10 h)) n
theorem L2.may {sm:Bool} {n d e0 b i j nd m:Nat} {D:Nat->Int} {dp:Int} {tr:Bool} (h:L2 sm n d e0 b i j D nd dp tr) (hm:m<=27) (hA:n*2^j*2^m<d*2^i):
 (QQ sm (j+m)+m<=QQ sm j∨(d*2^i ∣ n*2^j*10^QQ sm j/\QQ sm (j+m)=QQ sm j))/\n*2^j*2^m<d*2^i*10^0/\0+QQ sm (j+m)<=800/\d*2^i<=n*2^j*2^m*10^QQ sm (j+m):=by
 have hj:=h.jle
 refine ⟨?_,by rw [Nat.pow_zero,Nat.mul_one];exact hA,?_,?_⟩
 ·cases hs:sm with
  |true=>
   right
   have he:=PG h.k hs h.st
   have q1:QQ true j=600:=by unfold QQ;rw [if_pos rfl]
   have q2:QQ true (j+m)=600:=by unfold QQ;rw [if_pos rfl]
   exact ⟨oO (h.k.yes hs).1 (by omega),q2.trans q1.symm⟩
  |false=>
   left
   unfold QQ
   have:j<27:=by
    rcases hj.2 with g|g
    ·exact absurd (hs.symm.trans g.2) (by decide)
    ·exact g
   simp
   omega
 ·unfold QQ;split<;>omega
 ·have h1:n*1<=n*(2^j*2^m):=Nat.mul_le_mul_left _ (Nat.mul_pos (p2 j) (p2 m))
  rw [Nat.mul_one,<-Nat.mul_assoc] at h1
  rcases h.st with g|g
  ·have hq:QQ sm (j+m)=600:=by unfold QQ;rw [if_pos g.2]
   rw [g.1,Nat.pow_zero,Nat.mul_one]
   obtain ⟨y,hy,hlo⟩:=h.k.lo
   refine Nat.le_trans hlo (Nat.mul_le_mul h1 (Nat.pow_le_pow_right (by omega) (by omega)))
  ·have hq:9<=QQ sm (j+m):=by
    unfold QQ
    split
    ·omega
    ·rename_i hs
     rcases hj.2 with g|g
     ·exact absurd g.2 hs
     ·omega
   refine Nat.le_trans g (Nat.mul_le_mul h1 (Nat.le_trans vH (Nat.pow_le_pow_right (by omega) hq)))
theorem L2.next {sm:Bool} {n d e0 b i j nd m nd':Nat} {D D':Nat->Int} {dp dp':Int} {tr tr':Bool} (h:L2 sm n d e0 b i j D nd dp tr) (hA:n*2^j*2^m<d*2^i) (hF:FB (n*2^j*2^m) (d*2^i) (QQ sm (j+m)) D' nd' dp' tr'):
 L2 sm n d e0 b i (j+m) D' nd' dp' tr':=by
 rw [Nat.mul_assoc,<-Nat.pow_add] at hF hA
 exact ⟨h.k,hF,hA,h.st⟩
theorem Q6 {sm:Bool} {n d e0 b i j nd:Nat} {D:Nat->Int} {dp:Int} {tr:Bool} (h:L2 sm n d e0 b i j D nd dp tr):60<=QQ sm j:=by
 have hj:=h.jle
 unfold QQ
 split
 ·omega
 ·rename_i hs
  rcases hj.2 with g|g
  ·exact absurd g.2 hs
  ·omega
theorem L2.dbl {sm:Bool} {n d e0 b i j nd a m:Nat} {D:Nat->Int} {dp:Int} {tr:Bool} (h:L2 sm n d e0 b i j D nd dp tr) (ha:a<=9) (hd:dp<= -(a:Int)) (hm:2^m<=10^a):n*2^j*2^m<d*2^i:=by
 have hq:=Q6 h
 have h1:=h.fb.small (a:=a) (by omega) hd
 exact Nat.lt_of_le_of_lt (Nat.mul_le_mul_left _ hm) h1
theorem L2.dbl0 {sm:Bool} {n d e0 b i j nd:Nat} {D:Nat->Int} {tr:Bool} (h:L2 sm n d e0 b i j D nd 0 tr) (h5:D 0<53):n*2^j*2^1<d*2^i:=by
 have hq:=Q6 h
 exact h.fb.lthalf (by omega) h5
theorem L1.ile {sm:Bool} {n d e0 b i nd:Nat} {D:Nat->Int} {dp:Int} {tr:Bool} (h:L1 sm n d e0 b i D nd dp tr) (hdp:0<dp):i<1050:=by
 have hg:=h.ge hdp
 have hb:b<=310:=by
  cases hs:sm with
  |true=>have:=h.k.yes hs;omega
  |false=>have:=h.k.no hs;omega
 obtain ⟨z,hz⟩:∃ z,z=104:=⟨_,rfl⟩
 have h1:d*2^i<d*2^(10*z):=Nat.lt_of_le_of_lt hg (Nat.lt_of_lt_of_le h.k.up (Nat.mul_le_mul_left _ (wT (by omega))))
 have:=qG (Nat.lt_of_mul_lt_mul_left h1)
 omega
end Go.Proofs.YtjibjahfbblieaaGreatDoor.F
namespace Go.Proofs.YtjibjahfbblieaaGreatDoor.F
open Go Go.RowKit
set_option linter.unusedVariables false
def fwd (P:Program) (r0 r1:Code) (Q:Exit->Act->World->Prop):Exit->Act->World->Prop
 | .goto 0,a,w=>r0.wp P (Exit.noGoto Q) a w
 | .goto 1,a,w=>r1.wp P (Exit.noGoto Q) a w
 | .goto (_+2),_,_=>False
 | .normal,a,w=>Q .normal a w
 | .exit id,a,w=>Q (.exit id) a w
 | .ret,a,w=>Q .ret a w
 | .panic ch,a,w=>Q (.panic ch) a w
 | .outgrown,a,w=>Q .outgrown a w
section
variable {P : Program} {a : Act} {w : World} {Q : Exit → Act → World → Prop}
theorem ku {c r0 r1:Code} (h0:findLabel c 0=some r0) (h1:findLabel c 1=some r1) (first:c.wp P (fwd P r0 r1 Q) a w):(Code.scope c).wp P Q a w:=by
 intro b k cs
 have key:∀ (l:Nat) (r:Code) (a₁:Act) (w₁:World),findLabel c l=some r->r.wp P (Exit.noGoto Q) a₁ w₁->
  (∀ k',gotoIn l (.inScope c::k)=some k'->Steps P (lone (b.at a (.code (.scope c)::k)) cs w) (lone (b.at a₁ k') cs w₁))->∃ e a' w',Q e a' w'/\Arrives P (lone (b.at a (.code (.scope c)::k)) cs w) b k cs e a' w':=by
  intro l r a₁ w₁ hl hr hs
  have hg:gotoIn l (.inScope c::k)=some (.code r:: .inScope c::k):=by simp [gotoIn,hl]
  obtain ⟨e,a₂,w₂,hq,harr⟩:=hr b (.inScope c::k) cs
  have hs':=hs _ hg
  cases e with
  |normal=>exact ⟨.normal,a₂,w₂,hq,Steps.trans hs' (Steps.trans harr (.one step_inScope))⟩
  |exit id=>exact ⟨.exit id,a₂,w₂,hq,fun k' hk=>Steps.trans hs' (harr k' (by simp [exitTo,hk]))⟩
  |goto l'=>exact hq.elim
  |ret=>exact ⟨_,a₂,w₂,hq,.of_steps hs' harr⟩
  |panic ch=>exact ⟨_,a₂,w₂,hq,.of_steps hs' harr⟩
  |outgrown=>exact ⟨_,a₂,w₂,hq,.of_steps hs' harr⟩
 obtain ⟨e,a₁,w₁,hq,harr⟩:=first b (.inScope c::k) cs
 cases e with
 |normal=>exact ⟨.normal,a₁,w₁,hq,.head step_scope (Steps.trans harr (.one step_inScope))⟩
 |exit id=>exact ⟨.exit id,a₁,w₁,hq,fun k' hk=>.head step_scope (harr k' (by simp [exitTo,hk]))⟩
 |goto l=>
  match l,hq,harr with
  |0,hq,harr=>exact key 0 r0 a₁ w₁ h0 hq (fun k' hk=>.head step_scope (harr k' hk))
  |1,hq,harr=>exact key 1 r1 a₁ w₁ h1 hq (fun k' hk=>.head step_scope (harr k' hk))
  |l+2,hq,harr=>exact hq.elim
 |ret=>exact ⟨_,a₁,w₁,hq,.of_steps (.one step_scope) harr⟩
 |panic ch=>exact ⟨_,a₁,w₁,hq,.of_steps (.one step_scope) harr⟩
 |outgrown=>exact ⟨_,a₁,w₁,hq,.of_steps (.one step_scope) harr⟩
end
theorem zH {P:Program} {r0 r1:Code} {Q:Exit->Act->World->Prop} {a:Act} {w:World}:fwd P r0 r1 Q (.goto 0) a w=r0.wp P (Exit.noGoto Q) a w:=rfl
theorem Il {P:Program} {r0 r1:Code} {Q:Exit->Act->World->Prop} {a:Act} {w:World}:fwd P r0 r1 Q (.goto 1) a w=r1.wp P (Exit.noGoto Q) a w:=rfl
theorem fG {K:Act->World->Prop} {Q:Exit->Act->World->Prop} {l:Nat} {a:Act} {w:World}:Exit.then K Q (.goto l) a w=Q (.goto l) a w:=rfl
def dY:List Nat:=[1,3,6,9,13,16,19,23,26]
theorem uT {a:Nat} (h:a<9):1<=dY.getD a 0/\dY.getD a 0<=26/\(1<=a->2^dY.getD a 0<=10^a):=by
 have:∀ a:Fin 9,1<=dY.getD a 0/\dY.getD a 0<=26/\(1<=a.val->2^dY.getD a 0<=10^a.val):=by decide+kernel
 exact this ⟨a,h⟩
structure FInfo (w:World) (g P po G o:Nat):Prop where
 g12:18<g
 hP:P<g
 hG:G<g
 mant:w.cell? ⟨13,0,none⟩=some (.int .u64 52)
 expb:w.cell? ⟨13,1,none⟩=some (.int .u64 11)
 bias:w.cell? ⟨13,2,none⟩=some (.int .i64 (-1023))
 slice:w.cell? ⟨17,0,none⟩=some (.slice (some ⟨P,po,none⟩) 9 9)
 tab:∀ k,k<9->w.cell? ⟨P,po+k,none⟩=some (.int .i64 (dY.getD k 0:Nat))
 cheats:Cheats w G o
theorem FInfo.below {w w':World} {g P po G o:Nat} (h:FInfo w g P po G o) (hb:Below g w w'):FInfo w' g P po G o:=by
 have h12:=h.g12
 exact ⟨h.g12,h.hP,h.hG,(hb.cell (by show 13<g;omega)).trans h.mant,(hb.cell (by show 13<g;omega)).trans h.expb,(hb.cell (by show 13<g;omega)).trans h.bias,(hb.cell (by show 17<g;omega)).trans h.slice,
  fun k hk=>(hb.cell h.hP).trans (h.tab k hk),h.cheats.below hb h.g12 h.hG⟩
def t_ (n d g:Nat) (w:World) (e:Ending) (w':World):Prop:=
 ∃ W:Nat,e=.returned (.tuple #[.int .u64 W,.bool (decide (W=ak))])/\aC (n*2^1074) d W/\Below g w w'
def QI (sm:Bool) (n d e0 b i g:Nat) (w:World) (e:Ending) (w':World):Prop:=
 e=.returned (.tuple #[])/\∃ D nd dp tr,DecAt w' g D (nd:Nat) dp tr/\L1 sm n d e0 b i D nd dp tr/\Below g w w'
theorem L1.shift {sm:Bool} {n d e0 b i nd m g:Nat} {D:Nat->Int} {dp:Int} {tr:Bool} {w:World} (h:L1 sm n d e0 b i D nd dp tr) (hd:DecAt w g D nd dp tr) (hdp:0<dp) (hm1:1<=m) (hm:m<=27) (z:Int) (hz:z= -(m:Int)):
 Calls Tryz.prog 215 #[.pointer (some ⟨g,0,none⟩),.int .i64 z] w fun e w'=>QI sm n d e0 b (i+m) g w e w':=by
 obtain ⟨m1,m2,m3,m4⟩:=h.may hdp hm
 refine (JW hd h.fb hm1 (by omega) m1 m2 m3 z hz).mono ?_
 rintro e w' ⟨rfl,D',nd',dp',tr',a1,a2,a3,a4⟩
 exact ⟨rfl,D',nd',dp',tr',a1,h.next hdp hm a2,a4⟩
def QB (sm:Bool) (n d e0 b i j g:Nat) (w:World) (e:Ending) (w':World):Prop:=
 e=.returned (.tuple #[])/\∃ D nd dp tr,DecAt w' g D (nd:Nat) dp tr/\L2 sm n d e0 b i j D nd dp tr/\Below g w w'
theorem L2.shift {sm:Bool} {n d e0 b i j nd m g G o:Nat} {D:Nat->Int} {dp:Int} {tr:Bool} {w:World} (h:L2 sm n d e0 b i j D nd dp tr) (hd:DecAt w g D nd dp tr) (hC:Cheats w G o) (hm1:1<=m) (hm:m<=27) (hA:n*2^j*2^m<d*2^i):
 Calls Tryz.prog 215 #[.pointer (some ⟨g,0,none⟩),.int .i64 m] w fun e w'=>QB sm n d e0 b i (j+m) g w e w':=by
 obtain ⟨m1,m2,m3,m4⟩:=h.may hm hA
 refine (Bd hd hC h.fb hm1 (by omega) m1 m2 m3 m4).mono ?_
 rintro e w' ⟨rfl,D',nd',dp',tr',a1,a2,a3,a4⟩
 exact ⟨rfl,D',nd',dp',tr',a1,h.next hA a2,a4⟩
end Go.Proofs.YtjibjahfbblieaaGreatDoor.F
namespace Go.Proofs.YtjibjahfbblieaaGreatDoor.F
open Go Go.RowKit
set_option linter.unusedVariables false
theorem lu (n:Int):bits .and .i64 n 2047=n%2048:=by
 have h127:(BitVec.ofInt 64 2047).toNat=2^11-1:=by decide
 have key:(BitVec.ofInt 64 n&&&BitVec.ofInt 64 2047).toNat=(n%((2^64:Nat):Int)).toNat%2^11:=by
  rw [BitVec.toNat_and,BitVec.toNat_ofInt,h127,Nat.and_two_pow_sub_one_eq_mod]
 show IntKind.i64.wrap ((BitVec.ofInt 64 n&&&BitVec.ofInt 64 2047).toNat:Nat)=n%2048
 rw [key,IntKind.wrap_i64]
 omega
theorem Om {m:Nat} (h:m<18446744073709551616):bits .and .u64 (m:Int) 4503599627370495=((m%4503599627370496:Nat):Int):=by
 have:=u64_and_nat m 4503599627370495 h (by omega)
 rw [show (4503599627370495:Nat)=2^52-1 from rfl,Nat.and_two_pow_sub_one_eq_mod] at this
 exact this
theorem j_ {m y W:Nat} {x z:Int} (hm:m<18446744073709551616) (hx:x=(m:Int)) (hz:z=(y:Int)) (hy:y<2048) (hW:W=y*4503599627370496+m%4503599627370496):
 bits .or .u64 (bits .and .u64 x 4503599627370495) (IntKind.u64.wrap (IntKind.u64.wrap (bits .and .i64 z 2047)*4503599627370496))=(W:Int):=by
 subst hx;subst hz
 rw [Om hm,lu,show ((y:Int)%2048)=(y:Int) by omega,bA (x:=(y:Int)) (by omega) (by omega),bA (x:=(y:Int)*4503599627370496) (by omega) (by omega)]
 rw [PD (Nat.mod_lt _ (by omega)) hy,hW]
theorem Qh {A B c:Nat} (hB:0<B) (h:B*c<=A):c<=rq A B:=by
 unfold rq
 have:c<=A/B:=(Nat.le_div_iff_mul_le hB).2 (by rw [Nat.mul_comm];exact h)
 omega
theorem NJ {A B c:Nat} (hB:0<B) (h:A<B*c):rq A B<=c:=by
 unfold rq
 have:A/B<c:=(Nat.div_lt_iff_lt_mul hB).2 (by rw [Nat.mul_comm];exact h)
 split<;>omega
theorem K9 (y:Nat):2*y*2^52=y*2^53:=by
 have e:(2:Nat)^53=2*2^52:=by decide
 rw [e,Nat.mul_comm 2 y,Nat.mul_assoc]
theorem Qc (x y:Nat):2*x*y=x*(2*y):=by rw [Nat.mul_comm 2 x,Nat.mul_assoc]
theorem Gq:(2:Nat)^52=4503599627370496:=rfl
theorem Mr:(2:Nat)^53=9007199254740992:=rfl
structure L3 (sm:Bool) (n d e0 b i j:Nat) (D:Nat->Int) (nd:Nat) (tr:Bool):Prop where
 l2:L2 sm n d e0 b i j D nd 0 tr
 half:d*2^i<=2*(n*2^j)
theorem L3.b0 {sm:Bool} {n d e0 b i j nd:Nat} {D:Nat->Int} {tr:Bool} (h:L3 sm n d e0 b i j D nd tr):0<d*2^i:=Nat.mul_pos h.l2.k.hd (p2 i)
theorem L3.may53 {sm:Bool} {n d e0 b i j nd:Nat} {D:Nat->Int} {tr:Bool} (h:L3 sm n d e0 b i j D nd tr):
 (QQ sm (j+53)+53<=QQ sm j∨(d*2^i ∣ n*2^j*10^QQ sm j/\QQ sm (j+53)=QQ sm j))/\n*2^j*2^53<d*2^i*10^16/\16+QQ sm (j+53)<=800/\d*2^i<=n*2^j*2^53*10^QQ sm (j+53)/\1<=QQ sm (j+53):=by
 have hj:=h.l2.jle
 have hlt:=h.l2.lt
 have hh:=h.half
 refine ⟨?_,?_,?_,?_,?_⟩
 ·cases hs:sm with
  |true=>
   right
   have he:=PG h.l2.k hs h.l2.st
   have q1:QQ true j=600:=by unfold QQ;rw [if_pos rfl]
   have q2:QQ true (j+53)=600:=by unfold QQ;rw [if_pos rfl]
   exact ⟨oO (h.l2.k.yes hs).1 (by omega),q2.trans q1.symm⟩
  |false=>
   left
   unfold QQ
   have:j<27:=by
    rcases hj.2 with g|g
    ·exact absurd (hs.symm.trans g.2) (by decide)
    ·exact g
   simp
   omega
 ·have h1:(2:Nat)^53<=10^16:=by decide
  exact Nat.lt_of_lt_of_le (Nat.mul_lt_mul_of_pos_right hlt (p2 53)) (Nat.mul_le_mul_left _ h1)
 ·unfold QQ;split<;>omega
 ·have h1:n*2^j*2^1<=n*2^j*(2^53*10^QQ sm (j+53)):=Nat.mul_le_mul_left _ (Nat.le_trans (Nat.pow_le_pow_right (by omega) (by omega)) (Nat.le_mul_of_pos_right _ (jy _)))
  rw [Nat.mul_assoc]
  omega
 ·unfold QQ
  split
  ·omega
  ·rename_i hs
   rcases hj.2 with g|g
   ·exact absurd g.2 hs
   ·omega
theorem L3.word {sm:Bool} {n d e0 b i j nd k R:Nat} {D:Nat->Int} {tr:Bool} (h:L3 sm n d e0 b i j D nd tr) (hk:k+(j+53)=1074+i) (hR:R=rq (n*2^j*2^53) (d*2^i)):
 aC (n*2^1074) d (min (k*4503599627370496+R) ak)/\4503599627370496<=R/\R<=9007199254740992:=by
 have e:n*2^j*2^53=n*2^(j+53):=by rw [Nat.mul_assoc,<-Nat.pow_add]
 have h1:n*2^(j+53)<d*2^i*2^53:=by rw [<-e];exact Nat.mul_lt_mul_of_pos_right h.l2.lt (p2 53)
 have h2:d*2^i*2^52<=n*2^(j+53):=by
  rw [<-e]
  have:=Nat.mul_le_mul_right (2^52) h.half
  exact Nat.le_trans this (Nat.le_of_eq (K9 _))
 refine ⟨?_,?_,?_⟩
 ·have:=rM (n:=n) (d:=d) (i:=i) (j:=j+53) (A:=1074) (B:=0) (k:=k) (by omega) h1 (.inr h2)
  rw [Nat.pow_zero,Nat.mul_one] at this
  rw [hR,e]
  exact this
 ·rw [hR,e,<-Gq];exact Qh h.b0 h2
 ·rw [hR,e,<-Mr];exact NJ h.b0 h1
theorem L3.over {sm:Bool} {n d e0 b i j nd:Nat} {D:Nat->Int} {tr:Bool} (h:L3 sm n d e0 b i j D nd tr) (hx:1024<=(i:Int)-j-1):aC (n*2^1074) d ak:=by
 obtain ⟨h1,h2,_⟩:=h.word (k:=1074+i-(j+53)) (by omega) rfl
 rw [Nat.min_eq_right (by unfold ak;omega)] at h1
 exact h1
theorem L3.tiny {sm:Bool} {n d e0 b i j nd m:Nat} {D:Nat->Int} {tr:Bool} (h:L3 sm n d e0 b i j D nd tr) (hm1:1<=m) (hm:m+i+1021=j):
 n*2^j<d*2^i*10^0/\0+QQ sm j<=800/\d*2^i*2^m<=n*2^j*10^QQ sm j/\QQ sm j=600/\m<=90/\
  d*2^i*2^m ∣ n*2^j*10^QQ sm j/\n*2^j*2^53<d*2^i*2^m*10^16/\d*2^i*2^m<=n*2^j*2^53*10^QQ sm j:=by
 have hj:=h.l2.jle
 have hlt:=h.l2.lt
 have hh:=h.half
 have hs:i=0/\sm=true:=by
  rcases hj.2 with g|g
  ·exact g
  ·omega
 have hq:QQ sm j=600:=by unfold QQ;rw [if_pos hs.2]
 have hm90:m<=90:=by omega
 have hpow:2*2^m<=10^QQ sm j:=by
  rw [Nat.mul_comm,<-Nat.pow_succ]
  exact Nat.le_trans (Nat.pow_le_pow_left (by omega) _) (Nat.pow_le_pow_right (by omega) (by omega))
 have hlo:d*2^i*2^m<=n*2^j*10^QQ sm j:=by
  have h1:=Nat.mul_le_mul_right (2^m) hh
  rw [Qc] at h1
  exact Nat.le_trans h1 (Nat.mul_le_mul_left _ hpow)
 refine ⟨by rw [Nat.pow_zero,Nat.mul_one];exact hlt,by omega,hlo,hq,hm90,?_,?_,?_⟩
 ·rw [Nat.mul_assoc,<-Nat.pow_add]
  refine oO (h.l2.k.yes hs.2).1 ?_
  have:=(h.l2.k.yes hs.2).2.1
  omega
 ·have h1:(2:Nat)^53<=10^16:=by decide
  have h2:d*2^i*1<=d*2^i*2^m:=Nat.mul_le_mul_left _ (p2 m)
  rw [Nat.mul_one] at h2
  exact Nat.lt_of_lt_of_le (Nat.mul_lt_mul_of_pos_right hlt (p2 53)) (Nat.mul_le_mul h2 h1)
 ·refine Nat.le_trans hlo ?_
  refine Nat.mul_le_mul_right _ (Nat.le_mul_of_pos_right _ (p2 53))
theorem L3.tword {sm:Bool} {n d e0 b i j nd m R:Nat} {D:Nat->Int} {tr:Bool} (h:L3 sm n d e0 b i j D nd tr) (hm1:1<=m) (hm:m+i+1021=j) (hR:R=rq (n*2^j*2^53) (d*2^i*2^m)):
 aC (n*2^1074) d R/\R<=4503599627370496:=by
 have e:n*2^j*2^53=n*2^(j+53):=by rw [Nat.mul_assoc,<-Nat.pow_add]
 have e3:d*2^i*2^m=d*2^(i+m):=by rw [Nat.mul_assoc,<-Nat.pow_add]
 have h0:n*2^(j+53)<d*2^(i+m)*2^52:=by
  rw [<-e,<-e3]
  refine Nat.lt_of_lt_of_le (Nat.mul_lt_mul_of_pos_right h.l2.lt (p2 53)) ?_
  rw [Nat.mul_assoc,Nat.mul_assoc,Nat.mul_assoc,<-Nat.pow_add,<-Nat.pow_add,<-Nat.pow_add]
  exact Nat.mul_le_mul_left _ (Nat.pow_le_pow_right (by omega) (by omega))
 have hle:R<=4503599627370496:=by
  rw [hR,e,e3,<-Gq];exact NJ (Nat.mul_pos h.l2.k.hd (p2 _)) h0
 refine ⟨?_,hle⟩
 have h1:n*2^(j+53)<d*2^(i+m)*2^53:=Nat.lt_of_lt_of_le h0 (Nat.mul_le_mul_left _ (Nat.pow_le_pow_right (by omega) (by omega)))
 have:=rM (n:=n) (d:=d) (i:=i+m) (j:=j+53) (A:=1074) (B:=0) (k:=0) (by omega) h1 (.inl rfl)
 rw [Nat.pow_zero,Nat.mul_one,<-e,<-e3,<-hR,Nat.zero_mul,Nat.zero_add,Nat.min_eq_left (by unfold ak;omega)] at this
 exact this
theorem kZ {n d g W V:Nat} {z:Int} {w w':World} (e:z=(W:Int)) (hV:V=W) (hW:W<ak) (hr:aC (n*2^1074) d V) (hb:Below g w w'):t_ n d g w (.returned (.tuple #[.int .u64 z,.bool false])) w':=by
 refine ⟨W,?_,hV ▸ hr,hb⟩
 rw [e,decide_eq_false (by omega)]
theorem Fg {n d g W V:Nat} {z:Int} {w w':World} (e:z=(W:Int)) (hV:V=W) (hW:W=ak) (hr:aC (n*2^1074) d V) (hb:Below g w w'):t_ n d g w (.returned (.tuple #[.int .u64 z,.bool true])) w':=by
 refine ⟨W,?_,hV ▸ hr,hb⟩
 rw [e,decide_eq_true hW]
theorem iM:ak=9218868437227405312:=rfl
def CQ (x z:Int):Int:=bits .or .u64 (bits .and .u64 x 4503599627370495) (IntKind.u64.wrap (IntKind.u64.wrap (bits .and .i64 z 2047)*4503599627370496))
theorem P8 {R:Nat} (h1:4503599627370496<=R) (h2:R<9007199254740992):R%4503599627370496=R-4503599627370496:=by
 rw [Nat.mod_eq_sub_mod h1,Nat.mod_eq_of_lt (by omega)]
theorem KG {i j R k:Nat} (hx: -1022<=(i:Int)-j-1) (hov:(i:Int)-j-1<1024) (r2:4503599627370496<=R) (r3:R<9007199254740992) (hk:k=1074+i-(j+53)):
 CQ (R:Int) ((i:Int)-j-1+1023)=((k*4503599627370496+R:Nat):Int)/\min (k*4503599627370496+R) ak=k*4503599627370496+R/\k*4503599627370496+R<ak:=by
 have hI:=iM
 have hlt:k*4503599627370496+R<ak:=by
  rw [hI]
  have:k<=2045:=by omega
  have:=Nat.mul_le_mul_right 4503599627370496 this
  omega
 refine ⟨j_ (m:=R) (y:=k+1) (by omega) rfl (by omega) (by omega) ?_,Nat.min_eq_left (Nat.le_of_lt hlt),hlt⟩
 rw [P8 r2 r3,Nat.add_mul]
 omega
theorem La {i j k:Nat} (hx: -1022<=(i:Int)-j-1) (hov:(i:Int)-j-1<1023) (hk:k=1074+i-(j+53)):
 CQ (4503599627370496:Int) ((i:Int)-j+1023)=((k*4503599627370496+9007199254740992:Nat):Int)/\min (k*4503599627370496+9007199254740992) ak=k*4503599627370496+9007199254740992/\k*4503599627370496+9007199254740992<ak:=by
 have hI:=iM
 have hlt:k*4503599627370496+9007199254740992<ak:=by
  rw [hI]
  have:k<=2044:=by omega
  have:=Nat.mul_le_mul_right 4503599627370496 this
  omega
 refine ⟨j_ (m:=4503599627370496) (y:=k+2) (by omega) rfl (by omega) (by omega) ?_,Nat.min_eq_left (Nat.le_of_lt hlt),hlt⟩
 rw [Nat.mod_self,Nat.add_mul]
theorem KI {i j k R:Nat} (ho:1023<=(i:Int)-j-1) (hk:k=1074+i-(j+53)) (hR:R=9007199254740992):min (k*4503599627370496+R) ak=9218868437227405312:=by
 have hI:=iM
 have:2045<=k:=by omega
 have:=Nat.mul_le_mul_right 4503599627370496 this
 rw [Nat.min_eq_right (by omega),hI]
theorem Db {R:Nat} (h:R<4503599627370496):CQ (R:Int) 0=(R:Int)/\R<ak:=by
 have hI:=iM
 exact ⟨j_ (m:=R) (y:=0) (by omega) rfl rfl (by omega) (by rw [Nat.mod_eq_of_lt h,Nat.zero_mul,Nat.zero_add]),by omega⟩
theorem Ce:CQ (4503599627370496:Int) 1=((4503599627370496:Nat):Int)/\4503599627370496<ak:=by
 have hI:=iM
 exact ⟨j_ (m:=4503599627370496) (y:=1) (by omega) rfl rfl (by omega) (by rw [Nat.mod_self]),by omega⟩
end Go.Proofs.YtjibjahfbblieaaGreatDoor.F
namespace Go.Proofs.YtjibjahfbblieaaGreatDoor.F
open Go Go.RowKit
set_option linter.unusedVariables false
set_option maxHeartbeats 1600000 in
set_option maxRecDepth 100000 in
theorem C9 (sm:Bool) (n d e0 b g P po G o nd:Nat) (D:Nat->Int) (dp:Int) (w:World) (h:DecAt w g D nd dp false) (hI:FInfo w g P po G o) (hL:L1 sm n d e0 b 0 D nd dp false) (hdp1: -330<=dp) (hdp2:dp<=310):
 Calls Tryz.prog 251 #[.pointer (some ⟨g,0,none⟩),.pointer (some ⟨13,0,none⟩)] w fun e w'=>t_ n d g w e w':=by
 have H:=hide h
 have HL:=hide hL
 have HI:=hide hI
 have c0:=h.nd
 have c9:=h.dp
 have f0:=h.fr
 have c60:=hI.mant
 have c61:=hI.expb
 have c62:=hI.bias
 have c8:=hI.slice
 have h0:((nd:Int)==0)=false:=by have:=hL.fb.ne;rw [beq_eq_false_iff_ne];omega
 clear h hL hI
 go_enter Tryz.func251,Tryz.ntmps251
 go_wp2
 refine ku rfl rfl ?_
 go_hide hQ
 have HQ:=hide hQ
 clear hQ
 go_wp2
 go_loopg [6] (n/(d*2^0)) (fun gk xv wr=>∃ (i nd':Nat) (D':Nat->Int) (dp':Int) (tr':Bool),Hid (gk=n/(d*2^i))/\xv=.int .i64 i/\i<=2000/\DecAt wr g D' nd' dp' tr'/\Hid (L1 sm n d e0 b i D' nd' dp' tr')/\Below g w wr)
 case atStart=>exact ⟨0,nd,D,dp,false,hide rfl,rfl,by omega,H.out,HL,Below.refl _ _⟩
 case round=>
  clear c0 c9 f0 c60 c61 c62 c8 h0 H HL hdp1 hdp2
  obtain ⟨i,nd',D',dp',tr',Hgk,rfl,hi,hd,HL,hbw⟩:=hrel
  have HI':=hide (HI.out.below hbw)
  have Hd:=hide hd
  have Hbw:=hide hbw
  clear hd hbw
  have c9:=Hd.out.dp
  have f0:=Hd.out.fr
  have c8:=HI'.out.slice
  have hlo:=HL.out.fb.lo
  have hhi:=HL.out.fb.hi
  by_cases hp:0<dp'
  ·have hile:=HL.out.ile hp
   by_cases h9:9<=dp'
   ·have S:=fun (q:Nat)=>HL.out.shift (m:=27) (Hd.out.drewN q) hp (by omega) (by omega) (-27) (by omega)
    have HS:=hide S
    clear S
    go_wp2
    go_quiet (fail)
    go_wp2_with fail
    refine (HS.out _).mono ?_
    rintro e w' ⟨rfl,D2,nd2,dp2,tr2,hd2,hL2,hb2⟩
    have Hd2:=hide hd2
    have HL2:=hide hL2
    have Hb2:=hide hb2
    clear hd2 hL2 hb2 HS
    go_wp2
    go_roundg (n/(d*2^(i+27)))
    case rel=>exact ⟨i+27,nd2,D2,dp2,tr2,hide rfl,by go_num,by omega,Hd2.out,HL2,(below_drewN Hbw.out _).trans Hb2.out⟩
    case measure=>rw [Hgk.out];exact HL.out.meas hp (by omega)
   ·obtain ⟨a,rfl⟩:∃ a:Nat,dp'=a:=⟨dp'.toNat,by omega⟩
    have cT:=HI'.out.tab a (by omega)
    obtain ⟨p1,p2,p3⟩:=uT (a:=a) (by omega)
    generalize dY.getD a 0=m at *
    have S:=fun (q:Nat)=>HL.out.shift (m:=m) (Hd.out.drewN q) hp (by omega) (by omega) (-(m:Int)) rfl
    have HS:=hide S
    clear S p3
    have ha9:(a:Int)<9:=by omega
    have ha0:(0:Int)<(a:Int):=hp
    have hm26:(m:Int)<=26:=by omega
    go_wp2
    go_quiet (fail)
    go_wp2
    go_quiet (fail)
    go_wp2_with fail
    refine (HS.out _).mono ?_
    rintro e w' ⟨rfl,D2,nd2,dp2,tr2,hd2,hL2,hb2⟩
    have Hd2:=hide hd2
    have HL2:=hide hL2
    have Hb2:=hide hb2
    clear hd2 hL2 hb2 HS cT
    go_wp2
    go_roundg (n/(d*2^(i+m)))
    case rel=>exact ⟨i+m,nd2,D2,dp2,tr2,hide rfl,by go_num,by omega,Hd2.out,HL2,(below_drewN Hbw.out _).trans Hb2.out⟩
    case measure=>rw [Hgk.out];exact HL.out.meas hp p1
  ·have HL0:=hide (HL.out.exit (by omega))
   clear HL Hgk
   go_wp2
   go_loopg [6] (1110+i) (fun gk xv wq=>∃ (j nd':Nat) (D':Nat->Int) (dp':Int) (tr':Bool),Hid (gk+j=1110+i)/\xv=.int .i64 ((i:Int)-j)/\j<=4000/\DecAt wq g D' nd' dp' tr'/\Hid (L2 sm n d e0 b i j D' nd' dp' tr')/\Below g w wq)
   case atStart=>exact ⟨0,nd',D',dp',tr',hide (by omega),by simp,by omega,Hd.out,HL0,Hbw.out⟩
   case round=>
    clear c9 f0 c8 Hd Hbw HL0 HI' hlo hhi hp
    obtain ⟨j,nd',D',dp',tr',Hgk,rfl,hj,hd,HL,hbw⟩:=hrel
    have HI':=hide (HI.out.below hbw)
    have Hd:=hide hd
    have Hbw:=hide hbw
    clear hd hbw
    have c9:=Hd.out.dp
    have f0:=Hd.out.fr
    have cD:=Hd.out.dig 0 (by omega)
    have c8:=HI'.out.slice
    have hlo:=HL.out.fb.lo
    have hjl:j<1110+i:=HL.out.jle.1
    have hhi:dp'<=0:=by
     have:=HL.out.fb.ub (b:=0) (by rw [Nat.pow_zero,Nat.mul_one];exact HL.out.lt)
     omega
    by_cases h9:dp'<= -9
    ·have hA:n*2^j*2^27<d*2^i:=HL.out.dbl (a:=9) (by omega) (by omega) vH
     have S:=fun (q:Nat)=>HL.out.shift (m:=27) (Hd.out.drewN q) (HI'.out.cheats.below (below_drewN (Below.refl g _) q) HI'.out.g12 HI'.out.hG) (by omega) (by omega) hA
     have HS:=hide S
     clear S hA
     go_wp2
     go_quiet (fail)
     go_wp2_with fail
     refine (HS.out _).mono ?_
     rintro e w' ⟨rfl,D2,nd2,dp2,tr2,hd2,hL2,hb2⟩
     have Hd2:=hide hd2
     have HL2:=hide hL2
     have Hb2:=hide hb2
     clear hd2 hL2 hb2 HS
     have hj2:j+27<1110+i:=HL2.out.jle.1
     go_wp2
     go_roundg (1110+i-(j+27))
     case rel=>exact ⟨j+27,nd2,D2,dp2,tr2,hide (by omega),by go_num,by omega,Hd2.out,HL2,(below_drewN Hbw.out _).trans Hb2.out⟩
     case measure=>have:=Hgk.out;omega
    ·by_cases hneg:dp'<0
     ·obtain ⟨a,rfl⟩:∃ a:Nat,dp'= -(a:Int):=⟨(-dp').toNat,by omega⟩
      have cT:=HI'.out.tab a (by omega)
      obtain ⟨p1,p2,p3⟩:=uT (a:=a) (by omega)
      generalize dY.getD a 0=m at *
      have hA:n*2^j*2^m<d*2^i:=HL.out.dbl (a:=a) (by omega) (by omega) (p3 (by omega))
      have S:=fun (q:Nat)=>HL.out.shift (m:=m) (Hd.out.drewN q) (HI'.out.cheats.below (below_drewN (Below.refl g _) q) HI'.out.g12 HI'.out.hG) p1 (by omega) hA
      have HS:=hide S
      clear S hA p3
      have ha9:(a:Int)<9:=by omega
      have ha0:(0:Int)<(a:Int):=by omega
      have hm26:(m:Int)<=26:=by omega
      clear hlo hhi h9
      go_wp2
      go_quiet (fail)
      go_wp2
      go_quiet (fail)
      go_wp2_with fail
      refine (HS.out _).mono ?_
      rintro e w' ⟨rfl,D2,nd2,dp2,tr2,hd2,hL2,hb2⟩
      have Hd2:=hide hd2
      have HL2:=hide hL2
      have Hb2:=hide hb2
      clear hd2 hL2 hb2 HS cT
      have hj2:j+m<1110+i:=HL2.out.jle.1
      go_wp2
      go_roundg (1110+i-(j+m))
      case rel=>exact ⟨j+m,nd2,D2,dp2,tr2,hide (by omega),by go_num,by omega,Hd2.out,HL2,(below_drewN Hbw.out _).trans Hb2.out⟩
      case measure=>have:=Hgk.out;omega
     ·have hz:dp'=0:=by omega
      subst hz
      clear hlo hhi h9 hneg
      by_cases h5:D' 0<53
      ·have cT:wr.cell? ⟨P,po,none⟩=some (.int .i64 1):=HI'.out.tab 0 (by omega)
       have hA:n*2^j*2^1<d*2^i:=HL.out.dbl0 h5
       have S:=fun (q:Nat)=>HL.out.shift (m:=1) (Hd.out.drewN q) (HI'.out.cheats.below (below_drewN (Below.refl g _) q) HI'.out.g12 HI'.out.hG) (by omega) (by omega) hA
       have HS:=hide S
       clear S hA
       go_wp2
       go_quiet (fail)
       go_wp2
       go_quiet (fail)
       go_wp2_with fail
       refine (HS.out _).mono ?_
       rintro e w' ⟨rfl,D2,nd2,dp2,tr2,hd2,hL2,hb2⟩
       have Hd2:=hide hd2
       have HL2:=hide hL2
       have Hb2:=hide hb2
       clear hd2 hL2 hb2 HS cT
       have hj2:j+1<1110+i:=HL2.out.jle.1
       go_wp2
       go_roundg (1110+i-(j+1))
       case rel=>exact ⟨j+1,nd2,D2,dp2,tr2,hide (by omega),by go_num,by omega,Hd2.out,HL2,(below_drewN Hbw.out _).trans Hb2.out⟩
       case measure=>have:=Hgk.out;omega
      ·have c60:=HI'.out.mant
       have c61:=HI'.out.expb
       have c62:=HI'.out.bias
       have cN:=Hd.out.neg
       have HL3:Hid (L3 sm n d e0 b i j D' nd' tr'):=hide ⟨HL.out,HL.out.fb.half (by omega)⟩
       clear HL Hgk hjl
       have eInf:bits .or .u64 (bits .and .u64 0 4503599627370495) (IntKind.u64.wrap (IntKind.u64.wrap (bits .and .i64 2047 2047)*4503599627370496))=9218868437227405312:=j_ (m:=0) (y:=2047) (W:=9218868437227405312) (by omega) rfl rfl (by omega) (by omega)
       by_cases hx:(i:Int)-j-1< -1022
       ·obtain ⟨m,hm⟩:∃ m,m+i+1021=j:=⟨j-i-1021,by omega⟩
        have hm1:1<=m:=by omega
        obtain ⟨t1,t2,t3,t4,t5,t6,t7,t8⟩:=HL3.out.tiny hm1 hm
        have S:=fun (q:Nat) (z:Int) (hz:z= -(m:Int))=>JW (Hd.out.drewN q) HL3.out.l2.fb hm1 (by omega) t1 t2 t3 z hz
        have HS:=hide S
        have Ht6:=hide t6
        have Ht7:=hide t7
        have Ht8:=hide t8
        have Ht4:=hide t4
        have Hm:=hide hm
        clear S t1 t2 t3 t4 t6 t7 t8 hm
        go_wp2_with fail
        refine (HS.out 0 _ (by have:=Hm.out;omega)).mono ?_
        rintro e w' ⟨rfl,D4,nd4,dp4,tr4,hd4,hF4,hl4,hb4⟩
        have hbw4:=Hbw.out.trans hb4
        have HI4:=hide (HI.out.below hbw4)
        have Hbw4:=hide hbw4
        have Hd4:=hide hd4
        have S:=fun (q:Nat)=>Bd (k:=53) (Q':=QQ sm j) (b:=16) (hd4.drewN q) (HI4.out.cheats.below (below_drewN (Below.refl g _) q) HI4.out.g12 HI4.out.hG) hF4 (by omega) (by omega) (.inr ⟨Ht6.out,rfl⟩) Ht7.out (by have:=Ht4.out;omega) Ht8.out
        clear HS c9 f0 c8 c60 c61 c62 cN hd4 hF4 hl4 hb4 hbw4
        have HS:=hide S
        clear S
        have c60:=HI4.out.mant
        have c61:=HI4.out.expb
        have c62:=HI4.out.bias
        have eX:(i:Int)-j-1+(-1022-((i:Int)-j-1))= -1022:=by omega
        go_wp2
        go_quiet (fail)
        go_wp2_with fail
        refine (HS.out _).mono ?_
        rintro e w' ⟨rfl,D3,nd3,dp3,tr3,hd3,hF3,hl3,hb3⟩
        have hdp3:dp3<=16:=hF3.ub Ht7.out
        obtain ⟨R,hR⟩:∃ R,R=rq (n*2^j*2^53) (d*2^i*2^m):=⟨_,rfl⟩
        have S:=G_ g nd3 D3 dp3 tr3 w' hd3 hF3.norm (by omega) (by have:=hF3.lo;omega) R (hide (by rw [hR];exact hF3.rq (by have:=Ht4.out;omega) hl3))
        obtain ⟨r1,r2⟩:=HL3.out.tword hm1 Hm.out hR
        clear HS
        have HS:=hide S
        have Hr1:=hide r1
        have hbw3:=(below_drewN Hbw4.out _).trans hb3
        have HI3:=hide (HI.out.below hbw3)
        have Hbw3:=hide hbw3
        have cN:=hd3.neg
        clear S r1 hd3 hF3 hl3 hR hdp3 hb3 hbw3 c60 c61 c62
        have c60:=HI3.out.mant
        have c61:=HI3.out.expb
        have c62:=HI3.out.bias
        go_wp2_with fail
        refine (HS.out).mono ?_
        rintro e w' ⟨rfl,q,rfl⟩
        clear HS
        by_cases h52:R=4503599627370496
        ·have hRi:(R:Int)=4503599627370496:=by omega
         have eA:bits .and .u64 (4503599627370496:Int) 4503599627370496=4503599627370496:=lG (m:=4503599627370496) (by omega) (by omega)
         go_wp2
         go_step3
         repeat rw [fG]
         rw [<-HQ.out]
         rw [zH]
         clear HQ
         go_wp2
         go_quiet (fail)
         go_wp2
         rw [Exit.noGoto_ret]
         go_ret2
         exact kZ Ce.1 h52 Ce.2 Hr1.out (below_drewN Hbw3.out _)
        ·have hlt:R<4503599627370496:=by omega
         have eA:=yV hlt
         go_wp2
         go_step3
         repeat rw [fG]
         rw [<-HQ.out]
         rw [zH]
         clear HQ
         go_wp2
         go_quiet (fail)
         go_wp2
         rw [Exit.noGoto_ret]
         go_ret2
         exact kZ (Db hlt).1 rfl (Db hlt).2 Hr1.out (below_drewN Hbw3.out _)
       ·by_cases hov:1024<=(i:Int)-j-1
        ·go_wp2
         go_quiet (fail)
         go_wp2
         go_step3
         repeat rw [fG]
         rw [<-HQ.out]
         rw [Il]
         clear HQ
         go_wp2
         go_quiet (fail)
         go_wp2
         go_step3
         go_wp2
         go_quiet (fail)
         go_wp2
         rw [Exit.noGoto_ret]
         go_ret2
         exact ⟨ak,rfl,HL3.out.over hov,below_drewN Hbw.out _⟩
        ·obtain ⟨m1,m2,m3,m4,m5⟩:=HL3.out.may53
         have S:=fun (q:Nat)=>Bd (k:=53) (Hd.out.drewN q) (HI'.out.cheats.below (below_drewN (Below.refl g _) q) HI'.out.g12 HI'.out.hG) HL3.out.l2.fb (by omega) (by omega) m1 m2 m3 m4
         have HS:=hide S
         have Hm2:=hide m2
         have Hm5:=hide m5
         clear S m1 m2 m3 m4 m5
         go_wp2
         go_quiet (fail)
         go_wp2_with fail
         refine (HS.out _).mono ?_
         rintro e w' ⟨rfl,D3,nd3,dp3,tr3,hd3,hF3,hl3,hb3⟩
         have hdp3:dp3<=16:=hF3.ub Hm2.out
         obtain ⟨R,hR⟩:∃ R,R=rq (n*2^j*2^53) (d*2^i):=⟨_,rfl⟩
         have S:=G_ g nd3 D3 dp3 tr3 w' hd3 hF3.norm (by omega) (by have:=hF3.lo;omega) R (hide (by rw [hR];exact hF3.rq Hm5.out hl3))
         obtain ⟨k,hk⟩:∃ k,k=1074+i-(j+53):=⟨_,rfl⟩
         obtain ⟨r1,r2,r3⟩:=HL3.out.word (k:=k) (by omega) hR
         have Hk:=hide hk
         clear hk
         have HS:=hide S
         have Hr1:=hide r1
         have hbw3:=(below_drewN Hbw.out _).trans hb3
         have HI3:=hide (HI.out.below hbw3)
         have Hbw3:=hide hbw3
         have cN:=hd3.neg
         clear S r1 hd3 hF3 hl3 hR hdp3 hb3 hbw3 c9 f0 c8 c60 c61 c62
         have c60:=HI3.out.mant
         have c61:=HI3.out.expb
         have c62:=HI3.out.bias
         go_wp2_with fail
         refine (HS.out).mono ?_
         rintro e w' ⟨rfl,q,rfl⟩
         clear HS
         by_cases h53:R=9007199254740992
         ·have hRi:(R:Int)=9007199254740992:=by omega
          by_cases ho2:1023<=(i:Int)-j-1
          ·go_wp2
           go_quiet (fail)
           go_wp2
           go_step3
           repeat rw [fG]
           rw [<-HQ.out]
           rw [Il]
           clear HQ
           go_wp2
           go_quiet (fail)
           go_wp2
           go_step3
           go_wp2
           go_quiet (fail)
           go_wp2
           rw [Exit.noGoto_ret]
           go_ret2
           exact Fg (W:=9218868437227405312) rfl (KI ho2 Hk.out h53) iM.symm Hr1.out (below_drewN Hbw3.out _)
          ·have eA:bits .and .u64 (4503599627370496:Int) 4503599627370496=4503599627370496:=lG (m:=4503599627370496) (by omega) (by omega)
           go_wp2
           go_quiet (fail)
           go_wp2
           go_step3
           repeat rw [fG]
           rw [<-HQ.out]
           rw [zH]
           clear HQ
           go_wp2
           go_quiet (fail)
           go_wp2
           rw [Exit.noGoto_ret]
           go_ret2
           obtain ⟨l1,l2,l3⟩:=La hx ho2 Hk.out
           exact kZ l1 (by rw [h53];exact l2) l3 Hr1.out (below_drewN Hbw3.out _)
         ·have eA:=lG r2 (by omega)
          go_wp2
          go_step3
          repeat rw [fG]
          rw [<-HQ.out]
          rw [zH]
          clear HQ
          go_wp2
          go_quiet (fail)
          go_wp2
          rw [Exit.noGoto_ret]
          go_ret2
          obtain ⟨l1,l2,l3⟩:=KG hx hov r2 (Nat.lt_of_le_of_ne r3 h53) Hk.out
          exact kZ l1 l2 l3 Hr1.out (below_drewN Hbw3.out _)
end Go.Proofs.YtjibjahfbblieaaGreatDoor.F
namespace Go.Proofs.YtjibjahfbblieaaGreatDoor.F
open Go Go.RowKit
set_option linter.unusedVariables false
set_option maxHeartbeats 1600000 in
set_option maxRecDepth 100000 in
theorem PU (n d g P po G o nd:Nat) (D:Nat->Int) (dp:Int) (w:World) (h:DecAt w g D nd dp false) (hI:FInfo w g P po G o) (hne:nd≠0) (hdp:310<dp) (hr:Hid (aC (n*2^1074) d ak)):
 Calls Tryz.prog 251 #[.pointer (some ⟨g,0,none⟩),.pointer (some ⟨13,0,none⟩)] w fun e w'=>t_ n d g w e w':=by
 have c0:=h.nd
 have c9:=h.dp
 have cN:=h.neg
 have c60:=hI.mant
 have c61:=hI.expb
 have c62:=hI.bias
 have h0:((nd:Int)==0)=false:=by rw [beq_eq_false_iff_ne];omega
 have eInf:bits .or .u64 (bits .and .u64 0 4503599627370495) (IntKind.u64.wrap (IntKind.u64.wrap (bits .and .i64 2047 2047)*4503599627370496))=9218868437227405312:=j_ (m:=0) (y:=2047) (W:=9218868437227405312) (by omega) rfl rfl (by omega) (by omega)
 clear h hI hne
 go_enter Tryz.func251,Tryz.ntmps251
 go_wp2
 refine ku rfl rfl ?_
 go_hide hQ
 have HQ:=hide hQ
 clear hQ
 go_wp2
 go_step3
 repeat rw [fG]
 rw [<-HQ.out]
 rw [Il]
 clear HQ
 go_wp2
 go_quiet (fail)
 go_wp2
 go_step3
 go_wp2
 go_quiet (fail)
 go_wp2
 rw [Exit.noGoto_ret]
 go_ret2
 exact ⟨ak,rfl,hr.out,below_drewN (Below.refl g w) _⟩
set_option maxHeartbeats 1600000 in
set_option maxRecDepth 100000 in
theorem Pk (n d g P po G o nd:Nat) (D:Nat->Int) (dp:Int) (w:World) (h:DecAt w g D nd dp false) (hI:FInfo w g P po G o) (hne:nd≠0) (hdp:dp< -330) (hr:Hid (aC (n*2^1074) d 0)):
 Calls Tryz.prog 251 #[.pointer (some ⟨g,0,none⟩),.pointer (some ⟨13,0,none⟩)] w fun e w'=>t_ n d g w e w':=by
 have c0:=h.nd
 have c9:=h.dp
 have cN:=h.neg
 have c60:=hI.mant
 have c61:=hI.expb
 have c62:=hI.bias
 have h0:((nd:Int)==0)=false:=by rw [beq_eq_false_iff_ne];omega
 have eInf:bits .or .u64 (bits .and .u64 0 4503599627370495) (IntKind.u64.wrap (IntKind.u64.wrap (bits .and .i64 0 2047)*4503599627370496))=0:=j_ (m:=0) (y:=0) (W:=0) (by omega) rfl rfl (by omega) (by omega)
 clear h hI hne
 go_enter Tryz.func251,Tryz.ntmps251
 go_wp2
 refine ku rfl rfl ?_
 go_hide hQ
 have HQ:=hide hQ
 clear hQ
 go_wp2
 go_step3
 repeat rw [fG]
 rw [<-HQ.out]
 rw [zH]
 clear HQ
 go_wp2
 go_quiet (fail)
 go_wp2
 rw [Exit.noGoto_ret]
 go_ret2
 exact kZ (W:=0) rfl rfl (by rw [iM];omega) hr.out (below_drewN (Below.refl g w) _)
theorem rY (N g P po G o nd:Nat) (E dp:Int) (D:Nat->Int) (w:World) (h:DecAt w g D nd dp false) (hI:FInfo w g P po G o) (hN0:N≠0) (hN:N<10^100) (hv:dv D nd=N) (hnd:nd=aK N) (hnorm:Norm D nd) (hdp:dp=nd+E)
 (hE1: -430<=E) (hE2:E<=1000):
 Calls Tryz.prog 251 #[.pointer (some ⟨g,0,none⟩),.pointer (some ⟨13,0,none⟩)] w fun e w'=>t_ (N*10^E.toNat) (10^(-E).toNat) g w e w':=by
 have hK:=kE
 have hne:nd≠0:=by
  intro e
  rw [e] at hv
  exact hN0 hv.symm
 have hnd100:nd<=100:=by
  have h1:=lW hN0
  have:=iC (Nat.lt_of_le_of_lt h1 hN)
  omega
 by_cases c1:310<dp
 ·exact PU _ _ g P po G o nd D dp w h hI hne c1 (hide (lg hN0 (by omega)))
 ·by_cases c2:dp< -330
  ·exact Pk _ _ g P po G o nd D dp w h hI hne c2 (hide (oF (by omega)))
  ·have hrep:∀ Q,Q<=800->RepV (N*10^E.toNat) (10^(-E).toNat) KK Q (dv D nd*10^(dp-nd+KK).toNat) false:=by
    intro Q hQ
    refine RepV.of_eq (jy _) (by omega) ?_
    rw [hv,Nat.mul_assoc,Nat.mul_assoc,<-Nat.pow_add,<-Nat.pow_add]
    congr 2
    omega
   have hfb:∀ Q,Q<=800->FB (N*10^E.toNat) (10^(-E).toNat) Q D nd dp false:=fun Q hQ=>⟨hnorm,hne,by omega,by omega,hQ,jy _,hrep Q hQ⟩
   have hlo:∃ y,y=331/\10^(-E).toNat<=N*10^E.toNat*10^y:=by
    refine ⟨331,rfl,?_⟩
    have F:=hfb 0 (by omega)
    have h1:=F.vlo
    have h2:=Nat.le_trans (Nat.mul_le_mul_right (10^(-E).toNat) h1) F.rep.le
    obtain ⟨y,hy⟩:∃ y,y=331:=⟨_,rfl⟩
    rw [<-hy]
    have e1:10^(-E).toNat*10^(KK-y)<=10^(dp-1+KK).toNat*10^(-E).toNat:=by
     rw [Nat.mul_comm]
     exact Nat.mul_le_mul_right _ (Nat.pow_le_pow_right (by omega) (by omega))
    have e2:N*10^E.toNat*10^y*10^(KK-y)=N*10^E.toNat*10^KK:=by rw [Nat.mul_assoc _ (10^y),<-Nat.pow_add,show y+(KK-y)=KK by omega]
    have e3:10^(-E).toNat*10^(KK-y)<=N*10^E.toNat*10^y*10^(KK-y):=by rw [e2];exact Nat.le_trans e1 h2
    exact Nat.le_of_mul_le_mul_right e3 (jy _)
   have hn:0<N*10^E.toNat:=Nat.mul_pos (by omega) (jy _)
   by_cases hs:E<0
   ·refine C9 true _ _ (-E).toNat 200 g P po G o nd D dp w h hI ⟨⟨hn,jy _,?_,hlo,fun _=>⟨rfl,by omega,?_,rfl⟩,fun h=>by cases h⟩,?_,.inl rfl⟩ (by omega) (by omega)
    ·have e0:E.toNat=0:=by omega
     rw [e0,Nat.pow_zero,Nat.mul_one]
     refine Nat.lt_of_lt_of_le hN ?_
     rw [<-Nat.pow_add]
     exact Nat.pow_le_pow_right (by omega) (by omega)
    ·have e0:E.toNat=0:=by omega
     rw [e0,Nat.pow_zero,Nat.mul_one]
     exact hN
    ·rw [Nat.pow_zero,Nat.mul_one]
     exact hfb _ (by unfold QQ;simp)
   ·have e0:(-E).toNat=0:=by omega
    have e1:10^(-E).toNat=1:=by rw [e0,Nat.pow_zero]
    obtain ⟨y,hy⟩:∃ y,y=310:=⟨_,rfl⟩
    refine C9 false _ _ 0 y g P po G o nd D dp w h hI ⟨⟨hn,jy _,?_,hlo,(fun h=>by cases h),fun _=>⟨e1,hy⟩⟩,?_,.inl rfl⟩ (by omega) (by omega)
    ·have F:=hfb 0 (by omega)
     have h1:=F.rep.eq rfl
     have h2:=F.vhi
     rw [e1,Nat.mul_one] at h1
     rw [e1,Nat.one_mul]
     refine Nat.lt_of_mul_lt_mul_right (a:=10^KK) ?_
     rw [<-h1,<-Nat.pow_add]
     exact Nat.lt_of_lt_of_le h2 (Nat.pow_le_pow_right (by omega) (by omega))
    ·rw [Nat.pow_zero,Nat.mul_one]
     exact hfb _ (by unfold QQ;simp)
end Go.Proofs.YtjibjahfbblieaaGreatDoor.F
namespace Go.Proofs.YtjibjahfbblieaaGreatDoor.F
open Go Go.RowKit
set_option linter.unusedVariables false
structure Txt (s:ByteArray) (k:Nat) (ds:List Int) (b p:Nat) (x:Int):Prop where
 hs:s.size<=100
 hk:k<=s.size
 dp:∀ j,j<k->nY ((bs s).getD j 0)=true
 scan:aY ((bs s).take k)=(ds,b,p)
 p1:p<=1
 ne:ds≠[]
 ex:(k=s.size/\x=0)∨(k<s.size/\Ib ((bs s).drop k)=some x)
theorem vE {l:List Int} {i:Nat} (h:i<l.length):(aY (l.take i)).2.2<=(aY (l.take (i+1))).2.2:=by
 rw [ng h];unfold aX;split
 ·exact Nat.le_succ _
 ·exact Nat.le_refl _
theorem nK {l:List Int} {i:Nat}:∀ {k:Nat},i<=k->k<=l.length->(aY (l.take i)).2.2<=(aY (l.take k)).2.2
 |0,h,_=>by rw [show i=0 by omega];exact Nat.le_refl _
 |k+1,h,hk=>by
  by_cases e:i=k+1
  ·rw [e];exact Nat.le_refl _
  ·exact Nat.le_trans (nK (k:=k) (by omega) (by omega)) (vE (by omega))
theorem I_:∀ (l:List Int),(aY l).2.2=0->(aY l).2.1=0:=by
 have key:∀ (l:List Int) (st:List Int × Nat × Nat),(st.2.2=0->st.2.1=0)->(l.foldl aX st).2.2=0->(l.foldl aX st).2.1=0:=by
  intro l
  induction l with
  |nil=>intro st h;exact h
  |cons c l ih=>
   intro st h
   refine ih (aX st c) ?_
   unfold aX
   split
   ·intro hh;simp at hh
   ·intro hh
    have hp:st.2.2=0:=hh
    have hb:=h hp
    show st.2.1+st.2.2=0
    omega
 exact fun l=>key l _ (fun _=>rfl)
theorem Txt.pi {s:ByteArray} {k b p i b' p':Nat} {ds ds':List Int} {x:Int} (h:Txt s k ds b p x) (hi:i<=k) (hsc:aY ((bs s).take i)=(ds',b',p')):p'<=1/\(p'=0->b'=0):=by
 have h1:=nK (l:=bs s) (i:=i) (k:=k) hi (by rw [bD];exact h.hk)
 rw [hsc,h.scan] at h1
 have h2:=I_ ((bs s).take i)
 rw [hsc] at h2
 have h3:p'<=p:=h1
 have:=h.p1
 exact ⟨by omega,h2⟩
structure SetS (N b p i:Nat) (D:Nat->Int) (nd:Nat) (dp:Int):Prop where
 v:dv D nd=N
 n:nd=aK N
 ok:dh D nd
 head:nd≠0->D 0≠48
 dpp:p=1->dp=(nd:Int)-b
 lo: -(i:Int)<=dp
 hi:dp<=i
 le:nd<=i
theorem SetS.start (D:Nat->Int):SetS 0 0 0 0 D 0 0:=
 ⟨rfl,cZ.symm,fun i h=>by omega,fun h=>absurd rfl h,fun h=>by omega,by omega,by omega,by omega⟩
theorem SetS.zero {N b p i:Nat} {D:Nat->Int} {dp:Int} (h:SetS N b p i D 0 dp) (hp:p<=1):SetS (N*10+(48-48:Int).toNat) (b+p) p (i+1) D 0 (dp-1):=by
 have hN:N=0:=by have:=h.v;simpa [dv] using this.symm
 subst hN
 have h1:=h.dpp
 have h2:=h.lo
 have h3:=h.hi
 refine ⟨rfl,cZ.symm,h.ok,h.head,fun e=>?_,by omega,by omega,by omega⟩
 have:=h1 e
 omega
theorem SetS.put {N b p i nd:Nat} {D:Nat->Int} {dp c:Int} (h:SetS N b p i D nd dp) (hp:p<=1) (hc1:48<=c) (hc2:c<=57) (hz:nd≠0∨c≠48):SetS (N*10+(c-48).toNat) (b+p) p (i+1) (gF D nd c) (nd+1) dp:=by
 have h1:=h.dpp
 have h2:=h.lo
 have h3:=h.hi
 have h4:=h.le
 have hv:=h.v
 have hne:N*10+(c-48).toNat≠0:=by
  rcases hz with g|g
  ·have:=pV h.ok g (h.head g)
   have:=jy (nd-1)
   omega
  ·omega
 refine ⟨by rw [Cg,hv],?_,fun j hj=>?_,fun _=>?_,fun e=>?_,by omega,by omega,by omega⟩
 ·rw [jr _ _ (by omega),if_neg hne,<-h.n]
 ·by_cases e:j=nd
  ·subst e;rw [fI];exact ⟨hc1,hc2⟩
  ·rw [bN e];exact h.ok j (by omega)
 ·by_cases e:nd=0
  ·subst e;rw [fI];rcases hz with g|g
   ·exact absurd rfl g
   ·exact g
  ·rw [bN (by omega)];exact h.head e
 ·have:=h1 e;omega
theorem SetS.point {N i nd:Nat} {D:Nat->Int} {dp:Int} (h:SetS N 0 0 i D nd dp):SetS N 0 1 (i+1) D nd (nd:Int):=by
 have h4:=h.le
 exact ⟨h.v,h.n,h.ok,h.head,fun _=>by omega,by omega,by omega,by omega⟩
structure ExpAt (s:ByteArray) (t v:Nat):Prop where
 lt:t<s.size
 le:s.size<=t+3
 dig:∀ j,t<=j->j<s.size->48<=(bs s).getD j 0/\(bs s).getD j 0<=57
 val:v=dval ((bs s).drop t)
theorem uX {s:ByteArray} {t:Nat} {y:Int} (h:yK ((bs s).drop t)=some y):∃ v:Nat,y=v/\ExpAt s t v:=by
 unfold yK at h
 split at h
 ·rename_i hh
  obtain ⟨h1,h2,h3⟩:=hh
  rw [List.length_drop,bD] at h1 h2
  refine ⟨dval ((bs s).drop t),by simpa using h.symm,by omega,by omega,fun j j1 j2=>?_,rfl⟩
  unfold aZ at h3
  rw [List.all_eq_true] at h3
  have hm:(bs s).getD j 0∈(bs s).drop t:=by
   have hl:j-t<((bs s).drop t).length:=by rw [List.length_drop,bD];omega
   have e:((bs s).drop t)[j-t]=(bs s).getD j 0:=by
    rw [List.getElem_drop,List.getD_eq_getElem?_getD,List.getElem?_eq_getElem (by rw [bD];exact j2)]
    simp only [Option.getD_some]
    congr 1
    omega
   rw [<-e];exact List.getElem_mem hl
  have:=h3 _ hm
  unfold dQ at this
  rw [decide_eq_true_eq] at this
  exact this
 ·cases h
theorem jJ {s:ByteArray} {k:Nat} {x:Int} (h:Ib ((bs s).drop k)=some x):((bs s).getD k 0=101∨(bs s).getD k 0=69)/\
 ∃ v:Nat,((bs s).getD (k+1) 0=45/\x= -(v:Int)/\ExpAt s (k+2) v)∨((bs s).getD (k+1) 0=43/\x=v/\ExpAt s (k+2) v)∨((bs s).getD (k+1) 0≠45/\(bs s).getD (k+1) 0≠43/\x=v/\ExpAt s (k+1) v):=by
 have g0:∀ j,((bs s).drop k).getD j 0=(bs s).getD (k+j) 0:=fun j=>by simp [List.getD_eq_getElem?_getD,List.getElem?_drop]
 have g1:(((bs s).drop k).drop 1).getD 0 0=(bs s).getD (k+1) 0:=by simp [List.getD_eq_getElem?_getD,List.getElem?_drop]
 unfold Ib at h
 rw [g0] at h
 split at h
 ·rename_i hc
  refine ⟨hc,?_⟩
  unfold M0 at h
  rw [g1,List.drop_drop,List.drop_drop] at h
  split at h
  ·rename_i h45
   cases hb:yK ((bs s).drop (k+(1+1))) with
   |none=>rw [hb] at h;cases h
   |some y=>
    rw [hb] at h
    obtain ⟨v,hv,hE⟩:=uX hb
    have:x= -y:=by simpa using h.symm
    exact ⟨v,.inl ⟨h45,by omega,hE⟩⟩
  ·rename_i h45
   split at h
   ·rename_i h43
    obtain ⟨v,hv,hE⟩:=uX h
    exact ⟨v,.inr (.inl ⟨h43,hv,hE⟩)⟩
   ·rename_i h43
    rw [List.drop_drop] at h
    obtain ⟨v,hv,hE⟩:=uX h
    exact ⟨v,.inr (.inr ⟨h45,h43,hv,hE⟩)⟩
 ·cases h
def bX (s:ByteArray) (t q:Nat):Nat:=dval (((bs s).drop t).take q)
theorem OB (s:ByteArray) (t:Nat):bX s t 0=0:=rfl
theorem tO {s:ByteArray} {t q:Nat} (h:t+q<s.size):bX s t (q+1)=bX s t q*10+(((s[t+q].toNat:Nat):Int)-48).toNat:=by
 unfold bX
 have hl:q<((bs s).drop t).length:=by rw [List.length_drop,bD];omega
 rw [List.take_succ_eq_append_getElem hl,gK]
 congr 3
 rw [List.getElem_drop]
 have:=aA h
 rw [List.getD_eq_getElem?_getD,List.getElem?_eq_getElem (by rw [bD];exact h)] at this
 exact this
theorem bE {s:ByteArray} {t q v:Nat} (h:ExpAt s t v) (hq:t+q=s.size):bX s t q=v:=by
 unfold bX
 rw [h.val,List.take_of_length_le]
 rw [List.length_drop,bD];omega
theorem Dn {s:ByteArray} {t v:Nat} (h:ExpAt s t v):∀ {q:Nat},t+q<=s.size->bX s t q<10^q
 |0,_=>by rw [OB];decide
 |q+1,hq=>by
  rw [tO (by omega),Nat.pow_succ]
  have h1:=Dn h (q:=q) (by omega)
  have h2:=h.dig (t+q) (by omega) (by omega)
  rw [aA (show t+q<s.size by omega)] at h2
  omega
theorem aM {s:ByteArray} {t v q:Nat} (h:ExpAt s t v) (hq:t+q<=s.size):bX s t q<1000:=by
 have h1:=Dn h hq
 have h2:=h.le
 have:10^q<=10^3:=Nat.pow_le_pow_right (by omega) (by omega)
 omega
end Go.Proofs.YtjibjahfbblieaaGreatDoor.F
namespace Go.Proofs.YtjibjahfbblieaaGreatDoor.F
open Go Go.RowKit
set_option linter.unusedVariables false
theorem DecAt.setNeg {w:World} {g:Nat} {D:Nat->Int} {nd dp:Int} {tr:Bool} (h:DecAt w g D nd dp tr):DecAt (w.setCell ⟨g,802,none⟩ (.bool false)) g D nd dp tr:={
 lt:=by simpa using h.lt
 fr:=fun k=>by simpa using h.fr k
 dig:=fun k hk=>(World.cell?_setCell_other _ _ _ _ (bH (by omega))).trans (h.dig k hk)
 nd:=(World.cell?_setCell_other _ _ _ _ (bH (by omega))).trans h.nd
 dp:=(World.cell?_setCell_other _ _ _ _ (bH (by omega))).trans h.dp
 neg:=World.cell?_setCell_same _ _ _ h.neg
 tr:=(World.cell?_setCell_other _ _ _ _ (bH (by omega))).trans h.tr }
theorem DecAt.drew {w:World} {g:Nat} {D:Nat->Int} {nd dp:Int} {tr:Bool} (h:DecAt w g D nd dp tr):DecAt w.drew g D nd dp tr:=
 ⟨h.lt,h.fr,h.dig,h.nd,h.dp,h.neg,h.tr⟩
def Qq (N b:Nat) (x:Int) (g:Nat) (w:World) (e:Ending) (w':World):Prop:=
 e=.returned (.bool true)/\∃ D nd dp,DecAt w' g D (nd:Nat) dp false/\(dv D nd=N/\nd=aK N/\dh D nd/\(nd≠0->D 0≠48)/\dp=(nd:Int)-b+x)/\Below g w w'
theorem Txt.k0 {s:ByteArray} {k b p:Nat} {ds:List Int} {x:Int} (h:Txt s k ds b p x):1<=k:=by
 rcases Nat.eq_zero_or_pos k with e|e
 ·have h1:=h.scan
  rw [e] at h1
  have:ds=[]:=by simp [aY] at h1;exact h1.1
  exact absurd this h.ne
 ·exact e
theorem Au {c:Int} (h:nY c=true):c=46∨(48<=c/\c<=57):=by
 unfold nY dQ at h
 rw [Bool.or_eq_true,decide_eq_true_eq,beq_iff_eq] at h
 rcases h with h|h
 ·exact .inr h
 ·exact .inl h
theorem mG {s:ByteArray} {k b p i:Nat} {ds:List Int} {x:Int} (h:Txt s k ds b p x) (hi:i<k) (hs:i<s.size):((s[i].toNat:Nat):Int)=46∨(48<=((s[i].toNat:Nat):Int)/\((s[i].toNat:Nat):Int)<=57):=by
 have:=h.dp i hi
 rw [aA hs] at this
 exact Au this
theorem bq {x y:Int} (h:x≠y):(x==y)=false:=beq_eq_false_iff_ne.2 h
theorem aV {s:ByteArray} {t q y:Nat} {e:Nat} (hy:y=t+q) (hlt:y<s.size) (he:e=bX s t q) (hd:48<=((s[y].toNat:Nat):Int)):(e:Int)*10+((s[y].toNat:Nat):Int)-48=((bX s t (q+1):Nat):Int):=by
 subst hy
 rw [tO hlt,he]
 omega
set_option maxHeartbeats 4000000 in
set_option maxRecDepth 100000 in
theorem KW (s:ByteArray) (k b p g:Nat) (ds:List Int) (x:Int) (D0:Nat->Int) (w:World) (hT:Txt s k ds b p x) (h:DecAt w g D0 ((0:Nat):Int) 0 false):
 Calls Tryz.prog 250 #[.pointer (some ⟨g,0,none⟩),.string s] w fun e w'=>Qq (dval ds) b x g w e w':=by
 have HT:=hide hT
 have hk0:=hT.k0
 have hk:=hT.hk
 have hs:=hT.hs
 have h0:0<s.size:=by omega
 have hc:=mG hT (i:=0) (by omega) h0
 have e43:(((s[0].toNat:Nat):Int)==43)=false:=bq (by omega)
 have e45:(((s[0].toNat:Nat):Int)==45)=false:=bq (by omega)
 have Hc:=hide hc
 have H:=hide h
 have f0:=h.fr
 have c802:=h.neg
 have c803:=h.tr
 clear h hT hc
 have h0a:(0:Int)<(s.size:Int):=by omega
 have h0b:¬ s.size=0:=by omega
 go_enter Tryz.func250,Tryz.ntmps250
 go_wp2
 clear e43 e45 h0b
 go_loopw [5,6,7] (fun iv dv' gv wr=>∃ (i b' p' nd:Nat) (ds':List Int) (D:Nat->Int) (dp:Int),i<=k/\iv=.int .i64 i/\dv'=.bool (decide (p'=1))/\gv=.bool (decide (ds'≠[]))/\Hid (aY ((bs s).take i)=(ds',b',p'))/\Hid (SetS (dval ds') b' p' i D nd dp)/\DecAt wr g D nd dp false/\Below g w wr) (fun iv _ _ _=>s.size-(intOf iv).toNat)
 case atStart=>exact ⟨0,0,0,0,[],D0,0,Nat.zero_le _,rfl,rfl,rfl,hide rfl,hide (SetS.start _),(H.out.setNeg).setTr false,((Below.refl g w).setCell (Nat.le_refl _) _).setCell (Nat.le_refl _) _⟩
 case round=>
  clear f0 c802 c803 H Hc
  obtain ⟨i,b',p',nd,ds',D,dp,hi,rfl,rfl,rfl,Hsc,HS,hd,hbw⟩:=hrel
  have Hd:=hide hd
  have Hbw:=hide hbw
  clear hd hbw
  have c0:=Hd.out.nd
  have c9:=Hd.out.dp
  have f0:=Hd.out.fr
  have hpi:=HT.out.pi hi Hsc.out
  have hlo:=HS.out.lo
  have hhi:=HS.out.hi
  have hle:=HS.out.le
  by_cases hik:i<k
  ·have his:i<s.size:=by omega
   have hisI:(i:Int)<(s.size:Int):=by omega
   have hc:=mG HT.out hik his
   have e95:(((s[i].toNat:Nat):Int)==95)=false:=bq (by omega)
   by_cases hpt:((s[i].toNat:Nat):Int)=46
   ·have e46:(((s[i].toNat:Nat):Int)==46)=true:=by rw [hpt];rfl
    have hsc:=kC his Hsc.out hpt
    have hp0:=(HT.out.pi (i:=i+1) (by omega) hsc).1
    have hp':p'=0:=by omega
    have hb':b'=0:=hpi.2 hp'
    subst hp' hb'
    have HS':=hide HS.out.point
    have Hsc':=hide hsc
    clear hsc hpt hc
    go_wp2
    go_roundw
    case rel=>exact ⟨i+1,0,1,nd,ds',D,nd,by omega,by go_num,rfl,rfl,Hsc',HS',Hd.out.setDp nd,Hbw.out.setCell (Nat.le_refl _) _⟩
    case measure=>simp [intOf];omega
   ·have e46:(((s[i].toNat:Nat):Int)==46)=false:=bq hpt
    obtain ⟨hx1,hx2⟩:48<=((s[i].toNat:Nat):Int)/\((s[i].toNat:Nat):Int)<=57:=by omega
    have hsc:=oD his Hsc.out (by show dQ _=true;unfold dQ;rw [decide_eq_true_eq];exact ⟨hx1,hx2⟩)
    have Hsc':=hide hsc
    have Hv:=hide (gK ds' ((s[i].toNat:Nat):Int))
    have hne:decide (ds'++[((s[i].toNat:Nat):Int)]≠[])=true:=by simp
    have Hne:=hide hne
    clear hsc hc hpt hne
    by_cases hz:nd=0/\((s[i].toNat:Nat):Int)=48
    ·obtain ⟨hz1,hz2⟩:=hz
     subst hz1
     have e48:(((s[i].toNat:Nat):Int)==48)=true:=by rw [hz2];rfl
     have HS':Hid (SetS (dval (ds'++[((s[i].toNat:Nat):Int)])) (b'+p') p' (i+1) D 0 (dp-1)):=hide (by
      rw [Hv.out,hz2];exact HS.out.zero hpi.1)
     clear hz2
     go_wp2
     go_roundw
     case rel=>exact ⟨i+1,b'+p',p',0,_,D,dp-1,by omega,by go_num,rfl,by rw [Hne.out],Hsc',HS',Hd.out.setDp (dp-1),Hbw.out.setCell (Nat.le_refl _) _⟩
     case measure=>simp [intOf];omega
    ·have HS':Hid (SetS (dval (ds'++[((s[i].toNat:Nat):Int)])) (b'+p') p' (i+1) (gF D nd ((s[i].toNat:Nat):Int)) (nd+1) dp):=hide (by
      rw [Hv.out];exact HS.out.put hpi.1 hx1 hx2 (by omega))
     have hn8:(nd:Int)<800:=by omega
     have cW:=Hd.out.dig nd (by omega)
     by_cases e48':((s[i].toNat:Nat):Int)=48
     ·have e48:(((s[i].toNat:Nat):Int)==48)=true:=by rw [e48'];rfl
      have en:((nd:Int)==0)=false:=bq (by omega)
      clear hz e48'
      go_wp2
      go_region
      have hd3:=(Hd.out.setDig (k:=nd) (by omega) ((s[i].toNat:Nat):Int)).drew
      have hb3:Below g w ((wr.setCell ⟨g,nd,none⟩ (.int .u8 ((s[i].toNat:Nat):Int))).drew):=(Hbw.out.setCell (Nat.le_refl _) _).drew
      generalize ((wr.setCell ⟨g,nd,none⟩ (.int .u8 ((s[i].toNat:Nat):Int))).drew)=w3 at *
      clear c0 c9 f0 cW
      have c0:=hd3.nd
      have f0:=hd3.fr
      have Hd3:=hide hd3
      have Hb3:=hide hb3
      clear hd3 hb3
      go_wp2
      go_roundw
      case rel=>exact ⟨i+1,b'+p',p',nd+1,_,_,dp,by omega,by go_num,rfl,by rw [Hne.out],Hsc',HS',Hd3.out.setNd ((nd:Int)+1),Hb3.out.setCell (Nat.le_refl _) _⟩
      case measure=>simp [intOf];omega
     ·have e48:(((s[i].toNat:Nat):Int)==48)=false:=bq e48'
      clear hz e48'
      go_wp2
      go_region
      have hd3:=(Hd.out.setDig (k:=nd) (by omega) ((s[i].toNat:Nat):Int)).drew
      have hb3:Below g w ((wr.setCell ⟨g,nd,none⟩ (.int .u8 ((s[i].toNat:Nat):Int))).drew):=(Hbw.out.setCell (Nat.le_refl _) _).drew
      generalize ((wr.setCell ⟨g,nd,none⟩ (.int .u8 ((s[i].toNat:Nat):Int))).drew)=w3 at *
      clear c0 c9 f0 cW
      have c0:=hd3.nd
      have f0:=hd3.fr
      have Hd3:=hide hd3
      have Hb3:=hide hb3
      clear hd3 hb3
      go_wp2
      go_roundw
      case rel=>exact ⟨i+1,b'+p',p',nd+1,_,_,dp,by omega,by go_num,rfl,by rw [Hne.out],Hsc',HS',Hd3.out.setNd ((nd:Int)+1),Hb3.out.setCell (Nat.le_refl _) _⟩
      case measure=>simp [intOf];omega
  ·have hik':i=k:=by omega
   subst hik'
   have hsc:=Hsc.out
   rw [HT.out.scan] at hsc
   obtain ⟨rfl,rfl,rfl⟩:ds=ds'/\b=b'/\p=p':=by
    have h1:=congrArg Prod.fst hsc
    have h2:=congrArg Prod.snd hsc
    exact ⟨h1,congrArg Prod.fst h2,congrArg Prod.snd h2⟩
   have hg:decide (ds≠[])=true:=by simp [HT.out.ne]
   have Hpi:=hide hpi
   have hex:=HT.out.ex
   clear hsc Hsc hpi
   rcases hex with ⟨hex,hx0⟩|⟨hex,hx0⟩
   ·have HexI:(i:Int)=(s.size:Int):=by omega
    by_cases hp0:p=0
    ·have hpd:decide (p=1)=false:=by simp;omega
     have Hp0:=hide hp0
     clear hp0 hik
     go_wp2
     go_ret
     refine ⟨rfl,D,nd,nd,Hd.out.setDp nd,⟨HS.out.v,HS.out.n,HS.out.ok,HS.out.head,?_⟩,Hbw.out.setCell (Nat.le_refl _) _⟩
     have:=Hpi.out.2 Hp0.out
     omega
    ·have hp1:p=1:=by have:=Hpi.out.1;omega
     have hpd:decide (p=1)=true:=by simp;omega
     have Hp1:=hide hp1
     clear hp0 hik hp1
     go_wp2
     go_ret
     refine ⟨rfl,D,nd,dp,Hd.out,⟨HS.out.v,HS.out.n,HS.out.ok,HS.out.head,?_⟩,Hbw.out⟩
     have:=HS.out.dpp Hp1.out
     omega
   ·obtain ⟨hce,v,hcase⟩:=jJ hx0
    rw [aA hex] at hce
    have HexI:(i:Int)<(s.size:Int):=by omega
    have e95:(((s[i].toNat:Nat):Int)==95)=false:=bq (by omega)
    have e46:(((s[i].toNat:Nat):Int)==46)=false:=bq (by omega)
    have e57:(57:Int)<((s[i].toNat:Nat):Int):=by omega
    have eE:bits .or .u8 ((s[i].toNat:Nat):Int) 32=101:=by
     rcases hce with h|h
     ·rw [h];decide
     ·rw [h];decide
    clear hce hx0 hik
    rcases hcase with ⟨q1,q2,q3⟩|⟨q1,q2,q3⟩|⟨q1,q1',q2,q3⟩
    ·have ht:=q3.lt
     have hts:=q3.le
     have ht1:i+1<s.size:=by omega
     rw [aA ht1] at q1
     have s45:(((s[i+1].toNat:Nat):Int)==45)=true:=by rw [q1];rfl
     have s43:(((s[i+1].toNat:Nat):Int)==43)=false:=bq (by omega)
     have hd0:=q3.dig (i+2) (Nat.le_refl _) ht
     rw [aA ht] at hd0
     obtain ⟨d1,d2⟩:=hd0
     have htI:(i:Int)+1<(s.size:Int):=by omega
     have hti:((i:Int)+1).toNat=i+1:=by omega
     have htI2:(i:Int)+1+1<(s.size:Int):=by omega
     have hti2:((i:Int)+1+1).toNat=i+2:=by omega
     have htI3:(i:Int)+2<(s.size:Int):=by omega
     have hti3:((i:Int)+2).toNat=i+2:=by omega
     have Q3:=hide q3
     clear q1 q3
     by_cases hp0:p=0
     ·have hpd:decide (p=1)=false:=by simp;omega
      have Hp0:=hide hp0
      clear hp0
      have Hc1:=hide (World.cell?_setCell_same wr ⟨g,801,none⟩ (.int .i64 (nd:Int)) c9)
      go_wp2
      go_loop [5,9] (fun iv ev=>∃ (y q e:Nat),iv=.int .i64 y/\ev=.int .i64 e/\Hid (y=i+2+q)/\y<=s.size/\Hid (e=bX s (i+2) q)) (fun iv _=>s.size-(intOf iv).toNat)
      case atStart=>exact ⟨i+2,0,0,by go_num,rfl,hide (by omega),by omega,hide rfl⟩
      case round=>
       obtain ⟨y,q,e,rfl,rfl,Hy,hys,He⟩:=hrel
       have hes:e<1000:=by rw [He.out];exact aM Q3.out (by have:=Hy.out;omega)
       by_cases hlt:y<s.size
       ·have hltI:(y:Int)<(s.size:Int):=by omega
        have hdy:=Q3.out.dig y (by have:=Hy.out;omega) hlt
        rw [aA hlt] at hdy
        obtain ⟨y1,y2⟩:=hdy
        have y95:(((s[y].toNat:Nat):Int)==95)=false:=bq (by omega)
        have hne:=aV Hy.out hlt He.out y1
        have Hne:=hide hne
        clear hne
        go_wp2
        go_round
        case rel=>exact ⟨y+1,q+1,bX s (i+2) (q+1),by go_num,by rw [<-Hne.out],hide (by have:=Hy.out;omega),by omega,hide rfl⟩
        case measure=>simp [intOf];omega
       ·have hyE:(y:Int)=(s.size:Int):=by omega
        have HeV:Hid (e=v):=hide (by rw [He.out];exact bE Q3.out (by have:=Hy.out;omega))
        go_wp2
        go_ret
        refine ⟨rfl,D,nd,(nd:Int)-e,(Hd.out.setDp nd).setDp ((nd:Int)-e),⟨HS.out.v,HS.out.n,HS.out.ok,HS.out.head,?_⟩,(Hbw.out.setCell (Nat.le_refl _) _).setCell (Nat.le_refl _) _⟩
        have:=Hpi.out.2 Hp0.out
        have:=HeV.out
        omega
     ·have hp1:p=1:=by have:=Hpi.out.1;omega
      have hpd:decide (p=1)=true:=by simp;omega
      have Hp1:=hide hp1
      clear hp0 hp1
      go_wp2
      go_loop [5,9] (fun iv ev=>∃ (y q e:Nat),iv=.int .i64 y/\ev=.int .i64 e/\Hid (y=i+2+q)/\y<=s.size/\Hid (e=bX s (i+2) q)) (fun iv _=>s.size-(intOf iv).toNat)
      case atStart=>exact ⟨i+2,0,0,by go_num,rfl,hide (by omega),by omega,hide rfl⟩
      case round=>
       obtain ⟨y,q,e,rfl,rfl,Hy,hys,He⟩:=hrel
       have hes:e<1000:=by rw [He.out];exact aM Q3.out (by have:=Hy.out;omega)
       by_cases hlt:y<s.size
       ·have hltI:(y:Int)<(s.size:Int):=by omega
        have hdy:=Q3.out.dig y (by have:=Hy.out;omega) hlt
        rw [aA hlt] at hdy
        obtain ⟨y1,y2⟩:=hdy
        have y95:(((s[y].toNat:Nat):Int)==95)=false:=bq (by omega)
        have hne:=aV Hy.out hlt He.out y1
        have Hne:=hide hne
        clear hne
        go_wp2
        go_round
        case rel=>exact ⟨y+1,q+1,bX s (i+2) (q+1),by go_num,by rw [<-Hne.out],hide (by have:=Hy.out;omega),by omega,hide rfl⟩
        case measure=>simp [intOf];omega
       ·have hyE:(y:Int)=(s.size:Int):=by omega
        have HeV:Hid (e=v):=hide (by rw [He.out];exact bE Q3.out (by have:=Hy.out;omega))
        go_wp2
        go_ret
        refine ⟨rfl,D,nd,dp-e,Hd.out.setDp (dp-e),⟨HS.out.v,HS.out.n,HS.out.ok,HS.out.head,?_⟩,Hbw.out.setCell (Nat.le_refl _) _⟩
        have:=HS.out.dpp Hp1.out
        have:=HeV.out
        omega
    ·have ht:=q3.lt
     have hts:=q3.le
     have ht1:i+1<s.size:=by omega
     rw [aA ht1] at q1
     have s43:(((s[i+1].toNat:Nat):Int)==43)=true:=by rw [q1];rfl
     have hd0:=q3.dig (i+2) (Nat.le_refl _) ht
     rw [aA ht] at hd0
     obtain ⟨d1,d2⟩:=hd0
     have htI:(i:Int)+1<(s.size:Int):=by omega
     have hti:((i:Int)+1).toNat=i+1:=by omega
     have htI2:(i:Int)+1+1<(s.size:Int):=by omega
     have hti2:((i:Int)+1+1).toNat=i+2:=by omega
     have htI3:(i:Int)+2<(s.size:Int):=by omega
     have hti3:((i:Int)+2).toNat=i+2:=by omega
     have Q3:=hide q3
     clear q1 q3
     by_cases hp0:p=0
     ·have hpd:decide (p=1)=false:=by simp;omega
      have Hp0:=hide hp0
      clear hp0
      have Hc1:=hide (World.cell?_setCell_same wr ⟨g,801,none⟩ (.int .i64 (nd:Int)) c9)
      go_wp2
      go_loop [5,9] (fun iv ev=>∃ (y q e:Nat),iv=.int .i64 y/\ev=.int .i64 e/\Hid (y=i+2+q)/\y<=s.size/\Hid (e=bX s (i+2) q)) (fun iv _=>s.size-(intOf iv).toNat)
      case atStart=>exact ⟨i+2,0,0,by go_num,rfl,hide (by omega),by omega,hide rfl⟩
      case round=>
       obtain ⟨y,q,e,rfl,rfl,Hy,hys,He⟩:=hrel
       have hes:e<1000:=by rw [He.out];exact aM Q3.out (by have:=Hy.out;omega)
       by_cases hlt:y<s.size
       ·have hltI:(y:Int)<(s.size:Int):=by omega
        have hdy:=Q3.out.dig y (by have:=Hy.out;omega) hlt
        rw [aA hlt] at hdy
        obtain ⟨y1,y2⟩:=hdy
        have y95:(((s[y].toNat:Nat):Int)==95)=false:=bq (by omega)
        have hne:=aV Hy.out hlt He.out y1
        have Hne:=hide hne
        clear hne
        go_wp2
        go_round
        case rel=>exact ⟨y+1,q+1,bX s (i+2) (q+1),by go_num,by rw [<-Hne.out],hide (by have:=Hy.out;omega),by omega,hide rfl⟩
        case measure=>simp [intOf];omega
       ·have hyE:(y:Int)=(s.size:Int):=by omega
        have HeV:Hid (e=v):=hide (by rw [He.out];exact bE Q3.out (by have:=Hy.out;omega))
        go_wp2
        go_ret
        refine ⟨rfl,D,nd,(nd:Int)+e,(Hd.out.setDp nd).setDp ((nd:Int)+e),⟨HS.out.v,HS.out.n,HS.out.ok,HS.out.head,?_⟩,(Hbw.out.setCell (Nat.le_refl _) _).setCell (Nat.le_refl _) _⟩
        have:=Hpi.out.2 Hp0.out
        have:=HeV.out
        omega
     ·have hp1:p=1:=by have:=Hpi.out.1;omega
      have hpd:decide (p=1)=true:=by simp;omega
      have Hp1:=hide hp1
      clear hp0 hp1
      go_wp2
      go_loop [5,9] (fun iv ev=>∃ (y q e:Nat),iv=.int .i64 y/\ev=.int .i64 e/\Hid (y=i+2+q)/\y<=s.size/\Hid (e=bX s (i+2) q)) (fun iv _=>s.size-(intOf iv).toNat)
      case atStart=>exact ⟨i+2,0,0,by go_num,rfl,hide (by omega),by omega,hide rfl⟩
      case round=>
       obtain ⟨y,q,e,rfl,rfl,Hy,hys,He⟩:=hrel
       have hes:e<1000:=by rw [He.out];exact aM Q3.out (by have:=Hy.out;omega)
       by_cases hlt:y<s.size
       ·have hltI:(y:Int)<(s.size:Int):=by omega
        have hdy:=Q3.out.dig y (by have:=Hy.out;omega) hlt
        rw [aA hlt] at hdy
        obtain ⟨y1,y2⟩:=hdy
        have y95:(((s[y].toNat:Nat):Int)==95)=false:=bq (by omega)
        have hne:=aV Hy.out hlt He.out y1
        have Hne:=hide hne
        clear hne
        go_wp2
        go_round
        case rel=>exact ⟨y+1,q+1,bX s (i+2) (q+1),by go_num,by rw [<-Hne.out],hide (by have:=Hy.out;omega),by omega,hide rfl⟩
        case measure=>simp [intOf];omega
       ·have hyE:(y:Int)=(s.size:Int):=by omega
        have HeV:Hid (e=v):=hide (by rw [He.out];exact bE Q3.out (by have:=Hy.out;omega))
        go_wp2
        go_ret
        refine ⟨rfl,D,nd,dp+e,Hd.out.setDp (dp+e),⟨HS.out.v,HS.out.n,HS.out.ok,HS.out.head,?_⟩,Hbw.out.setCell (Nat.le_refl _) _⟩
        have:=HS.out.dpp Hp1.out
        have:=HeV.out
        omega
    ·have ht:=q3.lt
     have hts:=q3.le
     rw [aA ht] at q1 q1'
     have s45:(((s[i+1].toNat:Nat):Int)==45)=false:=bq q1
     have s43:(((s[i+1].toNat:Nat):Int)==43)=false:=bq q1'
     have hd0:=q3.dig (i+1) (Nat.le_refl _) ht
     rw [aA ht] at hd0
     obtain ⟨d1,d2⟩:=hd0
     have htI:(i:Int)+1<(s.size:Int):=by omega
     have hti:((i:Int)+1).toNat=i+1:=by omega
     have Q3:=hide q3
     clear q1 q1' q3
     by_cases hp0:p=0
     ·have hpd:decide (p=1)=false:=by simp;omega
      have Hp0:=hide hp0
      clear hp0
      have Hc1:=hide (World.cell?_setCell_same wr ⟨g,801,none⟩ (.int .i64 (nd:Int)) c9)
      go_wp2
      go_loop [5,9] (fun iv ev=>∃ (y q e:Nat),iv=.int .i64 y/\ev=.int .i64 e/\Hid (y=i+1+q)/\y<=s.size/\Hid (e=bX s (i+1) q)) (fun iv _=>s.size-(intOf iv).toNat)
      case atStart=>exact ⟨i+1,0,0,by go_num,rfl,hide (by omega),by omega,hide rfl⟩
      case round=>
       obtain ⟨y,q,e,rfl,rfl,Hy,hys,He⟩:=hrel
       have hes:e<1000:=by rw [He.out];exact aM Q3.out (by have:=Hy.out;omega)
       by_cases hlt:y<s.size
       ·have hltI:(y:Int)<(s.size:Int):=by omega
        have hdy:=Q3.out.dig y (by have:=Hy.out;omega) hlt
        rw [aA hlt] at hdy
        obtain ⟨y1,y2⟩:=hdy
        have y95:(((s[y].toNat:Nat):Int)==95)=false:=bq (by omega)
        have hne:=aV Hy.out hlt He.out y1
        have Hne:=hide hne
        clear hne
        go_wp2
        go_round
        case rel=>exact ⟨y+1,q+1,bX s (i+1) (q+1),by go_num,by rw [<-Hne.out],hide (by have:=Hy.out;omega),by omega,hide rfl⟩
        case measure=>simp [intOf];omega
       ·have hyE:(y:Int)=(s.size:Int):=by omega
        have HeV:Hid (e=v):=hide (by rw [He.out];exact bE Q3.out (by have:=Hy.out;omega))
        go_wp2
        go_ret
        refine ⟨rfl,D,nd,(nd:Int)+e,(Hd.out.setDp nd).setDp ((nd:Int)+e),⟨HS.out.v,HS.out.n,HS.out.ok,HS.out.head,?_⟩,(Hbw.out.setCell (Nat.le_refl _) _).setCell (Nat.le_refl _) _⟩
        have:=Hpi.out.2 Hp0.out
        have:=HeV.out
        omega
     ·have hp1:p=1:=by have:=Hpi.out.1;omega
      have hpd:decide (p=1)=true:=by simp;omega
      have Hp1:=hide hp1
      clear hp0 hp1
      go_wp2
      go_loop [5,9] (fun iv ev=>∃ (y q e:Nat),iv=.int .i64 y/\ev=.int .i64 e/\Hid (y=i+1+q)/\y<=s.size/\Hid (e=bX s (i+1) q)) (fun iv _=>s.size-(intOf iv).toNat)
      case atStart=>exact ⟨i+1,0,0,by go_num,rfl,hide (by omega),by omega,hide rfl⟩
      case round=>
       obtain ⟨y,q,e,rfl,rfl,Hy,hys,He⟩:=hrel
       have hes:e<1000:=by rw [He.out];exact aM Q3.out (by have:=Hy.out;omega)
       by_cases hlt:y<s.size
       ·have hltI:(y:Int)<(s.size:Int):=by omega
        have hdy:=Q3.out.dig y (by have:=Hy.out;omega) hlt
        rw [aA hlt] at hdy
        obtain ⟨y1,y2⟩:=hdy
        have y95:(((s[y].toNat:Nat):Int)==95)=false:=bq (by omega)
        have hne:=aV Hy.out hlt He.out y1
        have Hne:=hide hne
        clear hne
        go_wp2
        go_round
        case rel=>exact ⟨y+1,q+1,bX s (i+1) (q+1),by go_num,by rw [<-Hne.out],hide (by have:=Hy.out;omega),by omega,hide rfl⟩
        case measure=>simp [intOf];omega
       ·have hyE:(y:Int)=(s.size:Int):=by omega
        have HeV:Hid (e=v):=hide (by rw [He.out];exact bE Q3.out (by have:=Hy.out;omega))
        go_wp2
        go_ret
        refine ⟨rfl,D,nd,dp+e,Hd.out.setDp (dp+e),⟨HS.out.v,HS.out.n,HS.out.ok,HS.out.head,?_⟩,Hbw.out.setCell (Nat.le_refl _) _⟩
        have:=HS.out.dpp Hp1.out
        have:=HeV.out
        omega
end Go.Proofs.YtjibjahfbblieaaGreatDoor.F
namespace Go.Proofs.YtjibjahfbblieaaGreatDoor.F
open Go Go.RowKit
set_option linter.unusedVariables false
def kK (N:Nat):Nat:=aK N-min (aK N) 19
def kJ (N:Nat):Nat:=N/10^kK N
def Nc (N:Nat):Bool:=decide (N%10^kK N≠0)
def bU (N:Nat) (E:Int):Int:=if kJ N=0 then 0 else E+kK N
structure RF (N b p i m nd nm:Nat) (tr:Bool) (dp:Int):Prop where
 hn:nd=aK N
 hnm:nm=min nd 19
 hm:m=N/10^(nd-nm)
 ht:tr=decide (N%10^(nd-nm)≠0)
 dpp:p=1->dp=(nd:Int)-b
 lo: -(i:Int)<=dp
 hi:dp<=i
 le:nd<=i
theorem RF.start:RF 0 0 0 0 0 0 0 false 0:=
 ⟨cZ.symm,rfl,rfl,rfl,fun h=>by omega,by omega,by omega,by omega⟩
theorem RF.lt {N b p i m nd nm:Nat} {tr:Bool} {dp:Int} (h:RF N b p i m nd nm tr dp):m<10^nm:=by
 have h1:=iT N
 have h2:=h.hnm
 rw [h.hm,<-h.hn] at *
 refine Nat.div_lt_of_lt_mul ?_
 rw [<-Nat.pow_add,show nd-nm+nm=nd by omega]
 exact h1
theorem RF.zero {N b p i m nm:Nat} {tr:Bool} {dp:Int} (h:RF N b p i m 0 nm tr dp) (hp:p<=1):RF (N*10+(48-48:Int).toNat) (b+p) p (i+1) m 0 nm tr (dp-1):=by
 have hN:N=0:=by
  have h1:=iT N
  rw [<-h.hn,Nat.pow_zero] at h1
  omega
 subst hN
 have h1:=h.dpp
 have h2:=h.lo
 have h3:=h.hi
 refine ⟨h.hn,h.hnm,h.hm,h.ht,fun e=>?_,by omega,by omega,by omega⟩
 have:=h1 e
 omega
theorem rH {N nd:Nat} {c:Int} (hn:nd=aK N) (hc1:48<=c) (hc2:c<=57) (hz:nd≠0∨c≠48):nd+1=aK (N*10+(c-48).toNat):=by
 have hne:N*10+(c-48).toNat≠0:=by
  rcases hz with g|g
  ·have:N≠0:=by intro e;rw [e,cZ] at hn;exact g hn
   omega
  ·omega
 rw [jr _ _ (by omega),if_neg hne,<-hn]
theorem RF.put1 {N b p i m nd nm:Nat} {tr:Bool} {dp c:Int} (h:RF N b p i m nd nm tr dp) (hp:p<=1) (hc1:48<=c) (hc2:c<=57) (hz:nd≠0∨c≠48) (hm:nm<19):
 RF (N*10+(c-48).toNat) (b+p) p (i+1) (m*10+(c-48).toNat) (nd+1) (nm+1) tr dp:=by
 have h0:=h.hnm
 have h1:=h.dpp
 have h2:=h.lo
 have h3:=h.hi
 have h4:=h.le
 have hnn:nm=nd:=by omega
 have hm0:m=N:=by rw [h.hm,hnn,Nat.sub_self,Nat.pow_zero,Nat.div_one]
 refine ⟨rH h.hn hc1 hc2 hz,by omega,?_,?_,fun e=>?_,by omega,by omega,by omega⟩
 ·rw [hnn,Nat.sub_self,Nat.pow_zero,Nat.div_one,hm0]
 ·rw [h.ht,hnn,Nat.sub_self,Nat.sub_self,Nat.pow_zero,Nat.mod_one,Nat.mod_one]
 ·have:=h1 e;omega
theorem RF.put2 {N b p i m nd nm:Nat} {tr tr':Bool} {dp c:Int} (h:RF N b p i m nd nm tr dp) (hp:p<=1) (hc1:48<=c) (hc2:c<=57) (hm:¬ nm<19) (htr:tr'=(tr||decide (c≠48))):
 RF (N*10+(c-48).toNat) (b+p) p (i+1) m (nd+1) nm tr' dp:=by
 have h0:=h.hnm
 have h1:=h.dpp
 have h2:=h.lo
 have h3:=h.hi
 have h4:=h.le
 have e:nd+1-nm=nd-nm+1:=by omega
 have hq:(N*10+(c-48).toNat)/10=N:=by omega
 have hr:(N*10+(c-48).toNat)%10=(c-48).toNat:=by omega
 refine ⟨rH h.hn hc1 hc2 (by omega),by omega,?_,?_,fun e=>?_,by omega,by omega,by omega⟩
 ·rw [e,Nat.pow_succ,Nat.mul_comm (10^(nd-nm)) 10,<-Nat.div_div_eq_div_mul,hq];exact h.hm
 ·rw [htr,h.ht,e,Nat.pow_succ,Nat.mul_comm (10^_) 10,Nat.mod_mul,hq,hr]
  by_cases c0:c=48
  ·subst c0
   by_cases r0:N%10^(nd-nm)=0
   ·simp [r0]
   ·have h6:10*(N%10^(nd-nm))≠0:=by omega
    simp [r0,h6]
  ·have:(c-48).toNat≠0:=by omega
   have h5:(c-48).toNat+10*(N%10^(nd-nm))≠0:=by omega
   rw [decide_eq_true h5,decide_eq_true c0,Bool.or_true]
 ·have:=h1 e;omega
theorem RF.point {N i m nd nm:Nat} {tr:Bool} {dp:Int} (h:RF N 0 0 i m nd nm tr dp):RF N 0 1 (i+1) m nd nm tr (nd:Int):=by
 have h4:=h.le
 exact ⟨h.hn,h.hnm,h.hm,h.ht,fun _=>by omega,by omega,by omega,by omega⟩
theorem RF.fin {N b p i m nd nm:Nat} {tr:Bool} {dp:Int} (h:RF N b p i m nd nm tr dp):m=kJ N/\tr=Nc N/\(nd:Int)-nm=kK N:=by
 have h1:=h.hm
 have h2:=h.ht
 have h3:=h.hnm
 rw [h.hn] at h3
 have hc:nd-nm=kK N:=by unfold kK;rw [h.hn,<-h3]
 refine ⟨by rw [h1,hc];rfl,by rw [h2,hc];rfl,?_⟩
 have:=h.hnm
 omega
theorem Du:∀ c:Fin 256,(c.val=46∨(48<=c.val/\c.val<=57)∨c.val=101∨c.val=69)->(bits .or .u8 ((c.val:Nat):Int) 32==120)=false:=by decide+kernel
theorem G5 {n:Nat} (h256:n<256) (h:((n:Nat):Int)=46∨(48<=((n:Nat):Int)/\((n:Nat):Int)<=57)∨((n:Nat):Int)=101∨((n:Nat):Int)=69):(bits .or .u8 ((n:Nat):Int) 32==120)=false:=
 Du ⟨n,h256⟩ (by show n=46∨(48<=n/\n<=57)∨n=101∨n=69;omega)
theorem Txt.nox {s:ByteArray} {k b p:Nat} {ds:List Int} {x:Int} (h:Txt s k ds b p x) (h1:1<s.size):(bits .or .u8 ((s[1].toNat:Nat):Int) 32==120)=false:=by
 refine G5 (by have:=s[1].toNat_lt;exact this) ?_
 have hk0:=h.k0
 by_cases hk:1<k
 ·rcases mG h hk h1 with g|g
  ·exact .inl g
  ·exact .inr (.inl g)
 ·have hk1:k=1:=by omega
  rcases h.ex with ⟨g,_⟩|⟨g,g2⟩
  ·omega
  ·have:=(jJ g2).1
   subst hk1
   rw [aA g] at this
   rcases this with c|c
   ·exact .inr (.inr (.inl c))
   ·exact .inr (.inr (.inr c))
def Ke (N:Nat) (E:Int) (s:ByteArray) (w:World) (e:Ending) (w':World):Prop:=
 e=.returned (.tuple #[.int .u64 (kJ N),.int .i64 (bU N E),.bool false,.bool (Nc N),.bool false,.int .i64 s.size,.bool true])/\∃ q,w'=w.drewN q
end Go.Proofs.YtjibjahfbblieaaGreatDoor.F
