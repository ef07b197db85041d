import Derived.Deep.LoopGhost
import Derived.RegionTactic
import Derived.ChangeAlike
import Derived.Test.YtamdnnkdnhkghaaGreatDoorQ10
set_option maxHeartbeats 12800000
set_option maxRecDepth 100000
set_option linter.unusedVariables false
namespace Go.Proofs.YtamdnnkdnhkghaaGreatDoor
open Go Go.RowKit
structure Tabs (w:World) (G o:Nat):Prop where
 size:20<w.heap.size
 hG:G<w.heap.size
 mant:w.cell? ⟨14,0,none⟩=some (.int .u64 52)
 slice:w.cell? ⟨19,0,none⟩=some (.slice (some ⟨G,o,none⟩) 23 23)
 tens:∀ k,k<23->w.cell? ⟨G,o+k,none⟩=some (.float .f64 (pow10Words.getD k 0))
 rows0:∀ i,i<696->w.cell? ⟨20,i*2,none⟩=some (.int .u64 ((Go.Pinned.pow10Rows.getD i (0,0)).1:Nat))
 rows1:∀ i,i<696->w.cell? ⟨20,i*2+1,none⟩=some (.int .u64 ((Go.Pinned.pow10Rows.getD i (0,0)).2:Nat))
theorem foi (d:Nat):floatOfInt .f64 (d:Int)=Ieee.double.nearest false d 0:=by
 show Ieee.double.write (.number (decide ((d:Int)<0)) (d:Int).natAbs 0)=_
 rw [decide_eq_false (by omega),Int.natAbs_natCast]
 rfl
def ztP (d:Nat) (p:Int) (e:Ending):Prop:=∃ f ok,e=.returned (.tuple #[.float .f64 f,.bool ok])/\(ok=true->zam d p f/\f≠infW)
theorem zj3 {d:Nat} {p:Int} {f c:Nat} (hd:d<4503599627370496) (hp1: -22<=p) (hp2:p<=37) (hc:c=1074) (h:IsRnd (d*10^p.toNat*2^c) (10^(-p).toNat) f):f≠infW:=by
 have hden:0<10^(-p).toNat:=Nat.pow_pos (Nat.succ_pos 9)
 have h1:d*10^p.toNat*2^c<10^(-p).toNat*2^(52+148+c):=by
  have a1:10^p.toNat<=10^37:=Nat.pow_le_pow_right (by omega) (by omega)
  have a2:(10:Nat)^37<=2^148:=by decide
  have a3:d*10^p.toNat<2^52*2^148:=Nat.mul_lt_mul_of_lt_of_le hd (Nat.le_trans a1 a2) (Nat.pow_pos (by omega))
  rw [Nat.pow_add 2 (52+148) c,Nat.pow_add 2 52 148,<-Nat.mul_assoc]
  refine Nat.mul_lt_mul_of_pos_right ?_ (Nat.pow_pos (by omega))
  exact Nat.lt_of_lt_of_le a3 (Nat.le_mul_of_pos_left _ hden)
 exact Nat.ne_of_lt (zsT hden (by omega) h1 h)
theorem zmq (d G o:Nat) (p:Int) (w:World) (T:Tabs w G o) (hd0:d≠0) (hd:d<18446744073709551616):
 Calls Tryz.prog 228 #[.int .u64 d,.int .i64 p,.bool false] w fun e w'=>ztP d p e/\w'=w:=by
 by_cases hb:4503599627370496<=d
 ·refine (zma d d p w (hide rfl) (by omega) (by omega) (by omega) T.mant).mono ?_
  rintro e w' ⟨rfl,rfl⟩
  exact ⟨⟨_,_,rfl,fun h=>by cases h⟩,rfl⟩
 have hs:d<4503599627370496:=by omega
 have hw:=ziE hd0 (show d<9007199254740992 by omega)
 have pw:∀ k,k<23->zcR (pow10Words.getD k 0) (10^k):=fun k hk=>znG (pow10_whole ⟨k,hk⟩)
 by_cases hp0:p=0
 ·subst hp0
  refine (zkO d _ d w (hide rfl) (by omega) (by omega) T.mant (foi d)).mono ?_
  rintro e w' ⟨rfl,rfl⟩
  have key:∀ c,c=1074->IsRnd (d*10^(0:Int).toNat*2^c) (10^(-(0:Int)).toNat) (Ieee.double.nearest false d 0):=by
   intro c hc
   have h2:=zbk (mag:=d) (place:=0) hd0 (A:=c) (B:=0) (by omega)
   have e1:(0:Int).toNat=0:=rfl
   have e2:(-(0:Int)).toNat=0:=rfl
   rw [e1,e2,Nat.pow_zero,Nat.mul_one]
   rw [Nat.pow_zero] at h2
   exact h2
  exact ⟨⟨_,_,rfl,fun _=>⟨key 1074 rfl,zj3 hs (by omega) (by omega) rfl (key 1074 rfl)⟩⟩,rfl⟩
 by_cases hneg: -22<=p/\p<0
 ·obtain ⟨k,hk⟩:∃ k:Nat,p= -(k:Int):=⟨(-p).toNat,by omega⟩
  subst hk
  have hk23:k<23:=by omega
  obtain ⟨r,hr,_⟩:=ziY hw (pw k hk23) (c:=1074) rfl
  have key:∀ c,c=1074->IsRnd (d*10^(-(k:Int)).toNat*2^c) (10^(-(-(k:Int))).toNat) r:=by
   intro c hc
   obtain ⟨r',hr',h'⟩:=ziY hw (pw k hk23) hc
   have:r=r':=by rw [hr] at hr';exact Option.some.inj hr'
   subst this
   have e1:(-(k:Int)).toNat=0:=by omega
   have e2:(-(-(k:Int))).toNat=k:=by omega
   rw [e1,e2,Nat.pow_zero,Nat.mul_one]
   exact h'
  refine (zmM d _ _ r k G o d w (hide rfl) (by omega) (by omega) T.mant (foi d) (by omega) (by omega) T.slice (T.tens k hk23) hr).mono ?_
  rintro e w' ⟨rfl,rfl⟩
  exact ⟨⟨_,_,rfl,fun _=>⟨key 1074 rfl,zj3 hs (by omega) (by omega) rfl (key 1074 rfl)⟩⟩,rfl⟩
 by_cases hpos:0<p/\p<=22
 ·obtain ⟨k,hk⟩:∃ k:Nat,p=(k:Int):=⟨p.toNat,by omega⟩
  subst hk
  have hk23:k<23:=by omega
  obtain ⟨r,hr,_⟩:=zcE hw (pw k hk23) (c:=1074) rfl
  have key:∀ c,c=1074->IsRnd (d*10^((k:Int)).toNat*2^c) (10^(-(k:Int)).toNat) r:=by
   intro c hc
   obtain ⟨r',hr',h'⟩:=zcE hw (pw k hk23) hc
   have:r=r':=by rw [hr] at hr';exact Option.some.inj hr'
   subst this
   have e1:(-(k:Int)).toNat=0:=by omega
   rw [e1,Int.toNat_natCast,Nat.pow_zero]
   exact h'
  refine (zot d _ _ r k G o d w (hide rfl) (by omega) (by omega) T.mant (foi d) (by omega) (by omega) T.slice (T.tens k hk23) hr).mono ?_
  rintro e w' ⟨⟨f,ok,rfl,hok⟩,rfl⟩
  refine ⟨⟨f,ok,rfl,fun h=>?_⟩,rfl⟩
  rw [hok h]
  exact ⟨key 1074 rfl,zj3 hs (by omega) (by omega) rfl (key 1074 rfl)⟩
 by_cases hfar:22<p/\p<=37
 ·obtain ⟨k,hk⟩:∃ k:Nat,p=(k:Int):=⟨p.toNat,by omega⟩
  subst hk
  have hk23:k-22<23:=by omega
  obtain ⟨r1,hr1,_⟩:=zcE hw (pw (k-22) hk23) (c:=1074) rfl
  have rnd1:∀ c,c=1074->IsRnd (d*10^(k-22)*2^c) 1 r1:=by
   intro c hc
   obtain ⟨r',hr',h'⟩:=zcE hw (pw (k-22) hk23) hc
   have:r1=r':=by rw [hr1] at hr';exact Option.some.inj hr'
   subst this
   exact h'
  have small:¬ FloatKind.f64.format.order r1 4831355200913801216=some .gt->zcR r1 (d*10^(k-22)):=by
   intro hng
   by_cases hv:d*10^(k-22)<9007199254740992
   ·exact zh2 (c:=1074) (Nat.mul_ne_zero hd0 (Nat.pos_iff_ne_zero.1 (Nat.pow_pos (by omega)))) hv rfl (rnd1 1074 rfl)
   exact absurd (zqO (c:=1074) (Nat.le_of_not_lt hv) rfl (rnd1 1074 rfl)) hng
  by_cases hng:FloatKind.f64.format.order r1 4831355200913801216=some .gt
  ·refine (zh7 d _ _ r1 k G o d w (hide rfl) (by omega) (by omega) T.mant (foi d) (by omega) (by omega) T.slice (T.tens (k-22) hk23) hr1 hng).mono ?_
   rintro e w' ⟨rfl,rfl⟩
   exact ⟨⟨_,_,rfl,fun h=>by cases h⟩,rfl⟩
  obtain ⟨r2,h1,_⟩:=zcE (small hng) (pw 22 (by omega)) (c:=1074) rfl
  have key:∀ c,c=1074->IsRnd (d*10^((k:Int)).toNat*2^c) (10^(-(k:Int)).toNat) r2:=by
   intro c hc
   obtain ⟨r',hr',h'⟩:=zcE (small hng) (pw 22 (by omega)) hc
   have:r2=r':=by rw [h1] at hr';exact Option.some.inj hr'
   subst this
   have e1:(-(k:Int)).toNat=0:=by omega
   have e2:d*10^(k-22)*10^22=d*10^k:=by
    rw [Nat.mul_assoc,<-Nat.pow_add]
    congr 2
    omega
   rw [e1,Int.toNat_natCast,Nat.pow_zero,<-e2]
   exact h'
  refine (znT d _ _ r1 k G o d w (hide rfl) (by omega) (by omega) T.mant (foi d) (by omega) (by omega) T.slice (T.tens (k-22) hk23) hr1 _ r2 (T.tens 22 (by omega)) hng h1).mono ?_
  rintro e w' ⟨⟨f,ok,rfl,hok⟩,rfl⟩
  refine ⟨⟨f,ok,rfl,fun h=>?_⟩,rfl⟩
  rw [hok h]
  exact ⟨key 1074 rfl,zj3 hs (by omega) (by omega) rfl (key 1074 rfl)⟩
 refine rs (zlU d _ d p w (hide rfl) (by omega) (by omega) T.mant (foi d) (by omega)) ?_
 exact ⟨⟨_,_,rfl,fun h=>by cases h⟩,rfl⟩
structure DecAt (w:World) (g:Nat) (D:Nat->Int) (nd dp:Int) (tr:Bool):Prop where
 lt:g<w.heap.size
 fr:∀ k,w.frozen? ⟨g,k,none⟩=false
 dig:∀ k,k<800->w.cell? ⟨g,k,none⟩=some (.int .u8 (D k))
 nd:w.cell? ⟨g,800,none⟩=some (.int .i64 nd)
 dp:w.cell? ⟨g,801,none⟩=some (.int .i64 dp)
 neg:w.cell? ⟨g,802,none⟩=some (.bool false)
 tr:w.cell? ⟨g,803,none⟩=some (.bool tr)
theorem zaW {g i j:Nat} (h:i≠j):(⟨g,i,none⟩:Addr)≠⟨g,j,none⟩:=by
 intro e;cases e;exact h rfl
theorem DecAt.setNd {w:World} {g:Nat} {D:Nat->Int} {nd dp:Int} {tr:Bool} (h:DecAt w g D nd dp tr) (x:Int):DecAt (w.setCell ⟨g,800,none⟩ (.int .i64 x)) g D x dp tr:={
 lt:=by simpa using h.lt
 fr:=fun k=>by simpa using h.fr k
 dig:=fun k hk=>(World.cell?_setCell_other _ _ _ _ (zaW (by omega))).trans (h.dig k hk)
 nd:=World.cell?_setCell_same _ _ _ h.nd
 dp:=(World.cell?_setCell_other _ _ _ _ (zaW (by omega))).trans h.dp
 neg:=(World.cell?_setCell_other _ _ _ _ (zaW (by omega))).trans h.neg
 tr:=(World.cell?_setCell_other _ _ _ _ (zaW (by omega))).trans h.tr }
theorem DecAt.setDp {w:World} {g:Nat} {D:Nat->Int} {nd dp:Int} {tr:Bool} (h:DecAt w g D nd dp tr) (x:Int):DecAt (w.setCell ⟨g,801,none⟩ (.int .i64 x)) g D nd x tr:={
 lt:=by simpa using h.lt
 fr:=fun k=>by simpa using h.fr k
 dig:=fun k hk=>(World.cell?_setCell_other _ _ _ _ (zaW (by omega))).trans (h.dig k hk)
 nd:=(World.cell?_setCell_other _ _ _ _ (zaW (by omega))).trans h.nd
 dp:=World.cell?_setCell_same _ _ _ h.dp
 neg:=(World.cell?_setCell_other _ _ _ _ (zaW (by omega))).trans h.neg
 tr:=(World.cell?_setCell_other _ _ _ _ (zaW (by omega))).trans h.tr }
theorem DecAt.setTr {w:World} {g:Nat} {D:Nat->Int} {nd dp:Int} {tr:Bool} (h:DecAt w g D nd dp tr) (x:Bool):DecAt (w.setCell ⟨g,803,none⟩ (.bool x)) g D nd dp x:={
 lt:=by simpa using h.lt
 fr:=fun k=>by simpa using h.fr k
 dig:=fun k hk=>(World.cell?_setCell_other _ _ _ _ (zaW (by omega))).trans (h.dig k hk)
 nd:=(World.cell?_setCell_other _ _ _ _ (zaW (by omega))).trans h.nd
 dp:=(World.cell?_setCell_other _ _ _ _ (zaW (by omega))).trans h.dp
 neg:=(World.cell?_setCell_other _ _ _ _ (zaW (by omega))).trans h.neg
 tr:=World.cell?_setCell_same _ _ _ h.tr }
theorem DecAt.drewN {w:World} {g:Nat} {D:Nat->Int} {nd dp:Int} {tr:Bool} (h:DecAt w g D nd dp tr) (n:Nat):DecAt (w.drewN n) g D nd dp tr:=
 ⟨h.lt,h.fr,h.dig,h.nd,h.dp,h.neg,h.tr⟩
theorem below_drewN {B:Nat} {a w:World} (h:Below B a w) (n:Nat):Below B a (w.drewN n):=⟨h.os,h.tape,h.output,h.size,h.block⟩
def updD (D:Nat->Int) (k:Nat) (x:Int):Nat->Int:=fun j=>if j=k then x else D j
theorem zbQ (D:Nat->Int) (k:Nat) (x:Int):updD D k x k=x:=by simp [updD]
theorem zaP {D:Nat->Int} {k j:Nat} {x:Int} (h:j≠k):updD D k x j=D j:=by simp [updD,h]
theorem DecAt.setDig {w:World} {g:Nat} {D:Nat->Int} {nd dp:Int} {tr:Bool} (h:DecAt w g D nd dp tr) {k:Nat} (hk:k<800) (x:Int):DecAt (w.setCell ⟨g,k,none⟩ (.int .u8 x)) g (updD D k x) nd dp tr:={
 lt:=by simpa using h.lt
 fr:=fun k=>by simpa using h.fr k
 dig:=fun j hj=>by
  by_cases e:j=k
  ·subst e;rw [zbQ];exact World.cell?_setCell_same _ _ _ (h.dig j hj)
  rw [zaP e];exact (World.cell?_setCell_other _ _ _ _ (zaW (by omega))).trans (h.dig j hj)
 nd:=(World.cell?_setCell_other _ _ _ _ (zaW (by omega))).trans h.nd
 dp:=(World.cell?_setCell_other _ _ _ _ (zaW (by omega))).trans h.dp
 neg:=(World.cell?_setCell_other _ _ _ _ (zaW (by omega))).trans h.neg
 tr:=(World.cell?_setCell_other _ _ _ _ (zaW (by omega))).trans h.tr }
def trimN (D:Nat->Int):Nat->Nat
 |0=>0
 |n+1=>if D n=48 then trimN D n else n+1
def zd1 (n:Nat) (dp:Int):Int:=if n=0 then 0 else dp
theorem zmW {D:Nat->Int} {n m:Nat} (h:m=n+1) (hd:D n=48):trimN D m=trimN D n:=by subst h;simp [trimN,hd]
theorem zlb {D:Nat->Int} {n m:Nat} (h:m=n+1) (hd:D n≠48):trimN D m=m:=by subst h;simp [trimN,hd]
theorem zcy (g n:Nat) (D:Nat->Int) (dp:Int) (tr:Bool) (w:World) (h:DecAt w g D n dp tr) (hn:n<=800):
 Calls Tryz.prog 244 #[.pointer (some ⟨g,0,none⟩)] w fun e w'=>e=.returned (.tuple #[])/\DecAt w' g D (trimN D n) (zd1 (trimN D n) dp) tr/\Below g w w':=by
 have H:=hide h
 go_enter Tryz.func244,Tryz.ntmps244
 go_wp2
 go_loopg [] n (fun gk wr=>∃ m:Nat,gk=m/\m<=800/\DecAt wr g D m dp tr/\Hid (trimN D m=trimN D n)/\Below g w wr)
 case atStart=>exact ⟨n,rfl,hn,H.out,hide rfl,Below.refl _ _⟩
 obtain ⟨m,rfl,hm,hd,Ht,hb⟩:=hrel
 have c0:=hd.nd
 have c9:=hd.dp
 have f0:=hd.fr
 have Hd:=hide hd
 have Hb:=hide hb
 clear hd hb h H
 by_cases hz:gk=0
 ·subst hz
  go_wp2
  go_quiet (fail)
  go_wp2
  go_end0
  have e:=Ht.out
  have hdn:=(Hd.out.drewN nq).setDp 0
  have e0:trimN D n=0:=e.symm
  rw [e0]
  exact ⟨rfl,hdn,(below_drewN Hb.out nq).setCell (Nat.le_refl _) _⟩
 have c1:=Hd.out.dig (gk-1) (by omega)
 have hi:((gk:Int)-1).toNat=gk-1:=by omega
 have hp:(0:Int)<(gk:Int):=by omega
 have hp2:0<gk:=by omega
 have hp3:decide ((0:Int)<(gk:Int))=true:=by simp;omega
 have hp4:decide (0<gk)=true:=by simp;omega
 have hb0:(0:Int)<=(gk:Int)-1:=by omega
 have hb1:(gk:Int)-1<800:=by omega
 by_cases hv:D (gk-1)=48
 ·have hvb:(D (gk-1)==48)=true:=by rw [hv];rfl
  have Hv:=hide hv
  clear hv
  go_wp2
  go_quiet (fail)
  go_wp2
  go_roundg (gk-1)
  case rel=>
   refine ⟨gk-1,rfl,by omega,?_,hide ?_,?_⟩
   ·have hdn:=(Hd.out.drewN nq).setNd ((gk-1:Nat):Int)
    have e:((gk-1:Nat):Int)=(gk:Int)-1:=by omega
    rw [e] at hdn ⊢
    exact hdn
   ·rw [<-Ht.out];exact (zmW (by omega) Hv.out).symm
   exact (below_drewN Hb.out nq).setCell (Nat.le_refl _) _
  case measure=>omega
 have hvb:(D (gk-1)==48)=false:=by rw [beq_eq_false_iff_ne];exact hv
 have Hv:=hide hv
 clear hv
 go_wp2
 go_quiet (fail)
 go_wp2
 go_end0
 have e:=Ht.out
 have e0:trimN D n=gk:=by rw [<-e];exact zlb (by omega) Hv.out
 rw [e0]
 refine ⟨rfl,?_,below_drewN Hb.out nq⟩
 have:zd1 gk dp=dp:=by unfold zd1;rw [if_neg hz]
 rw [this]
 exact Hd.out.drewN nq
def dgt (D:Nat->Int) (i:Nat):Nat:=(D i-48).toNat
def OkDig (D:Nat->Int) (n:Nat):Prop:=∀ i,i<n->48<=D i/\D i<=57
def dv (D:Nat->Int):Nat->Nat
 |0=>0
 |n+1=>dv D n*10+dgt D n
def sg (D:Nat->Int):Nat->Nat->Nat
 |_,0=>0
 |a,n+1=>dgt D a*10^n+sg D (a+1) n
theorem zl1 {D:Nat->Int} {n i:Nat} (h:OkDig D n) (hi:i<n):dgt D i<=9:=by
 have:=h i hi;unfold dgt;omega
theorem ztw {D:Nat->Int} {n i:Nat} (h:OkDig D n) (hi:i<n):D i=48+(dgt D i:Int):=by
 have:=h i hi;unfold dgt;omega
theorem OkDig.mono {D:Nat->Int} {n m:Nat} (h:OkDig D n) (hm:m<=n):OkDig D m:=fun i hi=>h i (by omega)
theorem p10 (n:Nat):0<10^n:=Nat.pow_pos (by omega)
theorem dv_lt {D:Nat->Int}:∀ {n:Nat},OkDig D n->dv D n<10^n
 |0,_=>by simp [dv]
 |n+1,h=>by
  have h1:=dv_lt (h.mono (Nat.le_succ n))
  have h2:=zl1 h (Nat.lt_succ_self n)
  have:10^(n+1)=10^n*10:=Nat.pow_succ 10 n
  unfold dv
  omega
theorem zdz {D E:Nat->Int}:∀ {n:Nat},(∀ i,i<n->D i=E i)->dv D n=dv E n
 |0,_=>rfl
 |n+1,h=>by
  unfold dv
  rw [zdz (fun i hi=>h i (by omega))]
  unfold dgt
  rw [h n (by omega)]
theorem zjV {D E:Nat->Int}:∀ {n a:Nat},(∀ i,a<=i->i<a+n->D i=E i)->sg D a n=sg E a n
 |0,_,_=>rfl
 |n+1,a,h=>by
  unfold sg
  rw [zjV (fun i h1 h2=>h i (by omega) (by omega))]
  unfold dgt
  rw [h a (by omega) (by omega)]
theorem sg_lt {D:Nat->Int}:∀ {n a:Nat},OkDig D (a+n)->sg D a n<10^n
 |0,_,_=>by simp [sg]
 |n+1,a,h=>by
  have h1:=sg_lt (D:=D) (n:=n) (a:=a+1) (fun i hi=>h i (by omega))
  have h2:=zl1 h (i:=a) (by omega)
  have:10^(n+1)=10^n*10:=Nat.pow_succ 10 n
  have h3:dgt D a*10^n<=9*10^n:=Nat.mul_le_mul_right _ h2
  unfold sg
  omega
theorem dv_sg {D:Nat->Int}:∀ (n a:Nat),dv D (a+n)=dv D a*10^n+sg D a n
 |0,a=>by simp [sg]
 |n+1,a=>by
  have h:=dv_sg (D:=D) n (a+1)
  rw [show a+(n+1)=a+1+n by omega,h]
  rw [show sg D a (n+1)=dgt D a*10^n+sg D (a+1) n from rfl,show dv D (a+1)=dv D a*10+dgt D a from rfl,Nat.pow_succ,Nat.add_mul,Nat.mul_assoc,Nat.mul_comm 10,Nat.add_assoc]
theorem ztE (D:Nat->Int) (n:Nat):sg D 0 n=dv D n:=by
 have:=dv_sg (D:=D) n 0
 simp [dv] at this
 exact this.symm
theorem zpN {D:Nat->Int} {w n:Nat} {x:Int}:sg (updD D w x) w (n+1)=(x-48).toNat*10^n+sg D (w+1) n:=by
 show dgt (updD D w x) w*10^n+sg (updD D w x) (w+1) n=_
 have e1:dgt (updD D w x) w=(x-48).toNat:=by unfold dgt;rw [zbQ]
 have e2:sg (updD D w x) (w+1) n=sg D (w+1) n:=zjV (fun i h1 h2=>zaP (by omega))
 rw [e1,e2]
theorem zl4 {D:Nat->Int} {w:Nat} {x:Int}:dv (updD D w x) (w+1)=dv D w*10+(x-48).toNat:=by
 show dv (updD D w x) w*10+dgt (updD D w x) w=_
 have e1:dgt (updD D w x) w=(x-48).toNat:=by unfold dgt;rw [zbQ]
 have e2:dv (updD D w x) w=dv D w:=zdz (fun i h1=>zaP (by omega))
 rw [e1,e2]
theorem zfi (D:Nat->Int):∀ n,trimN D n<=n
 |0=>Nat.le_refl 0
 |n+1=>by
  unfold trimN
  split
  ·have:=zfi D n;omega
  exact Nat.le_refl _
theorem zeB (D:Nat->Int):∀ n,trimN D n=0∨D (trimN D n-1)≠48
 |0=>.inl rfl
 |n+1=>by
  unfold trimN
  split
  ·exact zeB D n
  rename_i h;exact .inr (by simpa using h)
theorem zjx {D:Nat->Int}:∀ (n:Nat),dv D n=dv D (trimN D n)*10^(n-trimN D n)
 |0=>rfl
 |n+1=>by
  unfold trimN
  split
  ·rename_i h
   have h0:dgt D n=0:=by unfold dgt;rw [h];rfl
   rw [show dv D (n+1)=dv D n*10+dgt D n from rfl,h0,Nat.add_zero]
   have:=zfi D n
   rw [show n+1-trimN D n=(n-trimN D n)+1 by omega,Nat.pow_succ,<-Nat.mul_assoc,<-zjx n]
  simp
structure Norm (D:Nat->Int) (nd:Nat):Prop where
 ok:OkDig D nd
 le:nd<=800
 head:nd≠0->D 0≠48
theorem dv_ge {D:Nat->Int} {n:Nat} (h:OkDig D n) (hn:n≠0) (hh:D 0≠48):10^(n-1)<=dv D n:=by
 obtain ⟨m,rfl⟩:∃ m,n=1+m:=⟨n-1,by omega⟩
 rw [dv_sg m 1]
 have h0:=h 0 (by omega)
 have:1<=dv D 1:=by simp [dv,dgt];omega
 have:=Nat.mul_le_mul_right (10^m) this
 rw [show 1+m-1=m by omega]
 omega
def Shf (X:Nat) (E:Int) (tr:Bool) (D:Nat->Int) (nd:Nat) (dp:Int) (tr':Bool):Prop:=
 Norm D nd/\nd≠0/\D (nd-1)≠48/\∃ j t r,X=dv D nd*10^t*10^j+r/\r<10^j/\dp=E+(j+t+nd:Nat)/\(j=0∨800<=nd+t)/\tr'=(tr||decide (r≠0))
theorem zur {X:Nat} {E:Int} {tr tr':Bool} {D:Nat->Int} {n j r:Nat} {dp:Int} (hok:OkDig D n) (hn:n<=800) (hn0:n≠0) (hh:D 0≠48) (hX:X=dv D n*10^j+r) (hr:r<10^j)
 (hdp:dp=E+(j+n:Nat)) (hj:j=0∨n=800) (ht:tr'=(tr||decide (r≠0))):Shf X E tr D (trimN D n) (zd1 (trimN D n) dp) tr':=by
 have hle:=zfi D n
 have hpos:=dv_ge hok hn0 hh
 have htr:=zjx (D:=D) n
 have hne:trimN D n≠0:=by
  intro e
  rw [e] at htr
  have:=p10 (n-1)
  simp [dv] at htr
  omega
 refine ⟨⟨hok.mono hle,by omega,fun _=>hh⟩,hne,(zeB D n).resolve_left hne,j,n-trimN D n,r,?_,hr,?_,?_,ht⟩
 ·rw [<-htr];exact hX
 ·unfold zd1;rw [if_neg hne,hdp];omega
 omega
theorem zjP {X:Nat} {E:Int} {tr tr':Bool} {D:Nat->Int} {n j r z:Nat} {dp:Int} (hok:OkDig D n) (hn:n<=800) (hn0:n≠0) (hh:D 0≠48) (hX:X=dv D n*10^z*10^j+r) (hr:r<10^j)
 (hdp:dp=E+(j+z+n:Nat)) (hj:j=0∨n=800) (ht:tr'=(tr||decide (r≠0))):Shf X E tr D (trimN D n) (zd1 (trimN D n) dp) tr':=by
 have hle:=zfi D n
 have hpos:=dv_ge hok hn0 hh
 have htr:=zjx (D:=D) n
 have hne:trimN D n≠0:=by
  intro e
  rw [e] at htr
  have:=p10 (n-1)
  simp [dv] at htr
  omega
 refine ⟨⟨hok.mono hle,by omega,fun _=>hh⟩,hne,(zeB D n).resolve_left hne,j,n-trimN D n+z,r,?_,hr,?_,?_,ht⟩
 ·rw [Nat.pow_add,<-Nat.mul_assoc,<-htr];exact hX
 ·unfold zd1;rw [if_neg hne,hdp];omega
 omega
theorem zq1 {D C:Nat->Int} {i n L:Nat} (hD:OkDig D n) (hC:OkDig C L) (hin:i<n) (hiL:i<L) (he:∀ j,j<i->D j=C j) (hlt:D i<C i):dv D n*10^L<dv C L*10^n:=by
 obtain ⟨a,rfl⟩:∃ a,n=i+1+a:=⟨n-i-1,by omega⟩
 obtain ⟨b,rfl⟩:∃ b,L=i+1+b:=⟨L-i-1,by omega⟩
 have e:dv D i=dv C i:=zdz he
 have h1:dv D (i+1)+1<=dv C (i+1):=by
  have a1:=hD i (by omega)
  have a2:=hC i (by omega)
  simp only [dv,dgt,e]
  omega
 have h2:dv D (i+1+a)<(dv D (i+1)+1)*10^a:=by
  rw [dv_sg a (i+1),Nat.add_mul,Nat.one_mul]
  have:=sg_lt (D:=D) (n:=a) (a:=i+1) hD
  omega
 have h3:dv C (i+1)*10^b<=dv C (i+1+b):=by rw [dv_sg b (i+1)];exact Nat.le_add_right _ _
 calc dv D (i+1+a)*10^(i+1+b)<(dv D (i+1)+1)*10^a*10^(i+1+b):=Nat.mul_lt_mul_of_pos_right h2 (p10 _)
  _=(dv D (i+1)+1)*10^b*10^(i+1+a):=by rw [Nat.mul_assoc,Nat.mul_assoc,<-Nat.pow_add,<-Nat.pow_add];congr 2;omega
  _<=dv C (i+1)*10^b*10^(i+1+a):=Nat.mul_le_mul_right _ (Nat.mul_le_mul_right _ h1)
  _<=dv C (i+1+b)*10^(i+1+a):=Nat.mul_le_mul_right _ h3
theorem zsx {D C:Nat->Int} {n L:Nat} (hC:OkDig C L) (hnL:n<L) (he:∀ j,j<n->D j=C j) (hlast:C (L-1)≠48):dv D n*10^L<dv C L*10^n:=by
 obtain ⟨b,rfl⟩:∃ b,L=n+b+1:=⟨L-n-1,by omega⟩
 have e:dv D n=dv C n:=zdz he
 have h1:dv C (n+b+1)=dv C n*10^(b+1)+sg C n (b+1):=by rw [show n+b+1=n+(b+1) by omega];exact dv_sg _ _
 have h2:0<sg C n (b+1):=by
  have a1:dv C (n+b+1)=dv C (n+b)*10+dgt C (n+b):=rfl
  have a2:0<dgt C (n+b):=by
   have:=hC (n+b) (by omega)
   have h3:C (n+b)≠48:=by simpa using hlast
   unfold dgt;omega
  have a3:dv C (n+b)=dv C n*10^b+sg C n b:=dv_sg _ _
  have a4:dv C n*10^(b+1)=dv C n*10^b*10:=by rw [Nat.pow_succ,Nat.mul_assoc]
  generalize dv C n*10^b=y at *
  omega
 rw [h1,e,Nat.add_mul,Nat.mul_assoc,<-Nat.pow_add,show b+1+n=n+b+1 by omega]
 have:=Nat.mul_pos h2 (p10 n)
 omega
theorem ztR {D C:Nat->Int} {n L:Nat} (hnL:L<=n) (he:∀ j,j<L->D j=C j):dv C L*10^n<=dv D n*10^L:=by
 obtain ⟨b,rfl⟩:∃ b,n=L+b:=⟨n-L,by omega⟩
 have e:dv D L=dv C L:=zdz he
 rw [dv_sg b L,e,Nat.add_mul,Nat.pow_add,Nat.mul_comm (10^L),<-Nat.mul_assoc]
 exact Nat.le_add_right _ _
theorem zih {V nd k L:Nat} (h5:10^(L-1)<=5^k) (h5':5^k<10^L) (hL:1<=L) (hLk:L<=k) (hV1:10^(nd-1)<=V) (hV2:V<10^nd) (hnd:nd≠0):
 (V*10^L<5^k*10^nd->10^(nd+(k-L)-1)<=V*2^k/\V*2^k<10^(nd+(k-L)))/\(5^k*10^nd<=V*10^L->10^(nd+(k-L+1)-1)<=V*2^k/\V*2^k<10^(nd+(k-L+1))):=by
 have e10:2^k*5^k=10^k:=by rw [<-Nat.mul_pow]
 have p5:0<5^k:=Nat.pow_pos (by omega)
 have p2:0<2^k:=Nat.pow_pos (by omega)
 refine ⟨fun h=>⟨?_,?_⟩,fun h=>⟨?_,?_⟩⟩
 ·
  refine Nat.le_of_mul_le_mul_right ?_ (Nat.mul_pos p5 (p10 L))
  calc 10^(nd+(k-L)-1)*(5^k*10^L)<=10^(nd+(k-L)-1)*(10^L*10^L):=Nat.mul_le_mul_left _ (Nat.mul_le_mul_right _ (Nat.le_of_lt h5'))
   _=10^(nd-1)*(10^k*10^L):=by rw [<-Nat.pow_add,<-Nat.pow_add,<-Nat.pow_add,<-Nat.pow_add];congr 1;omega
   _<=V*(10^k*10^L):=Nat.mul_le_mul_right _ hV1
   _=V*2^k*(5^k*10^L):=by rw [<-e10];simp only [Nat.mul_assoc]
 ·refine Nat.lt_of_mul_lt_mul_right (a:=10^L) ?_
  calc V*2^k*10^L=V*10^L*2^k:=by rw [Nat.mul_assoc,Nat.mul_comm (2^k),<-Nat.mul_assoc]
   _<5^k*10^nd*2^k:=Nat.mul_lt_mul_of_pos_right h p2
   _=10^k*10^nd:=by rw [<-e10,Nat.mul_comm (2^k),Nat.mul_assoc,Nat.mul_assoc,Nat.mul_comm (10^nd)]
   _=10^(nd+(k-L))*10^L:=by rw [<-Nat.pow_add,<-Nat.pow_add];congr 1;omega
 ·refine Nat.le_of_mul_le_mul_right ?_ (p10 L)
  calc 10^(nd+(k-L+1)-1)*10^L=10^k*10^nd:=by rw [<-Nat.pow_add,<-Nat.pow_add];congr 1;omega
   _=5^k*10^nd*2^k:=by rw [<-e10,Nat.mul_comm (2^k),Nat.mul_assoc,Nat.mul_assoc,Nat.mul_comm (10^nd)]
   _<=V*10^L*2^k:=Nat.mul_le_mul_right _ h
   _=V*2^k*10^L:=by rw [Nat.mul_assoc,Nat.mul_comm (10^L),<-Nat.mul_assoc]
 refine Nat.lt_of_mul_lt_mul_right (a:=5^k) ?_
 calc V*2^k*5^k=V*10^k:=by rw [Nat.mul_assoc,e10]
  _<10^nd*10^k:=Nat.mul_lt_mul_of_pos_right hV2 (p10 k)
  _=10^(nd+(k-L+1))*10^(L-1):=by rw [<-Nat.pow_add,<-Nat.pow_add];congr 1;omega
  _<=10^(nd+(k-L+1))*5^k:=Nat.mul_le_mul_left _ h5
def sb (s:ByteArray) (i:Nat):Int:=(bs s).getD i 0
def PreR (D:Nat->Int) (nd:Nat) (s:ByteArray) (w:World) (e:Ending) (w':World):Prop:=
 ∃ b n,e=.returned (.bool b)/\w'=w.drewN n/\(b=true->dv D nd*10^s.size<dv (sb s) s.size*10^nd)/\(b=false->dv (sb s) s.size*10^nd<=dv D nd*10^s.size)
theorem zre {D:Nat->Int} {nd:Nat} {s:ByteArray} {w:World} {e:Ending} {w':World} (n:Nat) (h1:e=.returned (.bool true)) (h2:w'=w.drewN n) (h:dv D nd*10^s.size<dv (sb s) s.size*10^nd):PreR D nd s w e w':=
 ⟨true,n,h1,h2,fun _=>h,fun h=>by cases h⟩
theorem zqZ {D:Nat->Int} {nd:Nat} {s:ByteArray} {w:World} {e:Ending} {w':World} (n:Nat) (h1:e=.returned (.bool false)) (h2:w'=w.drewN n) (h:dv (sb s) s.size*10^nd<=dv D nd*10^s.size):PreR D nd s w e w':=
 ⟨false,n,h1,h2,(fun h=>Bool.noConfusion h),fun _=>h⟩
theorem zlE (D:Nat->Int) (nd g:Nat) (s:ByteArray) (w:World) (hnd:nd<=800) (hs:s.size<=100) (hok:OkDig D nd) (hC:OkDig (sb s) s.size) (hl:sb s (s.size-1)≠48)
 (hcell:∀ k,k<800->w.cell? ⟨g,k,none⟩=some (.int .u8 (D k))):
 Calls Tryz.prog 259 #[.slice (some ⟨g,0,none⟩) nd 800,.string s] w fun e w'=>PreR D nd s w e w':=by
 have HC:=hide hcell
 have Hok:=hide hok
 have HCs:=hide hC
 have Hl:=hide hl
 clear hcell hok hC hl
 go_enter Tryz.func259,Tryz.ntmps259
 go_wp2
 go_loopw [5] (fun iv wr=>∃ (i n:Nat),i<=s.size/\i<=nd/\iv=.int .i64 i/\wr=w.drewN n/\Hid (∀ j,j<i->D j=sb s j)) (fun iv _=>s.size-(intOf iv).toNat)
 case atStart=>exact ⟨0,0,Nat.zero_le _,Nat.zero_le _,rfl,rfl,hide (fun j hj=>by omega)⟩
 obtain ⟨i,n,hi1,hi2,rfl,rfl,He⟩:=hrel
 by_cases hlt:i<s.size
 ·by_cases hnd':i<nd
  ·have Hg:=hide (zaf hlt)
   have c1:w.cell? ⟨g,i,none⟩=some (.int .u8 (D i)):=HC.out i (by omega)
   have hx:=Hok.out i hnd'
   obtain ⟨hx1,hx2⟩:=hx
   have hi3:(i:Int)<(nd:Int):=by omega
   have hi4:(i:Int)<(s.size:Int):=by omega
   have Hx:=hide (And.intro hx1 hx2)
   clear hx1 hx2
   by_cases heq:D i=((s[i].toNat:Nat):Int)
   ·have hb:(D i !=((s[i].toNat:Nat):Int))=false:=by rw [bne_eq_false_iff_eq];exact heq
    have Heq:=hide heq
    clear heq
    go_wp2
    go_quiet (fail)
    go_wp2
    go_roundw
    case rel=>exact ⟨i+1,n+nq,by omega,by omega,by go_num,rfl,hide (fun j hj=>by
     by_cases e:j=i
     ·subst e;rw [Heq.out];exact Hg.out.symm
     exact He.out j (by omega))⟩
    case measure=>simp [intOf];omega
   have hb:(D i !=((s[i].toNat:Nat):Int))=true:=by rw [bne_iff_ne];exact heq
   by_cases hle:D i<((s[i].toNat:Nat):Int)
   ·have Hle:=hide hle
    have hd:decide (D i<((s[i].toNat:Nat):Int))=true:=by simp [hle]
    clear heq
    go_wp2
    go_quiet (fail)
    go_wp2
    go_quiet (fail)
    go_wp2
    go_ret
    refine zre _ rfl (by rw [World.drewN_drewN,World.drewN_drewN]) ?_
    exact zq1 Hok.out HCs.out hnd' hlt He.out (by unfold sb;rw [Hg.out];exact Hle.out)
   have Hle:=hide hle
   have Heq:=hide heq
   have hd:decide (D i<((s[i].toNat:Nat):Int))=false:=by simp;omega
   clear heq hle
   go_wp2
   go_quiet (fail)
   go_wp2
   go_quiet (fail)
   go_wp2
   go_ret
   refine zqZ _ rfl (by rw [World.drewN_drewN,World.drewN_drewN]) ?_
   refine Nat.le_of_lt (zq1 HCs.out Hok.out hlt hnd' (fun j hj=>(He.out j hj).symm) ?_)
   unfold sb;rw [Hg.out]
   have h1:=Hle.out
   have h2:=Heq.out
   omega
  go_wp2
  go_ret
  have hin:i=nd:=by omega
  subst hin
  exact zre n rfl rfl (zsx HCs.out hlt He.out Hl.out)
 go_wp2
 go_ret
 have hin:i=s.size:=by omega
 refine zqZ n rfl rfl (ztR (by omega) (fun j hj=>He.out j (by omega)))
def zay (k:Nat):Nat × List UInt8:=Go.Pinned.cheatRows.getD k (0,[])
def zgE (k i:Nat):Int:=(((zay k).2.getD i 0).toNat:Int)
def zrr (k:Nat):Bool:=
 decide (1<=k->(zay k).1+(zay k).2.length=k+1/\(zay k).2.length<=k/\1<=(zay k).2.length/\(zay k).2.length<=100/\dv (zgE k) (zay k).2.length=5^k/\
  10^((zay k).2.length-1)<=5^k/\5^k<10^(zay k).2.length/\(∀ i,i<(zay k).2.length->48<=zgE k i/\zgE k i<=57)/\zgE k ((zay k).2.length-1)≠48)
theorem cheat_all:∀ k:Fin 61,zrr k=true:=by decide+kernel
structure zdG (w:World) (G o:Nat):Prop where
 size:21<w.heap.size
 hG:G<w.heap.size
 slice:w.cell? ⟨21,0,none⟩=some (.slice (some ⟨G,o,none⟩) 61 61)
 delta:∀ k,k<61->w.cell? ⟨G,o+k*2,none⟩=some (.int .i64 (zay k).1)
 cut:∀ k,k<61->∃ s:ByteArray,w.cell? ⟨G,o+k*2+1,none⟩=some (.string s)/\bs s=(zay k).2.map (fun b=>(b.toNat:Int))
theorem zpz {k:Nat} {s:ByteArray} (h:bs s=(zay k).2.map (fun b=>(b.toNat:Int))):s.size=(zay k).2.length/\∀ i,i<s.size->sb s i=zgE k i:=by
 have hl:s.size=(zay k).2.length:=by rw [<-zad,h,List.length_map]
 refine ⟨hl,fun i hi=>?_⟩
 unfold sb zgE
 rw [h,List.getD_eq_getElem?_getD,List.getD_eq_getElem?_getD,List.getElem?_map]
 rw [hl] at hi
 rw [List.getElem?_eq_getElem hi]
 rfl
def preL (D:Nat->Int) (nd:Nat) (s:ByteArray):Bool:=decide (dv D nd*10^s.size<dv (sb s) s.size*10^nd)
theorem zil (D:Nat->Int) (nd g:Nat) (s:ByteArray) (w:World) (hnd:nd<=800) (hs:s.size<=100) (hok:OkDig D nd) (hC:OkDig (sb s) s.size) (hl:sb s (s.size-1)≠48)
 (hcell:∀ k,k<800->w.cell? ⟨g,k,none⟩=some (.int .u8 (D k))):
 Calls Tryz.prog 259 #[.slice (some ⟨g,0,none⟩) nd 800,.string s] w fun e w'=>e=.returned (.bool (preL D nd s))/\∃ m,w'=w.drewN m:=by
 refine (zlE D nd g s w hnd hs hok hC hl hcell).mono ?_
 rintro e w' ⟨b,n,rfl,rfl,h1,h2⟩
 refine ⟨?_,n,rfl⟩
 have:b=preL D nd s:=by
  unfold preL
  cases b
  ·symm;rw [decide_eq_false_iff_not];have:=h2 rfl;omega
  symm;rw [decide_eq_true_eq];exact h1 rfl
 rw [this]
def LSt (X M A u:Nat) (D:Nat->Int) (tr tr':Bool):Prop:=
 ∃ R,X=A*10^u+sg D (M-u) (u-min u (M-800))*10^(min u (M-800))+R/\R<10^(min u (M-800))/\(∀ i,M-u<=i->i<M-(M-800)->48<=D i/\D i<=57)/\tr'=(tr||decide (R≠0))
theorem zhN (X M:Nat) (D:Nat->Int) (tr:Bool):LSt X M X 0 D tr tr:=by
 refine ⟨0,?_,?_,fun i h1 h2=>by omega,by simp⟩
 ·simp [sg]
 exact p10 _
theorem zhA {X M A A' u rem:Nat} {D:Nat->Int} {tr tr':Bool} (h:LSt X M A u D tr tr') (hA:A=A'*10+rem) (hr:rem<=9) (hu:u+1<=M) (hw:M-u-1<800):
 LSt X M A' (u+1) (updD D (M-u-1) (rem+48)) tr tr':=by
 obtain ⟨R,h1,h2,h3,h4⟩:=h
 have hj:M-800<=u:=by omega
 have m1:min u (M-800)=M-800:=Nat.min_eq_right hj
 have m2:min (u+1) (M-800)=M-800:=Nat.min_eq_right (by omega)
 rw [m1] at h1 h2
 refine ⟨R,?_,by rw [m2];exact h2,fun i a1 a2=>?_,h4⟩
 ·rw [m2,show M-(u+1)=M-u-1 by omega,show u+1-(M-800)=(u-(M-800))+1 by omega,zpN,show M-u-1+1=M-u by omega,h1,hA,
   show ((rem:Int)+48-48).toNat=rem by omega,Nat.pow_succ,Nat.add_mul (rem*_),Nat.mul_assoc rem,<-Nat.pow_add,show u-(M-800)+(M-800)=u by omega]
  generalize 10^u=p
  generalize sg D (M-u) (u-(M-800))*10^(M-800)=q
  rw [Nat.add_mul,Nat.mul_assoc,Nat.mul_comm 10 p]
  omega
 by_cases e:i=M-u-1
 ·subst e;rw [zbQ];omega
 rw [zaP e];exact h3 i (by omega) a2
theorem zch {X M A A' u rem:Nat} {D:Nat->Int} {tr tr' tr'':Bool} (h:LSt X M A u D tr tr') (hA:A=A'*10+rem) (hr:rem<=9) (hu:u+1<=M) (hw:800<=M-u-1) (ht:tr''=(tr'||decide (rem≠0))):
 LSt X M A' (u+1) D tr tr'':=by
 obtain ⟨R,h1,h2,h3,h4⟩:=h
 have m1:min u (M-800)=u:=Nat.min_eq_left (by omega)
 have m2:min (u+1) (M-800)=u+1:=Nat.min_eq_left (by omega)
 rw [m1,Nat.sub_self] at h1
 rw [m1] at h2
 refine ⟨rem*10^u+R,?_,?_,fun i a1 a2=>h3 i (by omega) a2,?_⟩
 ·rw [m2,Nat.sub_self,h1,hA]
  simp only [sg,Nat.zero_mul,Nat.add_zero,Nat.pow_succ]
  generalize 10^u=p
  rw [Nat.add_mul,Nat.mul_assoc,Nat.mul_comm 10 p]
  omega
 ·rw [m2,Nat.pow_succ]
  have:=Nat.mul_le_mul_right (10^u) hr
  omega
 have hp:=p10 u
 have key:(decide (R≠0)||decide (rem≠0))=decide (rem*10^u+R≠0):=by
  generalize hq:10^u=q at *
  by_cases hR:R=0
  ·by_cases h0:rem=0
   ·simp [hR,h0]
   have:rem*q≠0:=Nat.mul_ne_zero h0 (by omega)
   simp [hR,h0];omega
  simp [hR]
 rw [ht,h4,Bool.or_assoc,key]
theorem ziZ {X M u:Nat} {D:Nat->Int} {tr tr':Bool} (h:LSt X M 0 u D tr tr') (hu:u<=M):X<10^u:=by
 obtain ⟨R,h1,h2,h3,h4⟩:=h
 rw [Nat.zero_mul,Nat.zero_add] at h1
 have hs:sg D (M-u) (u-min u (M-800))<10^(u-min u (M-800)):=by
  have key:∀ (n a:Nat),(∀ i,a<=i->i<a+n->48<=D i/\D i<=57)->sg D a n<10^n:=by
   intro n
   induction n with
   |zero=>intro a _;simp [sg]
   |succ n ih=>
    intro a h
    have i1:=ih (a+1) (fun i b1 b2=>h i (by omega) (by omega))
    have i2:=h a (by omega) (by omega)
    have i3:dgt D a<=9:=by unfold dgt;omega
    have i4:=Nat.mul_le_mul_right (10^n) i3
    show dgt D a*10^n+sg D (a+1) n<10^(n+1)
    rw [Nat.pow_succ]
    omega
  exact key _ _ (fun i b1 b2=>h3 i b1 (by omega))
 have e:10^u=10^(u-min u (M-800))*10^(min u (M-800)):=by rw [<-Nat.pow_add];congr 1;omega
 rw [h1,e]
 have:=Nat.mul_le_mul_right (10^(min u (M-800))) hs
 rw [Nat.succ_mul] at this
 omega
theorem zhm {X M:Nat} {E:Int} {D:Nat->Int} {tr tr':Bool} {dp:Int} {n:Nat} (h:LSt X M 0 M D tr tr') (hX:10^(M-1)<=X) (hM:M≠0) (hn:n=M-(M-800)) (hdp:dp=E+(M:Nat)):
 Shf X E tr D (trimN D n) (zd1 (trimN D n) dp) tr':=by
 obtain ⟨R,h1,h2,h3,h4⟩:=h
 have m1:min M (M-800)=M-800:=Nat.min_eq_right (by omega)
 rw [m1,Nat.sub_self,ztE,Nat.zero_mul,Nat.zero_add,<-hn] at h1
 rw [m1] at h2
 have hok:OkDig D n:=fun i hi=>h3 i (by omega) (by omega)
 have hh:D 0≠48:=by
  intro e
  obtain ⟨q,hq⟩:∃ q,n=1+q:=⟨n-1,by omega⟩
  have e1:dv D n<10^q:=by
   rw [hq,dv_sg q 1]
   have:dv D 1=0:=by simp [dv,dgt,e]
   rw [this,Nat.zero_mul,Nat.zero_add]
   exact sg_lt (by rw [<-hq];exact hok)
  have e2:10^(M-1)=10^q*10^(M-800):=by rw [<-Nat.pow_add,show M-1=q+(M-800) by omega]
  have e3:=Nat.mul_le_mul_right (10^(M-800)) e1
  rw [Nat.succ_mul] at e3
  omega
 refine zur hok (by omega) (by omega) hh h1 h2 ?_ (by omega) h4
 rw [hdp,hn]
 omega
def ShR (X:Nat) (E:Int) (tr:Bool) (g:Nat) (w:World) (e:Ending) (w':World):Prop:=
 e=.returned (.tuple #[])/\∃ D nd dp tr',DecAt w' g D (nd:Nat) dp tr'/\Shf X E tr D nd dp tr'/\Below g w w'
theorem zaU {x:Int} (h0:0<=x) (h1:x<18446744073709551616):IntKind.u64.wrap x=x:=by
 simp [IntKind.wrap,IntKind.signed,IntKind.bits];omega
theorem znw {n d P m:Nat} {x:Int} (hP:P<=1152921504606846976) (hn:n<P) (hx1:48<=x) (hx2:x<=57) (hd:d=(x-48).toNat) (hm:m=n+d*P):
 IntKind.u64.wrap (n+IntKind.u64.wrap ((x-48)*(P:Int)))=(m:Int)/\m<10*P:=by
 have hd9:d<=9:=by omega
 have h1:=Nat.mul_le_mul_right P hd9
 have e1:x-48=(d:Int):=by omega
 have e2:(x-48)*(P:Int)=((d*P:Nat):Int):=by rw [e1,Int.natCast_mul]
 generalize d*P=y at *
 rw [e2,zaU (x:=(y:Int)) (by omega) (by omega),zaU (by omega) (by omega)]
 omega
theorem zhv {m q rem:Nat} (hm:m<11529215046068469760) (hq:q=m/10) (hr:rem=m%10):
 IntKind.u64.wrap ((m:Int)/10)=(q:Int)/\IntKind.u64.wrap ((m:Int)-IntKind.u64.wrap (10*(q:Int)))=(rem:Int)/\IntKind.u64.wrap ((rem:Int)+48)%256=(rem:Int)+48:=by
 have e:(m:Int)/10=(q:Int):=by omega
 rw [e,zaU (by omega) (by omega),zaU (x:=10*(q:Int)) (by omega) (by omega),zaU (by omega) (by omega),zaU (by omega) (by omega)]
 omega
theorem zjS {D:Nat->Int} {r n P m q rem:Nat} (hm:m=n+(D r-48).toNat*P) (hq:q=m/10) (hr:rem=m%10):dv D (r+1)*P+n=(dv D r*P+q)*10+rem:=by
 have e:dv D (r+1)=dv D r*10+dgt D r:=rfl
 rw [e,Nat.add_mul,Nat.add_mul,show dgt D r=(D r-48).toNat from rfl,Nat.mul_assoc,Nat.mul_comm 10 P,<-Nat.mul_assoc]
 generalize (D r-48).toNat*P=y at *
 generalize dv D r*P=z
 omega
theorem zlS {m P q:Nat} (h:m<10*P) (hq:q=m/10):q<P:=by omega
theorem zu4 (g G o nd k M delta:Nat) (D:Nat->Int) (dp:Int) (tr:Bool) (s:ByteArray) (w:World) (h:DecAt w g D nd dp tr) (c12:w.cell? ⟨21,0,none⟩=some (.slice (some ⟨G,o,none⟩) 61 61))
 (c13:w.cell? ⟨G,o+k*2,none⟩=some (.int .i64 ((delta:Int)+1))) (c14:w.cell? ⟨G,o+k*2+1,none⟩=some (.string s)) (hN:Norm D nd) (hnd0:nd≠0) (hk1:1<=k) (hk:k<=60) (hdp1: -100000<=dp) (hdp2:dp<=100000)
 (hs:s.size<=100) (hC:OkDig (sb s) s.size) (hl:sb s (s.size-1)≠48) (hd2:delta<=60) (hb:preL D nd s=true) (HM:Hid (M=nd+delta)) (hM1:10^(M-1)<=dv D nd*2^k) (hM2:dv D nd*2^k<10^M):
 Calls Tryz.prog 245 #[.pointer (some ⟨g,0,none⟩),.int .u64 k] w fun e w'=>ShR (dv D nd*2^k) (dp-nd) tr g w e w':=by
 have P:=fun (m:Nat)=>zil D nd g s (w.drewN m) hN.le hs hN.ok hC hl h.dig
 simp only [hb] at P
 have HP:=hide P
 have H:=hide h
 have HN:=hide hN
 have HM1:=hide hM1
 have HM2:=hide hM2
 have c0:=h.nd
 have c9:=h.dp
 have f0:=h.fr
 have hle:(nd:Int)<=800:=by have:=hN.le;omega
 have hle':nd<=800:=hN.le
 have Hk2:Hid (2^k<=1152921504606846976):=hide (by
  have:=Nat.pow_le_pow_right (show 0<2 by omega) hk
  exact Nat.le_trans this (by decide))
 have Hkp:Hid (0<2^k):=hide (Nat.pow_pos (by omega))
 clear h hN hM1 hM2 hb P hC hl
 have hk61:(k:Int)<61:=by omega
 have hk62:k<61:=by omega
 go_enter Tryz.func245,Tryz.ntmps245
 go_wp2
 go_quiet ((go_at_call 259;exact Calls.quiet_of (HP.out _)))
 go_wp2
 clear HP c12 c13 c14
 go_loopw [5,6,7] (fun rv wv nv wr=>∃ (r n:Nat) (D':Nat->Int) (tr':Bool),r<=nd/\rv=.int .i64 ((r:Int)-1)/\wv=.int .i64 ((r:Int)+delta)/\nv=.int .u64 n/\Hid (n<2^k)/\Hid (∀ i,i<r->D' i=D i)/\Hid (LSt (dv D nd*2^k) M (dv D r*2^k+n) (nd-r) D' tr tr')/\
  DecAt wr g D' nd dp tr'/\Below g w wr) (fun rv _ _ _=>((intOf rv)+1).toNat)
 case atStart=>exact ⟨nd,0,D,tr,Nat.le_refl _,rfl,rfl,rfl,Hkp,hide (fun _ _=>rfl),hide (by rw [Nat.sub_self];exact zhN _ _ _ _),H.out.drewN _,below_drewN (Below.refl _ _) _⟩
 obtain ⟨r,n,D',tr',hr,rfl,rfl,rfl,Hn,He,HS,hd,hbw⟩:=hrel
 have Hd:=hide hd
 have Hbw:=hide hbw
 clear c0 c9 f0 hd hbw H
 have c0:=Hd.out.nd
 have c9:=Hd.out.dp
 have c8:=Hd.out.tr
 have f0:=Hd.out.fr
 by_cases hr0:r=0
 ·subst hr0
  go_wp2
  go_loopw [6,7] (fun wv nv wq=>∃ (v u n:Nat) (D':Nat->Int) (tr':Bool),v<=1000/\wv=.int .i64 v/\nv=.int .u64 n/\Hid (u+v=M)/\Hid (n<2^k)/\Hid (LSt (dv D nd*2^k) M n u D' tr tr')/\
   DecAt wq g D' nd dp tr'/\Below g w wq) (fun _ nv _=>(intOf nv).toNat)
  case atStart=>
   have hS:=HS.out
   have e0:dv D 0*2^k+n=n:=by simp [dv]
   rw [e0,Nat.sub_zero] at hS
   exact ⟨delta,nd,n,D',tr',by omega,by simp,rfl,hide HM.out.symm,Hn,hide hS,Hd.out,Hbw.out⟩
  clear c0 c9 c8 f0 Hd Hbw HS He Hn
  obtain ⟨v,u,n,D',tr',hv,rfl,rfl,Huv,Hn,HS,hd,hbw⟩:=hrel
  have Hd:=hide hd
  have Hbw:=hide hbw
  clear hd hbw
  have c0:=Hd.out.nd
  have c9:=Hd.out.dp
  have c8:=Hd.out.tr
  have f0:=Hd.out.fr
  by_cases hn0:n=0
  ·subst hn0
   have hsm:=ziZ HS.out (by have:=Huv.out;omega)
   have huM:u=M:=by
    have h1:=HM1.out
    have h2:=Huv.out
    have h3:M-1<u:=(Nat.pow_lt_pow_iff_right (by omega)).1 (Nat.lt_of_le_of_lt h1 hsm)
    omega
   have hv0:v=0:=by have:=Huv.out;omega
   have HS':Hid (LSt (dv D nd*2^k) M 0 M D' tr tr'):=hide (by have:=HS.out;rw [huM] at this;exact this)
   subst hv0
   clear HS hsm huM Huv
   by_cases hbig:800<=nd+delta
   ·have hbig':(800:Int)<=(nd:Int)+delta:=by omega
    go_wp2_with fail
    refine (zcy g 800 D' (dp+delta) tr' _ ?_ (Nat.le_refl _)).mono ?_
    ·exact ((Hd.out.setNd (nd+delta)).setNd 800).setDp (dp+delta)
    rintro e w' ⟨rfl,hdec,hbel⟩
    go_wp2
    go_end0
    refine ⟨rfl,D',_,_,tr',hdec,?_,?_⟩
    ·exact zhm HS'.out HM1.out (by have:=HM.out;omega) (by have:=HM.out;omega) (by have:=HM.out;omega)
    exact (((Hbw.out.setCell (Nat.le_refl _) _).setCell (Nat.le_refl _) _).setCell (Nat.le_refl _) _).trans hbel
   have hbig':(nd:Int)+delta<800:=by omega
   go_wp2_with fail
   refine (zcy g (nd+delta) D' (dp+delta) tr' _ ?_ (by omega)).mono ?_
   ·have:=(Hd.out.setNd (nd+delta)).setDp (dp+delta)
    rw [Int.natCast_add]
    exact this
   rintro e w' ⟨rfl,hdec,hbel⟩
   go_wp2
   go_end0
   refine ⟨rfl,D',_,_,tr',hdec,?_,?_⟩
   ·exact zhm HS'.out HM1.out (by have:=HM.out;omega) (by have:=HM.out;omega) (by have:=HM.out;omega)
   exact ((Hbw.out.setCell (Nat.le_refl _) _).setCell (Nat.le_refl _) _).trans hbel
  have huM:u<M:=by
   obtain ⟨R,h1,_⟩:=HS.out
   have h2:=HM2.out
   have h3:1*10^u<=n*10^u:=Nat.mul_le_mul_right _ (by omega)
   have h4:10^u<10^M:=by omega
   exact (Nat.pow_lt_pow_iff_right (by omega)).1 h4
  obtain ⟨v1,rfl⟩:∃ v1,v=v1+1:=⟨v-1,by have:=Huv.out;omega⟩
  obtain ⟨q,hq⟩:∃ q,q=n/10:=⟨_,rfl⟩
  obtain ⟨rem,hrem⟩:∃ rem,rem=n%10:=⟨_,rfl⟩
  have hn2:n<11529215046068469760:=by have:=Hn.out;have:=Hk2.out;omega
  obtain ⟨e3,e4,e5⟩:=zhv hn2 hq hrem
  have hn1:(0:Int)<(n:Int):=by omega
  have HA:Hid (n=q*10+rem):=hide (by omega)
  have hrem9:rem<=9:=by omega
  have Hq:Hid (q<2^k/\q<n):=hide ⟨by have:=Hn.out;omega,by omega⟩
  have HuM:=hide huM
  clear hq hrem hn0 huM hn2
  by_cases hw:v1<800
  ·have cW:=Hd.out.dig v1 hw
   have hw':(v1:Int)<800:=by omega
   go_wp2
   go_roundw
   case rel=>
    refine ⟨v1,u+1,q,updD D' v1 (rem+48),tr',by omega,by go_num,rfl,hide (by have:=Huv.out;omega),hide Hq.out.1,hide ?_,Hd.out.setDig hw _,Hbw.out.setCell (Nat.le_refl _) _⟩
    have h1:M-u-1=v1:=by have:=Huv.out;omega
    have h2:=zhA (A':=q) HS.out HA.out hrem9 HuM.out (by omega)
    rw [h1] at h2
    exact h2
   case measure=>have:=Hq.out.2;simp [intOf];omega
  have hw':(800:Int)<=(v1:Int):=by omega
  by_cases hz:rem=0
  ·subst hz
   go_wp2
   go_roundw
   case rel=>
    refine ⟨v1,u+1,q,D',tr',by omega,by go_num,rfl,hide (by have:=Huv.out;omega),hide Hq.out.1,hide ?_,Hd.out,Hbw.out⟩
    exact zch HS.out HA.out hrem9 HuM.out (by have:=Huv.out;omega) (by simp)
   case measure=>have:=Hq.out.2;simp [intOf];omega
  have hzb:((rem:Int) !=0)=true:=by rw [bne_iff_ne];omega
  have Hz:=hide hz
  clear hz
  go_wp2
  go_roundw
  case rel=>
   refine ⟨v1,u+1,q,D',true,by omega,by go_num,rfl,hide (by have:=Huv.out;omega),hide Hq.out.1,hide ?_,Hd.out.setTr true,Hbw.out.setCell (Nat.le_refl _) _⟩
   exact zch HS.out HA.out hrem9 HuM.out (by have:=Huv.out;omega) (by have:=Hz.out;simp [this])
  case measure=>have:=Hq.out.2;simp [intOf];omega
 obtain ⟨r1,rfl⟩:∃ r1,r=r1+1:=⟨r-1,by omega⟩
 have cR:wr.cell? ⟨g,r1,none⟩=some (.int .u8 (D r1)):=by rw [Hd.out.dig r1 (by omega),He.out r1 (by omega)]
 have hx:=HN.out.ok r1 (by omega)
 obtain ⟨hx1,hx2⟩:=hx
 have hr8:(r1:Int)<800:=by omega
 obtain ⟨m,hm⟩:∃ m,m=n+(D r1-48).toNat*2^k:=⟨_,rfl⟩
 obtain ⟨q,hq⟩:∃ q,q=m/10:=⟨_,rfl⟩
 obtain ⟨rem,hrem⟩:∃ rem,rem=m%10:=⟨_,rfl⟩
 obtain ⟨e1,hm10⟩:=znw Hk2.out Hn.out hx1 hx2 rfl hm
 have e2k:((2^k:Nat):Int)=(2:Int)^k:=by simp
 rw [e2k] at e1
 clear e2k
 have hm2:m<11529215046068469760:=by have:=Hk2.out;omega
 obtain ⟨e3,e4,e5⟩:=zhv hm2 hq hrem
 have HA:=hide (zjS (D:=D) (P:=2^k) hm hq hrem)
 have Hq:Hid (q<2^k):=hide (zlS hm10 hq)
 have hrem9:rem<=9:=by omega
 clear hm hq hrem hm10 hm2 hr0
 have eM:nd+delta-(nd-(r1+1))-1=r1+delta:=by omega
 have HeM:Hid (M-(nd-(r1+1))-1=r1+delta):=hide (by rw [HM.out];exact eM)
 have HuM:Hid (nd-(r1+1)+1<=M):=hide (by rw [HM.out];omega)
 clear eM
 have Eu:Hid (nd-(r1+1)+1=nd-r1):=hide (by omega)
 by_cases hw:r1+delta<800
 ·have cW:=Hd.out.dig (r1+delta) hw
  have hw':(r1:Int)+delta<800:=by omega
  go_wp2
  go_roundw
  case rel=>
   refine ⟨r1,q,updD D' (r1+delta) (rem+48),tr',by omega,by go_num,by go_num,rfl,Hq,hide (fun i hi=>by rw [zaP (by omega)];exact He.out i (by omega)),hide ?_,Hd.out.setDig hw _,Hbw.out.setCell (Nat.le_refl _) _⟩
   have h2:=zhA (A':=dv D r1*2^k+q) HS.out HA.out hrem9 HuM.out (by rw [HeM.out];exact hw)
   rw [HeM.out,Eu.out] at h2
   exact h2
  case measure=>simp [intOf]
 have hw':(800:Int)<=(r1:Int)+delta:=by omega
 by_cases hz:rem=0
 ·subst hz
  go_wp2
  go_roundw
  case rel=>
   refine ⟨r1,q,D',tr',by omega,by go_num,by go_num,rfl,Hq,hide (fun i hi=>He.out i (by omega)),hide ?_,Hd.out,Hbw.out⟩
   have h2:=zch (A':=dv D r1*2^k+q) (tr'':=tr') HS.out HA.out hrem9 HuM.out (by rw [HeM.out];omega) (by simp)
   rw [Eu.out] at h2
   exact h2
  case measure=>simp [intOf]
 have hzb:((rem:Int) !=0)=true:=by rw [bne_iff_ne];omega
 have Hz:=hide hz
 clear hz
 go_wp2
 go_roundw
 case rel=>
  refine ⟨r1,q,D',true,by omega,by go_num,by go_num,rfl,Hq,hide (fun i hi=>He.out i (by omega)),hide ?_,Hd.out.setTr true,Hbw.out.setCell (Nat.le_refl _) _⟩
  have h2:=zch (A':=dv D r1*2^k+q) (tr'':=true) HS.out HA.out hrem9 HuM.out (by rw [HeM.out];omega) (by have:=Hz.out;simp [this])
  rw [Eu.out] at h2
  exact h2
 case measure=>simp [intOf]
end Go.Proofs.YtamdnnkdnhkghaaGreatDoor
