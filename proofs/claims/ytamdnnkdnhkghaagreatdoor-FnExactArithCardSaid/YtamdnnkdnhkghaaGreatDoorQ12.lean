import Derived.Test.YtamdnnkdnhkghaaGreatDoorQ11
set_option maxHeartbeats 12800000
set_option maxRecDepth 100000
set_option linter.unusedVariables false
namespace Go.Proofs.YtamdnnkdnhkghaaGreatDoor
open Go Go.RowKit
theorem zux (g G o nd k M delta:Nat) (D:Nat->Int) (dp:Int) (tr:Bool) (s:ByteArray) (w:World) (h:DecAt w g D nd dp tr) (c12:w.cell? ⟨21,0,none⟩=some (.slice (some ⟨G,o,none⟩) 61 61))
 (c13:w.cell? ⟨G,o+k*2,none⟩=some (.int .i64 delta)) (c14:w.cell? ⟨G,o+k*2+1,none⟩=some (.string s)) (hN:Norm D nd) (hnd0:nd≠0) (hk1:1<=k) (hk:k<=60) (hdp1: -100000<=dp) (hdp2:dp<=100000)
 (hs:s.size<=100) (hC:OkDig (sb s) s.size) (hl:sb s (s.size-1)≠48) (hd2:delta<=60) (hb:preL D nd s=false) (HM:Hid (M=nd+delta)) (hM1:10^(M-1)<=dv D nd*2^k) (hM2:dv D nd*2^k<10^M):
 Calls Tryz.prog 245 #[.pointer (some ⟨g,0,none⟩),.int .u64 k] w fun e w'=>ShR (dv D nd*2^k) (dp-nd) tr g w e w':=by
 have P:=fun (m:Nat)=>zil D nd g s (w.drewN m) hN.le hs hN.ok hC hl h.dig
 simp only [hb] at P
 have HP:=hide P
 have H:=hide h
 have HN:=hide hN
 have HM1:=hide hM1
 have HM2:=hide hM2
 have c0:=h.nd
 have c9:=h.dp
 have f0:=h.fr
 have hle:(nd:Int)<=800:=by have:=hN.le;omega
 have hle':nd<=800:=hN.le
 have Hk2:Hid (2^k<=1152921504606846976):=hide (by
  have:=Nat.pow_le_pow_right (show 0<2 by omega) hk
  exact Nat.le_trans this (by decide))
 have Hkp:Hid (0<2^k):=hide (Nat.pow_pos (by omega))
 clear h hN hM1 hM2 hb P hC hl
 have hk61:(k:Int)<61:=by omega
 have hk62:k<61:=by omega
 go_enter Tryz.func245,Tryz.ntmps245
 go_wp2
 go_quiet ((go_at_call 259;exact Calls.quiet_of (HP.out _)))
 go_wp2
 clear HP c12 c13 c14
 go_loopw [5,6,7] (fun rv wv nv wr=>∃ (r n:Nat) (D':Nat->Int) (tr':Bool),r<=nd/\rv=.int .i64 ((r:Int)-1)/\wv=.int .i64 ((r:Int)+delta)/\nv=.int .u64 n/\Hid (n<2^k)/\Hid (∀ i,i<r->D' i=D i)/\Hid (LSt (dv D nd*2^k) M (dv D r*2^k+n) (nd-r) D' tr tr')/\
  DecAt wr g D' nd dp tr'/\Below g w wr) (fun rv _ _ _=>((intOf rv)+1).toNat)
 case atStart=>exact ⟨nd,0,D,tr,Nat.le_refl _,rfl,rfl,rfl,Hkp,hide (fun _ _=>rfl),hide (by rw [Nat.sub_self];exact zhN _ _ _ _),H.out.drewN _,below_drewN (Below.refl _ _) _⟩
 obtain ⟨r,n,D',tr',hr,rfl,rfl,rfl,Hn,He,HS,hd,hbw⟩:=hrel
 have Hd:=hide hd
 have Hbw:=hide hbw
 clear c0 c9 f0 hd hbw H
 have c0:=Hd.out.nd
 have c9:=Hd.out.dp
 have c8:=Hd.out.tr
 have f0:=Hd.out.fr
 by_cases hr0:r=0
 ·subst hr0
  go_wp2
  go_loopw [6,7] (fun wv nv wq=>∃ (v u n:Nat) (D':Nat->Int) (tr':Bool),v<=1000/\wv=.int .i64 v/\nv=.int .u64 n/\Hid (u+v=M)/\Hid (n<2^k)/\Hid (LSt (dv D nd*2^k) M n u D' tr tr')/\
   DecAt wq g D' nd dp tr'/\Below g w wq) (fun _ nv _=>(intOf nv).toNat)
  case atStart=>
   have hS:=HS.out
   have e0:dv D 0*2^k+n=n:=by simp [dv]
   rw [e0,Nat.sub_zero] at hS
   exact ⟨delta,nd,n,D',tr',by omega,by simp,rfl,hide HM.out.symm,Hn,hide hS,Hd.out,Hbw.out⟩
  clear c0 c9 c8 f0 Hd Hbw HS He Hn
  obtain ⟨v,u,n,D',tr',hv,rfl,rfl,Huv,Hn,HS,hd,hbw⟩:=hrel
  have Hd:=hide hd
  have Hbw:=hide hbw
  clear hd hbw
  have c0:=Hd.out.nd
  have c9:=Hd.out.dp
  have c8:=Hd.out.tr
  have f0:=Hd.out.fr
  by_cases hn0:n=0
  ·subst hn0
   have hsm:=ziZ HS.out (by have:=Huv.out;omega)
   have huM:u=M:=by
    have h1:=HM1.out
    have h2:=Huv.out
    have h3:M-1<u:=(Nat.pow_lt_pow_iff_right (by omega)).1 (Nat.lt_of_le_of_lt h1 hsm)
    omega
   have hv0:v=0:=by have:=Huv.out;omega
   have HS':Hid (LSt (dv D nd*2^k) M 0 M D' tr tr'):=hide (by have:=HS.out;rw [huM] at this;exact this)
   subst hv0
   clear HS hsm huM Huv
   by_cases hbig:800<=nd+delta
   ·have hbig':(800:Int)<=(nd:Int)+delta:=by omega
    go_wp2_with fail
    refine (zcy g 800 D' (dp+delta) tr' _ ?_ (Nat.le_refl _)).mono ?_
    ·exact ((Hd.out.setNd (nd+delta)).setNd 800).setDp (dp+delta)
    rintro e w' ⟨rfl,hdec,hbel⟩
    go_wp2
    go_end0
    refine ⟨rfl,D',_,_,tr',hdec,?_,?_⟩
    ·exact zhm HS'.out HM1.out (by have:=HM.out;omega) (by have:=HM.out;omega) (by have:=HM.out;omega)
    exact (((Hbw.out.setCell (Nat.le_refl _) _).setCell (Nat.le_refl _) _).setCell (Nat.le_refl _) _).trans hbel
   have hbig':(nd:Int)+delta<800:=by omega
   go_wp2_with fail
   refine (zcy g (nd+delta) D' (dp+delta) tr' _ ?_ (by omega)).mono ?_
   ·have:=(Hd.out.setNd (nd+delta)).setDp (dp+delta)
    rw [Int.natCast_add]
    exact this
   rintro e w' ⟨rfl,hdec,hbel⟩
   go_wp2
   go_end0
   refine ⟨rfl,D',_,_,tr',hdec,?_,?_⟩
   ·exact zhm HS'.out HM1.out (by have:=HM.out;omega) (by have:=HM.out;omega) (by have:=HM.out;omega)
   exact ((Hbw.out.setCell (Nat.le_refl _) _).setCell (Nat.le_refl _) _).trans hbel
  have huM:u<M:=by
   obtain ⟨R,h1,_⟩:=HS.out
   have h2:=HM2.out
   have h3:1*10^u<=n*10^u:=Nat.mul_le_mul_right _ (by omega)
   have h4:10^u<10^M:=by omega
   exact (Nat.pow_lt_pow_iff_right (by omega)).1 h4
  obtain ⟨v1,rfl⟩:∃ v1,v=v1+1:=⟨v-1,by have:=Huv.out;omega⟩
  obtain ⟨q,hq⟩:∃ q,q=n/10:=⟨_,rfl⟩
  obtain ⟨rem,hrem⟩:∃ rem,rem=n%10:=⟨_,rfl⟩
  have hn2:n<11529215046068469760:=by have:=Hn.out;have:=Hk2.out;omega
  obtain ⟨e3,e4,e5⟩:=zhv hn2 hq hrem
  have hn1:(0:Int)<(n:Int):=by omega
  have HA:Hid (n=q*10+rem):=hide (by omega)
  have hrem9:rem<=9:=by omega
  have Hq:Hid (q<2^k/\q<n):=hide ⟨by have:=Hn.out;omega,by omega⟩
  have HuM:=hide huM
  clear hq hrem hn0 huM hn2
  by_cases hw:v1<800
  ·have cW:=Hd.out.dig v1 hw
   have hw':(v1:Int)<800:=by omega
   go_wp2
   go_roundw
   case rel=>
    refine ⟨v1,u+1,q,updD D' v1 (rem+48),tr',by omega,by go_num,rfl,hide (by have:=Huv.out;omega),hide Hq.out.1,hide ?_,Hd.out.setDig hw _,Hbw.out.setCell (Nat.le_refl _) _⟩
    have h1:M-u-1=v1:=by have:=Huv.out;omega
    have h2:=zhA (A':=q) HS.out HA.out hrem9 HuM.out (by omega)
    rw [h1] at h2
    exact h2
   case measure=>have:=Hq.out.2;simp [intOf];omega
  have hw':(800:Int)<=(v1:Int):=by omega
  by_cases hz:rem=0
  ·subst hz
   go_wp2
   go_roundw
   case rel=>
    refine ⟨v1,u+1,q,D',tr',by omega,by go_num,rfl,hide (by have:=Huv.out;omega),hide Hq.out.1,hide ?_,Hd.out,Hbw.out⟩
    exact zch HS.out HA.out hrem9 HuM.out (by have:=Huv.out;omega) (by simp)
   case measure=>have:=Hq.out.2;simp [intOf];omega
  have hzb:((rem:Int) !=0)=true:=by rw [bne_iff_ne];omega
  have Hz:=hide hz
  clear hz
  go_wp2
  go_roundw
  case rel=>
   refine ⟨v1,u+1,q,D',true,by omega,by go_num,rfl,hide (by have:=Huv.out;omega),hide Hq.out.1,hide ?_,Hd.out.setTr true,Hbw.out.setCell (Nat.le_refl _) _⟩
   exact zch HS.out HA.out hrem9 HuM.out (by have:=Huv.out;omega) (by have:=Hz.out;simp [this])
  case measure=>have:=Hq.out.2;simp [intOf];omega
 obtain ⟨r1,rfl⟩:∃ r1,r=r1+1:=⟨r-1,by omega⟩
 have cR:wr.cell? ⟨g,r1,none⟩=some (.int .u8 (D r1)):=by rw [Hd.out.dig r1 (by omega),He.out r1 (by omega)]
 have hx:=HN.out.ok r1 (by omega)
 obtain ⟨hx1,hx2⟩:=hx
 have hr8:(r1:Int)<800:=by omega
 obtain ⟨m,hm⟩:∃ m,m=n+(D r1-48).toNat*2^k:=⟨_,rfl⟩
 obtain ⟨q,hq⟩:∃ q,q=m/10:=⟨_,rfl⟩
 obtain ⟨rem,hrem⟩:∃ rem,rem=m%10:=⟨_,rfl⟩
 obtain ⟨e1,hm10⟩:=znw Hk2.out Hn.out hx1 hx2 rfl hm
 have e2k:((2^k:Nat):Int)=(2:Int)^k:=by simp
 rw [e2k] at e1
 clear e2k
 have hm2:m<11529215046068469760:=by have:=Hk2.out;omega
 obtain ⟨e3,e4,e5⟩:=zhv hm2 hq hrem
 have HA:=hide (zjS (D:=D) (P:=2^k) hm hq hrem)
 have Hq:Hid (q<2^k):=hide (zlS hm10 hq)
 have hrem9:rem<=9:=by omega
 clear hm hq hrem hm10 hm2 hr0
 have eM:nd+delta-(nd-(r1+1))-1=r1+delta:=by omega
 have HeM:Hid (M-(nd-(r1+1))-1=r1+delta):=hide (by rw [HM.out];exact eM)
 have HuM:Hid (nd-(r1+1)+1<=M):=hide (by rw [HM.out];omega)
 clear eM
 have Eu:Hid (nd-(r1+1)+1=nd-r1):=hide (by omega)
 by_cases hw:r1+delta<800
 ·have cW:=Hd.out.dig (r1+delta) hw
  have hw':(r1:Int)+delta<800:=by omega
  go_wp2
  go_roundw
  case rel=>
   refine ⟨r1,q,updD D' (r1+delta) (rem+48),tr',by omega,by go_num,by go_num,rfl,Hq,hide (fun i hi=>by rw [zaP (by omega)];exact He.out i (by omega)),hide ?_,Hd.out.setDig hw _,Hbw.out.setCell (Nat.le_refl _) _⟩
   have h2:=zhA (A':=dv D r1*2^k+q) HS.out HA.out hrem9 HuM.out (by rw [HeM.out];exact hw)
   rw [HeM.out,Eu.out] at h2
   exact h2
  case measure=>simp [intOf]
 have hw':(800:Int)<=(r1:Int)+delta:=by omega
 by_cases hz:rem=0
 ·subst hz
  go_wp2
  go_roundw
  case rel=>
   refine ⟨r1,q,D',tr',by omega,by go_num,by go_num,rfl,Hq,hide (fun i hi=>He.out i (by omega)),hide ?_,Hd.out,Hbw.out⟩
   have h2:=zch (A':=dv D r1*2^k+q) (tr'':=tr') HS.out HA.out hrem9 HuM.out (by rw [HeM.out];omega) (by simp)
   rw [Eu.out] at h2
   exact h2
  case measure=>simp [intOf]
 have hzb:((rem:Int) !=0)=true:=by rw [bne_iff_ne];omega
 have Hz:=hide hz
 clear hz
 go_wp2
 go_roundw
 case rel=>
  refine ⟨r1,q,D',true,by omega,by go_num,by go_num,rfl,Hq,hide (fun i hi=>He.out i (by omega)),hide ?_,Hd.out.setTr true,Hbw.out.setCell (Nat.le_refl _) _⟩
  have h2:=zch (A':=dv D r1*2^k+q) (tr'':=true) HS.out HA.out hrem9 HuM.out (by rw [HeM.out];omega) (by have:=Hz.out;simp [this])
  rw [Eu.out] at h2
  exact h2
 case measure=>simp [intOf]
def Pz (D:Nat->Int) (nd r:Nat):Nat:=dv D (min r nd)*10^(r-nd)
theorem pz_le {D:Nat->Int} {nd r:Nat} (h:r<=nd):Pz D nd r=dv D r:=by
 unfold Pz;rw [Nat.min_eq_left h,show r-nd=0 by omega,Nat.pow_zero,Nat.mul_one]
theorem pz_ge {D:Nat->Int} {nd r:Nat} (h:nd<=r):Pz D nd r=dv D nd*10^(r-nd):=by
 unfold Pz;rw [Nat.min_eq_right h]
theorem pz_lt {D:Nat->Int} {nd r:Nat} (h:r<nd):Pz D nd (r+1)=Pz D nd r*10+dgt D r:=by
 rw [pz_le (by omega),pz_le (by omega)];rfl
theorem ze2 {D:Nat->Int} {nd r:Nat} (h:nd<=r):Pz D nd (r+1)=Pz D nd r*10+0:=by
 rw [pz_ge h,pz_ge (by omega),show r+1-nd=r-nd+1 by omega,Nat.pow_succ,Nat.mul_assoc,Nat.add_zero]
def RSt (D:Nat->Int) (nd k r t n:Nat) (D':Nat->Int) (tr tr':Bool):Prop:=
 ∃ R,Pz D nd r=n+10*2^k*(dv D' (min t 800)*10^(t-800)+R)/\R<10^(t-800)/\OkDig D' (min t 800)/\(t≠0->D' 0≠48)/\(t=0->2^k<=n)/\n<10*2^k/\tr'=(tr||decide (R≠0))
theorem zh8 {D D':Nat->Int} {nd k r n:Nat} {tr:Bool} (hn:Pz D nd r=n) (h1:2^k<=n) (h2:n<10*2^k):RSt D nd k r 0 n D' tr tr:=by
 refine ⟨0,?_,by simp,fun i hi=>by omega,fun h=>absurd rfl h,fun _=>h1,h2,by simp⟩
 simp [dv,hn]
theorem zmd {P n c:Nat} (hc:c<=9):(n%P)*10+c<10*P∨P=0:=by
 by_cases h:P=0
 ·exact .inr h
 have:=Nat.mod_lt n (Nat.pos_of_ne_zero h);left;omega
theorem zm6 {P n c d S pr pr':Nat} (h:pr=n+10*P*S) (hpr:pr'=pr*10+c) (hd:d=n/P):pr'=((n%P)*10+c)+10*P*(S*10+d):=by
 have e:=Nat.div_add_mod n P
 rw [<-hd] at e
 rw [hpr,h,Nat.mul_add,Nat.add_mul]
 have e2:10*P*S*10=10*P*(S*10):=by rw [Nat.mul_assoc (10*P)]
 have e3:10*P*d=10*(P*d):=Nat.mul_assoc _ _ _
 rw [e2,e3]
 generalize 10*P*(S*10)=y
 generalize P*d=z at *
 omega
theorem zg0 {D D':Nat->Int} {nd k r t n c d n':Nat} {tr tr':Bool} (h:RSt D nd k r t n D' tr tr') (ht:t<800) (hpz:Pz D nd (r+1)=Pz D nd r*10+c) (hc:c<=9) (hd:d=n/2^k) (hn':n'=(n%2^k)*10+c):
 RSt D nd k (r+1) (t+1) n' (updD D' t (d+48)) tr tr'/\d<=9:=by
 obtain ⟨R,h1,h2,h3,h4,h5,h6,h7⟩:=h
 have hp:0<2^k:=Nat.pow_pos (by omega)
 have hd9:d<=9:=by
  have:n/2^k<10:=Nat.div_lt_of_lt_mul (by rw [Nat.mul_comm];exact h6)
  omega
 have m1:min t 800=t:=Nat.min_eq_left (by omega)
 have m2:min (t+1) 800=t+1:=Nat.min_eq_left (by omega)
 have z1:t-800=0:=Nat.sub_eq_zero_of_le (Nat.le_of_lt ht)
 have z2:t+1-800=0:=Nat.sub_eq_zero_of_le ht
 rw [m1] at h1 h3
 rw [z1,Nat.pow_zero] at h1 h2
 have hR:R=0:=by omega
 subst hR
 refine ⟨⟨0,?_,p10 _,fun i hi=>?_,fun _=>?_,fun h=>by omega,?_,h7⟩,hd9⟩
 ·rw [m2,z2,Nat.pow_zero,Nat.mul_one,Nat.add_zero,zl4,hn',show ((d:Int)+48-48).toNat=d by omega]
  rw [Nat.mul_one,Nat.add_zero] at h1
  exact zm6 h1 hpz hd
 ·rw [m2] at hi
  by_cases e:i=t
  ·subst e;rw [zbQ];omega
  rw [zaP e];exact h3 i (by omega)
 ·by_cases e:t=0
  ·subst e
   rw [zbQ]
   have h8:=h5 rfl
   have:1<=n/2^k:=(Nat.one_le_div_iff hp).2 h8
   omega
  rw [zaP (by omega)];exact h4 e
 rw [hn']
 have:=zmd (P:=2^k) (n:=n) hc
 omega
theorem zfh {D D':Nat->Int} {nd k r t n c d n':Nat} {tr tr' tr'':Bool} (h:RSt D nd k r t n D' tr tr') (ht:800<=t) (hpz:Pz D nd (r+1)=Pz D nd r*10+c) (hc:c<=9) (hd:d=n/2^k) (hn':n'=(n%2^k)*10+c)
 (htr:tr''=(tr'||decide (d≠0))):RSt D nd k (r+1) (t+1) n' D' tr tr''/\d<=9:=by
 obtain ⟨R,h1,h2,h3,h4,h5,h6,h7⟩:=h
 have hp:0<2^k:=Nat.pow_pos (by omega)
 have hd9:d<=9:=by
  have:n/2^k<10:=Nat.div_lt_of_lt_mul (by rw [Nat.mul_comm];exact h6)
  omega
 have m1:min t 800=800:=Nat.min_eq_right (by omega)
 have m2:min (t+1) 800=800:=Nat.min_eq_right (by omega)
 have z2:10^(t+1-800)=10^(t-800)*10:=by rw [show t+1-800=(t-800)+1 by omega,Nat.pow_succ]
 rw [m1] at h1 h3
 refine ⟨⟨R*10+d,?_,by rw [z2];omega,by rw [m2];exact h3,fun _=>h4 (by omega),fun h=>by omega,?_,?_⟩,hd9⟩
 ·rw [m2,z2,hn',<-Nat.mul_assoc,<-Nat.add_assoc,<-Nat.add_mul]
  exact zm6 h1 hpz hd
 ·rw [hn']
  have:=zmd (P:=2^k) (n:=n) hc
  omega
 have key:(decide (R≠0)||decide (d≠0))=decide (R*10+d≠0):=by
  by_cases hR:R=0
  ·simp [hR]
  simp [hR];omega
 rw [htr,h7,Bool.or_assoc,key]
theorem zov {D D':Nat->Int} {nd k r r0 t:Nat} {dp:Int} {tr tr':Bool} (h:RSt D nd k r t 0 D' tr tr') (hr:nd<=r) (hr2:r<=nd+k+1) (hrt:r=r0+t) (hnd:(nd:Int)=(nd:Int)):
 Shf (dv D nd*5^k) (dp-nd-k) tr D' (trimN D' (min t 800)) (zd1 (trimN D' (min t 800)) (dp-((r0:Int)-1))) tr':=by
 obtain ⟨R,h1,h2,h3,h4,h5,h6,h7⟩:=h
 have hp:0<2^k:=Nat.pow_pos (by omega)
 have ht:t≠0:=by intro e;have:=h5 e;omega
 rw [pz_ge hr,Nat.zero_add] at h1
 have hX:dv D nd*5^k=(dv D' (min t 800)*10^(t-800)+R)*10^(k+1-(r-nd)):=by
  refine Nat.eq_of_mul_eq_mul_right (Nat.mul_pos (p10 (r-nd)) hp) ?_
  have e10:2^k*5^k=10^k:=by rw [<-Nat.mul_pow]
  calc dv D nd*5^k*(10^(r-nd)*2^k)=dv D nd*10^(r-nd)*(2^k*5^k):=by
          generalize dv D nd=a;generalize 5^k=b;generalize 10^(r-nd)=c;generalize 2^k=d
          rw [Nat.mul_assoc,Nat.mul_assoc,Nat.mul_left_comm b c,Nat.mul_comm b d]
   _=10*2^k*(dv D' (min t 800)*10^(t-800)+R)*10^k:=by rw [h1,e10]
   _=(dv D' (min t 800)*10^(t-800)+R)*(10^(k+1))*2^k:=by
       rw [Nat.pow_succ]
       generalize dv D' (min t 800)*10^(t-800)+R=a;generalize 10^k=b;generalize 2^k=d
       simp only [Nat.mul_comm,Nat.mul_left_comm]
   _=(dv D' (min t 800)*10^(t-800)+R)*10^(k+1-(r-nd))*(10^(r-nd)*2^k):=by
       rw [show 10^(k+1)=10^(k+1-(r-nd))*10^(r-nd) by rw [<-Nat.pow_add];congr 1;omega]
       simp only [Nat.mul_assoc]
 by_cases h8:t<=800
 ·have z1:t-800=0:=by omega
  rw [z1,Nat.pow_zero] at h2
  have hR:R=0:=by omega
  rw [hR,z1,Nat.pow_zero,Nat.mul_one,Nat.add_zero] at hX
  refine zjP (j:=0) (r:=R) (z:=k+1-(r-nd)) h3 (by omega) (by omega) (h4 ht) ?_ (by rw [hR];exact Nat.one_pos) ?_ (.inl rfl) h7
  ·rw [hX,hR,Nat.pow_zero,Nat.mul_one];exact (Nat.add_zero _).symm
  rw [Nat.min_eq_left h8];omega
 have hm:min t 800=800:=Nat.min_eq_right (by omega)
 refine zjP (j:=t-800+(k+1-(r-nd))) (r:=R*10^(k+1-(r-nd))) (z:=0) h3 (by omega) (by omega) (h4 ht) ?_ ?_ ?_ (.inr hm) ?_
 ·rw [hX,Nat.add_mul,Nat.pow_zero,Nat.mul_one,Nat.mul_assoc,<-Nat.pow_add]
 ·rw [Nat.pow_add];exact Nat.mul_lt_mul_of_pos_right h2 (p10 _)
 ·rw [hm];omega
 rw [h7]
 congr 1
 have hq:=p10 (k+1-(r-nd))
 generalize 10^(k+1-(r-nd))=q at *
 by_cases hR:R=0
 ·simp [hR]
 have:R*q≠0:=Nat.mul_ne_zero hR (by omega)
 simp [hR,this]
theorem zfH {r nd k n:Nat} (hr:nd<=r) (h:2^(min (r-nd) k) ∣ n):2^(min (r+1-nd) k) ∣ (n%2^k)*10+0:=by
 rw [Nat.add_zero]
 by_cases hk:k<=r-nd
 ·rw [Nat.min_eq_right hk] at h
  rw [Nat.mod_eq_zero_of_dvd h,Nat.zero_mul]
  exact Nat.dvd_zero _
 rw [Nat.min_eq_left (by omega)] at h
 rw [Nat.min_eq_left (by omega),show r+1-nd=(r-nd)+1 by omega,Nat.pow_succ]
 refine Nat.mul_dvd_mul ?_ (by decide)
 exact (Nat.dvd_mod_iff (Nat.pow_dvd_pow 2 (by omega))).2 h
theorem zjQ {r nd k n:Nat} (hr:r=nd+k) (h:2^(min (r-nd) k) ∣ n):(n%2^k)*10+0=0:=by
 rw [Nat.min_eq_right (by omega)] at h
 rw [Nat.mod_eq_zero_of_dvd h]
theorem zhJ {n P m:Nat} {x:Int} (hP:P<=1152921504606846976) (hn:n<P) (hx1:48<=x) (hx2:x<=57) (hm:m=n*10+(x-48).toNat):
 IntKind.u64.wrap (IntKind.u64.wrap (IntKind.u64.wrap ((n:Int)*10)+x)-48)=(m:Int):=by
 rw [zaU (x:=(n:Int)*10) (by omega) (by omega),zaU (x:=(n:Int)*10+x) (by omega) (by omega),zaU (by omega) (by omega)]
 omega
theorem zlV {n P m:Nat} (hP:P<=1152921504606846976) (hn:n<P) (hm:m=n*10):IntKind.u64.wrap ((n:Int)*10)=(m:Int):=by
 rw [zaU (x:=(n:Int)*10) (by omega) (by omega)]
 omega
theorem zgM (n k:Nat) {d:Nat} (hd:d=n/2^k):(n:Int)/2^k=(d:Int):=by
 have e2k:((2^k:Nat):Int)=(2:Int)^k:=by simp
 rw [<-e2k,hd]
 exact (Int.natCast_ediv n (2^k)).symm
theorem znu {k mk:Nat} (hP:2^k<=1152921504606846976) (hp:0<2^k) (hm:mk=2^k-1):IntKind.u64.wrap (IntKind.u64.wrap (2^k)-1)=(mk:Int):=by
 have e2k:((2^k:Nat):Int)=(2:Int)^k:=by simp
 rw [<-e2k]
 generalize 2^k=P at *
 rw [zaU (x:=(P:Int)) (by omega) (by omega),zaU (by omega) (by omega)]
 omega
theorem zkK {n k mk a:Nat} (hP:2^k<=1152921504606846976) (hn:n<10*2^k) (hm:mk=2^k-1) (ha:a=n%2^k):bits .and .u64 (n:Int) (mk:Int)=(a:Int):=by
 rw [u64_and_nat n mk (by omega) (by omega),hm,Nat.and_two_pow_sub_one_eq_mod,ha]
theorem zhg {d:Nat} (hd:d<=9):IntKind.u64.wrap ((d:Int)+48)%256=(d:Int)+48:=by
 rw [zaU (by omega) (by omega)];omega
theorem rs_t {n k:Nat} (h:n<2^k):((n:Int)/2^k==0)=true:=by
 rw [zgM n k rfl,Nat.div_eq_of_lt h];rfl
theorem rs_f {n k:Nat} (hp:0<2^k) (h:2^k<=n):((n:Int)/2^k==0)=false:=by
 rw [zgM n k rfl,beq_eq_false_iff_ne]
 have:=(Nat.one_le_div_iff hp).2 h
 omega
theorem zs2 (g nd k:Nat) (D:Nat->Int) (dp:Int) (tr:Bool) (w:World) (h:DecAt w g D nd dp tr) (hN:Norm D nd) (hnd0:nd≠0) (hk1:1<=k) (hk:k<=60) (hdp1: -100000<=dp) (hdp2:dp<=100000) (HV:Hid (2^k<=dv D nd)):
 Calls Tryz.prog 246 #[.pointer (some ⟨g,0,none⟩),.int .u64 k] w fun e w'=>ShR (dv D nd*5^k) (dp-nd-k) tr g w e w':=by
 have H:=hide h
 have HN:=hide hN
 have c0:=h.nd
 have c9:=h.dp
 have f0:=h.fr
 have hle:(nd:Int)<=800:=by have:=hN.le;omega
 have hle':nd<=800:=hN.le
 have Hk2:Hid (2^k<=1152921504606846976):=hide (by
  have:=Nat.pow_le_pow_right (show 0<2 by omega) hk
  exact Nat.le_trans this (by decide))
 have Hkp:Hid (0<2^k):=hide (Nat.pow_pos (by omega))
 have HVp:Hid (0<dv D nd):=hide (Nat.lt_of_lt_of_le (p10 _) (dv_ge hN.ok hnd0 (hN.head hnd0)))
 clear h hN
 have hk61:(k:Int)<=60:=by omega
 go_enter Tryz.func246,Tryz.ntmps246
 go_wp2
 go_loop [4,6] (fun rv nv=>∃ (r n:Nat),r<=nd/\rv=.int .i64 r/\nv=.int .u64 n/\Hid (n=dv D r)/\Hid (n<10*2^k)) (fun rv _=>nd-(intOf rv).toNat)
 case atStart=>exact ⟨0,0,Nat.zero_le _,rfl,rfl,hide rfl,hide (by have:=Hkp.out;omega)⟩
 obtain ⟨r,n,hr,rfl,rfl,Hn,Hnl⟩:=hrel
 by_cases hlt:n<2^k
 ·have hrn:r<nd:=by
   rcases Nat.lt_or_ge r nd with h|h
   ·exact h
   have e:r=nd:=by omega
   have h1:=HV.out
   have h2:=Hn.out
   rw [e] at h2
   omega
  have cR:=H.out.dig r (by omega)
  obtain ⟨hx1,hx2⟩:=HN.out.ok r hrn
  have hr8:(r:Int)<800:=by omega
  have Hlt:=hide hlt
  have ht:=rs_t hlt
  clear hlt
  obtain ⟨m,hm⟩:∃ m,m=n*10+(D r-48).toNat:=⟨_,rfl⟩
  have e1:=zhJ Hk2.out Hlt.out hx1 hx2 hm
  have Hm:Hid (m=dv D (r+1)):=hide (by rw [hm,Hn.out];rfl)
  have Hml:Hid (m<10*2^k):=hide (by have:=Hlt.out;omega)
  clear hm
  go_wp2
  go_round
  case rel=>exact ⟨r+1,m,by omega,by go_num,rfl,Hm,Hml⟩
  case measure=>simp [intOf];omega
 have ht:=rs_f Hkp.out (Nat.le_of_not_lt hlt)
 have Hge:Hid (2^k<=n):=hide (Nat.le_of_not_lt hlt)
 have HP:Hid (Pz D nd r=n):=hide (by rw [pz_le hr];exact Hn.out.symm)
 have hrk:r<=nd+k:=by omega
 have Hdv:Hid (2^(min (r-nd) k) ∣ n):=hide (by rw [show r-nd=0 by omega,Nat.zero_min,Nat.pow_zero];exact Nat.one_dvd _)
 have Hr1:Hid (1<=r):=hide (by
  rcases Nat.eq_zero_or_pos r with e|e
  ·have h1:=Hn.out
   rw [e] at h1
   have h2:=Hge.out
   have h3:=Hkp.out
   simp [dv] at h1
   omega
  exact e)
 clear hlt Hn hr
 have hr1:=Hr1.out
 obtain ⟨mk,hmk⟩:∃ mk:Nat,mk=2^k-1:=⟨_,rfl⟩
 have eM:=znu Hk2.out Hkp.out hmk
 have Hmk:=hide hmk
 clear hmk
 go_wp2
 clear ht
 go_loopw [4,5,6] (fun rv wv nv wr=>∃ (q t m:Nat) (D':Nat->Int),rv=.int .i64 q/\wv=.int .i64 t/\nv=.int .u64 m/\q<=nd+k/\t<=800/\Hid (q=r+t)/\Hid (q<=nd∨t=0)/\Hid (RSt D nd k q t m D' tr tr)/\Hid (2^(min (q-nd) k) ∣ m)/\Hid (∀ i,q<=i->i<nd->D' i=D i)/\
  DecAt wr g D' nd (dp-((r:Int)-1)) tr/\Below g w wr) (fun rv _ _ _=>nd-(intOf rv).toNat)
 case atStart=>exact ⟨r,0,n,D,rfl,rfl,rfl,hrk,Nat.zero_le _,hide rfl,hide (.inr rfl),hide (zh8 HP.out Hge.out Hnl.out),Hdv,hide (fun _ _ _=>rfl),H.out.setDp _,(Below.refl g w).setCell (Nat.le_refl _) _⟩
 clear c0 c9 f0 Hdv HP Hge Hnl
 obtain ⟨q,t,m,D',rfl,rfl,rfl,hq,ht8,Hqt,Hqn,HS,Hdv,He,hd,hbw⟩:=hrel
 have Hd:=hide hd
 have Hbw:=hide hbw
 clear hd hbw
 have c0:=Hd.out.nd
 have f0:=Hd.out.fr
 have Hm10:Hid (m<10*2^k):=hide (by obtain ⟨_,_,_,_,_,_,h,_⟩:=HS.out;exact h)
 by_cases hlt:q<nd
 ·have cR:wr.cell? ⟨g,q,none⟩=some (.int .u8 (D q)):=by rw [Hd.out.dig q (by omega),He.out q (Nat.le_refl _) hlt]
  obtain ⟨hx1,hx2⟩:=HN.out.ok q hlt
  have hq8:(q:Int)<800:=by omega
  have htq:t<q:=by have:=Hqt.out;omega
  have ht7:(t:Int)<800:=by omega
  have cW:=Hd.out.dig t (by omega)
  obtain ⟨d,hd⟩:∃ d,d=m/2^k:=⟨_,rfl⟩
  obtain ⟨a,ha⟩:∃ a,a=m%2^k:=⟨_,rfl⟩
  obtain ⟨x,hx⟩:∃ x,x=a*10+(D q-48).toNat:=⟨_,rfl⟩
  have eD:=zgM m k hd
  have eA:=zkK Hk2.out Hm10.out Hmk.out ha
  have hap:a<2^k:=by rw [ha];exact Nat.mod_lt _ Hkp.out
  have eX:=zhJ Hk2.out hap hx1 hx2 hx
  obtain ⟨S,hd9⟩:=zg0 HS.out (by omega) (pz_lt hlt) (c:=dgt D q) (by unfold dgt;omega) hd (n':=x) (by rw [hx,ha];rfl)
  have eB:=zhg hd9
  have HS':=hide S
  clear S hap hx ha hd
  go_wp2
  go_roundw
  case rel=>
   refine ⟨q+1,t+1,x,updD D' t (d+48),by go_num,by go_num,rfl,by omega,by omega,hide (by have:=Hqt.out;omega),hide (.inl (by omega)),HS',hide ?_,hide (fun i h1 h2=>by rw [zaP (by omega)];exact He.out i (by omega) h2),Hd.out.setDig (by omega) _,Hbw.out.setCell (Nat.le_refl _) _⟩
   rw [show q+1-nd=0 by omega,Nat.zero_min,Nat.pow_zero]
   exact Nat.one_dvd _
  case measure=>simp [intOf];omega
 have hge:nd<=q:=by omega
 go_wp2
 go_loopg [5,6] (nd+k+1-q) (fun gk wv nv wq=>∃ (y t v m:Nat) (D':Nat->Int) (tr':Bool),gk+y=nd+k+1/\nd<=y/\wv=.int .i64 v/\nv=.int .u64 m/\v<=800/\Hid (v=min t 800)/\Hid (y=r+t)/\Hid (2^(min (y-nd) k) ∣ m)/\Hid (gk=0->m=0)/\Hid (RSt D nd k y t m D' tr tr')/\
  DecAt wq g D' nd (dp-((r:Int)-1)) tr'/\Below g w wq)
 case atStart=>exact ⟨q,t,t,m,D',tr,by omega,hge,rfl,rfl,ht8,hide (by omega),Hqt,Hdv,hide (fun h=>by omega),HS,Hd.out,Hbw.out⟩
 clear c0 f0 Hd Hbw HS He Hdv Hm10 Hqn Hqt ht8 hge hlt
 obtain ⟨y,t,v,m,D',tr',hgy,hny,rfl,rfl,hv8,Hv,Hyt,Hdv,Hz,HS,hd,hbw⟩:=hrel
 have Hd:=hide hd
 have Hbw:=hide hbw
 clear hd hbw
 have c0:=Hd.out.nd
 have c8:=Hd.out.tr
 have f0:=Hd.out.fr
 have Hm10:Hid (m<10*2^k):=hide (by obtain ⟨_,_,_,_,_,_,h,_⟩:=HS.out;exact h)
 by_cases hm0:m=0
 ·subst hm0
  go_wp2_with fail
  refine (zcy g v D' (dp-((r:Int)-1)) tr' _ ?_ hv8).mono ?_
  ·exact Hd.out.setNd v
  rintro e w' ⟨rfl,hdec,hbel⟩
  go_wp2
  go_end0
  refine ⟨rfl,D',_,_,tr',hdec,?_,?_⟩
  ·rw [Hv.out]
   exact zov HS.out hny (by omega) Hyt.out rfl
  exact (Hbw.out.setCell (Nat.le_refl _) _).trans hbel
 have hg0:gk≠0:=fun e=>hm0 (Hz.out e)
 have hm1:(0:Int)<(m:Int):=by omega
 obtain ⟨d,hd⟩:∃ d,d=m/2^k:=⟨_,rfl⟩
 obtain ⟨a,ha⟩:∃ a,a=m%2^k:=⟨_,rfl⟩
 obtain ⟨x,hx⟩:∃ x,x=a*10:=⟨_,rfl⟩
 have eD:=zgM m k hd
 have eA:=zkK Hk2.out Hm10.out Hmk.out ha
 have hap:a<2^k:=by rw [ha];exact Nat.mod_lt _ Hkp.out
 have eX:=zlV Hk2.out hap hx
 have Hdv':Hid (2^(min (y+1-nd) k) ∣ x):=hide (by rw [hx,ha];exact zfH hny Hdv.out)
 have Hz':Hid (gk-1=0->x=0):=hide (fun e=>by rw [hx,ha];exact zjQ (by omega) Hdv.out)
 by_cases hv:v<800
 ·have htv:t=v:=by have:=Hv.out;omega
  subst htv
  have cW:=Hd.out.dig t hv
  have hv':(t:Int)<800:=by omega
  obtain ⟨S,hd9⟩:=zg0 HS.out hv (ze2 hny) (by omega) hd (n':=x) (by rw [hx,ha];rfl)
  have eB:=zhg hd9
  have HS':=hide S
  clear S hap hx ha hd hm0
  go_wp2
  go_roundg (gk-1)
  case rel=>
   exact ⟨y+1,t+1,t+1,x,updD D' t (d+48),tr',by omega,by omega,by go_num,rfl,by omega,hide (by omega),hide (by have:=Hyt.out;omega),Hdv',Hz',HS',Hd.out.setDig hv _,Hbw.out.setCell (Nat.le_refl _) _⟩
  case measure=>omega
 have ht8:800<=t:=by have:=Hv.out;omega
 have hv8':v=800:=by omega
 subst hv8'
 by_cases hd0:d=0
 ·obtain ⟨S,hd9⟩:=zfh (tr'':=tr') HS.out ht8 (ze2 hny) (by omega) hd (n':=x) (by rw [hx,ha];rfl) (by simp [hd0])
  have HS':=hide S
  clear S hap hx ha hd hm0
  subst hd0
  go_wp2
  go_roundg (gk-1)
  case rel=>
   exact ⟨y+1,t+1,800,x,D',tr',by omega,by omega,rfl,rfl,by omega,hide (by omega),hide (by have:=Hyt.out;omega),Hdv',Hz',HS',Hd.out,Hbw.out⟩
  case measure=>omega
 obtain ⟨S,hd9⟩:=zfh (tr'':=true) HS.out ht8 (ze2 hny) (by omega) hd (n':=x) (by rw [hx,ha];rfl) (by simp [hd0])
 have HS':=hide S
 have hdp:(0:Int)<(d:Int):=by omega
 clear S hap hx ha hd hm0 hd0
 go_wp2
 go_roundg (gk-1)
 case rel=>
  exact ⟨y+1,t+1,800,x,D',true,by omega,by omega,rfl,rfl,by omega,hide (by omega),hide (by have:=Hyt.out;omega),Hdv',Hz',HS',Hd.out.setTr true,Hbw.out.setCell (Nat.le_refl _) _⟩
 case measure=>omega
theorem zsV (g nd k:Nat) (D:Nat->Int) (dp:Int) (tr:Bool) (w:World) (h:DecAt w g D nd dp tr) (hN:Norm D nd) (hnd0:nd≠0) (hk1:1<=k) (hk:k<=60) (hdp1: -100000<=dp) (hdp2:dp<=100000) (HV:Hid (dv D nd<2^k)):
 Calls Tryz.prog 246 #[.pointer (some ⟨g,0,none⟩),.int .u64 k] w fun e w'=>ShR (dv D nd*5^k) (dp-nd-k) tr g w e w':=by
 have H:=hide h
 have HN:=hide hN
 have c0:=h.nd
 have c9:=h.dp
 have f0:=h.fr
 have hle:(nd:Int)<=800:=by have:=hN.le;omega
 have hle':nd<=800:=hN.le
 have Hk2:Hid (2^k<=1152921504606846976):=hide (by
  have:=Nat.pow_le_pow_right (show 0<2 by omega) hk
  exact Nat.le_trans this (by decide))
 have Hkp:Hid (0<2^k):=hide (Nat.pow_pos (by omega))
 have HVp:Hid (0<dv D nd):=hide (Nat.lt_of_lt_of_le (p10 _) (dv_ge hN.ok hnd0 (hN.head hnd0)))
 clear h hN
 have hk61:(k:Int)<=60:=by omega
 go_enter Tryz.func246,Tryz.ntmps246
 go_wp2
 go_loop [4,6] (fun rv nv=>∃ (r n:Nat),r<=nd/\rv=.int .i64 r/\nv=.int .u64 n/\Hid (n=dv D r)/\Hid (n<2^k)) (fun rv _=>nd-(intOf rv).toNat)
 case atStart=>exact ⟨0,0,Nat.zero_le _,rfl,rfl,hide rfl,Hkp⟩
 obtain ⟨r,n,hr,rfl,rfl,Hn,Hlt⟩:=hrel
 have ht:=rs_t Hlt.out
 by_cases hrn:r<nd
 ·have cR:=H.out.dig r (by omega)
  obtain ⟨hx1,hx2⟩:=HN.out.ok r hrn
  have hr8:(r:Int)<800:=by omega
  obtain ⟨m,hm⟩:∃ m,m=n*10+(D r-48).toNat:=⟨_,rfl⟩
  have e1:=zhJ Hk2.out Hlt.out hx1 hx2 hm
  have hme:m=dv D (r+1):=by rw [hm,Hn.out];rfl
  have Hml:Hid (m<2^k):=hide (by
   have h1:=HV.out
   have h2:=dv_sg (D:=D) (nd-(r+1)) (r+1)
   rw [show r+1+(nd-(r+1))=nd by omega,<-hme] at h2
   have h3:m*1<=m*10^(nd-(r+1)):=Nat.mul_le_mul_left _ (p10 _)
   omega)
  have Hm:=hide hme
  clear hm hme
  go_wp2
  go_round
  case rel=>exact ⟨r+1,m,by omega,by go_num,rfl,Hm,Hml⟩
  case measure=>simp [intOf];omega
 have hre:nd=r:=by omega
 subst hre
 have hn0:((n:Int)==0)=false:=by
  rw [beq_eq_false_iff_ne]
  have h1:=Hn.out
  have h2:=HVp.out
  omega
 go_wp2
 go_loop [4,6] (fun rv nv=>∃ (r m:Nat),nd<=r/\r<=nd+k/\rv=.int .i64 r/\nv=.int .u64 m/\Hid (Pz D nd r=m)/\Hid (m<10*2^k)/\Hid (2^(min (r-nd) k) ∣ m)/\Hid (0<m)) (fun rv _=>nd+k+1-(intOf rv).toNat)
 case atStart=>exact ⟨nd,n,Nat.le_refl _,by omega,rfl,rfl,hide (by rw [pz_le (Nat.le_refl _)];exact Hn.out.symm),hide (by have:=Hlt.out;omega),hide (by rw [Nat.sub_self,Nat.zero_min,Nat.pow_zero];exact Nat.one_dvd _),hide (by have h1:=Hn.out;have h2:=HVp.out;omega)⟩
 clear ht Hn Hlt hn0 hrn hr
 obtain ⟨r,n,hq1,hq2,rfl,rfl,HP,Hnl,Hdv,Hn0⟩:=hrel
 by_cases hlt:n<2^k
 ·have ht:=rs_t hlt
  have hqk:r<nd+k:=by
   rcases Nat.lt_or_ge r (nd+k) with h|h
   ·exact h
   exfalso
   have h1:=Hdv.out
   rw [Nat.min_eq_right (by omega)] at h1
   have h2:=Nat.le_of_dvd Hn0.out h1
   omega
  obtain ⟨m,hm⟩:∃ m,m=n*10:=⟨_,rfl⟩
  have e1:=zlV Hk2.out hlt hm
  have HP':Hid (Pz D nd (r+1)=m):=hide (by rw [ze2 hq1,HP.out,hm];rfl)
  have Hm1:Hid (m<10*2^k/\0<m):=hide (by have:=Hn0.out;omega)
  have Hdv':Hid (2^(min (r+1-nd) k) ∣ m):=hide (by
   have h1:=zfH hq1 Hdv.out
   rw [Nat.mod_eq_of_lt hlt,Nat.add_zero,<-hm] at h1
   exact h1)
  clear hm hlt
  go_wp2
  go_round
  case rel=>exact ⟨r+1,m,by omega,by omega,by go_num,rfl,HP',hide Hm1.out.1,Hdv',hide Hm1.out.2⟩
  case measure=>simp [intOf];omega
 have ht:=rs_f Hkp.out (Nat.le_of_not_lt hlt)
 have Hge:Hid (2^k<=n):=hide (Nat.le_of_not_lt hlt)
 have Hr1:Hid (1<=r):=hide (by omega)
 clear hlt
 have hrk:r<=nd+k:=hq2
 have hr1:=Hr1.out
 obtain ⟨mk,hmk⟩:∃ mk:Nat,mk=2^k-1:=⟨_,rfl⟩
 have eM:=znu Hk2.out Hkp.out hmk
 have Hmk:=hide hmk
 clear hmk
 go_wp2
 clear ht
 go_loopw [4,5,6] (fun rv wv nv wr=>∃ (q t m:Nat) (D':Nat->Int),rv=.int .i64 q/\wv=.int .i64 t/\nv=.int .u64 m/\q<=nd+k/\t<=800/\Hid (q=r+t)/\Hid (q<=nd∨t=0)/\Hid (RSt D nd k q t m D' tr tr)/\Hid (2^(min (q-nd) k) ∣ m)/\Hid (∀ i,q<=i->i<nd->D' i=D i)/\
  DecAt wr g D' nd (dp-((r:Int)-1)) tr/\Below g w wr) (fun rv _ _ _=>nd-(intOf rv).toNat)
 case atStart=>exact ⟨r,0,n,D,rfl,rfl,rfl,hrk,Nat.zero_le _,hide rfl,hide (.inr rfl),hide (zh8 HP.out Hge.out Hnl.out),Hdv,hide (fun _ _ _=>rfl),H.out.setDp _,(Below.refl g w).setCell (Nat.le_refl _) _⟩
 clear c0 c9 f0 Hdv HP Hge Hnl
 obtain ⟨q,t,m,D',rfl,rfl,rfl,hq,ht8,Hqt,Hqn,HS,Hdv,He,hd,hbw⟩:=hrel
 have Hd:=hide hd
 have Hbw:=hide hbw
 clear hd hbw
 have c0:=Hd.out.nd
 have f0:=Hd.out.fr
 have Hm10:Hid (m<10*2^k):=hide (by obtain ⟨_,_,_,_,_,_,h,_⟩:=HS.out;exact h)
 by_cases hlt:q<nd
 ·have cR:wr.cell? ⟨g,q,none⟩=some (.int .u8 (D q)):=by rw [Hd.out.dig q (by omega),He.out q (Nat.le_refl _) hlt]
  obtain ⟨hx1,hx2⟩:=HN.out.ok q hlt
  have hq8:(q:Int)<800:=by omega
  have htq:t<q:=by have:=Hqt.out;omega
  have ht7:(t:Int)<800:=by omega
  have cW:=Hd.out.dig t (by omega)
  obtain ⟨d,hd⟩:∃ d,d=m/2^k:=⟨_,rfl⟩
  obtain ⟨a,ha⟩:∃ a,a=m%2^k:=⟨_,rfl⟩
  obtain ⟨x,hx⟩:∃ x,x=a*10+(D q-48).toNat:=⟨_,rfl⟩
  have eD:=zgM m k hd
  have eA:=zkK Hk2.out Hm10.out Hmk.out ha
  have hap:a<2^k:=by rw [ha];exact Nat.mod_lt _ Hkp.out
  have eX:=zhJ Hk2.out hap hx1 hx2 hx
  obtain ⟨S,hd9⟩:=zg0 HS.out (by omega) (pz_lt hlt) (c:=dgt D q) (by unfold dgt;omega) hd (n':=x) (by rw [hx,ha];rfl)
  have eB:=zhg hd9
  have HS':=hide S
  clear S hap hx ha hd
  go_wp2
  go_roundw
  case rel=>
   refine ⟨q+1,t+1,x,updD D' t (d+48),by go_num,by go_num,rfl,by omega,by omega,hide (by have:=Hqt.out;omega),hide (.inl (by omega)),HS',hide ?_,hide (fun i h1 h2=>by rw [zaP (by omega)];exact He.out i (by omega) h2),Hd.out.setDig (by omega) _,Hbw.out.setCell (Nat.le_refl _) _⟩
   rw [show q+1-nd=0 by omega,Nat.zero_min,Nat.pow_zero]
   exact Nat.one_dvd _
  case measure=>simp [intOf];omega
 have hge:nd<=q:=by omega
 go_wp2
 go_loopg [5,6] (nd+k+1-q) (fun gk wv nv wq=>∃ (y t v m:Nat) (D':Nat->Int) (tr':Bool),gk+y=nd+k+1/\nd<=y/\wv=.int .i64 v/\nv=.int .u64 m/\v<=800/\Hid (v=min t 800)/\Hid (y=r+t)/\Hid (2^(min (y-nd) k) ∣ m)/\Hid (gk=0->m=0)/\Hid (RSt D nd k y t m D' tr tr')/\
  DecAt wq g D' nd (dp-((r:Int)-1)) tr'/\Below g w wq)
 case atStart=>exact ⟨q,t,t,m,D',tr,by omega,hge,rfl,rfl,ht8,hide (by omega),Hqt,Hdv,hide (fun h=>by omega),HS,Hd.out,Hbw.out⟩
 clear c0 f0 Hd Hbw HS He Hdv Hm10 Hqn Hqt ht8 hge hlt
 obtain ⟨y,t,v,m,D',tr',hgy,hny,rfl,rfl,hv8,Hv,Hyt,Hdv,Hz,HS,hd,hbw⟩:=hrel
 have Hd:=hide hd
 have Hbw:=hide hbw
 clear hd hbw
 have c0:=Hd.out.nd
 have c8:=Hd.out.tr
 have f0:=Hd.out.fr
 have Hm10:Hid (m<10*2^k):=hide (by obtain ⟨_,_,_,_,_,_,h,_⟩:=HS.out;exact h)
 by_cases hm0:m=0
 ·subst hm0
  go_wp2_with fail
  refine (zcy g v D' (dp-((r:Int)-1)) tr' _ ?_ hv8).mono ?_
  ·exact Hd.out.setNd v
  rintro e w' ⟨rfl,hdec,hbel⟩
  go_wp2
  go_end0
  refine ⟨rfl,D',_,_,tr',hdec,?_,?_⟩
  ·rw [Hv.out]
   exact zov HS.out hny (by omega) Hyt.out rfl
  exact (Hbw.out.setCell (Nat.le_refl _) _).trans hbel
 have hg0:gk≠0:=fun e=>hm0 (Hz.out e)
 have hm1:(0:Int)<(m:Int):=by omega
 obtain ⟨d,hd⟩:∃ d,d=m/2^k:=⟨_,rfl⟩
 obtain ⟨a,ha⟩:∃ a,a=m%2^k:=⟨_,rfl⟩
 obtain ⟨x,hx⟩:∃ x,x=a*10:=⟨_,rfl⟩
 have eD:=zgM m k hd
 have eA:=zkK Hk2.out Hm10.out Hmk.out ha
 have hap:a<2^k:=by rw [ha];exact Nat.mod_lt _ Hkp.out
 have eX:=zlV Hk2.out hap hx
 have Hdv':Hid (2^(min (y+1-nd) k) ∣ x):=hide (by rw [hx,ha];exact zfH hny Hdv.out)
 have Hz':Hid (gk-1=0->x=0):=hide (fun e=>by rw [hx,ha];exact zjQ (by omega) Hdv.out)
 by_cases hv:v<800
 ·have htv:t=v:=by have:=Hv.out;omega
  subst htv
  have cW:=Hd.out.dig t hv
  have hv':(t:Int)<800:=by omega
  obtain ⟨S,hd9⟩:=zg0 HS.out hv (ze2 hny) (by omega) hd (n':=x) (by rw [hx,ha];rfl)
  have eB:=zhg hd9
  have HS':=hide S
  clear S hap hx ha hd hm0
  go_wp2
  go_roundg (gk-1)
  case rel=>
   exact ⟨y+1,t+1,t+1,x,updD D' t (d+48),tr',by omega,by omega,by go_num,rfl,by omega,hide (by omega),hide (by have:=Hyt.out;omega),Hdv',Hz',HS',Hd.out.setDig hv _,Hbw.out.setCell (Nat.le_refl _) _⟩
  case measure=>omega
 have ht8:800<=t:=by have:=Hv.out;omega
 have hv8':v=800:=by omega
 subst hv8'
 by_cases hd0:d=0
 ·obtain ⟨S,hd9⟩:=zfh (tr'':=tr') HS.out ht8 (ze2 hny) (by omega) hd (n':=x) (by rw [hx,ha];rfl) (by simp [hd0])
  have HS':=hide S
  clear S hap hx ha hd hm0
  subst hd0
  go_wp2
  go_roundg (gk-1)
  case rel=>
   exact ⟨y+1,t+1,800,x,D',tr',by omega,by omega,rfl,rfl,by omega,hide (by omega),hide (by have:=Hyt.out;omega),Hdv',Hz',HS',Hd.out,Hbw.out⟩
  case measure=>omega
 obtain ⟨S,hd9⟩:=zfh (tr'':=true) HS.out ht8 (ze2 hny) (by omega) hd (n':=x) (by rw [hx,ha];rfl) (by simp [hd0])
 have HS':=hide S
 have hdp:(0:Int)<(d:Int):=by omega
 clear S hap hx ha hd hm0 hd0
 go_wp2
 go_roundg (gk-1)
 case rel=>
  exact ⟨y+1,t+1,800,x,D',true,by omega,by omega,rfl,rfl,by omega,hide (by omega),hide (by have:=Hyt.out;omega),Hdv',Hz',HS',Hd.out.setTr true,Hbw.out.setCell (Nat.le_refl _) _⟩
 case measure=>omega
end Go.Proofs.YtamdnnkdnhkghaaGreatDoor
namespace Go.Proofs.YtamdnnkdnhkghaaGreatDoor
structure RepV (A B K Q v:Nat) (tr:Bool):Prop where
 le:v*B<=A*10^K
 eq:tr=false->v*B=A*10^K
 lt:tr=true->v*B<A*10^K
 fl:∀ p,p*B<=A*10^Q->p*10^(K-Q)<=v
theorem RepV.of_eq {A B K Q v:Nat} (hB:0<B) (hQ:Q<=K) (h:v*B=A*10^K):RepV A B K Q v false:=by
 refine ⟨Nat.le_of_eq h,fun _=>h,fun h=>(by cases h),fun p hp=>?_⟩
 refine Nat.le_of_mul_le_mul_right ?_ hB
 calc p*10^(K-Q)*B=p*B*10^(K-Q):=Nat.mul_right_comm _ _ _
  _<=A*10^Q*10^(K-Q):=Nat.mul_le_mul_right _ hp
  _=v*B:=by rw [Nat.mul_assoc,<-Nat.pow_add,h];congr 2;omega
theorem RepV.exact {A B K Q v:Nat} {tr:Bool} (h:RepV A B K Q v tr) (hQ:Q<=K) (hd:B ∣ A*10^Q):tr=false:=by
 cases tr with
 |false=>rfl
 |true=>
  exfalso
  have h1:=h.lt rfl
  obtain ⟨p,hp⟩:=hd
  have h2:=h.fl p (by rw [hp,Nat.mul_comm];exact Nat.le_refl _)
  have h3:=Nat.mul_le_mul_right B h2
  have e:p*10^(K-Q)*B=A*10^K:=by
   rw [Nat.mul_right_comm,Nat.mul_comm p B,<-hp,Nat.mul_assoc,<-Nat.pow_add];congr 2;omega
  omega
theorem RepV.left {A B K Q Q' v k:Nat} {tr:Bool} (h:RepV A B K Q v tr) (hQ:Q<=K) (hQ':Q'+k<=Q):RepV (A*2^k) B K Q' (v*2^k) tr:=by
 have p2:0<2^k:=Nat.pow_pos (by omega)
 have e:v*2^k*B=v*B*2^k:=Nat.mul_right_comm _ _ _
 have e2:A*2^k*10^K=A*10^K*2^k:=Nat.mul_right_comm _ _ _
 refine ⟨?_,fun ht=>?_,fun ht=>?_,fun p hp=>?_⟩
 ·rw [e,e2];exact Nat.mul_le_mul_right _ h.le
 ·rw [e,e2,h.eq ht]
 ·rw [e,e2];exact Nat.mul_lt_mul_of_pos_right (h.lt ht) p2
 have e10:(10:Nat)^k=2^k*5^k:=by rw [<-Nat.mul_pow]
 have h1:=h.fl (p*(5^k*10^(Q-Q'-k))) (by
  calc p*(5^k*10^(Q-Q'-k))*B=p*B*(5^k*10^(Q-Q'-k)):=Nat.mul_right_comm _ _ _
   _<=A*2^k*10^Q'*(5^k*10^(Q-Q'-k)):=Nat.mul_le_mul_right _ hp
   _=A*((2^k*5^k)*(10^Q'*10^(Q-Q'-k))):=by simp only [Nat.mul_left_comm,Nat.mul_assoc]
   _=A*10^Q:=by rw [<-e10,<-Nat.pow_add,<-Nat.pow_add];congr 2;omega)
 have h2:=Nat.mul_le_mul_right (2^k) h1
 have e3:p*(5^k*10^(Q-Q'-k))*10^(K-Q)*2^k=p*10^(K-Q'):=by
  calc p*(5^k*10^(Q-Q'-k))*10^(K-Q)*2^k=p*((2^k*5^k)*(10^(Q-Q'-k)*10^(K-Q))):=by simp only [Nat.mul_comm,Nat.mul_left_comm,Nat.mul_assoc]
   _=p*10^(K-Q'):=by rw [<-e10,<-Nat.pow_add,<-Nat.pow_add];congr 2;omega
 rw [e3] at h2
 exact h2
theorem RepV.right {A B K Q v v' k:Nat} {tr:Bool} (h:RepV A B K Q v tr) (hv:v'*2^k=v):RepV A (B*2^k) K Q v' tr:=by
 have p2:0<2^k:=Nat.pow_pos (by omega)
 have e:v'*(B*2^k)=v*B:=by rw [<-hv,Nat.mul_right_comm,Nat.mul_assoc]
 refine ⟨?_,fun ht=>?_,fun ht=>?_,fun p hp=>?_⟩
 ·rw [e];exact h.le
 ·rw [e];exact h.eq ht
 ·rw [e];exact h.lt ht
 have h1:=h.fl (p*2^k) (by rw [Nat.mul_assoc,Nat.mul_comm (2^k)];exact hp)
 refine Nat.le_of_mul_le_mul_right ?_ p2
 rw [hv,Nat.mul_right_comm];exact h1
theorem RepV.cut {A B K Q x m u r a:Nat} {tr tr':Bool} (hB:0<B) (h:RepV A B K Q x tr) (hx:x=m*u+r) (hr:r<u) (hu:r=0∨10^(K-Q)=a*u) (ht:tr'=(tr||decide (r≠0))):RepV A B K Q (m*u) tr':=by
 have hle:m*u*B<=x*B:=Nat.mul_le_mul_right _ (by omega)
 refine ⟨Nat.le_trans hle h.le,fun e=>?_,fun e=>?_,fun p hp=>?_⟩
 ·rw [e] at ht
  have h0:tr=false/\r=0:=by
   cases tr
   ·simp at ht;exact ⟨rfl,ht⟩
   simp at ht
  have:=h.eq h0.1
  rw [hx,h0.2,Nat.add_zero] at this
  exact this
 ·rw [e] at ht
  by_cases h0:tr=true
  ·exact Nat.lt_of_le_of_lt hle (h.lt h0)
  have hr0:0<r:=by
   cases tr
   ·simp at ht;omega
   exact absurd rfl h0
  refine Nat.lt_of_lt_of_le ?_ h.le
  rw [hx,Nat.add_mul]
  have:=Nat.mul_pos hr0 hB
  omega
 have h1:=h.fl p hp
 rcases hu with hu|hu
 ·omega
 rw [hu,<-Nat.mul_assoc] at h1 ⊢
 rw [hx] at h1
 have h2:p*a*u<(m+1)*u:=by rw [Nat.add_mul,Nat.one_mul];omega
 have h3:p*a<m+1:=Nat.lt_of_mul_lt_mul_right h2
 exact Nat.mul_le_mul_right _ (by omega)
theorem RepV.rq {A B K Q v : Nat} {tr : Bool} (hB : 0 < B) (h : RepV A B K Q v tr) (hQ1 : 1 ≤ Q) (hQ : Q ≤ K) :
    rq A B = v / 10 ^ K + (if 10 ^ K < 2 * (v % 10 ^ K) ∨ (2 * (v % 10 ^ K) = 10 ^ K ∧ (tr = true ∨ v / 10 ^ K % 2 = 1)) then 1 else 0) := by
  have hu := p10 K
  -- the whole part
  have fl2 : ∀ p, p * B ≤ A * 2 → p * 10 ^ K ≤ v * 2 := by
    intro p hp
    have h1 := h.fl (p * (5 * 10 ^ (Q - 1))) (by
      calc p * (5 * 10 ^ (Q - 1)) * B = p * B * (5 * 10 ^ (Q - 1)) := Nat.mul_right_comm _ _ _
        _ ≤ A * 2 * (5 * 10 ^ (Q - 1)) := Nat.mul_le_mul_right _ hp
        _ = A * (10 ^ (Q - 1) * 10) := by rw [Nat.mul_assoc]; congr 1; omega
        _ = A * 10 ^ Q := by rw [← Nat.pow_succ]; congr 2; omega)
    have h2 := Nat.mul_le_mul_right 2 h1
    have e : p * (5 * 10 ^ (Q - 1)) * 10 ^ (K - Q) * 2 = p * 10 ^ K := by
      calc p * (5 * 10 ^ (Q - 1)) * 10 ^ (K - Q) * 2 = p * (10 * 10 ^ (Q - 1) * 10 ^ (K - Q)) := by
            rw [Nat.mul_assoc p, Nat.mul_assoc p]; congr 1
            generalize 10 ^ (Q - 1) = a
            generalize 10 ^ (K - Q) = b
            rw [Nat.mul_comm _ 2, ← Nat.mul_assoc, ← Nat.mul_assoc]
        _ = p * 10 ^ K := by rw [Nat.mul_comm 10, ← Nat.pow_succ, ← Nat.pow_add]; congr 2; omega
    rw [e] at h2
    exact h2
  have hq := Nat.div_add_mod A B
  have hr := Nat.mod_lt A hB
  have hqv := Nat.div_add_mod v (10 ^ K)
  have hrv := Nat.mod_lt v hu
  have hle := h.le
  have hlt := h.lt
  have heq0 := h.eq
  have e1 : A / B = v / 10 ^ K := by
    apply Nat.le_antisymm
    · have a1 := fl2 (A / B * 2) (by rw [Nat.mul_right_comm]; exact Nat.mul_le_mul_right _ (Nat.div_mul_le_self A B))
      rw [Nat.mul_right_comm] at a1
      exact (Nat.le_div_iff_mul_le hu).2 (Nat.le_of_mul_le_mul_right a1 (by omega))
    · refine (Nat.le_div_iff_mul_le hB).2 ?_
      refine Nat.le_of_mul_le_mul_right ?_ hu
      calc v / 10 ^ K * B * 10 ^ K = v / 10 ^ K * 10 ^ K * B := Nat.mul_right_comm _ _ _
        _ ≤ v * B := Nat.mul_le_mul_right _ (Nat.div_mul_le_self _ _)
        _ ≤ A * 10 ^ K := hle
  unfold YtamdnnkdnhkghaaGreatDoor.rq
  rw [← e1]
  congr 1
  -- the rest against a half
  generalize hqd : A / B = q at *
  rw [e1] at hq
  rw [← e1] at hqv hq
  generalize hR : A % B = R at *
  generalize hS : v % 10 ^ K = S at *
  generalize hU : 10 ^ K = U at *
  -- A = B q + R, v = U q + S
  have hle' : S * B ≤ R * U := by
    have a : v * B = U * q * B + S * B := by rw [← hqv, Nat.add_mul]
    have b : A * U = B * q * U + R * U := by rw [← hq, Nat.add_mul]
    have c : U * q * B = B * q * U := by rw [Nat.mul_comm U, Nat.mul_comm B, Nat.mul_right_comm]
    omega
  have hfl : B ≤ 2 * R → U ≤ 2 * S := by
    intro hh
    have a := fl2 (2 * q + 1) (by rw [← hq, Nat.add_mul, Nat.add_mul, Nat.mul_comm B q, Nat.mul_assoc 2]; omega)
    rw [← hqv, Nat.add_mul, Nat.add_mul, Nat.mul_comm U q, Nat.mul_assoc 2] at a
    omega
  have hst : tr = true → S * B < R * U := by
    intro ht
    have a : v * B = U * q * B + S * B := by rw [← hqv, Nat.add_mul]
    have b : A * U = B * q * U + R * U := by rw [← hq, Nat.add_mul]
    have c : U * q * B = B * q * U := by rw [Nat.mul_comm U, Nat.mul_comm B, Nat.mul_right_comm]
    have := hlt ht
    omega
  have heq : tr = false → S * B = R * U := by
    intro ht
    have a : v * B = U * q * B + S * B := by rw [← hqv, Nat.add_mul]
    have b : A * U = B * q * U + R * U := by rw [← hq, Nat.add_mul]
    have c : U * q * B = B * q * U := by rw [Nat.mul_comm U, Nat.mul_comm B, Nat.mul_right_comm]
    have := heq0 ht
    omega
  -- from S U-sides to R B-sides
  have k1 : U < 2 * S → B < 2 * R := by
    intro hh
    have a : B * U < B * (2 * S) := Nat.mul_lt_mul_of_pos_left hh hB
    have b : B * (2 * S) = 2 * (S * B) := by rw [Nat.mul_comm B, Nat.mul_assoc]
    have c : 2 * R * U = 2 * (R * U) := Nat.mul_assoc _ _ _
    exact Nat.lt_of_mul_lt_mul_right (a := U) (by omega)
  have k2 : 2 * S = U → tr = true → B < 2 * R := by
    intro hh ht
    have := hst ht
    have b : B * U = 2 * (S * B) := by rw [← hh, Nat.mul_comm B, Nat.mul_assoc]
    have c : 2 * R * U = 2 * (R * U) := Nat.mul_assoc _ _ _
    exact Nat.lt_of_mul_lt_mul_right (a := U) (by omega)
  have k3 : 2 * S = U → tr = false → 2 * R = B := by
    intro hh ht
    have := heq ht
    have b : B * U = 2 * (S * B) := by rw [← hh, Nat.mul_comm B, Nat.mul_assoc]
    have c : 2 * R * U = 2 * (R * U) := Nat.mul_assoc _ _ _
    exact Nat.eq_of_mul_eq_mul_right hu (by omega)
  have k4 : 2 * S < U → 2 * R < B := by
    intro hh
    rcases Nat.lt_or_ge (2 * R) B with g | g
    · exact g
    · have := hfl g; omega
  have key : (B < 2 * R ∨ 2 * R = B ∧ q % 2 = 1) ↔ (U < 2 * S ∨ 2 * S = U ∧ (tr = true ∨ q % 2 = 1)) := by
    rcases Nat.lt_trichotomy (2 * S) U with c | c | c
    · have := k4 c; omega
    · cases htr : tr with
      | true => have := k2 c htr; simp; omega
      | false => have := k3 c htr; simp; omega
    · have := k1 c; omega
  simp only [key]
end Go.Proofs.YtamdnnkdnhkghaaGreatDoor
