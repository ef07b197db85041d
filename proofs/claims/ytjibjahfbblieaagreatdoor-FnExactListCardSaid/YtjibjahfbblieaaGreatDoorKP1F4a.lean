import Derived.Test.YtjibjahfbblieaaGreatDoorKP1G1
namespace Go.Proofs.YtjibjahfbblieaaGreatDoor.F
open Go Go.RowKit
set_option linter.unusedVariables false
set_option maxHeartbeats 3200000 in
set_option maxRecDepth 100000 in
theorem Na (g G o nd k M delta:Nat) (D:Nat->Int) (dp:Int) (tr:Bool) (s:ByteArray) (w:World) (h:DecAt w g D nd dp tr) (c12:w.cell? ⟨15,0,none⟩=some (.slice (some ⟨G,o,none⟩) 61 61))
 (c13:w.cell? ⟨G,o+k*2,none⟩=some (.int .i64 ((delta:Int)+1))) (c14:w.cell? ⟨G,o+k*2+1,none⟩=some (.string s)) (hN:Norm D nd) (hnd0:nd≠0) (hk1:1<=k) (hk:k<=60) (hdp1: -100000<=dp) (hdp2:dp<=100000)
 (hs:s.size<=100) (hC:dh (sb s) s.size) (hl:sb s (s.size-1)≠48) (hd2:delta<=60) (hb:yI D nd s=true) (HM:Hid (M=nd+delta)) (hM1:10^(M-1)<=dv D nd*2^k) (hM2:dv D nd*2^k<10^M):
 Calls Tryz.prog 238 #[.pointer (some ⟨g,0,none⟩),.int .u64 k] w fun e w'=>ShR (dv D nd*2^k) (dp-nd) tr g w e w':=by
 have P:=fun (m:Nat)=>tJ D nd g s (w.drewN m) hN.le hs hN.ok hC hl h.dig
 simp only [hb] at P
 have HP:=hide P
 have H:=hide h
 have HN:=hide hN
 have HM1:=hide hM1
 have HM2:=hide hM2
 have c0:=h.nd
 have c9:=h.dp
 have f0:=h.fr
 have hle:(nd:Int)<=800:=by have:=hN.le;omega
 have hle':nd<=800:=hN.le
 have Hk2:Hid (2^k<=1152921504606846976):=hide (by
  have:=Nat.pow_le_pow_right (show 0<2 by omega) hk
  exact Nat.le_trans this (by decide))
 have Hkp:Hid (0<2^k):=hide (Nat.pow_pos (by omega))
 clear h hN hM1 hM2 hb P hC hl
 have hk61:(k:Int)<61:=by omega
 have hk62:k<61:=by omega
 go_enter Tryz.func238,Tryz.ntmps238
 go_wp2
 go_quiet ((go_at_call 257;exact Calls.quiet_of (HP.out _)))
 go_wp2
 clear HP c12 c13 c14
 go_loopw [5,6,7] (fun rv wv nv wr=>∃ (r n:Nat) (D':Nat->Int) (tr':Bool),r<=nd/\rv=.int .i64 ((r:Int)-1)/\wv=.int .i64 ((r:Int)+delta)/\nv=.int .u64 n/\Hid (n<2^k)/\Hid (∀ i,i<r->D' i=D i)/\Hid (DJ (dv D nd*2^k) M (dv D r*2^k+n) (nd-r) D' tr tr')/\
  DecAt wr g D' nd dp tr'/\Below g w wr) (fun rv _ _ _=>((intOf rv)+1).toNat)
 case atStart=>exact ⟨nd,0,D,tr,Nat.le_refl _,rfl,rfl,rfl,Hkp,hide (fun _ _=>rfl),hide (by rw [Nat.sub_self];exact tV _ _ _ _),H.out.drewN _,below_drewN (Below.refl _ _) _⟩
 case round=>
  obtain ⟨r,n,D',tr',hr,rfl,rfl,rfl,Hn,He,HS,hd,hbw⟩:=hrel
  have Hd:=hide hd
  have Hbw:=hide hbw
  clear c0 c9 f0 hd hbw H
  have c0:=Hd.out.nd
  have c9:=Hd.out.dp
  have c8:=Hd.out.tr
  have f0:=Hd.out.fr
  by_cases hr0:r=0
  ·subst hr0
   go_wp2
   go_loopw [6,7] (fun wv nv wq=>∃ (v u n:Nat) (D':Nat->Int) (tr':Bool),v<=1000/\wv=.int .i64 v/\nv=.int .u64 n/\Hid (u+v=M)/\Hid (n<2^k)/\Hid (DJ (dv D nd*2^k) M n u D' tr tr')/\
    DecAt wq g D' nd dp tr'/\Below g w wq) (fun _ nv _=>(intOf nv).toNat)
   case atStart=>
    have hS:=HS.out
    have e0:dv D 0*2^k+n=n:=by simp [dv]
    rw [e0,Nat.sub_zero] at hS
    exact ⟨delta,nd,n,D',tr',by omega,by simp,rfl,hide HM.out.symm,Hn,hide hS,Hd.out,Hbw.out⟩
   case round=>
    clear c0 c9 c8 f0 Hd Hbw HS He Hn
    obtain ⟨v,u,n,D',tr',hv,rfl,rfl,Huv,Hn,HS,hd,hbw⟩:=hrel
    have Hd:=hide hd
    have Hbw:=hide hbw
    clear hd hbw
    have c0:=Hd.out.nd
    have c9:=Hd.out.dp
    have c8:=Hd.out.tr
    have f0:=Hd.out.fr
    by_cases hn0:n=0
    ·subst hn0
     have hsm:=uO HS.out (by have:=Huv.out;omega)
     have huM:u=M:=by
      have h1:=HM1.out
      have h2:=Huv.out
      have h3:M-1<u:=(Nat.pow_lt_pow_iff_right (by omega)).1 (Nat.lt_of_le_of_lt h1 hsm)
      omega
     have hv0:v=0:=by have:=Huv.out;omega
     have HS':Hid (DJ (dv D nd*2^k) M 0 M D' tr tr'):=hide (by have:=HS.out;rw [huM] at this;exact this)
     subst hv0
     clear HS hsm huM Huv
     by_cases hbig:800<=nd+delta
     ·have hbig':(800:Int)<=(nd:Int)+delta:=by omega
      go_wp2_with fail
      refine (iR g 800 D' (dp+delta) tr' _ ?_ (Nat.le_refl _)).mono ?_
      ·exact ((Hd.out.setNd (nd+delta)).setNd 800).setDp (dp+delta)
      ·rintro e w' ⟨rfl,hdec,hbel⟩
       go_wp2
       go_end0
       refine ⟨rfl,D',_,_,tr',hdec,?_,?_⟩
       ·exact qD HS'.out HM1.out (by have:=HM.out;omega) (by have:=HM.out;omega) (by have:=HM.out;omega)
       ·exact (((Hbw.out.setCell (Nat.le_refl _) _).setCell (Nat.le_refl _) _).setCell (Nat.le_refl _) _).trans hbel
     ·have hbig':(nd:Int)+delta<800:=by omega
      go_wp2_with fail
      refine (iR g (nd+delta) D' (dp+delta) tr' _ ?_ (by omega)).mono ?_
      ·have:=(Hd.out.setNd (nd+delta)).setDp (dp+delta)
       rw [Int.natCast_add]
       exact this
      ·rintro e w' ⟨rfl,hdec,hbel⟩
       go_wp2
       go_end0
       refine ⟨rfl,D',_,_,tr',hdec,?_,?_⟩
       ·exact qD HS'.out HM1.out (by have:=HM.out;omega) (by have:=HM.out;omega) (by have:=HM.out;omega)
       ·exact ((Hbw.out.setCell (Nat.le_refl _) _).setCell (Nat.le_refl _) _).trans hbel
    ·have huM:u<M:=by
      obtain ⟨R,h1,_⟩:=HS.out
      have h2:=HM2.out
      have h3:1*10^u<=n*10^u:=Nat.mul_le_mul_right _ (by omega)
      have h4:10^u<10^M:=by omega
      exact (Nat.pow_lt_pow_iff_right (by omega)).1 h4
     obtain ⟨v1,rfl⟩:∃ v1,v=v1+1:=⟨v-1,by have:=Huv.out;omega⟩
     obtain ⟨q,hq⟩:∃ q,q=n/10:=⟨_,rfl⟩
     obtain ⟨rem,hrem⟩:∃ rem,rem=n%10:=⟨_,rfl⟩
     have hn2:n<11529215046068469760:=by have:=Hn.out;have:=Hk2.out;omega
     obtain ⟨e3,e4,e5⟩:=qx hn2 hq hrem
     have hn1:(0:Int)<(n:Int):=by omega
     have HA:Hid (n=q*10+rem):=hide (by omega)
     have hrem9:rem<=9:=by omega
     have Hq:Hid (q<2^k/\q<n):=hide ⟨by have:=Hn.out;omega,by omega⟩
     have HuM:=hide huM
     clear hq hrem hn0 huM hn2
     by_cases hw:v1<800
     ·have cW:=Hd.out.dig v1 hw
      have hw':(v1:Int)<800:=by omega
      go_wp2
      go_roundw
      case rel=>
       refine ⟨v1,u+1,q,gF D' v1 (rem+48),tr',by omega,by go_num,rfl,hide (by have:=Huv.out;omega),hide Hq.out.1,hide ?_,Hd.out.setDig hw _,Hbw.out.setCell (Nat.le_refl _) _⟩
       have h1:M-u-1=v1:=by have:=Huv.out;omega
       have h2:=qz (A':=q) HS.out HA.out hrem9 HuM.out (by omega)
       rw [h1] at h2
       exact h2
      case measure=>have:=Hq.out.2;simp [intOf];omega
     ·have hw':(800:Int)<=(v1:Int):=by omega
      by_cases hz:rem=0
      ·subst hz
       go_wp2
       go_roundw
       case rel=>
        refine ⟨v1,u+1,q,D',tr',by omega,by go_num,rfl,hide (by have:=Huv.out;omega),hide Hq.out.1,hide ?_,Hd.out,Hbw.out⟩
        exact iG HS.out HA.out hrem9 HuM.out (by have:=Huv.out;omega) (by simp)
       case measure=>have:=Hq.out.2;simp [intOf];omega
      ·have hzb:((rem:Int) !=0)=true:=by rw [bne_iff_ne];omega
       have Hz:=hide hz
       clear hz
       go_wp2
       go_roundw
       case rel=>
        refine ⟨v1,u+1,q,D',true,by omega,by go_num,rfl,hide (by have:=Huv.out;omega),hide Hq.out.1,hide ?_,Hd.out.setTr true,Hbw.out.setCell (Nat.le_refl _) _⟩
        exact iG HS.out HA.out hrem9 HuM.out (by have:=Huv.out;omega) (by have:=Hz.out;simp [this])
       case measure=>have:=Hq.out.2;simp [intOf];omega
  ·obtain ⟨r1,rfl⟩:∃ r1,r=r1+1:=⟨r-1,by omega⟩
   have cR:wr.cell? ⟨g,r1,none⟩=some (.int .u8 (D r1)):=by rw [Hd.out.dig r1 (by omega),He.out r1 (by omega)]
   have hx:=HN.out.ok r1 (by omega)
   obtain ⟨hx1,hx2⟩:=hx
   have hr8:(r1:Int)<800:=by omega
   obtain ⟨m,hm⟩:∃ m,m=n+(D r1-48).toNat*2^k:=⟨_,rfl⟩
   obtain ⟨q,hq⟩:∃ q,q=m/10:=⟨_,rfl⟩
   obtain ⟨rem,hrem⟩:∃ rem,rem=m%10:=⟨_,rfl⟩
   obtain ⟨e1,hm10⟩:=CZ Hk2.out Hn.out hx1 hx2 rfl hm
   have e2k:((2^k:Nat):Int)=(2:Int)^k:=by simp
   rw [e2k] at e1
   clear e2k
   have hm2:m<11529215046068469760:=by have:=Hk2.out;omega
   obtain ⟨e3,e4,e5⟩:=qx hm2 hq hrem
   have HA:=hide (zT (D:=D) (P:=2^k) hm hq hrem)
   have Hq:Hid (q<2^k):=hide (Cv hm10 hq)
   have hrem9:rem<=9:=by omega
   clear hm hq hrem hm10 hm2 hr0
   have eM:nd+delta-(nd-(r1+1))-1=r1+delta:=by omega
   have HeM:Hid (M-(nd-(r1+1))-1=r1+delta):=hide (by rw [HM.out];exact eM)
   have HuM:Hid (nd-(r1+1)+1<=M):=hide (by rw [HM.out];omega)
   clear eM
   have Eu:Hid (nd-(r1+1)+1=nd-r1):=hide (by omega)
   by_cases hw:r1+delta<800
   ·have cW:=Hd.out.dig (r1+delta) hw
    have hw':(r1:Int)+delta<800:=by omega
    go_wp2
    go_roundw
    case rel=>
     refine ⟨r1,q,gF D' (r1+delta) (rem+48),tr',by omega,by go_num,by go_num,rfl,Hq,hide (fun i hi=>by rw [bN (by omega)];exact He.out i (by omega)),hide ?_,Hd.out.setDig hw _,Hbw.out.setCell (Nat.le_refl _) _⟩
     have h2:=qz (A':=dv D r1*2^k+q) HS.out HA.out hrem9 HuM.out (by rw [HeM.out];exact hw)
     rw [HeM.out,Eu.out] at h2
     exact h2
    case measure=>simp [intOf]
   ·have hw':(800:Int)<=(r1:Int)+delta:=by omega
    by_cases hz:rem=0
    ·subst hz
     go_wp2
     go_roundw
     case rel=>
      refine ⟨r1,q,D',tr',by omega,by go_num,by go_num,rfl,Hq,hide (fun i hi=>He.out i (by omega)),hide ?_,Hd.out,Hbw.out⟩
      have h2:=iG (A':=dv D r1*2^k+q) (tr'':=tr') HS.out HA.out hrem9 HuM.out (by rw [HeM.out];omega) (by simp)
      rw [Eu.out] at h2
      exact h2
     case measure=>simp [intOf]
    ·have hzb:((rem:Int) !=0)=true:=by rw [bne_iff_ne];omega
     have Hz:=hide hz
     clear hz
     go_wp2
     go_roundw
     case rel=>
      refine ⟨r1,q,D',true,by omega,by go_num,by go_num,rfl,Hq,hide (fun i hi=>He.out i (by omega)),hide ?_,Hd.out.setTr true,Hbw.out.setCell (Nat.le_refl _) _⟩
      have h2:=iG (A':=dv D r1*2^k+q) (tr'':=true) HS.out HA.out hrem9 HuM.out (by rw [HeM.out];omega) (by have:=Hz.out;simp [this])
      rw [Eu.out] at h2
      exact h2
     case measure=>simp [intOf]
end Go.Proofs.YtjibjahfbblieaaGreatDoor.F
