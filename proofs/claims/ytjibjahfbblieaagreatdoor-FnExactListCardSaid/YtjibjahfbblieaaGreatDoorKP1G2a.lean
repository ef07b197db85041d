import Derived.Test.YtjibjahfbblieaaGreatDoorKP1G1
namespace Go.Proofs.YtjibjahfbblieaaGreatDoor.F
open Go Go.RowKit
set_option linter.unusedVariables false
set_option maxHeartbeats 3200000 in
set_option maxRecDepth 100000 in
theorem Li (g nd k:Nat) (D:Nat->Int) (dp:Int) (tr:Bool) (w:World) (h:DecAt w g D nd dp tr) (hN:Norm D nd) (hnd0:nd≠0) (hk1:1<=k) (hk:k<=60) (hdp1: -100000<=dp) (hdp2:dp<=100000) (HV:Hid (2^k<=dv D nd)):
 Calls Tryz.prog 239 #[.pointer (some ⟨g,0,none⟩),.int .u64 k] w fun e w'=>ShR (dv D nd*5^k) (dp-nd-k) tr g w e w':=by
 have H:=hide h
 have HN:=hide hN
 have c0:=h.nd
 have c9:=h.dp
 have f0:=h.fr
 have hle:(nd:Int)<=800:=by have:=hN.le;omega
 have hle':nd<=800:=hN.le
 have Hk2:Hid (2^k<=1152921504606846976):=hide (by
  have:=Nat.pow_le_pow_right (show 0<2 by omega) hk
  exact Nat.le_trans this (by decide))
 have Hkp:Hid (0<2^k):=hide (Nat.pow_pos (by omega))
 have HVp:Hid (0<dv D nd):=hide (Nat.lt_of_lt_of_le (jy _) (pV hN.ok hnd0 (hN.head hnd0)))
 clear h hN
 have hk61:(k:Int)<=60:=by omega
 go_enter Tryz.func239,Tryz.ntmps239
 go_wp2
 go_loop [4,6] (fun rv nv=>∃ (r n:Nat),r<=nd/\rv=.int .i64 r/\nv=.int .u64 n/\Hid (n=dv D r)/\Hid (n<10*2^k)) (fun rv _=>nd-(intOf rv).toNat)
 case atStart=>exact ⟨0,0,Nat.zero_le _,rfl,rfl,hide rfl,hide (by have:=Hkp.out;omega)⟩
 case round=>
  obtain ⟨r,n,hr,rfl,rfl,Hn,Hnl⟩:=hrel
  by_cases hlt:n<2^k
  ·have hrn:r<nd:=by
    rcases Nat.lt_or_ge r nd with h|h
    ·exact h
    ·have e:r=nd:=by omega
     have h1:=HV.out
     have h2:=Hn.out
     rw [e] at h2
     omega
   have cR:=H.out.dig r (by omega)
   obtain ⟨hx1,hx2⟩:=HN.out.ok r hrn
   have hr8:(r:Int)<800:=by omega
   have Hlt:=hide hlt
   have ht:=Og hlt
   clear hlt
   obtain ⟨m,hm⟩:∃ m,m=n*10+(D r-48).toNat:=⟨_,rfl⟩
   have e1:=qF Hk2.out Hlt.out hx1 hx2 hm
   have Hm:Hid (m=dv D (r+1)):=hide (by rw [hm,Hn.out];rfl)
   have Hml:Hid (m<10*2^k):=hide (by have:=Hlt.out;omega)
   clear hm
   go_wp2
   go_round
   case rel=>exact ⟨r+1,m,by omega,by go_num,rfl,Hm,Hml⟩
   case measure=>simp [intOf];omega
  ·have ht:=Pf Hkp.out (Nat.le_of_not_lt hlt)
   have Hge:Hid (2^k<=n):=hide (Nat.le_of_not_lt hlt)
   have HP:Hid (Pz D nd r=n):=hide (by rw [pY hr];exact Hn.out.symm)
   have hrk:r<=nd+k:=by omega
   have Hdv:Hid (2^(min (r-nd) k) ∣ n):=hide (by rw [show r-nd=0 by omega,Nat.zero_min,Nat.pow_zero];exact Nat.one_dvd _)
   have Hr1:Hid (1<=r):=hide (by
    rcases Nat.eq_zero_or_pos r with e|e
    ·have h1:=Hn.out
     rw [e] at h1
     have h2:=Hge.out
     have h3:=Hkp.out
     simp [dv] at h1
     omega
    ·exact e)
   clear hlt Hn hr
   have hr1:=Hr1.out
   obtain ⟨mk,hmk⟩:∃ mk:Nat,mk=2^k-1:=⟨_,rfl⟩
   have eM:=Cw Hk2.out Hkp.out hmk
   have Hmk:=hide hmk
   clear hmk
   go_wp2
   clear ht
   go_loopw [4,5,6] (fun rv wv nv wr=>∃ (q t m:Nat) (D':Nat->Int),rv=.int .i64 q/\wv=.int .i64 t/\nv=.int .u64 m/\q<=nd+k/\t<=800/\Hid (q=r+t)/\Hid (q<=nd∨t=0)/\Hid (J3 D nd k q t m D' tr tr)/\Hid (2^(min (q-nd) k) ∣ m)/\Hid (∀ i,q<=i->i<nd->D' i=D i)/\
    DecAt wr g D' nd (dp-((r:Int)-1)) tr/\Below g w wr) (fun rv _ _ _=>nd-(intOf rv).toNat)
   case atStart=>exact ⟨r,0,n,D,rfl,rfl,rfl,hrk,Nat.zero_le _,hide rfl,hide (.inr rfl),hide (sZ HP.out Hge.out Hnl.out),Hdv,hide (fun _ _ _=>rfl),H.out.setDp _,(Below.refl g w).setCell (Nat.le_refl _) _⟩
   case round=>
    clear c0 c9 f0 Hdv HP Hge Hnl
    obtain ⟨q,t,m,D',rfl,rfl,rfl,hq,ht8,Hqt,Hqn,HS,Hdv,He,hd,hbw⟩:=hrel
    have Hd:=hide hd
    have Hbw:=hide hbw
    clear hd hbw
    have c0:=Hd.out.nd
    have f0:=Hd.out.fr
    have Hm10:Hid (m<10*2^k):=hide (by obtain ⟨_,_,_,_,_,_,h,_⟩:=HS.out;exact h)
    by_cases hlt:q<nd
    ·have cR:wr.cell? ⟨g,q,none⟩=some (.int .u8 (D q)):=by rw [Hd.out.dig q (by omega),He.out q (Nat.le_refl _) hlt]
     obtain ⟨hx1,hx2⟩:=HN.out.ok q hlt
     have hq8:(q:Int)<800:=by omega
     have htq:t<q:=by have:=Hqt.out;omega
     have ht7:(t:Int)<800:=by omega
     have cW:=Hd.out.dig t (by omega)
     obtain ⟨d,hd⟩:∃ d,d=m/2^k:=⟨_,rfl⟩
     obtain ⟨a,ha⟩:∃ a,a=m%2^k:=⟨_,rfl⟩
     obtain ⟨x,hx⟩:∃ x,x=a*10+(D q-48).toNat:=⟨_,rfl⟩
     have eD:=oU m k hd
     have eA:=u_ Hk2.out Hm10.out Hmk.out ha
     have hap:a<2^k:=by rw [ha];exact Nat.mod_lt _ Hkp.out
     have eX:=qF Hk2.out hap hx1 hx2 hx
     obtain ⟨S,hd9⟩:=qC HS.out (by omega) (Gl hlt) (c:=eT D q) (by unfold eT;omega) hd (n':=x) (by rw [hx,ha];rfl)
     have eB:=qw hd9
     have HS':=hide S
     clear S hap hx ha hd
     go_wp2
     go_roundw
     case rel=>
      refine ⟨q+1,t+1,x,gF D' t (d+48),by go_num,by go_num,rfl,by omega,by omega,hide (by have:=Hqt.out;omega),hide (.inl (by omega)),HS',hide ?_,hide (fun i h1 h2=>by rw [bN (by omega)];exact He.out i (by omega) h2),Hd.out.setDig (by omega) _,Hbw.out.setCell (Nat.le_refl _) _⟩
      rw [show q+1-nd=0 by omega,Nat.zero_min,Nat.pow_zero]
      exact Nat.one_dvd _
     case measure=>simp [intOf];omega
    ·have hge:nd<=q:=by omega
     go_wp2
     go_loopg [5,6] (nd+k+1-q) (fun gk wv nv wq=>∃ (y t v m:Nat) (D':Nat->Int) (tr':Bool),gk+y=nd+k+1/\nd<=y/\wv=.int .i64 v/\nv=.int .u64 m/\v<=800/\Hid (v=min t 800)/\Hid (y=r+t)/\Hid (2^(min (y-nd) k) ∣ m)/\Hid (gk=0->m=0)/\Hid (J3 D nd k y t m D' tr tr')/\
      DecAt wq g D' nd (dp-((r:Int)-1)) tr'/\Below g w wq)
     case atStart=>exact ⟨q,t,t,m,D',tr,by omega,hge,rfl,rfl,ht8,hide (by omega),Hqt,Hdv,hide (fun h=>by omega),HS,Hd.out,Hbw.out⟩
     case round=>
      clear c0 f0 Hd Hbw HS He Hdv Hm10 Hqn Hqt ht8 hge hlt
      obtain ⟨y,t,v,m,D',tr',hgy,hny,rfl,rfl,hv8,Hv,Hyt,Hdv,Hz,HS,hd,hbw⟩:=hrel
      have Hd:=hide hd
      have Hbw:=hide hbw
      clear hd hbw
      have c0:=Hd.out.nd
      have c8:=Hd.out.tr
      have f0:=Hd.out.fr
      have Hm10:Hid (m<10*2^k):=hide (by obtain ⟨_,_,_,_,_,_,h,_⟩:=HS.out;exact h)
      by_cases hm0:m=0
      ·subst hm0
       go_wp2_with fail
       refine (iR g v D' (dp-((r:Int)-1)) tr' _ ?_ hv8).mono ?_
       ·exact Hd.out.setNd v
       ·rintro e w' ⟨rfl,hdec,hbel⟩
        go_wp2
        go_end0
        refine ⟨rfl,D',_,_,tr',hdec,?_,?_⟩
        ·rw [Hv.out]
         exact Cy HS.out hny (by omega) Hyt.out rfl
        ·exact (Hbw.out.setCell (Nat.le_refl _) _).trans hbel
      ·have hg0:gk≠0:=fun e=>hm0 (Hz.out e)
       have hm1:(0:Int)<(m:Int):=by omega
       obtain ⟨d,hd⟩:∃ d,d=m/2^k:=⟨_,rfl⟩
       obtain ⟨a,ha⟩:∃ a,a=m%2^k:=⟨_,rfl⟩
       obtain ⟨x,hx⟩:∃ x,x=a*10:=⟨_,rfl⟩
       have eD:=oU m k hd
       have eA:=u_ Hk2.out Hm10.out Hmk.out ha
       have hap:a<2^k:=by rw [ha];exact Nat.mod_lt _ Hkp.out
       have eX:=Bl Hk2.out hap hx
       have Hdv':Hid (2^(min (y+1-nd) k) ∣ x):=hide (by rw [hx,ha];exact oV hny Hdv.out)
       have Hz':Hid (gk-1=0->x=0):=hide (fun e=>by rw [hx,ha];exact zu (by omega) Hdv.out)
       by_cases hv:v<800
       ·have htv:t=v:=by have:=Hv.out;omega
        subst htv
        have cW:=Hd.out.dig t hv
        have hv':(t:Int)<800:=by omega
        obtain ⟨S,hd9⟩:=qC HS.out hv (kR hny) (by omega) hd (n':=x) (by rw [hx,ha];rfl)
        have eB:=qw hd9
        have HS':=hide S
        clear S hap hx ha hd hm0
        go_wp2
        go_roundg (gk-1)
        case rel=>
         exact ⟨y+1,t+1,t+1,x,gF D' t (d+48),tr',by omega,by omega,by go_num,rfl,by omega,hide (by omega),hide (by have:=Hyt.out;omega),Hdv',Hz',HS',Hd.out.setDig hv _,Hbw.out.setCell (Nat.le_refl _) _⟩
        case measure=>omega
       ·have ht8:800<=t:=by have:=Hv.out;omega
        have hv8':v=800:=by omega
        subst hv8'
        by_cases hd0:d=0
        ·obtain ⟨S,hd9⟩:=oJ (tr'':=tr') HS.out ht8 (kR hny) (by omega) hd (n':=x) (by rw [hx,ha];rfl) (by simp [hd0])
         have HS':=hide S
         clear S hap hx ha hd hm0
         subst hd0
         go_wp2
         go_roundg (gk-1)
         case rel=>
          exact ⟨y+1,t+1,800,x,D',tr',by omega,by omega,rfl,rfl,by omega,hide (by omega),hide (by have:=Hyt.out;omega),Hdv',Hz',HS',Hd.out,Hbw.out⟩
         case measure=>omega
        ·obtain ⟨S,hd9⟩:=oJ (tr'':=true) HS.out ht8 (kR hny) (by omega) hd (n':=x) (by rw [hx,ha];rfl) (by simp [hd0])
         have HS':=hide S
         have hdp:(0:Int)<(d:Int):=by omega
         clear S hap hx ha hd hm0 hd0
         go_wp2
         go_roundg (gk-1)
         case rel=>
          exact ⟨y+1,t+1,800,x,D',true,by omega,by omega,rfl,rfl,by omega,hide (by omega),hide (by have:=Hyt.out;omega),Hdv',Hz',HS',Hd.out.setTr true,Hbw.out.setCell (Nat.le_refl _) _⟩
         case measure=>omega
end Go.Proofs.YtjibjahfbblieaaGreatDoor.F
