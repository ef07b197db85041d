import Derived.Test.YtjibjahfbblieaaGreatDoorKBO
import Derived.Test.YtjibjahfbblieaaGreatDoorKP1M4
import Derived.Test.YtjibjahfbblieaaGreatDoorKP1A5
import Derived.Test.YtjibjahfbblieaaGreatDoorRows
import Derived.Test.YtjibjahfbblieaaGreatDoorCards
import Derived.Lay
import Derived.SevenTiedAt
namespace Go.Proofs.YtjibjahfbblieaaGreatDoor.F
open Go Go.RowKit
set_option linter.unusedVariables false
theorem FC {i n len:Nat} (h:2^i<=n) (hn:n<10000^len):i<14*len:=by
 have h1:10000^len<=2^(14*len):=by rw [Nat.pow_mul];exact Nat.pow_le_pow_left (by omega) len
 have h2:2^i<2^(14*len):=by omega
 exact (Nat.pow_lt_pow_iff_right (by omega)).1 h2
theorem qB {x y:Nat} (h:y<=x):0<=mQ x y:=by unfold mQ;split<;>(try split)<;>omega
theorem Big.len {w:World} {v:Value} {l:List Int} (h:Big w v l):∃ g cap,v=.slice (some ⟨g,0,none⟩) l.length cap:=by
 obtain ⟨g,cap,h1,_⟩:=h;exact ⟨g,cap,h1⟩
theorem wrap_u64 {x:Int} (h0:0<=x) (h1:x<18446744073709551616):IntKind.u64.wrap x=x:=by
 simp [IntKind.wrap,IntKind.signed,IntKind.bits];omega
theorem oz (b:Nat):(2:Int)^b=((2^b:Nat):Int):=by simp
theorem I4 {q b:Nat} (h:q+2^b<=9007199254740992):IntKind.u64.wrap ((q:Int)+IntKind.u64.wrap (2^b))=((q+2^b:Nat):Int):=by
 rw [oz]
 generalize 2^b=p at *
 rw [wrap_u64 (x:=(p:Int)) (by omega) (by omega),wrap_u64 (by omega) (by omega)]
 omega
theorem sW (x y:Nat):(y<x/\mQ x y=1)∨(x=y/\mQ x y=0)∨(x<y/\mQ x y= -1):=by
 unfold mQ;split
 ·right;right;omega
 ·split
  ·left;omega
  ·right;left;omega
theorem yZ {n d i j D H L N M q:Nat} {e0:Int} (HD:D=d*2^i) (HH:H=d*2^i*2^53) (HL:L=d*2^i*2^52) (HN:N=n*2^j) (hNH:N<H)
 (hfin:e0+i-j= -1074∨L<=N) (he: -1074<=e0+i-j) (Hq:N=q*D+M) (hM:M<D):
 aC (n*2^(e0+1074).toNat) (d*2^(-1074-e0).toNat) (min ((e0+i-j+1074).toNat*4503599627370496+(q+if D<M*2+0∨(M*2+0=D/\q%2=1) then 1 else 0)) ak)/\
  (e0+i-j= -1074∨4503599627370496<=q):=by
 obtain ⟨hq,hr⟩:=D9 Hq hM
 subst HD
 subst HN
 have h:=rM (n:=n) (d:=d) (i:=i) (j:=j) (A:=(e0+1074).toNat) (B:=(-1074-e0).toNat) (k:=(e0+i-j+1074).toNat) (by omega) (by omega) (by
  rcases hfin with h|h
  ·left;omega
  ·right;omega)
 constructor
 ·have e:rq (n*2^j) (d*2^i)=q+if d*2^i<M*2+0∨(M*2+0=d*2^i/\q%2=1) then 1 else 0:=by
   unfold rq;rw [hq,hr]
   have e1:2*M=M*2+0:=by omega
   rw [e1]
  rw [e] at h
  exact h
 ·rcases hfin with h|h
  ·left;exact h
  ·right
   rw [<-hq]
   have hpos:0<d*2^i:=by omega
   rw [Nat.le_div_iff_mul_le hpos]
   rw [Nat.mul_comm]
   have e2:(2:Nat)^52=4503599627370496:=by decide
   rw [e2] at HL
   omega
theorem n_ {T D b:Nat} (h:T=D*2^b):1<=b->T/2=D*2^(b-1):=by
 intro hb
 obtain ⟨c,rfl⟩:∃ c,b=c+1:=⟨b-1,by omega⟩
 rw [h,Nat.pow_succ,<-Nat.mul_assoc,Nat.mul_div_cancel _ (by omega)]
 rfl
def Pd (w:World) (n:Nat) (e1:Int) (D H L:Nat) (dv lv:Value) (nv ev:Value) (wr:World):Prop:=
 ∃ (j N:Nat),-1074<=e1-j/\ev=.int .i64 (e1-j)/\Hid (N=n*2^j)/\N<H/\Big wr dv (dig D)/\Big wr lv (dig L)/\Big wr nv (dig N)/\Below w.heap.size w wr
def MK (w:World) (D n2 lim:Nat) (dv:Value) (nv qv tv bv:Value) (wr:World):Prop:=
 ∃ (B q M T:Nat),B<=53/\bv=.int .i64 ((B:Int)-1)/\qv=.int .u64 q/\Hid (n2=q*D+M)/\Hid (M<D*2^B)/\Hid (q+2^B<=9007199254740992)/\Hid (1<=B->T=D*2^(B-1))/\(dig T).length<=lim/\(dig M).length<=lim/\
   Big wr dv (dig D)/\Big wr nv (dig M)/\Big wr tv (dig T)/\Below w.heap.size w wr
def Ml (w:World) (n d:Nat) (e0:Int) (vn:Value) (dv ev hv:Value) (wr:World):Prop:=
 ∃ (i D H:Nat),i<=20000/\ev=.int .i64 (e0+i)/\Hid (D=d*2^i)/\Hid (H=d*2^i*2^53)/\Big wr dv (dig D)/\Big wr hv (dig H)/\Big wr vn (dig n)/\Below w.heap.size w wr
theorem jm {n k b:Nat} (h:(dig n).length<=b):(dig (n*2^k)).length<=b+k:=by
 have:=iW n k;omega
set_option maxHeartbeats 1600000 in
set_option maxRecDepth 100000 in
theorem xH (n d:Nat) (e0:Int) (vn vd:Value) (w:World) (hn:Big w vn (dig n)) (hd:Big w vd (dig d)) (hd0:d≠0) (hln:(dig n).length<=1000) (hld:(dig d).length<=2000) (he1: -5000<=e0) (he2:e0<=5000) (hn0:n≠0):
 Calls Tryz.prog 122 #[vn,vd,.int .i64 e0] w fun e w'=>∃ W:Nat,e=.returned (.int .u64 W)/\aC (n*2^(e0+1074).toNat) (d*2^(-1074-e0).toNat) W/\Below w.heap.size w w':=by
 have Hd0:=hide hd0
 have Hn0:=hide hn0
 have hlen0:0<(dig n).length:=by rw [fT hn0];simp
 obtain ⟨gn,cn,hvn⟩:=hn.len
 subst hvn
 clear hd0 hn0
 go_enter Tryz.func122,Tryz.ntmps122
 have hz:(((dig n).length:Int)==0)=false:=by rw [beq_eq_false_iff_ne];omega
 go_wp2_with fail
 refine (Cq d 52 vd w hd (by omega)).mono ?_
 rintro e w1 ⟨v1,rfl,hlow,hb1⟩
 go_wp2_with fail
 refine (cu (d*2^52) 2 0 _ _ rfl rfl _ _ hlow (by have:=jm (k:=52) hld;omega) (by omega) (by omega)).mono ?_
 rintro e w2 ⟨v2,rfl,hhigh,hb2⟩
 have hb12:Below w.heap.size w w2:=hb1.trans (hb2.mono hb1.size)
 have hn2:=hn.below hb12
 have hd2:=hd.below hb12
 go_wp2
 go_loopw [1,2,8] (Ml w n d e0 (.slice (some ⟨gn,0,none⟩) (dig n).length cn)) (fun _ ev _ _=>(20001+e0-intOf ev).toNat)
 case atStart=>
  refine ⟨0,d,d*2^52*2+0,by omega,by simp,hide (by simp),hide (by omega),hd2,hhigh,hn2,hb12⟩
 case round=>
  clear hlow hhigh hn2 hd2 hb1 hb2 hb12
  obtain ⟨i,D,H,hi,rfl,HD,HH,hbd,hbh,hbn,hb⟩:=hrel
  have hlD:(dig D).length<=2000+i:=by rw [HD.out];exact jm hld
  have hlH:(dig H).length<=2000+i+53:=by rw [HH.out];exact jm (jm hld)
  by_cases hc:H<=n∨e0+i< -1074
  ·have hi2:i+1<=20000:=by
    rcases hc with hc|hc
    ·have h1:2^i<=n:=by
      have:d*2^i*2^53<=n:=by rw [<-HH.out];exact hc
      have h2:1*2^i*1<=d*2^i*2^53:=Nat.mul_le_mul (Nat.mul_le_mul_right _ (Nat.one_le_iff_ne_zero.2 Hd0.out)) (Nat.one_le_two_pow)
      omega
     have:=FC h1 (dR n)
     omega
    ·omega
   have hrel':∀ (w3 w4 w5:World) (v3 v4:Value),Below wr.heap.size wr w3->Below w3.heap.size w3 w4->Below w4.heap.size w4 w5->Big w4 v3 (dig (H*2+0))->Big w5 v4 (dig (D*2+0))->
    Ml w n d e0 (.slice (some ⟨gn,0,none⟩) (dig n).length cn) v4 (.int .i64 (e0+i+1)) v3 w5:=by
    intro w3 w4 w5 v3 v4 b3 b4 b5 g3 g4
    have b35:Below wr.heap.size wr w5:=(b3.trans (b4.mono b3.size)).trans (b5.mono (Nat.le_trans b3.size b4.size))
    refine ⟨i+1,D*2+0,H*2+0,hi2,by rw [Int.natCast_add];simp [Int.add_assoc],hide (by rw [HD.out,Nat.pow_succ,Nat.mul_assoc];rfl),hide (by rw [HH.out,Nat.pow_succ];grind),g4,g3.below b5,hbn.below b35,hb.trans (b35.mono hb.size)⟩
   have Hrel':=hide hrel'
   clear hrel'
   by_cases hc1:H<=n
   ·have hge:=qB hc1
    go_wp2_with (go_at_call 136;refine (gq n H _ _ _ hbn hbh (by omega) (by omega)).mono ?_;rintro e w3 ⟨rfl,hb3⟩)
    refine (cu H 2 0 _ _ rfl rfl _ _ (hbh.below hb3) (by omega) (by omega) (by omega)).mono ?_
    rintro e w4 ⟨v3,rfl,hg3,hb4⟩
    go_wp2_with fail
    refine (cu D 2 0 _ _ rfl rfl _ _ ((hbd.below hb3).below hb4) (by omega) (by omega) (by omega)).mono ?_
    rintro e w5 ⟨v4,rfl,hg4,hb5⟩
    go_wp2
    go_roundw
    case rel=>exact Hrel'.out _ _ _ _ _ hb3 hb4 hb5 hg3 hg4
    case measure=>simp [intOf];omega
   ·have hlt:=jX (show n<H by omega)
    have he3:e0+i< -1074:=by omega
    go_wp2_with (go_at_call 136;refine (gq n H _ _ _ hbn hbh (by omega) (by omega)).mono ?_;rintro e w3 ⟨rfl,hb3⟩)
    refine (cu H 2 0 _ _ rfl rfl _ _ (hbh.below hb3) (by omega) (by omega) (by omega)).mono ?_
    rintro e w4 ⟨v3,rfl,hg3,hb4⟩
    go_wp2_with fail
    refine (cu D 2 0 _ _ rfl rfl _ _ ((hbd.below hb3).below hb4) (by omega) (by omega) (by omega)).mono ?_
    rintro e w5 ⟨v4,rfl,hg4,hb5⟩
    go_wp2
    go_roundw
    case rel=>exact Hrel'.out _ _ _ _ _ hb3 hb4 hb5 hg3 hg4
    case measure=>simp [intOf];omega
  ·have hlt:=jX (show n<H by omega)
   have he3: -1074<=e0+i:=by omega
   go_wp2_with (go_at_call 136;refine (gq n H _ _ _ hbn hbh (by omega) (by omega)).mono ?_;rintro e w3 ⟨rfl,hb3⟩)
   refine (kW H _ _ (hbh.below hb3) (by omega)).mono ?_
   rintro e w4 ⟨v3,rfl,hg3,hb4⟩
   have Hlow:Hid (H/2=d*2^i*2^52):=hide (by rw [HH.out];omega)
   have H2:Hid (H=2*(H/2)):=hide (by rw [HH.out];omega)
   have hbd4:=(hbd.below hb3).below hb4
   have hbn4:=(hbn.below hb3).below hb4
   have hb34:Below w.heap.size w w4:=hb.trans ((hb3.trans (hb4.mono hb3.size)).mono hb.size)
   have hlL:(dig (H/2)).length<=(dig H).length:=aQ (by omega)
   have hHL:=H2.out
   generalize H/2=L at *
   have H2L:Hid (H=2*L):=hide hHL
   clear hHL H2
   have hlim:=hlH
   go_wp2
   go_loopw [0,2] (Pd w n (e0+i) D H L u1 v3) (fun _ ev _=>(intOf ev+1074).toNat)
   case atStart=>exact ⟨0,n,by omega,by simp,hide (by simp),by omega,hbd4,hg3,hbn4,hb34⟩
   case round=>
    clear hbd4 hg3 hbn4 hb34 hb3 hb4 hbd hbh hbn hb
    obtain ⟨j,N,hj,rfl,HN,hNH,hbd,hbl,hbn,hb⟩:=hrel
    have hlN:(dig N).length<=(dig H).length:=aQ (by omega)
    by_cases hc: -1074<e0+i-j/\N<L
    ·obtain ⟨hc1,hc2⟩:=hc
     have hlt2:=jX hc2
     go_wp2_with (go_at_call 136;refine (gq N L _ _ _ hbn hbl (by omega) (by omega)).mono ?_;rintro e w5 ⟨rfl,hb5⟩)
     refine (cu N 2 0 _ _ rfl rfl _ _ (hbn.below hb5) (by omega) (by omega) (by omega)).mono ?_
     rintro e w6 ⟨v4,rfl,hg4,hb6⟩
     have hNH':N*2+0<H:=by have:=H2L.out;omega
     go_wp2
     go_roundw
     case rel=>exact ⟨j+1,N*2+0,by omega,by rw [Int.natCast_add];simp [Int.sub_sub],hide (by rw [HN.out,Nat.pow_succ,Nat.mul_assoc];rfl),hNH',(hbd.below hb5).below hb6,(hbl.below hb5).below hb6,hg4,hb.trans ((hb5.trans (hb6.mono hb5.size)).mono hb.size)⟩
     case measure=>simp [intOf];omega
    ·by_cases hc1: -1074<e0+i-j
     ·have hge2:=qB (show L<=N by omega)
      go_wp2_with (go_at_call 136;refine (gq N L _ _ _ hbn hbl (by omega) (by omega)).mono ?_;rintro e w5 ⟨rfl,hb5⟩)
      have hfin:Hid (e0+i-j= -1074∨L<=N):=hide (.inr (by omega))
      have hbd':=hbd.below hb5
      have hbn':=hbn.below hb5
      have hbl':=hbl.below hb5
      have hb':=hb.trans (hb5.mono hb.size)
      clear hbd hbn hbl hb hb5
      go_loopw [0,9,10,11] (MK w D N (dig H).length u1) (fun _ _ _ bv _=>(intOf bv+1).toNat)
      case atStart=>exact ⟨53,0,N,L,by omega,by simp,by simp,hide (by omega),hide (by have:=HH.out;rw [HD.out];omega),hide (by decide),hide (fun _=>by rw [Hlow.out,HD.out]),hlL,hlN,hbd',hbn',hbl',hb'⟩
      case round=>
       clear hbd' hbn' hbl' hb'
       obtain ⟨B,q,M,T,hB,rfl,rfl,Hq,HM,HqB,HT,hlT,hlM,hbd,hbn,hbt,hb⟩:=hrel
       cases B with
       |zero=>
        have hM:M<D:=by have:=HM.out;simpa using this
        have hq0:(0:Int)<=(q:Int):=by omega
        have hq1:(q:Int)<=9007199254740991:=by have:q+1<=9007199254740992:=HqB.out;omega
        generalize hqz:(q:Int)=z at *
        have Hqz:=hide hqz
        clear hqz
        go_wp2_with fail
        refine (cu M 2 0 _ _ rfl rfl _ _ hbn (by omega) (by omega) (by omega)).mono ?_
        rintro e w7 ⟨v5,rfl,hg5,hb7⟩
        have hlM2:(dig (M*2+0)).length<=(dig H).length+1:=Nat.le_trans (f_ (n:=M) (m:=2) (k:=1) (by omega)) (by omega)
        have HC:=hide (sW (M*2+0) D)
        have KEY:=hide (yZ HD.out HH.out Hlow.out HN.out hNH hfin.out hj Hq.out hM)
        generalize M*2+0=M2 at hg5 hlM2 HC KEY
        go_wp2_with (go_at_call 136;refine (gq M2 D _ _ _ hg5 (hbd.below hb7) (by omega) (by omega)).mono ?_;rintro e w8 ⟨rfl,hb8⟩;generalize mQ M2 D=c at *)
        all_goals go_ret
        all_goals refine ⟨_,dD ?_,KEY.out.1,hb.trans ((hb7.trans (hb8.mono hb7.size)).mono hb.size)⟩
        all_goals have WE:WEnd (e0+i-j) z c q D M2:=⟨hj,KEY.out.2,Hqz.out,hq1,HC.out⟩
        all_goals first
         |(have hu:Up c z (z+1):=by first |exact Rh (by assumption)|exact Q9 (by assumption) (by assumption)
           first
            |exact GD WE hu (by assumption) (by assumption)
            |exact Iq WE hu (by assumption) (by assumption)
            |exact wu WE hu (by assumption)
            |exact vO WE hu (by assumption)
            |exact vN WE hu (by assumption) (by assumption))
         |(have hu:Up c z z:=by first |exact Rf (by assumption) (by assumption)|exact Rb (by assumption) (by assumption)
           first
            |exact wu WE hu (by assumption)
            |exact vO WE hu (by assumption)
            |exact vN WE hu (by assumption) (by assumption))
       |succ b=>
        have hT:T=D*2^b:=HT.out (by omega)
        have HT1:=hide hT
        clear hT HT
        by_cases hc:T<=M
        ·have hge3:=qB hc
         go_wp2_with (go_at_call 136;refine (gq M T _ _ _ hbn hbt (by omega) (by omega)).mono ?_;rintro e w7 ⟨rfl,hb7⟩)
         refine (uJ M T _ _ _ (hbn.below hb7) (hbt.below hb7) (by omega) hc).mono ?_
         rintro e w8 ⟨v5,rfl,hg5,hb8⟩
         go_wp2_with fail
         refine (kW T _ _ ((hbt.below hb7).below hb8) (by omega)).mono ?_
         rintro e w9 ⟨v6,rfl,hg6,hb9⟩
         have S:=(oI Hq.out HM.out HqB.out).1 (by rw [<-HT1.out];exact hc)
         rw [<-HT1.out] at S
         have HS:=hide S
         have Hw:=hide (I4 (q:=q) (b:=b) (Nat.le_trans (Nat.le_add_right _ _) S.2.2))
         clear S
         go_wp2
         go_roundw
         case rel=>exact ⟨b,q+2^b,M-T,T/2,by omega,rfl,by rw [Hw.out],hide HS.out.1,hide (by rw [<-HT1.out];exact HS.out.2.1),hide HS.out.2.2,hide (n_ HT1.out),Nat.le_trans (aQ (by omega)) hlT,Nat.le_trans (aQ (by omega)) hlM,((hbd.below hb7).below hb8).below hb9,hg5.below hb9,hg6,hb.trans (((hb7.trans (hb8.mono hb7.size)).trans (hb9.mono (Nat.le_trans hb7.size hb8.size))).mono hb.size)⟩
         case measure=>simp [intOf]
        ·have hlt3:=jX (show M<T by omega)
         have S:=(oI Hq.out HM.out HqB.out).2 (by rw [<-HT1.out];exact hc)
         have HS:=hide S
         clear S
         go_wp2_with (go_at_call 136;refine (gq M T _ _ _ hbn hbt (by omega) (by omega)).mono ?_;rintro e w7 ⟨rfl,hb7⟩)
         refine (kW T _ _ (hbt.below hb7) (by omega)).mono ?_
         rintro e w8 ⟨v6,rfl,hg6,hb8⟩
         go_wp2
         go_roundw
         case rel=>exact ⟨b,q,M,T/2,by omega,rfl,rfl,Hq,hide HS.out.1,hide HS.out.2,hide (n_ HT1.out),Nat.le_trans (aQ (by omega)) hlT,hlM,(hbd.below hb7).below hb8,(hbn.below hb7).below hb8,hg6,hb.trans ((hb7.trans (hb8.mono hb7.size)).mono hb.size)⟩
         case measure=>simp [intOf]
     ·go_wp2
      have hfin:Hid (e0+i-j= -1074∨L<=N):=hide (.inl (by omega))
      have hbd':=hbd
      have hbn':=hbn
      have hbl':=hbl
      have hb':=hb
      clear hbd hbn hbl hb
      go_loopw [0,9,10,11] (MK w D N (dig H).length u1) (fun _ _ _ bv _=>(intOf bv+1).toNat)
      case atStart=>exact ⟨53,0,N,L,by omega,by simp,by simp,hide (by omega),hide (by have:=HH.out;rw [HD.out];omega),hide (by decide),hide (fun _=>by rw [Hlow.out,HD.out]),hlL,hlN,hbd',hbn',hbl',hb'⟩
      case round=>
       clear hbd' hbn' hbl' hb'
       obtain ⟨B,q,M,T,hB,rfl,rfl,Hq,HM,HqB,HT,hlT,hlM,hbd,hbn,hbt,hb⟩:=hrel
       cases B with
       |zero=>
        have hM:M<D:=by have:=HM.out;simpa using this
        have hq0:(0:Int)<=(q:Int):=by omega
        have hq1:(q:Int)<=9007199254740991:=by have:q+1<=9007199254740992:=HqB.out;omega
        generalize hqz:(q:Int)=z at *
        have Hqz:=hide hqz
        clear hqz
        go_wp2_with fail
        refine (cu M 2 0 _ _ rfl rfl _ _ hbn (by omega) (by omega) (by omega)).mono ?_
        rintro e w7 ⟨v5,rfl,hg5,hb7⟩
        have hlM2:(dig (M*2+0)).length<=(dig H).length+1:=Nat.le_trans (f_ (n:=M) (m:=2) (k:=1) (by omega)) (by omega)
        have HC:=hide (sW (M*2+0) D)
        have KEY:=hide (yZ HD.out HH.out Hlow.out HN.out hNH hfin.out hj Hq.out hM)
        generalize M*2+0=M2 at hg5 hlM2 HC KEY
        go_wp2_with (go_at_call 136;refine (gq M2 D _ _ _ hg5 (hbd.below hb7) (by omega) (by omega)).mono ?_;rintro e w8 ⟨rfl,hb8⟩;generalize mQ M2 D=c at *)
        all_goals go_ret
        all_goals refine ⟨_,dD ?_,KEY.out.1,hb.trans ((hb7.trans (hb8.mono hb7.size)).mono hb.size)⟩
        all_goals have WE:WEnd (e0+i-j) z c q D M2:=⟨hj,KEY.out.2,Hqz.out,hq1,HC.out⟩
        all_goals first
         |(have hu:Up c z (z+1):=by first |exact Rh (by assumption)|exact Q9 (by assumption) (by assumption)
           first
            |exact GD WE hu (by assumption) (by assumption)
            |exact Iq WE hu (by assumption) (by assumption)
            |exact wu WE hu (by assumption)
            |exact vO WE hu (by assumption)
            |exact vN WE hu (by assumption) (by assumption))
         |(have hu:Up c z z:=by first |exact Rf (by assumption) (by assumption)|exact Rb (by assumption) (by assumption)
           first
            |exact wu WE hu (by assumption)
            |exact vO WE hu (by assumption)
            |exact vN WE hu (by assumption) (by assumption))
       |succ b=>
        have hT:T=D*2^b:=HT.out (by omega)
        have HT1:=hide hT
        clear hT HT
        by_cases hc:T<=M
        ·have hge3:=qB hc
         go_wp2_with (go_at_call 136;refine (gq M T _ _ _ hbn hbt (by omega) (by omega)).mono ?_;rintro e w7 ⟨rfl,hb7⟩)
         refine (uJ M T _ _ _ (hbn.below hb7) (hbt.below hb7) (by omega) hc).mono ?_
         rintro e w8 ⟨v5,rfl,hg5,hb8⟩
         go_wp2_with fail
         refine (kW T _ _ ((hbt.below hb7).below hb8) (by omega)).mono ?_
         rintro e w9 ⟨v6,rfl,hg6,hb9⟩
         have S:=(oI Hq.out HM.out HqB.out).1 (by rw [<-HT1.out];exact hc)
         rw [<-HT1.out] at S
         have HS:=hide S
         have Hw:=hide (I4 (q:=q) (b:=b) (Nat.le_trans (Nat.le_add_right _ _) S.2.2))
         clear S
         go_wp2
         go_roundw
         case rel=>exact ⟨b,q+2^b,M-T,T/2,by omega,rfl,by rw [Hw.out],hide HS.out.1,hide (by rw [<-HT1.out];exact HS.out.2.1),hide HS.out.2.2,hide (n_ HT1.out),Nat.le_trans (aQ (by omega)) hlT,Nat.le_trans (aQ (by omega)) hlM,((hbd.below hb7).below hb8).below hb9,hg5.below hb9,hg6,hb.trans (((hb7.trans (hb8.mono hb7.size)).trans (hb9.mono (Nat.le_trans hb7.size hb8.size))).mono hb.size)⟩
         case measure=>simp [intOf]
        ·have hlt3:=jX (show M<T by omega)
         have S:=(oI Hq.out HM.out HqB.out).2 (by rw [<-HT1.out];exact hc)
         have HS:=hide S
         clear S
         go_wp2_with (go_at_call 136;refine (gq M T _ _ _ hbn hbt (by omega) (by omega)).mono ?_;rintro e w7 ⟨rfl,hb7⟩)
         refine (kW T _ _ (hbt.below hb7) (by omega)).mono ?_
         rintro e w8 ⟨v6,rfl,hg6,hb8⟩
         go_wp2
         go_roundw
         case rel=>exact ⟨b,q,M,T/2,by omega,rfl,rfl,Hq,hide HS.out.1,hide HS.out.2,hide (n_ HT1.out),Nat.le_trans (aQ (by omega)) hlT,hlM,(hbd.below hb7).below hb8,(hbn.below hb7).below hb8,hg6,hb.trans ((hb7.trans (hb8.mono hb7.size)).mono hb.size)⟩
         case measure=>simp [intOf]
end Go.Proofs.YtjibjahfbblieaaGreatDoor.F
namespace Go.Proofs.YtjibjahfbblieaaGreatDoor.F
open Go Go.RowKit
set_option linter.unusedVariables false
def mg (w:World) (v:Value) (l:List Int):Prop:=
 ∃ g cap,v=.slice (some ⟨g,0,none⟩) l.length cap/\l.length<=cap/\cap<=maxLen/\g<w.heap.size/\
   ∀ j,j<l.length->w.cell? ⟨g,j,none⟩=some (.int .u8 (l.getD j 0))
def aB (N:Nat) (E:Int) (W:Nat):Prop:=aC (N*10^E.toNat*2^1074) (10^(-E).toNat) W
theorem AX (a b d:Nat) (hd:0<d):aC (0*a*b) d 0:=by
 rw [Nat.zero_mul,Nat.zero_mul];exact o_ (by omega)
theorem kM (E:Int):aB 0 E 0:=AX _ _ _ (Nat.pow_pos (by omega))
theorem oF {N:Nat} {E:Int} (h:(aK N:Int)+E< -330):aB N E 0:=Fu h
theorem lg {N:Nat} {E:Int} (hN:N≠0) (h:310<(aK N:Int)+E):aB N E ak:=by
 obtain ⟨W,hW⟩:=qI (N*10^E.toNat*2^1074) (d:=10^(-E).toNat) (Nat.pow_pos (by omega))
 have:=IJ hN h hW
 subst this
 exact hW
theorem yt {N:Nat} {E:Int} {W:Nat} (h:aC (N*10^E.toNat*2^((0:Int)+1074).toNat) (10^(-E).toNat*2^(-1074-(0:Int)).toNat) W):aB N E W:=by
 unfold aB
 have e1:((0:Int)+1074).toNat=1074:=rfl
 have e2:(-1074-(0:Int)).toNat=0:=rfl
 rw [e1,e2,Nat.pow_zero,Nat.mul_one] at h
 exact h
theorem Kk {N a k:Nat} (h:aK N+a<=k):(dig (N*10^a)).length<=k:=by
 have h0:=iT N
 have h1:N*10^a<10^(aK N+a):=by rw [Nat.pow_add];exact Nat.mul_lt_mul_of_pos_right h0 (Nat.pow_pos (by omega))
 exact bJ (Nat.lt_of_lt_of_le h1 (Nat.le_trans (Nat.pow_le_pow_right (by omega) h) (Nat.pow_le_pow_left (by omega) k)))
theorem rU {l:List Int} {k:Nat} (h:k<l.length):l.getD k 0∈l:=by rw [getD_lt h];exact List.getElem_mem h
theorem EC {l:List Int} {k:Nat} (h:k<l.length):dval (l.take (k+1))=dval (l.take k)*10+(l.getD k 0-48).toNat:=by
 rw [List.take_succ_eq_append_getElem h,gK,getD_lt h]
theorem ow {n:Nat}:0<(dig n).length↔n≠0:=by
 constructor
 ·intro h e;subst e;rw [dz] at h;simp at h
 ·intro h;rw [fT h];simp
theorem CW (w:World):Big (w.alloc (.cells #[.int .i64 1] 3)) (.slice (some ⟨w.heap.size,0,none⟩) 1 1) (dig 1):=by
 have e:dig 1=[1]:=by rw [fT (by omega)];simp [dz]
 rw [e]
 exact iD (B:=w.heap.size) (World.ownsRow_lit (base:=w.heap.size) (e:=3) (size:=1) w #[.int .i64 1] 1 (Nat.le_refl _) (by simp [maxLen]) rfl) (fun h=>by cases h)
theorem uQ (n k:Nat) (K:Int) (hK:K=(k:Int)) (v:Value) (w:World) (h:Big w v (dig n)) (hn:n≠0) (hl:(dig n).length+k<=100000):
 Calls Tryz.prog 121 #[v,.int .i64 K] w fun e w'=>∃ v',e=.returned v'/\Big w' v' (dig (n*10^k))/\Below w.heap.size w w':=by
 subst hK;exact EX n k v w h hn hl
def Mx (w:World) (N:Nat) (E:Int) (e:Ending) (w':World):Prop:=
 ∃ (W:Nat) (ok:Bool) (W0:Nat),e=.returned (.tuple #[.int .u64 W,.bool ok])/\aB N E W0/\ok=(W0 !=ak)/\(ok=true->W=W0)/\Below w.heap.size w w'
theorem jc {w:World} {N:Nat} {E:Int} {e:Ending} {w':World} (W:Nat) (ok:Bool) (W0:Nat) (h1:e=.returned (.tuple #[.int .u64 W,.bool ok])) (h2:aB N E W0) (h3:ok=(W0 !=ak)) (h4:ok=true->W=W0)
 (h5:Below w.heap.size w w'):Mx w N E e w':=⟨W,ok,W0,h1,h2,h3,h4,h5⟩
set_option maxHeartbeats 1600000 in
set_option maxRecDepth 100000 in
theorem p8 (l:List Int) (E:Int) (v:Value) (w:World) (h:mg w v l) (hl:l.length<=101) (hd:∀ c∈l,48<=c/\c<=57) (hE1: -1200<=E) (hE2:E<=1200):
 Calls Tryz.prog 104 #[v,.int .i64 E] w fun e w'=>Mx w (dval l) E e w':=by
 obtain ⟨g,cap,rfl,h2,h3,h4,h5⟩:=h
 unfold maxLen at h3
 have Hd:=hide hd
 have Hsz:=hide (jG l hd)
 clear hd
 have Htl:Hid (l.take l.length=l):=hide (List.take_length)
 generalize hlen:l.length=len at *
 have Hlen:=hide hlen
 clear hlen
 go_enter Tryz.func104,Tryz.ntmps104
 go_wp2
 go_loopw [6,7,15] (fun nv sv iv wr=>∃ k N s:Nat,k<=len/\iv=.int .i64 k/\Hid (N=dval (l.take k))/\Big wr nv (dig N)/\sv=.int .i64 s/\s<=k/\Hid (s=aK N)/\(dig N).length<=k/\Below w.heap.size w wr) (fun _ _ iv _=>len-(intOf iv).toNat)
 case atStart=>
  exact ⟨0,0,0,Nat.zero_le _,rfl,hide rfl,by rw [dz];exact (ny w).big,rfl,Nat.le_refl _,hide (by rw [cZ]),by rw [dz];simp,(Below.refl _ _).alloc (Nat.le_refl _) _⟩
 case round=>
  obtain ⟨k,N,s,hk,rfl,HN,hbig,rfl,hsk,Hs,hlN,hb⟩:=hrel
  by_cases hlt:k<len
  ·have hcx:wr.cell? ⟨g,k,none⟩=some (.int .u8 (l.getD k 0)):=(hb.cell (by exact h4)).trans (h5 k (by omega))
   have hc:=Hd.out _ (rU (l:=l) (k:=k) (by rw [Hlen.out];exact hlt))
   have HS:=hide (EC (l:=l) (k:=k) (by rw [Hlen.out];exact hlt))
   generalize l.getD k 0=c at *
   go_wp2_with fail
   refine (cu N 10 (c-48).toNat _ _ rfl (by omega) _ _ hbig (by omega) (by omega) (by omega)).mono ?_
   rintro e w1 ⟨v1,rfl,hbig1,hb1⟩
   have hlen1:(dig (N*10+(c-48).toNat)).length<=k+1:=bJ (by
    have h1:=dR N
    have h2:10000^(dig N).length<=10000^k:=Nat.pow_le_pow_right (by omega) hlN
    rw [Nat.pow_succ];omega)
   have HN1:Hid (N*10+(c-48).toNat=dval (l.take (k+1))):=hide (by rw [HS.out,HN.out])
   have Hs1:=hide (jr N (c-48).toNat (by omega))
   have Hp:=hide (ow (n:=N*10+(c-48).toNat))
   have HNz:Hid (N*10+(c-48).toNat=0->N=0):=hide (by omega)
   generalize N*10+(c-48).toNat=N1 at *
   obtain ⟨g1,cap1,hv1⟩:=hbig1.len
   subst hv1
   by_cases hp:0<(dig N1).length
   ·go_wp2
    go_roundw
    case rel=>exact ⟨k+1,N1,s+1,by omega,by go_num,HN1,hbig1,by go_num,by omega,hide (by rw [Hs1.out,if_neg (Hp.out.1 hp),Hs.out]),hlen1,hb.trans (hb1.mono hb.size)⟩
    case measure=>simp [intOf];omega
   ·have hN0:N1=0:=Decidable.byContradiction fun hh=>hp (Hp.out.2 hh)
    have HN0:=hide hN0
    clear hN0
    have Hs0:Hid (s=aK N1):=hide (by
     have h1:=HNz.out HN0.out
     rw [Hs.out,HN0.out,h1])
    go_wp2
    go_roundw
    case rel=>exact ⟨k+1,N1,s,by omega,by go_num,HN1,hbig1,rfl,by omega,Hs0,hlen1,hb.trans (hb1.mono hb.size)⟩
    case measure=>simp [intOf];omega
  ·have hkl:k=len:=by omega
   subst hkl
   have HNl:Hid (N=dval l):=hide (by rw [HN.out,Htl.out])
   obtain ⟨g1,cap1,hv1⟩:=hbig.len
   subst hv1
   by_cases hN0:N=0
   ·have hz:(((dig N).length:Int)==0)=true:=by rw [hN0,dz];rfl
    have HN0:=hide hN0
    clear hN0
    go_wp2
    go_ret2
    exact jc 0 true 0 rfl (by rw [<-HNl.out,HN0.out];exact kM E) rfl (fun _=>rfl) hb
   ·have hpos:=ow.2 hN0
    have hz:(((dig N).length:Int)==0)=false:=by rw [beq_eq_false_iff_ne];omega
    have HN0:=hide hN0
    clear hN0
    by_cases hlo:(s:Int)+E< -330
    ·go_wp2
     go_ret2
     exact jc 0 true 0 rfl (by rw [<-HNl.out];exact oF (by rw [<-Hs.out];exact hlo)) rfl (fun _=>rfl) hb
    ·by_cases hhi:310<(s:Int)+E
     ·go_wp2
      go_ret2
      exact jc 0 false ak rfl (by rw [<-HNl.out];exact lg HN0.out (by rw [<-Hs.out];exact hhi)) (by simp) (fun h=>by cases h) hb
     ·by_cases hE:0<=E
      ·go_wp2_with fail
       refine (uQ N E.toNat _ (by omega) _ _ (hbig.below ((Below.refl _ _).alloc (Nat.le_refl _) _)) HN0.out (by omega)).mono ?_
       rintro e w1 ⟨v1,rfl,hg1,hb1⟩
       have hlen1:(dig (N*10^E.toNat)).length<=1000:=Nat.le_trans (Kk (N:=N) (a:=E.toNat) (k:=310) (by rw [<-Hs.out];omega)) (by omega)
       have hone:=(CW wr).below hb1
       go_wp2_with fail
       refine (xH (N*10^E.toNat) 1 0 _ _ _ hg1 hone (by omega) hlen1 (by have:=bJ (n:=1) (k:=1) (by omega);omega) (by omega) (by omega) (Nat.mul_ne_zero HN0.out (Nat.pos_iff_ne_zero.1 (Nat.pow_pos (by omega))))).mono ?_
       rintro e w2 ⟨W,rfl,hW,hb2⟩
       have HW:Hid (aB (dval l) E W):=hide (by
        refine yt (N:=dval l) (E:=E) ?_
        have e1:(-E).toNat=0:=by omega
        rw [e1,<-HNl.out]
        exact hW)
       clear hW
       have hb012:Below wr.heap.size wr w2:=((((Below.refl _ _).alloc (Nat.le_refl _) _).trans (hb1.mono (by simp))).trans (hb2.mono (by have:=hb1.size;simp at this;omega)))
       by_cases hWi:W=ak
       ·have hwb:((W:Int) !=9218868437227405312)=false:=by rw [hWi];rfl
        have HWi:=hide hWi
        clear hWi
        go_wp2
        go_ret2
        exact jc W false W rfl HW.out (by rw [HWi.out];simp) (fun h=>by cases h) (hb.trans (hb012.mono hb.size))
       ·have hwb:((W:Int) !=9218868437227405312)=true:=by rw [bne_iff_ne];unfold ak at hWi;omega
        have HWi:=hide hWi
        clear hWi
        go_wp2
        go_ret2
        exact jc W true W rfl HW.out (by have:=HWi.out;simp [this]) (fun _=>rfl) (hb.trans (hb012.mono hb.size))
      ·go_wp2_with fail
       refine (uQ 1 (-E).toNat _ (by omega) _ _ (CW wr) (by omega) (by have:=bJ (n:=1) (k:=1) (by omega);omega)).mono ?_
       rintro e w1 ⟨v1,rfl,hg1,hb1⟩
       have hlen1:(dig (1*10^(-E).toNat)).length<=2000:=by
        have h1:=kT 1 (-E).toNat
        have h2:=bJ (n:=1) (k:=1) (by omega)
        omega
       have hn1:=(hbig.below ((Below.refl _ _).alloc (Nat.le_refl _) (.cells #[.int .i64 1] 3))).below hb1
       go_wp2_with fail
       refine (xH N (1*10^(-E).toNat) 0 _ _ _ hn1 hg1 (Nat.mul_ne_zero (by omega) (Nat.pos_iff_ne_zero.1 (Nat.pow_pos (by omega)))) (by omega) hlen1 (by omega) (by omega) HN0.out).mono ?_
       rintro e w2 ⟨W,rfl,hW,hb2⟩
       have HW:Hid (aB (dval l) E W):=hide (by
        refine yt (N:=dval l) (E:=E) ?_
        have e1:E.toNat=0:=by omega
        rw [e1,<-HNl.out,Nat.pow_zero,Nat.mul_one]
        rw [Nat.one_mul] at hW
        exact hW)
       clear hW
       have hb012:Below wr.heap.size wr w2:=((((Below.refl _ _).alloc (Nat.le_refl _) _).trans (hb1.mono (by simp))).trans (hb2.mono (by have:=hb1.size;simp at this;omega)))
       by_cases hWi:W=ak
       ·have hwb:((W:Int) !=9218868437227405312)=false:=by rw [hWi];rfl
        have HWi:=hide hWi
        clear hWi
        go_wp2
        go_ret2
        exact jc W false W rfl HW.out (by rw [HWi.out];simp) (fun h=>by cases h) (hb.trans (hb012.mono hb.size))
       ·have hwb:((W:Int) !=9218868437227405312)=true:=by rw [bne_iff_ne];unfold ak at hWi;omega
        have HWi:=hide hWi
        clear hWi
        go_wp2
        go_ret2
        exact jc W true W rfl HW.out (by have:=HWi.out;simp [this]) (fun _=>rfl) (hb.trans (hb012.mono hb.size))
end Go.Proofs.YtjibjahfbblieaaGreatDoor.F
namespace Go.Proofs.YtjibjahfbblieaaGreatDoor
open Go
set_option maxRecDepth 100000
theorem Iy:Tryz.f3.isInstance Tryz.prog Rows.fnExactListRow.origin Rows.fnExactListRow.targs:=of_decide_eq_true (by kernel_rfl)
theorem Gx:Tryz.prog.funcNamed Rows.fnExactListRow.func=some 3:=by kernel_rfl
end Go.Proofs.YtjibjahfbblieaaGreatDoor
