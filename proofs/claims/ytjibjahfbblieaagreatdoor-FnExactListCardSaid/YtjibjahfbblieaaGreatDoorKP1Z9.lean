import Derived.Test.YtjibjahfbblieaaGreatDoorKShelf2
import Derived.Test.YtjibjahfbblieaaGreatDoorKLO
import Derived.Deep.RegionHeld3
import Derived.Test.YtjibjahfbblieaaGreatDoorKBR
import Derived.Test.YtjibjahfbblieaaGreatDoorKMC1
import Derived.Lib.QuietBelow
namespace Go.Proofs.YtjibjahfbblieaaGreatDoor
open Go Go.RowKit
set_option linter.unusedVariables false
theorem Pp (p:PV) (k:Nat):(jmp (p.i0 k)&&inI (p.i2 k) 0 ((p.ni:Int)-1))=mJ p k:=Gh p k
set_option maxHeartbeats 3200000 in
set_option maxRecDepth 100000 in
theorem yP (p:PV) (v:Value) (w:World) (hn:p.ni<=65535) (h:jQ w v p.ni p.i0 p.i1 p.i2 p.i3):
 Calls Tryz.prog 75 #[v] w fun e w'=>∃ g m,e=.returned (.map (some g))/\w.heap.size<=g/\fQ w' g p.ni m (aH p p.ni) (lbl p)/\Below w.heap.size w w':=by
 have HI:=hide h
 obtain ⟨a,cap,rfl⟩:=h.val
 clear h
 have hn2:p.ni<=1048576:=by omega
 have HS0:=hide (fP.new w p.ni)
 have HB0:=hide (MJ w)
 have hmk:=Qf
 go_enter Tryz.func75,Tryz.ntmps75
 go_upto_region 2 with (fail)
 clear hmk
 generalize w.alloc (.map #[] 0)=w1 at *
 obtain ⟨Z,hZ⟩:∃ Z,w.heap.size=Z:=⟨_,rfl⟩
 rw [hZ] at HS0 HB0 ⊢
 have HZ:=hide hZ
 clear hZ
 go_wp2_with fail
 go_loopw [12] (fun iv wr=>∃ k:Nat,k<=p.ni/\iv=.int .i64 (k:Int)/\Hid (fP wr Z p.ni (fun q=>aH p k q))/\Hid (Below Z w wr)) (fun iv _=>p.ni-gX iv)
 case atStart=>exact ⟨0,Nat.zero_le _,rfl,hide (HS0.out.congr (fun q _=>rfl)),HB0⟩
 case round=>
  clear HS0 HB0
  obtain ⟨k,hk,rfl,HS,HB⟩:=hrel
  have hZr:Z<wr.heap.size:=HS.out.lt
  by_cases hkn:k<p.ni
  ·obtain ⟨b,o,cap',hv,hb,c0,c1,c2,c3⟩:=sV (HI.out.low HB.out (by have:=HZ.out;omega)) hkn
   simp only [Value.slice.injEq,true_and] at hv
   obtain ⟨rfl,rfl⟩:=hv
   obtain ⟨wi,hwi⟩:∃ wi,wr.alloc (.cells #[.int .i64 (p.i0 k),.int .i64 (p.i1 k),.int .i64 (p.i2 k),.int .i64 (p.i3 k)] 45)=wi:=⟨_,rfl⟩
   have hB:=b_1 wr (.cells #[.int .i64 (p.i0 k),.int .i64 (p.i1 k),.int .i64 (p.i2 k),.int .i64 (p.i3 k)] 45)
   rw [hwi] at hB
   have HS9:=hide (HS.out.low hB hZr)
   have HB9:=hide (HB.out.trans (hB.mono (Nat.le_of_lt hZr)))
   have i0:wi.cell? ⟨wr.heap.size,0,none⟩=some (.int .i64 (p.i0 k)):=by rw [<-hwi];simp
   have i2:wi.cell? ⟨wr.heap.size,2,none⟩=some (.int .i64 (p.i2 k)):=by rw [<-hwi];simp
   have hij:=Pp p k
   clear hB
   by_cases hJ:mJ p k=true
   ·have hj1:jmp (p.i0 k)=true:=by
     unfold mJ at hJ
     simp only [Bool.and_eq_true] at hJ
     exact hJ.1.1
    obtain ⟨q,hq⟩:∃ q:Nat,p.i2 k=(q:Int):=by
     unfold mJ at hJ
     simp only [Bool.and_eq_true,decide_eq_true_eq] at hJ
     exact ⟨(p.i2 k).toNat,by omega⟩
    have hq2:q<p.ni:=by
     unfold mJ at hJ
     simp only [Bool.and_eq_true,decide_eq_true_eq] at hJ
     omega
    have hin:inI (q:Int) 0 ((p.ni:Int)-1)=true:=by
     rw [hj1,hJ,hq] at hij
     simpa using hij
    have Hs:Hid (∀ j,aH p (k+1) j=(aH p k j||decide (j=q))):=hide (fun j=>by
     rw [nH,hJ,hq]
     by_cases e:j=q
     ·subst e;simp
     ·have:¬ ((q:Int)=(j:Int)):=by omega
      simp [e,this])
    rw [hq] at c2 i2 hwi
    clear hij hJ hq
    go_wp2_with (first
     |(go_at_call 95;refine (jq _ _).mono ?_;rintro e w9 ⟨rfl,rfl⟩)
     |(go_at_call 88;refine (jh _ _ _ _).mono ?_;rintro e w9 ⟨rfl,rfl⟩)
     |(go_at_call 96
       refine (JR HS9.out hn2 hq2).mono ?_
       rintro e w3 ⟨rfl,hS3,hk3⟩
       have HS3:=hide (hS3.congr (fun j _=>Hs.out j))
       have HB3:=hide (HB9.out.trans (hk3.below (B:=Z) (by have:=hk3.size;have:=HB9.out.size;have:=HS9.out.lt;omega) (fun b e=>by omega)))
       clear hS3 hk3)
     |fail)
    go_roundw
    case rel=>exact ⟨k+1,by omega,by simp,HS3,HB3⟩
    case measure=>simp [gX];omega
   ·simp only [Bool.not_eq_true] at hJ
    have HS8:Hid (fP wi Z p.ni (fun q=>aH p (k+1) q)):=hide (HS9.out.congr (fun j _=>by rw [nH,hJ];simp))
    rw [hJ] at hij
    clear hJ
    by_cases hj1:jmp (p.i0 k)=true
    ·have hin:inI (p.i2 k) 0 ((p.ni:Int)-1)=false:=by
      rw [hj1] at hij
      simpa using hij
     clear hij
     go_wp2_with (first
      |(go_at_call 95;refine (jq _ _).mono ?_;rintro e w9 ⟨rfl,rfl⟩)
      |(go_at_call 88;refine (jh _ _ _ _).mono ?_;rintro e w9 ⟨rfl,rfl⟩)
      |fail)
     go_roundw
     case rel=>exact ⟨k+1,by omega,by simp,HS8,HB9⟩
     case measure=>simp [gX];omega
    ·simp only [Bool.not_eq_true] at hj1
     clear hij
     go_wp2_with (first
      |(go_at_call 95;refine (jq _ _).mono ?_;rintro e w9 ⟨rfl,rfl⟩)
      |(go_at_call 88;refine (jh _ _ _ _).mono ?_;rintro e w9 ⟨rfl,rfl⟩)
      |fail)
     go_roundw
     case rel=>exact ⟨k+1,by omega,by simp,HS8,HB9⟩
     case measure=>simp [gX];omega
  ·obtain rfl:k=p.ni:=by omega
   have HL0:=hide (fQ.new wr p.ni (lbl p))
   have hB:=MJ wr
   have HS1:=hide (HS.out.low hB hZr)
   have HB1:=hide (HB.out.trans (hB.mono (Nat.le_of_lt hZr)))
   have hmk:=Px
   clear HS HB hB
   go_upto_region 9 with (fail)
   clear hmk
   generalize wr.alloc (.map #[] 0)=w2 at *
   generalize hG:wr.heap.size=G at *
   have hZG:Z<=G:=by omega
   clear hG
   have hG2:G<w2.heap.size:=HL0.out.lt
   go_upto_region 10 with (first
    |(go_at_call 97
      refine (zq HS1.out hn2).mono ?_
      rintro e w3 ⟨sv,rfl,hrow,hb3⟩
      have HR:=hide hrow
      obtain ⟨sa,sc,hsv⟩:=eH hrow
      have HL3:=hide (HL0.out.low hb3 hG2)
      have HB3:=hide (HB1.out.trans (hb3.mono (Nat.le_of_lt HS1.out.lt)))
      have hs3:=hb3.size
      clear hrow hb3
      subst hsv)
    |fail)
   obtain ⟨N,hN⟩:∃ N,(ls p.ni (fun q=>aH p p.ni q)).length=N:=⟨_,rfl⟩
   have hN9:N<=65535:=by have:=Jc p.ni (fun q=>aH p p.ni q);omega
   rw [hN] at HR ⊢
   have HN:=hide hN
   clear hN HS1 HB1 HL0
   generalize hW2:w2.heap.size=X2 at *
   have hX3:X2<=w3.heap.size:=hs3
   clear hW2
   go_loopw [36] (fun iv wr=>∃ k:Nat,k<=N/\iv=.int .i64 (k:Int)/\Hid (∃ m,m<=k/\fQ wr G p.ni m (fun q=>aH p p.ni q&&decide (lbl p q<k)) (lbl p))/\Hid (wr.ownsRow X2 3 1 (.slice sa N sc) N (IK (ls p.ni (fun q=>aH p p.ni q))))/\Hid (Below Z w wr)) (fun iv _=>N-gX iv)
   case atStart=>exact ⟨0,Nat.zero_le _,rfl,hide (by
    obtain ⟨m,hm⟩:∃ m,m=0:=⟨0,rfl⟩
    exact ⟨0,Nat.le_refl _,HL3.out.congr (fun q _=>by simp)⟩),HR,HB3⟩
   case round=>
    clear HL3 HB3 HR
    obtain ⟨k,hk,rfl,HL,HR,HB⟩:=hrel
    by_cases hkN:k<N
    ·obtain ⟨q,hq⟩:∃ q,(ls p.ni (fun q=>aH p p.ni q))[k]?=some q:=⟨_,List.getElem?_eq_getElem (by rw [HN.out];exact hkN)⟩
     obtain ⟨q1,q2,q3⟩:=(BO p.ni).1 hq
     rw [Bb] at q3
     obtain ⟨g,cap3,hv,hg,hc⟩:=ints_at (by rw [HN.out];exact HR.out) hq
     rw [HN.out] at hv
     simp only [Value.slice.injEq,true_and] at hv
     obtain ⟨rfl,rfl⟩:=hv
     obtain ⟨m,hm1,hm2⟩:=HL.out
     obtain ⟨w4,hput,hl4,hk4⟩:=hm2.put hn2 (by omega) q1 (v:=k) q3.symm (by omega)
     have hne:G≠g:=by
      intro e
      obtain ⟨D,⟨es,clk,h9,_⟩,_⟩:=hm2
      obtain ⟨cur,h8,_⟩:=gZ HR.out rfl
      rw [e] at h9
      rw [h9] at h8;cases h8
     have HL4:=hide (show ∃ m,m<=k+1/\fQ w4 G p.ni m (fun q=>aH p p.ni q&&decide (lbl p q<k+1)) (lbl p) from ⟨m+1,by omega,hl4.congr (fun j hj=>by
      by_cases e:j=q
      ·subst e
       simp only [decide_true,Bool.or_true]
       rw [q2,q3]
       simp
      ·cases ha:aH p p.ni j with
       |false=>simp [e]
       |true=>
        have:lbl p j≠k:=fun e2=>by
         have h5:=(BO (s:=fun q=>aH p p.ni q) (j:=k) (q:=j) p.ni).2 ⟨hj,ha,by rw [Bb];exact e2⟩
         rw [hq] at h5
         cases h5
         exact e rfl
        have:(lbl p j<k+1)=(lbl p j<k):=propext ⟨fun h=>by omega,fun h=>by omega⟩
        simp [e,this])⟩)
     have HR4:=hide (um HR.out hk4 (fun g' e e2=>by
      simp [Value.ownBlock] at e
      omega))
     have HB4:=hide (HB.out.trans (hk4.below (B:=Z) (by have:=HB.out.size;have:=hm2.lt;omega) (fun b e=>by omega)))
     clear hl4 hk4 hm1 hm2 hq q2 q3 HL HB
     go_wp2_with fail
     go_roundw
     case rel=>exact ⟨k+1,by omega,by simp,HL4,HR4,HB4⟩
     case measure=>simp [gX];omega
    ·obtain rfl:k=N:=by omega
     go_wp2_with fail
     go_ret
     obtain ⟨m,hm1,hm2⟩:=HL.out
     have hz:=HZ.out
     refine ⟨G,m,rfl,by omega,hm2.congr (fun j hj=>?_),by rw [hz];exact HB.out⟩
     cases ha:aH p p.ni j with
     |false=>rfl
     |true=>
      have h5:=(BO (s:=fun q=>aH p p.ni q) (j:=lbl p j) (q:=j) p.ni).2 ⟨hj,ha,by rw [Bb]⟩
      obtain ⟨h6,_⟩:=List.getElem?_eq_some_iff.1 h5
      rw [HN.out] at h6
      simp [h6]
theorem PE.drew {w:World} (h:PE w):PE w.drew:=h.low ((Below.refl _ _).drew)
theorem sQ (a b c d e f g h:List UInt8) (w:World) (hl:(bG [a,b,c,d,e,f,g,h]).length<=1000000):
 Calls Tryz.prog 91 #[.string ⟨#[]⟩,.slice (some ⟨w.heap.size,0,none⟩) 8 8] (w.alloc (.cells #[.string (bT a),.string (bT b),.string (bT c),.string (bT d),.string (bT e),.string (bT f),.string (bT g),.string (bT h)] 9)) fun e' w'=>e'=.returned (.string (bT (bG [a,b,c,d,e,f,g,h])))/\Below w.heap.size w w':=by
 refine (mY [] w.heap.size [a,b,c,d,e,f,g,h] 8 _ (by simp) (fun j x hx=>?_) (by simp) (by simp) (by simp) hl).mono ?_
 ·match j,hx with
  |0,hx=>simp at hx;subst hx;simp
  |1,hx=>simp at hx;subst hx;simp
  |2,hx=>simp at hx;subst hx;simp
  |3,hx=>simp at hx;subst hx;simp
  |4,hx=>simp at hx;subst hx;simp
  |5,hx=>simp at hx;subst hx;simp
  |6,hx=>simp at hx;subst hx;simp
  |7,hx=>simp at hx;subst hx;simp
  |j+8,hx=>simp at hx
 ·rintro e' w' ⟨rfl,hb⟩
  exact ⟨by simp,(b_1 w _).trans (hb.mono (by simp))⟩
def headW (p:PV):List (List UInt8):=[[102,117,110,99,116,105,111,110],aW p.line,[112,97,114,97,109,115],aW p.params,[100,111,116,115],aW (if p.dots then 1 else 0),[114,101,103,115],aW p.regs]
set_option maxHeartbeats 3200000 in
set_option maxRecDepth 100000 in
theorem wL (p:PV) (s4 s5 s6 s7:Value) (w:World) (hw:Wri p) (hE:PE w):
 Calls Tryz.prog 72 #[p.agg s4 s5 s6 s7] w fun e w'=>e=.returned (.string (bT (bG (headW p))))/\Below w.heap.size w w':=by
 obtain ⟨⟨p0,p1⟩,⟨r0,r1⟩,⟨l0,l1⟩,-⟩:=hw.head
 have BP:Hid (lD p.params):=hide ⟨by omega,by omega⟩
 have BR:Hid (lD p.regs):=hide ⟨by omega,by omega⟩
 have BL:Hid (lD p.line):=hide ⟨by omega,by omega⟩
 have BD:Hid (∀ b:Bool,lD (if b then 1 else 0)):=hide (fun b=>by cases b<;>exact ⟨by decide,by decide⟩)
 have HP1:=hide (dA.mk w p s4 s5 s6 s7)
 have HB1:=hide (b_1 w (iO p s4 s5 s6 s7))
 have HE1:=hide (hE.low HB1.out)
 have HL:Hid (∀ b:Bool,(bG [[102,117,110,99,116,105,111,110],aW p.line,[112,97,114,97,109,115],aW p.params,[100,111,116,115],aW (if b then 1 else 0),[114,101,103,115],aW p.regs]).length<=1000000):=hide (fun b=>by
  have a:=eZ BP.out
  have b':=eZ BR.out
  have c:=eZ BL.out
  have d:=eZ (BD.out b)
  simp [bG,Lib.join]
  omega)
 clear p0 p1 r0 r1 l0 l1 hE hw
 unfold PV.agg headW
 have B0:Hid (lD 0):=hide ⟨by decide,by decide⟩
 have B1:Hid (lD 1):=hide ⟨by decide,by decide⟩
 replace HL:=hide (HL.out p.dots)
 generalize hW1:w.alloc (iO p s4 s5 s6 s7)=w1 at HP1 HB1 HE1
 unfold iO at hW1
 obtain ⟨q10,q11,q12,q13,-,-,-,-⟩:=dA.all HP1.out
 have hl1:w.heap.size<w1.heap.size:=ah.lt HP1.out
 rcases Bool.eq_false_or_eq_true p.dots with hd|hd
 ·rw [hd] at hW1 HL
  rw [hd]
  have hv:(if true=true then (1:Int) else 0)=1:=rfl
  rw [hv] at HL ⊢
  clear hv
  go_enter Tryz.func72,Tryz.ntmps72
  go_wp2_with fail
  go_region_held3 (fun w9=>w9.cell? ⟨w.heap.size,0,none⟩=some (.int .i64 p.params)/\w9.cell? ⟨w.heap.size,1,none⟩=some (.int .i64 p.regs)/\w9.cell? ⟨w.heap.size,2,none⟩=some (.int .i64 p.line)) (go_keep)
   (first
     |(have _z:=HB5
       go_at_call 91
       clear _z
       refine (sQ [102,117,110,99,116,105,111,110] (aW p.line) [112,97,114,97,109,115] (aW p.params) [100,111,116,115] (aW 1) [114,101,103,115] (aW p.regs) w5 HL.out).mono ?_
       rintro e w6 ⟨rfl,hb⟩
       have HB6:=hide (HB5.out.trans (hb.mono HB5.out.size))
       have HP6:=hide (dA.low HP5.out hb (ah.lt HP5.out))
       obtain ⟨q60,q61,q62,q63,-,-,-,-⟩:=dA.all HP6.out
       clear hb)
     |(have _z:=HB4
       go_at_call 92
       clear _z
       refine (bW BR.out _ HE4.out.tab).mono ?_
       rintro e w5 ⟨rfl,hb⟩
       have HB5:=hide (HB4.out.trans (hb.mono HB4.out.size))
       have HE5:=hide (HE4.out.low hb)
       have HP5:=hide (dA.low HP4.out hb (ah.lt HP4.out))
       obtain ⟨q50,q51,q52,q53,-,-,-,-⟩:=dA.all HP5.out
       clear hb)
     |(have _z:=HB3
       go_at_call 92
       clear _z
       refine (bW B1.out _ HE3.out.tab).mono ?_
       rintro e w4 ⟨rfl,hb⟩
       have HB4:=hide (HB3.out.trans (hb.mono HB3.out.size))
       have HE4:=hide (HE3.out.low hb)
       have HP4:=hide (dA.low HP3.out hb (ah.lt HP3.out))
       obtain ⟨q40,q41,q42,q43,-,-,-,-⟩:=dA.all HP4.out
       clear hb)
     |(have _z:=HB2
       go_at_call 92
       clear _z
       refine (bW BP.out _ HE2.out.tab).mono ?_
       rintro e w3 ⟨rfl,hb⟩
       have HB3:=hide (HB2.out.trans (hb.mono HB2.out.size))
       have HE3:=hide (HE2.out.low hb)
       have HP3:=hide (dA.low HP2.out hb (ah.lt HP2.out))
       obtain ⟨q30,q31,q32,q33,-,-,-,-⟩:=dA.all HP3.out
       clear hb)
     |(have _z:=HB1
       go_at_call 92
       clear _z
       refine (bW BL.out _ HE1.out.drew.tab).mono ?_
       rintro e w2 ⟨rfl,hb⟩
       replace hb:=dL hb
       have HB2:=hide (HB1.out.trans (hb.mono HB1.out.size))
       have HE2:=hide (HE1.out.low hb)
       have HP2:=hide (dA.low HP1.out hb (ah.lt HP1.out))
       obtain ⟨q20,q21,q22,q23,-,-,-,-⟩:=dA.all HP2.out
       clear hb))
  go_wp2_with fail
  go_ret
  exact ⟨rfl,HB6.out⟩
 ·rw [hd] at hW1 HL
  rw [hd]
  have hv:(if false=true then (1:Int) else 0)=0:=rfl
  rw [hv] at HL ⊢
  clear hv
  go_enter Tryz.func72,Tryz.ntmps72
  go_wp2_with fail
  go_region_held3 (fun w9=>w9.cell? ⟨w.heap.size,0,none⟩=some (.int .i64 p.params)/\w9.cell? ⟨w.heap.size,1,none⟩=some (.int .i64 p.regs)/\w9.cell? ⟨w.heap.size,2,none⟩=some (.int .i64 p.line)) (go_keep)
   (first
     |(have _z:=HB5
       go_at_call 91
       clear _z
       refine (sQ [102,117,110,99,116,105,111,110] (aW p.line) [112,97,114,97,109,115] (aW p.params) [100,111,116,115] (aW 0) [114,101,103,115] (aW p.regs) w5 HL.out).mono ?_
       rintro e w6 ⟨rfl,hb⟩
       have HB6:=hide (HB5.out.trans (hb.mono HB5.out.size))
       have HP6:=hide (dA.low HP5.out hb (ah.lt HP5.out))
       obtain ⟨q60,q61,q62,q63,-,-,-,-⟩:=dA.all HP6.out
       clear hb)
     |(have _z:=HB4
       go_at_call 92
       clear _z
       refine (bW BR.out _ HE4.out.tab).mono ?_
       rintro e w5 ⟨rfl,hb⟩
       have HB5:=hide (HB4.out.trans (hb.mono HB4.out.size))
       have HE5:=hide (HE4.out.low hb)
       have HP5:=hide (dA.low HP4.out hb (ah.lt HP4.out))
       obtain ⟨q50,q51,q52,q53,-,-,-,-⟩:=dA.all HP5.out
       clear hb)
     |(have _z:=HB3
       go_at_call 92
       clear _z
       refine (bW B0.out _ HE3.out.tab).mono ?_
       rintro e w4 ⟨rfl,hb⟩
       have HB4:=hide (HB3.out.trans (hb.mono HB3.out.size))
       have HE4:=hide (HE3.out.low hb)
       have HP4:=hide (dA.low HP3.out hb (ah.lt HP3.out))
       obtain ⟨q40,q41,q42,q43,-,-,-,-⟩:=dA.all HP4.out
       clear hb)
     |(have _z:=HB2
       go_at_call 92
       clear _z
       refine (bW BP.out _ HE2.out.tab).mono ?_
       rintro e w3 ⟨rfl,hb⟩
       have HB3:=hide (HB2.out.trans (hb.mono HB2.out.size))
       have HE3:=hide (HE2.out.low hb)
       have HP3:=hide (dA.low HP2.out hb (ah.lt HP2.out))
       obtain ⟨q30,q31,q32,q33,-,-,-,-⟩:=dA.all HP3.out
       clear hb)
     |(have _z:=HB1
       go_at_call 92
       clear _z
       refine (bW BL.out _ HE1.out.drew.tab).mono ?_
       rintro e w2 ⟨rfl,hb⟩
       replace hb:=dL hb
       have HB2:=hide (HB1.out.trans (hb.mono HB1.out.size))
       have HE2:=hide (HE1.out.low hb)
       have HP2:=hide (dA.low HP1.out hb (ah.lt HP1.out))
       obtain ⟨q20,q21,q22,q23,-,-,-,-⟩:=dA.all HP2.out
       clear hb))
  go_wp2_with fail
  go_ret
  exact ⟨rfl,HB6.out⟩
theorem uq (d a b c e f:List UInt8) (w:World) (hd:d.length<=100) (hl:(bG [a,b,c,e,f]).length<=1000000):
 Calls Tryz.prog 91 #[.string (bT d),.slice (some ⟨w.heap.size,0,none⟩) 5 5] (w.alloc (.cells #[.string (bT a),.string (bT b),.string (bT c),.string (bT e),.string (bT f)] 9)) fun e' w'=>e'=.returned (.string (bT (d++bG [a,b,c,e,f])))/\Below w.heap.size w w':=by
 refine (mY d w.heap.size [a,b,c,e,f] 5 _ hd (fun j x hx=>?_) (by simp) (by simp) (by simp) hl).mono ?_
 ·match j,hx with
  |0,hx=>simp at hx;subst hx;simp
  |1,hx=>simp at hx;subst hx;simp
  |2,hx=>simp at hx;subst hx;simp
  |3,hx=>simp at hx;subst hx;simp
  |4,hx=>simp at hx;subst hx;simp
  |j+5,hx=>simp at hx
 ·rintro e' w' ⟨rfl,hb⟩
  exact ⟨rfl,(b_1 w _).trans (hb.mono (by simp))⟩
structure NamW (w:World) (gW gN:Nat):Prop where
 p:ah w 54 gW 1 (fun _=>.slice (some ⟨gN,0,none⟩) 79 79)
 n:ah w 9 gN 79 (fun k=>.string (bT (aU (k:Int))))
theorem NamW.low {w w':World} {gW gN:Nat} (h:NamW w gW gN) (hb:Below w.heap.size w w'):NamW w' gW gN:=
 ⟨ah.low h.p hb (ah.lt h.p),ah.low h.n hb (ah.lt h.n)⟩
structure InS (w:World) (gP gI gW gN bl ol:Nat) (p:PV) (k:Nat) (s4 s5 s6 s7:Value):Prop where
 fp:dA w gP p s4 s5 s6 s7
 r:ah w 45 gI 4 (fun j=>(#[.int .i64 (p.i0 k),.int .i64 (p.i1 k),.int .i64 (p.i2 k),.int .i64 (p.i3 k)]:Array Value).getD j (.bool false))
 c:w.cell? ⟨bl,ol,none⟩=some (.int .i64 (p.l0 k))
 lt:bl<w.heap.size
 n:NamW w gW gN
 e:PE w
section
variable {w w' : World} {gP gI gW gN bl ol : Nat} {p : PV} {k : Nat} {s4 s5 s6 s7 : Value}
theorem InS.low (h:InS w gP gI gW gN bl ol p k s4 s5 s6 s7) (hb:Below w.heap.size w w'):InS w' gP gI gW gN bl ol p k s4 s5 s6 s7:=
 ⟨h.fp.low hb (ah.lt h.fp),ah.low h.r hb (ah.lt h.r),(hb.cell (p:=⟨bl,ol,none⟩) h.lt).trans h.c,Nat.lt_of_lt_of_le h.lt hb.size,h.n.low hb,h.e.low hb⟩
theorem InS.cells (h:InS w gP gI gW gN bl ol p k s4 s5 s6 s7) {o:Nat} (ho:p.i0 k=(o:Int)) (h79:o<79):w.cell? ⟨gI,0,none⟩=some (.int .i64 (o:Int))/\w.cell? ⟨gI,1,none⟩=some (.int .i64 (p.i1 k))/\w.cell? ⟨gI,2,none⟩=some (.int .i64 (p.i2 k))/\w.cell? ⟨gI,3,none⟩=some (.int .i64 (p.i3 k))/\w.cell? ⟨gP,7,none⟩=some s7/\w.cell? ⟨bl,ol,none⟩=some (.int .i64 (p.l0 k))/\w.cell? ⟨gW,0,none⟩=some (.slice (some ⟨gN,0,none⟩) 79 79)/\w.cell? ⟨gN,o,none⟩=some (.string (bT (aU (o:Int)))):=
 ⟨by rw [<-ho];exact ah.cell h.r (j:=0) (by omega),ah.cell h.r (j:=1) (by omega),ah.cell h.r (j:=2) (by omega),ah.cell h.r (j:=3) (by omega),h.fp.all.2.2.2.2.2.2.2,h.c,ah.cell h.n.p (j:=0) (by omega),ah.cell h.n.n (j:=o) h79⟩
end
def rG (p:PV) (k:Nat):List UInt8:=if aH p p.ni k then [64]++aW (lbl p k)++[58,32] else [32,32,32,32]
def GZ (p:PV) (k:Nat):List UInt8:=if mJ p k then [64]++aW (lbl p (p.i2 k).toNat) else aW (p.i2 k)
theorem DI (p:PV) (k:Nat):iL p k=rG p k++bG [aW (p.l0 k),aU (p.i0 k),aW (p.i1 k),GZ p k,aW (p.i3 k)]:=by
 unfold iL rG GZ bG
 simp [Lib.join]
theorem Gp {p:PV} {k:Nat} (h:InsD p k):(rG p k).length<=100:=by
 have:=eZ h.x
 unfold rG
 split
 ·simp only [List.length_append,List.length_cons,List.length_nil];omega
 ·simp
theorem KN {p:PV} {k:Nat} (h:InsD p k):(GZ p k).length<=100:=by
 have h1:=eZ h.y
 have h2:=eZ h.c
 unfold GZ
 split
 ·simp only [List.length_append,List.length_cons,List.length_nil];omega
 ·omega
theorem Nu {p:PV} {k:Nat} (hk:k<p.ni):(o8 p.ni (aH p p.ni) (p.i2 k)&&jmp (p.i0 k))=mJ p k:=by
 cases h:mJ p k with
 |true=>
  have h1:=qO hk h
  unfold mJ at h
  simp only [Bool.and_eq_true,decide_eq_true_eq] at h
  unfold o8
  simp [h.1.1,h.1.2,h.2,h1]
 |false=>
  cases hj:jmp (p.i0 k) with
  |false=>simp
  |true=>
   unfold mJ at h
   rw [hj] at h
   simp only [Bool.true_and] at h
   unfold o8
   rw [h]
   simp
end Go.Proofs.YtjibjahfbblieaaGreatDoor
namespace Go.Proofs.YtjibjahfbblieaaGreatDoor.F
open Go Go.RowKit
set_option linter.unusedVariables false
structure FE (w:World):Prop where
 f:FEnv w
 e:∃ G o P po C co ev m,Env w G o P po C co ev m
theorem FE.below {w w':World} (h:FE w) (hb:Below w.heap.size w w'):FE w':=by
 obtain ⟨G,o,P,po,C,co,ev,m,hE⟩:=h.e
 exact ⟨h.f.below hb,G,o,P,po,C,co,ev,m,hE.below hb⟩
def P5 (r c n:Nat) (w:World) (e:Ending) (w':World):Prop:=
 ∃ d q,e=.returned (.string (eStr d n ((n:Int)-1-q)))/\Fmt (wV r) c n d q/\ -400<=(n:Int)-1-q/\(n:Int)-1-q<=400/\Below w.heap.size w w'
theorem NY (r n c:Nat) (w:World) (hc:c=1074) (h0:0<r) (hr:r<ak) (hn1:1<=n) (hn2:n<=17) (hF:FE w):
 Calls Tryz.prog 144 #[.float .f64 r,.int .u8 101,.int .i64 ((n:Int)-1),.int .i64 64] w fun e w'=>P5 r c n w e w':=by
 refine (Oj r n w h0 hr hn1 hn2 hF.f).mono ?_
 rintro e w' ⟨d,q,rfl,hfix,hb⟩
 obtain ⟨_,hx1,hx2,_,_,hE1,hE2⟩:=nI h0 hr
 have hX:=CU hfix hE1 hE2
 exact ⟨d,q,rfl,hfix.fmt hc h0 hr hn1,hX.1,hX.2,hb⟩
theorem Cj {d n:Nat} {q:Int} {w:World} (hF:FE w) (hn1:1<=n) (hn2:n<=17) (hd:d<10^n) (h1: -400<=(n:Int)-1-q) (h2:(n:Int)-1-q<=400):
 Calls Tryz.prog 145 #[.string (eStr d n ((n:Int)-1-q)),.int .i64 64] w fun e w''=>Oe d (-q) w e w'':=by
 obtain ⟨G,o,P,po,C,co,ev,m,hE⟩:=hF.e
 have:=Mc _ _ _ _ G o P po C co _ _ ev m w (GY (d:=d) hn1 hn2 h1 h2) hE w (Below.refl _ _)
 have e:(n:Int)-1-q-((n-1:Nat):Int)= -q:=by omega
 rw [mo hd,e] at this
 exact this
def Qw (r c:Nat) (w:World) (e:Ending) (w':World):Prop:=
 ∃ n d q,e=.returned (.string (eStr d n ((n:Int)-1-q)))/\First r c n d q/\ -400<=(n:Int)-1-q/\(n:Int)-1-q<=400/\Below w.heap.size w w'
set_option maxHeartbeats 1600000 in
set_option maxRecDepth 100000 in
theorem Fy (r c:Nat) (w:World) (hc:c=1074) (h0:0<r) (hr:r<ak) (hF:FE w):
 Calls Tryz.prog 127 #[.float .f64 r] w fun e w'=>Qw r c w e w':=by
 have HFF:=hide (fun (k:Nat) (w1:World) (hb:Below w.heap.size w w1) (hk:k<=16)=>(show Calls Tryz.prog 144 #[.float .f64 r,.int .u8 101,.int .i64 (k:Int),.int .i64 64] w1 fun e w'=>P5 r c (k+1) w1 e w' by
  have:=NY r (k+1) c w1 hc h0 hr (by omega) (by omega) (hF.below hb)
  have e:((k+1:Nat):Int)-1=k:=by omega
  rw [e] at this
  exact this))
 have HPF:=hide (fun (d n:Nat) (q:Int) (w1:World) (hb:Below w.heap.size w w1) (hn1:1<=n) (hn2:n<=17) (hd:d<10^n) (h1: -400<=(n:Int)-1-q) (h2:(n:Int)-1-q<=400)=>Cj (d:=d) (n:=n) (q:=q) (hF.below hb) hn1 hn2 hd h1 h2)
 have Ho:=hide (rP hr)
 have Hr:=hide hr
 have H0:=hide h0
 have Hc:=hide hc
 clear hF hr h0 hc
 go_enter Tryz.func127,Tryz.ntmps127
 go_wp2_with fail
 go_loopw [7] (fun cv wr=>∃ k:Nat,cv=.int .i64 k/\k<=16/\Hid (∀ m d' q',1<=m->m<=k->Fmt (wV r) c m d' q'->¬ aB d' (-q') r)/\Below w.heap.size w wr) (fun cv _=>16-(intOf cv).toNat)
 case atStart=>exact ⟨0,rfl,by omega,hide (fun m d' q' h1 h2=>by omega),Below.refl _ _⟩
 case round=>
  obtain ⟨k,rfl,hk,Hl,hb⟩:=hrel
  have Hb:=hide hb
  clear hb
  by_cases hlt:k<16
  ·go_wp2_with fail
   refine (HFF.out k _ Hb.out (by omega)).mono ?_
   rintro e w1 ⟨d,q,rfl,hfmt,hX1,hX2,hb1⟩
   have Hfmt:=hide hfmt
   have HX1:=hide hX1
   have HX2:=hide hX2
   have Hb1:=hide (Hb.out.trans (hb1.mono Hb.out.size))
   clear hfmt hX1 hX2 hb1
   have HP:=HPF.out d (k+1) q _ Hb1.out (by omega) (by omega) Hfmt.out.hi HX1.out HX2.out
   obtain ⟨T,hT⟩:∃ T,T=eStr d (k+1) (((k+1:Nat):Int)-1-q):=⟨_,rfl⟩
   rw [<-hT] at HP ⊢
   have HT:=hide hT
   have HPt:=hide HP
   clear hT HP
   have Hun:Hid (∀ d' q',Fmt (wV r) c (k+1) d' q'->d'=d/\q'=q):=hide (fun d' q' h=>h.unique (by omega) Hfmt.out)
   go_wp2_with fail
   refine HPt.out.mono ?_
   rintro e w2 ⟨W,hdec,hb2,hcase⟩
   have Hdec:=hide hdec
   have Hb2:=hide (Hb1.out.trans (hb2.mono Hb1.out.size))
   clear hdec hb2
   have Hstep:Hid (W≠r->∀ m d' q',1<=m->m<=k+1->Fmt (wV r) c m d' q'->¬ aB d' (-q') r):=hide (fun hne m d' q' h1 h2 hf hd=>by
    rcases Nat.lt_or_ge m (k+1) with g|g
    ·exact Hl.out m d' q' h1 (by omega) hf hd
    ·obtain rfl:m=k+1:=by omega
     obtain ⟨rfl,rfl⟩:=Hun.out d' q' hf
     exact hne (Hdec.out.unique hd))
   rcases hcase with ⟨hfin,rfl⟩|⟨hinf,B,rfl⟩
   ·by_cases hW:W=r
    ·have Hfin:=hide (hW ▸ Hdec.out)
     subst hW
     have ho:FloatKind.f64.format.order W W=some Ordering.eq:=Ho.out
     go_wp2
     go_ret
     exact ⟨k+1,d,q,by rw [<-HT.out];rfl,⟨by omega,by omega,Hfmt.out,Hfin.out,fun m d' q' h1 h2=>Hl.out m d' q' h1 (by omega)⟩,HX1.out,HX2.out,Hb2.out⟩
    ·have ho:(FloatKind.f64.format.order W r==some Ordering.eq)=false:=by
      rw [beq_eq_false_iff_ne]
      intro h
      exact hW (zo (M_ Hdec.out) (Nat.le_of_lt Hr.out) h)
     have HW:=hide hW
     clear hW hfin
     go_wp2
     go_roundw
     case rel=>exact ⟨k+1,by go_num,by omega,hide (Hstep.out HW.out),Hb2.out⟩
     case measure=>simp [intOf];omega
   ·have HW:Hid (W≠r):=hide (fun h=>by have:=Hr.out;rw [hinf] at h;omega)
    clear hinf
    go_wp2
    go_roundw
    case rel=>exact ⟨k+1,by go_num,by omega,hide (Hstep.out HW.out),Hb2.out⟩
    case measure=>simp [intOf];omega
  ·obtain rfl:k=16:=by omega
   go_wp2_with fail
   refine (HFF.out 16 _ Hb.out (by omega)).mono ?_
   rintro e w1 ⟨d,q,rfl,hfmt,hX1,hX2,hb1⟩
   have Hfmt:=hide hfmt
   have HX1:=hide hX1
   have HX2:=hide hX2
   have Hb1:=hide (Hb.out.trans (hb1.mono Hb.out.size))
   clear hfmt hX1 hX2 hb1
   go_wp2
   go_ret
   exact ⟨17,d,q,rfl,⟨by omega,by omega,Hfmt.out,Hfmt.out.back17 Hc.out H0.out Hr.out,fun m d' q' h1 h2=>Hl.out m d' q' h1 (by omega)⟩,HX1.out,HX2.out,Hb1.out⟩
end Go.Proofs.YtjibjahfbblieaaGreatDoor.F
namespace Go.Proofs.YtjibjahfbblieaaGreatDoor.F
open Go Go.RowKit
set_option linter.unusedVariables false
theorem Cu (a:Nat):2^(3*a)<=10^a:=by
 rw [Nat.pow_mul]
 exact Nat.pow_le_pow_left (by omega) a
theorem OL {r e:Nat} (hr:r<ak) (he:e=700):wV r<10^e:=by
 have hk:=IB hr
 have hm:=qP r
 unfold wV
 have h1:wM r*2^wK r<2^53*2^wK r:=Nat.mul_lt_mul_of_pos_right (by have:(2:Nat)^53=9007199254740992:=rfl;omega) (Nat.pow_pos (by omega))
 rw [<-Nat.pow_add] at h1
 have h2:2^(53+wK r)<=2^(3*e):=Nat.pow_le_pow_right (by omega) (by omega)
 exact Nat.lt_of_lt_of_le h1 (Nat.le_trans h2 (Cu e))
theorem Ex.range {r c N P l:Nat} (hc:c=1074) (h0:0<r) (hr:r<ak) (h:Ex (wV r) c N P l):l<=P+700/\P<l+400:=by
 obtain ⟨e,he⟩:∃ e,e=700:=⟨_,rfl⟩
 obtain ⟨f,hf⟩:∃ f,f=400:=⟨_,rfl⟩
 have hV:=OL hr he
 have hV0:0<wV r:=vP (by omega)
 have hv:=h.val
 have hlo:=h.lo
 have hhi:=h.hi
 have hcf:2^c<=10^f:=Nat.le_trans (Nat.pow_le_pow_right (by omega) (by omega)) (Cu f)
 have hc1:0<2^c:=Nat.pow_pos (by omega)
 rw [<-he,<-hf]
 clear hc hr h0 h
 refine ⟨?_,?_⟩
 ·rcases Nat.lt_or_ge (P+e) l with g|g
  ·exfalso
   have a1:10^(P+e)<=10^(l-1):=Nat.pow_le_pow_right (by omega) (by omega)
   rw [Nat.pow_add] at a1
   have a2:10^P*10^e<=N:=Nat.le_trans a1 hlo
   have a3:N<=N*2^c:=Nat.le_mul_of_pos_right _ hc1
   have a4:wV r*10^P<10^e*10^P:=Nat.mul_lt_mul_of_pos_right hV (Nat.pow_pos (by omega))
   rw [Nat.mul_comm] at a2
   clear hf he hcf hhi hlo a1
   generalize 10^e*10^P=z at *
   generalize wV r*10^P=y at *
   generalize N*2^c=x at *
   omega
  ·exact g
 ·rcases Nat.lt_or_ge P (l+f) with g|g
  ·exact g
  ·exfalso
   have a1:10^(l+f)<=10^P:=Nat.pow_le_pow_right (by omega) g
   rw [Nat.pow_add] at a1
   have a2:N*2^c<10^l*2^c:=Nat.mul_lt_mul_of_pos_right hhi hc1
   have a3:10^l*2^c<=10^l*10^f:=Nat.mul_le_mul_left _ hcf
   have a4:10^P<=wV r*10^P:=Nat.le_mul_of_pos_left _ hV0
   clear he hf hcf hV hlo
   generalize 10^l*10^f=z at *
   generalize 10^l*2^c=z2 at *
   generalize wV r*10^P=y at *
   generalize N*2^c=x at *
   omega
def PS (r c:Nat) (w:World) (e:Ending) (w':World):Prop:=
 ∃ (n d:Nat) (q:Int) (v':Value),e=.returned (.tuple #[v',.int .i64 ((n:Int)-1-q)])/\mg w' v' (digL d n)/\First r c n d q/\ -400<=(n:Int)-1-q/\(n:Int)-1-q<=700/\Below w.heap.size w w'
end Go.Proofs.YtjibjahfbblieaaGreatDoor.F
namespace Go.Proofs.YtjibjahfbblieaaGreatDoor.F
open Go Go.RowKit
set_option linter.unusedVariables false
theorem zX (A:Nat) (w:World):Calls Tryz.prog 105 #[.float .f64 A] w fun e w'=>e=.returned (.bool (FloatKind.f64.format.order A A !=some .eq))/\w'=w:=by
 go_enter Tryz.func105,Tryz.ntmps105
 go_wp2
 all_goals go_ret
 all_goals exact ⟨rfl,rfl⟩
end Go.Proofs.YtjibjahfbblieaaGreatDoor.F
namespace Go.Proofs.YtjibjahfbblieaaGreatDoor.F
open Go Go.RowKit
set_option linter.unusedVariables false
def av (L:List Int):ByteArray:=⟨(fM L).toArray⟩
theorem strL_size (L:List Int):(av L).size=L.length:=by
 show (fM L).toArray.size=_
 simp [fM]
theorem jo (a b:List Int):fM (a++b)=fM a++fM b:=by simp [fM]
theorem ay (a b:List Int):av a++av b=av (a++b):=by
 apply ByteArray.ext
 simp [av,jo]
theorem dO (L:List Int) (a b:Nat):(av L).extract a b=av ((L.drop a).take (b-a)):=by
 apply ByteArray.ext
 rw [ByteArray.data_extract]
 apply Array.ext'
 simp [av,fM]
theorem qX (c:Nat) (w:World) (hc:c<=1000):Calls Tryz.prog 149 #[.string ⟨#[48]⟩,.int .i64 c] w fun e w'=>e=.returned (.string (av (List.replicate c 48)))/\Below w.heap.size w w':=by
 refine (Tryz.strings_Repeat ⟨#[48]⟩ c w (by omega) (by show 1*c<=_;omega)).mono ?_
 rintro e w' ⟨rfl,hb⟩
 refine ⟨?_,hb⟩
 have h:=Lib.repeatL_replicate 48 1 c
 have e:Lib.repeatL (ByteArray.mk #[48]).data.toList c=fM (List.replicate c 48):=by
  rw [Nat.mul_one] at h
  have h1:(ByteArray.mk #[48]).data.toList=List.replicate 1 48:=rfl
  rw [h1,h]
  simp [fM]
 rw [e]
 rfl
def plainL (D:List Int) (X:Int):List Int:=
 if X<0 then [48,46]++List.replicate (-X-1).toNat 48++D
 else if X+1<D.length then D.take (X+1).toNat++[46]++D.drop (X+1).toNat
 else D++List.replicate (X+1-D.length).toNat 48++[46,48]
set_option maxHeartbeats 1600000 in
set_option maxRecDepth 100000 in
theorem lS (D:List Int) (X:Int) (w:World) (hD1:1<=D.length) (hD2:D.length<=17) (hX1: -5<=X) (hX2:X<=16):
 Calls Tryz.prog 130 #[.string (av D),.int .i64 X] w fun e w'=>e=.returned (.string (av (plainL D X)))/\Below w.heap.size w w':=by
 have hsz:=strL_size D
 by_cases h0:X<0
 ·have HR:=hide (fun w1=>qX (-X-1).toNat w1 (by omega))
  have e1:(((-X-1).toNat:Nat):Int)= -X-1:=by omega
  rw [e1] at HR
  clear e1
  have hr:=strL_size (List.replicate (-X-1).toNat 48)
  rw [List.length_replicate] at hr
  obtain ⟨R,hR⟩:∃ R,R=av (List.replicate (-X-1).toNat 48):=⟨_,rfl⟩
  rw [<-hR] at hr HR
  have HRR:=hide hR
  clear hR
  go_enter Tryz.func130,Tryz.ntmps130
  go_wp2_with fail
  refine (HR.out _).mono ?_
  rintro e w1 ⟨rfl,hb1⟩
  have Hb1:=hide hb1
  clear hb1
  go_wp2
  go_ret
  refine ⟨?_,Hb1.out⟩
  unfold plainL
  rw [if_pos h0,<-ay,<-ay,<-HRR.out]
  rfl
 ·by_cases h1:X+1<D.length
  ·obtain ⟨k,rfl⟩:∃ k:Nat,X=k:=⟨X.toNat,by omega⟩
   go_enter Tryz.func130,Tryz.ntmps130
   go_wp2
   go_quiet (fail)
   go_wp2
   go_ret
   refine ⟨?_,?_⟩
   ·unfold plainL
    rw [if_neg (by omega),if_pos (by omega),<-ay,<-ay]
    have a1:=dO D 0 (k+1)
    have a2:=dO D (k+1) D.length
    have n1:((k:Int)+1).toNat=k+1:=by omega
    rw [n1]
    rw [List.drop_zero,Nat.sub_zero] at a1
    rw [List.take_of_length_le (by rw [List.length_drop];omega)] at a2
    rw [<-a1,<-a2]
    rfl
   ·exact bF (Below.refl _ _) _
  ·have HR:=hide (fun w1=>qX (X+1-D.length).toNat w1 (by omega))
   have e1:(((X+1-D.length).toNat:Nat):Int)=X+1-D.length:=by omega
   rw [e1] at HR
   clear e1
   have hr:=strL_size (List.replicate (X+1-D.length).toNat 48)
   rw [List.length_replicate] at hr
   obtain ⟨R,hR⟩:∃ R,R=av (List.replicate (X+1-D.length).toNat 48):=⟨_,rfl⟩
   rw [<-hR] at hr HR
   have HRR:=hide hR
   clear hR
   go_enter Tryz.func130,Tryz.ntmps130
   go_wp2_with fail
   refine (HR.out _).mono ?_
   rintro e w1 ⟨rfl,hb1⟩
   have Hb1:=hide hb1
   clear hb1
   go_wp2
   go_ret
   refine ⟨?_,Hb1.out⟩
   unfold plainL
   rw [if_neg (by omega),if_neg (by omega),<-ay,<-ay,<-HRR.out]
   rfl
end Go.Proofs.YtjibjahfbblieaaGreatDoor.F
namespace Go.Proofs.YtjibjahfbblieaaGreatDoor.F
open Go Go.RowKit
set_option linter.unusedVariables false
theorem rA {c:Nat} {L:List Int} (hc:c<256) (h:∀ z∈L,0<=z/\z<256/\z≠c):UInt8.ofNat c ∉ fM L:=by
 intro hm
 unfold fM at hm
 rw [List.mem_map] at hm
 obtain ⟨z,hz,e⟩:=hm
 obtain ⟨h1,h2,h3⟩:=h z hz
 have:=congrArg UInt8.toNat e
 simp at this
 omega
theorem En {d n:Nat} (h:1<=n):∀ z∈aP d n,z=46∨(48<=z/\z<=57):=by
 intro z hz
 unfold aP at hz
 rw [List.mem_append] at hz
 rcases hz with hz|hz
 ·simp at hz
  have:=gT d n 0
  right;omega
 ·split at hz
  ·simp at hz
  ·rw [List.mem_cons] at hz
   rcases hz with hz|hz
   ·left;exact hz
   ·have:=ig z (List.mem_of_mem_drop hz)
    right;omega
theorem Jj {d n:Nat} {X:Int} (h:1<=n):Lib.cut (eStr d n X).data.toList (ByteArray.mk #[101]).data.toList=(fM (aP d n),fM ((if X<0 then 45 else 43)::dK X.natAbs),true):=by
 have e:(eStr d n X).data.toList=fM (aP d n)++UInt8.ofNat 101::fM ((if X<0 then 45 else 43)::dK X.natAbs):=by
  show fM (eP d n X)=_
  unfold eP
  rw [List.append_assoc,jo]
  rfl
 rw [e]
 exact KT (rA (by decide) (fun z hz=>by rcases En h z hz with g|g<;>omega))
theorem IV:∀ k,k<401->Lib.atoi (fM (43::dK k))=some (k:Int):=by decide+kernel
theorem Iu:∀ k,k<401->Lib.atoi (fM (45::dK k))=some (-(k:Int)):=by decide+kernel
theorem Jk {X:Int} (h1: -400<=X) (h2:X<=400):Lib.atoi (fM ((if X<0 then 45 else 43)::dK X.natAbs))=some X:=by
 split
 ·rw [Iu _ (by omega)];congr 1;omega
 ·rw [IV _ (by omega)];congr 1;omega
theorem uW {d n:Nat} (h:1<=n):Lib.replace (fM (aP d n)) (ByteArray.mk #[46]).data.toList (ByteArray.mk #[]).data.toList 1=fM (digL d n):=by
 have h0:=gT d n 0
 by_cases h1:n=1
 ·subst h1
  have e1:aP d 1=digL d 1:=rfl
  rw [e1]
  exact AO (rA (c:=46) (by decide) (fun z hz=>by have:=ig z hz;omega))
 ·rw [iq (by omega),List.append_assoc,jo]
  have e2:digL d n=[g_ d n 0]++(digL d n).drop 1:=by (conv=>lhs;rw [lQ h]); rfl
  conv=>rhs;rw [e2,jo]
  exact xS (rA (c:=46) (by decide) (fun z hz=>by simp at hz;omega))
def FT (d n:Nat) (X:Int):List Int:=if X< -5∨X > 16 then eP d n X else plainL (digL d n) X
def Pe (r c:Nat) (w:World) (e:Ending) (w':World):Prop:=
 ∃ n d q,e=.returned (.string (av (FT d n ((n:Int)-1-q))))/\First r c n d q/\ -400<=(n:Int)-1-q/\(n:Int)-1-q<=400/\Below w.heap.size w w'
theorem eTxt_len {d n:Nat} {X:Int} (h1:1<=n) (h2:n<=17):(eP d n X).length<=30:=by
 unfold eP
 rw [List.length_append,List.length_append,pF h1]
 have:=nN X.natAbs
 simp
 split<;>omega
theorem Da (d n:Nat) (X m:Int) (w:World) (h1:1<=n) (h2:n<=17) (hm:w.cell? ⟨4,0,none⟩=some (.int .i64 m)):
 Calls Tryz.prog 128 #[.string (eStr d n X),.string ⟨#[101]⟩] w fun e w'=>e=.returned (.tuple #[.string (av (aP d n)),.string (av ((if X<0 then 45 else 43)::dK X.natAbs)),.bool true])/\Below w.heap.size w w':=by
 have hsz:(eStr d n X).size<=30:=by
  show (av (eP d n X)).size<=30
  rw [strL_size]
  exact eTxt_len h1 h2
 refine (Tryz.strings_Cut (eStr d n X) ⟨#[101]⟩ m w (by omega) hm).mono ?_
 rintro e w' ⟨rfl,k,rfl⟩
 rw [Jj h1]
 exact ⟨rfl,bF (Below.refl _ _) _⟩
theorem xZ (X:Int) (w:World) (h1: -400<=X) (h2:X<=400):
 Calls Tryz.prog 129 #[.string (av ((if X<0 then 45 else 43)::dK X.natAbs))] w fun e w'=>e=.returned (.tuple #[.int .i64 X,.nilIface])/\Below w.heap.size w w':=by
 have hsz:(av ((if X<0 then 45 else 43)::dK X.natAbs)).size<=18:=by
  rw [strL_size]
  have:=nN X.natAbs
  simp
  omega
 refine (Tryz.strconv_Atoi _ X hsz (Jk h1 h2) w).mono ?_
 rintro e w' ⟨rfl,t,rfl⟩
 exact ⟨rfl,x9 _ _⟩
theorem CJ (d n:Nat) (m:Int) (w:World) (h1:1<=n) (h2:n<=17) (hm:w.cell? ⟨4,0,none⟩=some (.int .i64 m)):
 Calls Tryz.prog 131 #[.string (av (aP d n)),.string ⟨#[46]⟩,.string ⟨#[]⟩,.int .i64 1] w fun e w'=>e=.returned (.string (av (digL d n)))/\Below w.heap.size w w':=by
 have hsz:(av (aP d n)).size<=18:=by
  rw [strL_size,pF h1]
  split<;>omega
 refine (Tryz.strings_Replace (av (aP d n)) ⟨#[46]⟩ ⟨#[]⟩ 1 m w (by omega) hm (by decide) (by show _+_*0<=_;omega)).mono ?_
 rintro e w' ⟨rfl,hb⟩
 refine ⟨?_,hb⟩
 have:=uW (d:=d) h1
 show Ending.returned (.string ⟨(Lib.replace (fM (aP d n)) (ByteArray.mk #[46]).data.toList (ByteArray.mk #[]).data.toList 1).toArray⟩)=_
 rw [this]
 rfl
set_option maxHeartbeats 1600000 in
set_option maxRecDepth 100000 in
theorem J7 (r c:Nat) (w:World) (hc:c=1074) (h0:0<r) (hr:r<ak) (hF:FE w):
 Calls Tryz.prog 114 #[.float .f64 r] w fun e w'=>Pe r c w e w':=by
 obtain ⟨G,o,P,po,C,co,ev,m,hE⟩:=hF.e
 have Hml:=hide (fun (w1:World) (hb:Below w.heap.size w w1)=>(hE.below hb).ml)
 have HS:=hide (fun (w1:World)=>Fy r c w hc h0 hr hF)
 clear hE hc h0 hr hF
 go_enter Tryz.func114,Tryz.ntmps114
 go_wp2_with fail
 refine (HS.out w).mono ?_
 rintro e w1 ⟨n,d,q,rfl,hfirst,hX1,hX2,hb1⟩
 have Hfirst:=hide hfirst
 have hn1:=hfirst.n1
 have hn2:=hfirst.n17
 have Hb1:=hide hb1
 clear hfirst hb1 HS
 have HX:Hid (∀ (X:Int),X=(n:Int)-1-q->∀ w',Below w.heap.size w w'->Pe r c w (.returned (.string (av (FT d n X)))) w'):=hide (fun X hX w' hb'=>⟨n,d,q,by rw [hX],Hfirst.out,by omega,by omega,hb'⟩)
 obtain ⟨X,hX⟩:∃ X,X=(n:Int)-1-q:=⟨_,rfl⟩
 rw [<-hX] at hX1 hX2 ⊢
 have HX:=hide (HX.out X hX)
 clear hX
 have HC:=hide (Da d n X m w1 hn1 hn2 (Hml.out w1 Hb1.out))
 obtain ⟨T,hT⟩:∃ T,T=eStr d n X:=⟨_,rfl⟩
 rw [<-hT] at HC ⊢
 have HT:=hide hT
 clear hT
 go_wp2_with fail
 refine HC.out.mono ?_
 rintro e w2 ⟨rfl,hb2⟩
 have Hb2:=hide (Hb1.out.trans (hb2.mono Hb1.out.size))
 clear hb2 HC
 have HA:=hide (xZ X w2 hX1 hX2)
 obtain ⟨T2,hT2⟩:∃ T,T=av ((if X<0 then 45 else 43)::dK X.natAbs):=⟨_,rfl⟩
 rw [<-hT2] at HA ⊢
 clear hT2
 go_wp2_with fail
 refine HA.out.mono ?_
 rintro e w3 ⟨rfl,hb3⟩
 have Hb3:=hide (Hb2.out.trans (hb3.mono Hb2.out.size))
 clear hb3 HA
 have HR:=hide (fun w' hb'=>CJ d n m w' hn1 hn2 (Hml.out w' hb'))
 have HD:=hide (digL_len d n)
 by_cases hw:X< -5∨X > 16
 ·have HFT:Hid (av (FT d n X)=T):=hide (by unfold FT;rw [if_pos hw,HT.out];rfl)
  rcases hw with hw|hw
  ·go_wp2
   go_ret
   have:=HX.out _ Hb3.out
   rw [HFT.out] at this
   exact this
  ·go_wp2
   go_ret
   have:=HX.out _ Hb3.out
   rw [HFT.out] at this
   exact this
 ·have HFT:Hid (FT d n X=plainL (digL d n) X):=hide (by unfold FT;rw [if_neg hw])
  have hw1: -5<=X:=by omega
  have hw2:X<=16:=by omega
  clear hw
  go_wp2_with fail
  refine (HR.out _ Hb3.out).mono ?_
  rintro e w4 ⟨rfl,hb4⟩
  have Hb4:=hide (Hb3.out.trans (hb4.mono Hb3.out.size))
  clear hb4 HR
  go_wp2_with fail
  refine (lS (digL d n) X w4 (by rw [HD.out];exact hn1) (by rw [HD.out];exact hn2) hw1 hw2).mono ?_
  rintro e w5 ⟨rfl,hb5⟩
  have Hb5:=hide (Hb4.out.trans (hb5.mono Hb4.out.size))
  clear hb5
  go_wp2
  go_ret
  have:=HX.out _ Hb5.out
  rw [HFT.out] at this
  exact this
end Go.Proofs.YtjibjahfbblieaaGreatDoor.F
namespace Go.Proofs.YtjibjahfbblieaaGreatDoor.F
open Go Go.RowKit
set_option linter.unusedVariables false
set_option maxHeartbeats 1600000 in
set_option maxRecDepth 100000 in
theorem short_zero (w:World) (hF:FE w):
 Calls Tryz.prog 127 #[.float .f64 0] w fun e w'=>e=.returned (.string (eStr 0 1 0))/\Below w.heap.size w w':=by
 have hs:0<w.heap.size:=by
  obtain ⟨G,o,P,po,C,co,ev,m,hE⟩:=hF.e
  have:=hE.vars.h12
  omega
 have HFF:=hide (KE w hs)
 have HPF:=hide (fun (w1:World) (hb:Below w.heap.size w w1)=>Cj (d:=0) (n:=1) (q:=0) (hF.below hb) (by omega) (by omega) (by decide) (by omega) (by omega))
 have Ho:=hide (rP (W:=0) (by decide))
 clear hF hs
 go_enter Tryz.func127,Tryz.ntmps127
 go_wp2_with fail
 go_loopw [7] (fun cv wr=>cv=.int .i64 0/\wr=w) (fun cv _=>0)
 case atStart=>exact ⟨rfl,rfl⟩
 case round=>
  obtain ⟨rfl,rfl⟩:=hrel
  go_wp2_with fail
  refine HFF.out.mono ?_
  rintro e w1 ⟨rfl,hb1⟩
  have Hb1:=hide hb1
  clear hb1
  have HP:=HPF.out w1 Hb1.out
  have e0:(((1:Nat):Int)-1-0)=0:=rfl
  rw [e0] at HP
  obtain ⟨T,hT⟩:∃ T,T=eStr 0 1 0:=⟨_,rfl⟩
  rw [<-hT] at HP ⊢
  have HT:=hide hT
  clear hT e0
  have HPt:=hide HP
  clear HP
  go_wp2_with fail
  refine HPt.out.mono ?_
  rintro e w2 ⟨W,hdec,hb2,hcase⟩
  have hW:W=0:=hdec.unique (kM _)
  subst hW
  have Hb2:=hide (Hb1.out.trans (hb2.mono Hb1.out.size))
  clear hdec hb2
  rcases hcase with ⟨hfin,rfl⟩|⟨hinf,B,rfl⟩
  ·have ho:FloatKind.f64.format.order 0 0=some Ordering.eq:=Ho.out
   go_wp2
   go_ret
   exact ⟨by rw [<-HT.out];rfl,Hb2.out⟩
  ·exact absurd hinf (by decide)
set_option maxHeartbeats 1600000 in
set_option maxRecDepth 100000 in
theorem Gn (w:World) (hF:FE w):
 Calls Tryz.prog 114 #[.float .f64 0] w fun e w'=>e=.returned (.string (av [48,46,48]))/\Below w.heap.size w w':=by
 obtain ⟨G,o,P,po,C,co,ev,m,hE⟩:=hF.e
 have Hml:=hide (fun (w1:World) (hb:Below w.heap.size w w1)=>(hE.below hb).ml)
 have HS:=hide (short_zero w hF)
 clear hE hF
 go_enter Tryz.func114,Tryz.ntmps114
 go_wp2_with fail
 refine HS.out.mono ?_
 rintro e w1 ⟨rfl,hb1⟩
 have Hb1:=hide hb1
 clear hb1 HS
 have HC:=hide (Da 0 1 0 m w1 (by omega) (by omega) (Hml.out w1 Hb1.out))
 obtain ⟨T,hT⟩:∃ T,T=eStr 0 1 0:=⟨_,rfl⟩
 rw [<-hT] at HC ⊢
 have HT:=hide hT
 clear hT
 go_wp2_with fail
 refine HC.out.mono ?_
 rintro e w2 ⟨rfl,hb2⟩
 have Hb2:=hide (Hb1.out.trans (hb2.mono Hb1.out.size))
 clear hb2 HC
 have HA:=hide (xZ 0 w2 (by omega) (by omega))
 obtain ⟨T2,hT2⟩:∃ T,T=av ((if (0:Int)<0 then 45 else 43)::dK (0:Int).natAbs):=⟨_,rfl⟩
 rw [<-hT2] at HA ⊢
 clear hT2
 go_wp2_with fail
 refine HA.out.mono ?_
 rintro e w3 ⟨rfl,hb3⟩
 have Hb3:=hide (Hb2.out.trans (hb3.mono Hb2.out.size))
 clear hb3 HA
 have HR:=hide (fun w' hb'=>CJ 0 1 m w' (by omega) (by omega) (Hml.out w' hb'))
 go_wp2_with fail
 refine (HR.out _ Hb3.out).mono ?_
 rintro e w4 ⟨rfl,hb4⟩
 have Hb4:=hide (Hb3.out.trans (hb4.mono Hb3.out.size))
 clear hb4 HR
 go_wp2_with fail
 refine (lS (digL 0 1) 0 w4 (by decide) (by decide) (by omega) (by omega)).mono ?_
 rintro e w5 ⟨rfl,hb5⟩
 have Hb5:=hide (Hb4.out.trans (hb5.mono Hb4.out.size))
 clear hb5
 go_wp2
 go_ret
 exact ⟨rfl,Hb5.out⟩
end Go.Proofs.YtjibjahfbblieaaGreatDoor.F
namespace Go.Proofs.YtjibjahfbblieaaGreatDoor.F
open Go Go.RowKit
set_option linter.unusedVariables false
theorem Fx {s:Bool} {r:Nat} (h:r<9223372036854775808):Op.negFloat .f64 (aI s r)=aI (!s) r:=by
 have e:Op.negFloat .f64 (aI s r)=aI s r^^^2^63:=rfl
 have hx:=Lc (x:=r) h
 rw [e]
 cases s with
 |false=>exact hx
 |true=>
  have:aI true r=r^^^2^63:=hx.symm
  rw [this,Nat.xor_assoc,Nat.xor_self,Nat.xor_zero]
  rfl
theorem zI (s:Bool) (r:Nat) (h:r<9223372036854775808) (w:World):Sem.run Tryz.prog (Op.unary UnOp.neg (Value.float FloatKind.f64 (aI s r))) w=Result.ok (Value.float FloatKind.f64 (aI (!s) r)) w:=by
 rw [<-Fx h]
 rfl
theorem BI (A:Nat) (w:World):Calls Tryz.prog 112 #[.float .f64 A,.int .i64 1] w fun e w'=>e=.returned (.bool (FloatKind.f64.format.order A 9218868437227405311==some .gt))/\w'=w:=by
 go_enter Tryz.func112,Tryz.ntmps112
 go_wp2
 all_goals go_ret
 all_goals exact ⟨rfl,rfl⟩
theorem A_ (A B:Nat) (w:World) (h:∀ w,Sem.run Tryz.prog (Op.unary UnOp.neg (Value.float FloatKind.f64 A)) w=Result.ok (Value.float FloatKind.f64 B) w):Calls Tryz.prog 112 #[.float .f64 A,.int .i64 (-1)] w fun e w'=>e=.returned (.bool (FloatKind.f64.format.order B 9218868437227405311==some .gt))/\w'=w:=by
 go_enter Tryz.func112,Tryz.ntmps112
 go_wp2
 all_goals go_ret
 all_goals exact ⟨rfl,rfl⟩
set_option maxRecDepth 100000 in
theorem zK (A:Nat) (s:Bool) (w:World) (h:decide (wrap64 (A:Int)<0)=s):Calls Tryz.prog 113 #[.float .f64 A] w fun e w'=>e=.returned (.bool s)/\w'=w:=by
 have ht:=xE A
 go_enter Tryz.func113,Tryz.ntmps113
 go_wp2
 all_goals go_ret
 all_goals exact ⟨by rw [<-h];rfl,rfl⟩
theorem Dy {s:Bool} {r:Nat} (h:r<9223372036854775808):decide (wrap64 ((aI s r:Nat):Int)<0)=s:=by
 unfold aI
 cases s<;>simp [wrap64]<;>omega
theorem Ci {s:Bool} {r:Nat} (h:r<=ak):(FloatKind.f64.format.order (aI s r) 9218868437227405311==some .gt)=(!s&&decide (r=ak)):=by
 have ho:=tq (s:=s) (t:=false) (r:=r) (q:=9218868437227405311) h (by decide)
 have e:aI false 9218868437227405311=9218868437227405311:=rfl
 rw [e] at ho
 have hm:ak=9218868437227405311+1:=rfl
 show (Ieee.double.order (aI s r) 9218868437227405311==some .gt)=_
 rw [ho]
 cases s with
 |true=>
  have hp:0<wV 9218868437227405311:=vP (by omega)
  rw [l9 (show qU true (wV r)<qU false (wV 9218868437227405311) by show -((wV r:Nat):Int)<((wV 9218868437227405311:Nat):Int);omega)]
  rfl
 |false=>
  by_cases hr:r=ak
  ·have hl:wV 9218868437227405311<wV r:=yJ (by omega)
   rw [lM (show qU false (wV 9218868437227405311)<qU false (wV r) by show ((wV 9218868437227405311:Nat):Int)<((wV r:Nat):Int);omega)]
   simp [hr]
  ·have hl:wV r<=wV 9218868437227405311:=O_ (by omega)
   have hg:¬ compare (qU false (wV r)) (qU false (wV 9218868437227405311))=.gt:=by
    intro hh
    rw [Int.compare_eq_gt] at hh
    change ((wV 9218868437227405311:Nat):Int)<((wV r:Nat):Int) at hh
    omega
   have:(some (compare (qU false (wV r)) (qU false (wV 9218868437227405311)))==some Ordering.gt)=false:=by
    rw [beq_eq_false_iff_ne]
    intro hh
    exact hg (Option.some.inj hh)
   rw [this]
   simp [hr]
end Go.Proofs.YtjibjahfbblieaaGreatDoor.F
