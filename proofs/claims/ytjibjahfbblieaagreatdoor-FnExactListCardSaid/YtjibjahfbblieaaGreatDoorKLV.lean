import Derived.Test.YtjibjahfbblieaaGreatDoorKP1Z9
namespace Go.Proofs.YtjibjahfbblieaaGreatDoor
open Go Go.RowKit
set_option linter.unusedVariables false
structure BgS (w:World) (gP gW gN gM m:Nat) (p:PV) (s4 s5 s6 s7:Value):Prop where
 fp:dA w gP p s4 s5 s6 s7
 i:jQ w s6 p.ni p.i0 p.i1 p.i2 p.i3
 l:gy w s7 p.nl p.l0
 n:NamW w gW gN
 m:fQ w gM p.ni m (aH p p.ni) (lbl p)
 e:PE w
theorem BgS.low {w w':World} {gP gW gN gM m:Nat} {p:PV} {s4 s5 s6 s7:Value} (h:BgS w gP gW gN gM m p s4 s5 s6 s7) (hb:Below w.heap.size w w'):BgS w' gP gW gN gM m p s4 s5 s6 s7:=
 ⟨h.fp.low hb (ah.lt h.fp),h.i.low hb (Nat.le_refl _),h.l.low hb (Nat.le_refl _),h.n.low hb,h.m.low hb h.m.lt,h.e.low hb⟩
set_option maxHeartbeats 6400000 in
set_option maxRecDepth 100000 in
theorem sK (p:PV) (a4 a5 a6 a7:Option Addr) (k4 k5 k6 k7:Nat) (gW gN gM m:Nat) (k:Nat) (w:World) (hw:Wri p) (h:PVA w p (.slice a4 p.nu k4) (.slice a5 p.nc k5) (.slice a6 p.ni k6) (.slice a7 p.nl k7)) (hk:k<p.ni) (hN:NamW w gW gN) (hM:fQ w gM p.ni m (aH p p.ni) (lbl p)) (hE:PE w) (h79:p.i0 k<79):
 Calls Tryz.prog 76 #[.pointer (some ⟨gW,0,none⟩),p.agg (.slice a4 p.nu k4) (.slice a5 p.nc k5) (.slice a6 p.ni k6) (.slice a7 p.nl k7),.int .i64 (k:Int),.map (some gM)] w fun e w'=>e=.returned (.string (bT (iL p k)))/\Below w.heap.size w w':=by
 rw [DI]
 have hD:=hw.insD hk
 have HD:=hide hD
 have hi0:=(hw.ins hk).1
 obtain ⟨-,-,-,-,-,hni,hnl⟩:=hw.head
 have hkl:k<p.nl:=by omega
 clear hnl
 have hkI1:(0:Int)<=(k:Int):=by omega
 have hkI2:(k:Int)<(p.nl:Int):=by omega
 have HLen:Hid ((bG [aW (p.l0 k),aU (p.i0 k),aW (p.i1 k),GZ p k,aW (p.i3 k)]).length<=1000000):=hide (by
  have h1:=eZ hD.l
  have h2:=cO (p.i0 k)
  have h3:=eZ hD.b
  have h4:=KN hD
  have h5:=eZ hD.d
  simp [bG,Lib.join]
  omega)
 have HIL:=hide (Gp hD)
 have HJ:=hide (Nu hk)
 have hlx:=HD.out.x
 have hly:=HD.out.y
 obtain ⟨o,ho⟩:∃ o:Nat,p.i0 k=(o:Int):=⟨(p.i0 k).toNat,by omega⟩
 have ho79:o<79:=by omega
 rw [ho] at HLen ⊢
 have hoI1:(0:Int)<=(o:Int):=by omega
 have hoI2:(o:Int)<79:=by omega
 have hb0:=b_1 w (iO p (.slice a4 p.nu k4) (.slice a5 p.nc k5) (.slice a6 p.ni k6) (.slice a7 p.nl k7))
 have HG0:=hide (show BgS (w.alloc (iO p (.slice a4 p.nu k4) (.slice a5 p.nc k5) (.slice a6 p.ni k6) (.slice a7 p.nl k7))) w.heap.size gW gN gM m p (.slice a4 p.nu k4) (.slice a5 p.nc k5) (.slice a6 p.ni k6) (.slice a7 p.nl k7) from ⟨dA.mk w p _ _ _ _,h.i.low hb0 (Nat.le_refl _),h.l.low hb0 (Nat.le_refl _),hN.low hb0,hM.low hb0 hM.lt,hE.low hb0⟩)
 have HB0:=hide hb0
 clear h hN hM hE hw hD hb0
 unfold PV.agg
 go_enter Tryz.func76,Tryz.ntmps76
 go_upto_region 2 with (fail)
 generalize w.alloc (iO p (.slice a4 p.nu k4) (.slice a5 p.nc k5) (.slice a6 p.ni k6) (.slice a7 p.nl k7))=w1 at *
 obtain ⟨Z,hZ⟩:∃ Z,w.heap.size=Z:=⟨_,rfl⟩
 rw [hZ] at HG0 HB0 ⊢
 have HZ:=hide hZ
 clear hZ
 obtain ⟨c1,hc1,hv1,hlk1⟩:=HG0.out.m.look (x:=(k:Int)) ⟨by omega,by omega⟩
 have e1:o8 p.ni (aH p p.ni) (k:Int)=aH p p.ni k:=by
  unfold o8
  have h1:(0:Int)<=(k:Int):=by omega
  have h2:(k:Int)<(p.ni:Int):=by omega
  simp [h1,h2]
 rw [e1] at hv1 hlk1
 rw [Int.toNat_natCast] at hv1
 have HV1:=hide hv1
 clear hv1 e1
 obtain ⟨A,hAe⟩:∃ A,aH p p.ni k=A:=⟨_,rfl⟩
 rw [hAe] at hlk1 HV1
 have HAe:=hide hAe
 clear hAe
 go_upto_if 22 with (fail)
 clear hlk1
 go_cut [9] (fun s wc=>s=.string (bT (rG p k))/\Hid (BgS wc Z gW gN gM m p (.slice a4 p.nu k4) (.slice a5 p.nc k5) (.slice a6 p.ni k6) (.slice a7 p.nl k7))/\Hid (Below Z w wc))
 case first=>
  cases A with
  |true=>
   obtain rfl:c1=((lbl p k:Nat):Int):=HV1.out rfl
   obtain ⟨L1,hL1⟩:∃ L1,L1=([64]:List UInt8)++aW ((lbl p k:Nat):Int):=⟨_,rfl⟩
   have HN1:L1.length<=21:=by
    rw [hL1,List.length_append]
    have:=eZ hlx
    simp only [List.length_cons,List.length_nil]
    omega
   have sA:∀ w:World,(Op.stringOp .add (bT L1) ⟨#[58]⟩).run Tryz.prog w=.ok (.string (bT (L1++[58]))) w:=fun w=>aD (a:=21) (b:=1) HN1 (by simp) (by omega) w
   obtain ⟨L2,hL2⟩:∃ L2,L2=L1++[58]:=⟨_,rfl⟩
   have HN2:L2.length<=22:=by rw [hL2,List.length_append];simp;omega
   rw [<-hL2] at sA
   have sB:∀ w:World,(Op.stringOp .add (bT L2) ⟨#[32]⟩).run Tryz.prog w=.ok (.string (bT (L2++[32]))) w:=fun w=>aD (a:=22) (b:=1) HN2 (by simp) (by omega) w
   obtain ⟨L3,hL3⟩:∃ L3,L3=L2++[32]:=⟨_,rfl⟩
   rw [<-hL3] at sB
   have HI3:Hid (L3=rG p k):=hide (by
    unfold rG
    rw [HAe.out,if_pos rfl,hL3,hL2,hL1]
    simp)
   have HL1:=hide hL1
   clear hL1 hL2 hL3 HN1 HN2
   go_wp2_with (first
    |(go_at_call 98
      refine (rJ hlx _ HG0.out.e.tab).mono ?_
      rintro e w2 ⟨he,hb2⟩
      rw [<-HL1.out] at he
      subst he
      have HG2:=hide (HG0.out.low hb2)
      have HB2:=hide (HB0.out.trans (hb2.mono (by have:=HZ.out;have:=HB0.out.size;omega)))
      clear hb2)
    |fail)
   go_meet
   case rel=>exact ⟨by rw [HI3.out],HG2,HB2⟩
  |false=>
   have HI3:Hid (([32,32,32,32]:List UInt8)=rG p k):=hide (by
    unfold rG
    rw [HAe.out,if_neg (by simp)])
   go_wp2_with fail
   go_meet
   case rel=>exact ⟨by rw [<-HI3.out];rfl,HG0,HB0⟩
 case rest=>
  obtain ⟨rfl,HG,HB⟩:=hcut
  clear HG0 HB0 HV1 HAe
  rename World=>w2
  obtain ⟨b,o6,cap6,hv,hb,d0,d1,d2,d3⟩:=sV HG.out.i hk
  simp only [Value.slice.injEq,true_and] at hv
  obtain ⟨rfl,rfl⟩:=hv
  obtain ⟨bl,ol,capl,hvl,hbl,dl⟩:=I9 HG.out.l hkl
  simp only [Value.slice.injEq,true_and] at hvl
  obtain ⟨rfl,rfl⟩:=hvl
  rw [ho] at d0
  obtain ⟨-,-,-,-,-,-,q6,q7⟩:=HG.out.fp.all
  have hb3:=b_1 w2 (.cells #[.int .i64 (o:Int),.int .i64 (p.i1 k),.int .i64 (p.i2 k),.int .i64 (p.i3 k)] 45)
  have HI:=hide (show InS (w2.alloc (.cells #[.int .i64 (o:Int),.int .i64 (p.i1 k),.int .i64 (p.i2 k),.int .i64 (p.i3 k)] 45)) Z w2.heap.size gW gN bl (ol+k) p k (.slice a4 p.nu k4) (.slice a5 p.nc k5) (.slice (some ⟨b,o6,none⟩) p.ni k6) (.slice (some ⟨bl,ol,none⟩) p.nl k7) from
   ⟨HG.out.fp.low hb3 (ah.lt HG.out.fp),by rw [ho];exact ah.mk' w2 45 _,(hb3.cell (p:=⟨bl,ol+k,none⟩) hbl).trans dl,Nat.lt_of_lt_of_le hbl hb3.size,HG.out.n.low hb3,HG.out.e.low hb3⟩)
  have HM:=hide (fQ.low HG.out.m hb3 HG.out.m.lt)
  have HB3:=hide (HB.out.trans (hb3.mono (by have:=HZ.out;have:=HB.out.size;omega)))
  clear hb3 dl HG HB
  go_upto_region 6 with (fail)
  clear d0 d1 d2 d3 q6 q7
  generalize w2.alloc (.cells #[.int .i64 (o:Int),.int .i64 (p.i1 k),.int .i64 (p.i2 k),.int .i64 (p.i3 k)] 45)=w3 at *
  generalize w2.heap.size=gI at *
  obtain ⟨q0,q1,q2,q3,q4,q5,q6,q7⟩:=HI.out.cells ho ho79
  go_upto_region 7 with (first
   |(go_at_call 92
     refine (bW HD.out.c _ HI.out.e.tab).mono ?_
     rintro e w4 ⟨rfl,hb4⟩
     have HI4:=hide (HI.out.low hb4)
     have HM4:=hide (fQ.low HM.out hb4 HM.out.lt)
     have HB4:=hide (HB3.out.trans (hb4.mono (by have:=HZ.out;have:=HB3.out.size;omega)))
     clear hb4)
   |fail)
  clear q0 q1 q2 q3 q4 q5 q6 q7 HI HM HB3
  obtain ⟨q0,q1,q2,q3,q4,q5,q6,q7⟩:=HI4.out.cells ho ho79
  obtain ⟨c2,hc2,hv2,hlk2⟩:=HM4.out.look (x:=p.i2 k) HD.out.c
  have hJ:=HJ.out
  rw [ho] at hJ
  have HC2:Hid (mJ p k=true->c2=((lbl p (p.i2 k).toNat:Nat):Int)):=hide (fun e=>hv2 (by
   rw [e,Bool.and_eq_true] at hJ
   exact hJ.1))
  clear hv2 HM4
  generalize o8 p.ni (aH p p.ni) (p.i2 k)=is2 at *
  have HJ2:=hide hJ
  clear hJ
  go_upto_region 8 with (fail)
  clear hlk2
  go_cut [47] (fun s wc=>s=.bool (mJ p k)/\Hid (InS wc Z gI gW gN bl (ol+k) p k (.slice a4 p.nu k4) (.slice a5 p.nc k5) (.slice (some ⟨b,o6,none⟩) p.ni k6) (.slice (some ⟨bl,ol,none⟩) p.nl k7))/\Hid (Below Z w wc))
  case first=>
   cases is2 with
   |true=>
    have HJ3:Hid (jmp (o:Int)=mJ p k):=hide (by rw [<-HJ2.out];rfl)
    go_wp2_with (first
     |(go_at_call 95;refine (jq _ _).mono ?_;rintro e w9 ⟨rfl,hw9⟩;obtain rfl:=hw9.symm)
     |fail)
    go_meet
    case rel=>exact ⟨by rw [HJ3.out],HI4,HB4⟩
   |false=>
    have HJ3:Hid (false=mJ p k):=hide (by rw [<-HJ2.out];rfl)
    go_wp2_with fail
    go_meet
    case rel=>exact ⟨by rw [<-HJ3.out],HI4,HB4⟩
  case rest=>
   obtain ⟨hs,HI5,HB5⟩:=hcut
   clear q0 q1 q2 q3 q4 q5 q6 q7 HI4 HB4
   rename World=>w5
   obtain ⟨q0,q1,q2,q3,q4,q5,q6,q7⟩:=HI5.out.cells ho ho79
   cases hjc:mJ p k
   case false=>
    rw [hjc] at hs
    subst hs
    have HOB:Hid (aW (p.i2 k)=GZ p k):=hide (by unfold GZ;rw [hjc];simp)
    clear hjc
    rw [HOB.out]
    go_upto_region 10 with (fail)
    generalize hBB:GZ p k=BB at *
    have HQB:=hide hBB
    clear hBB
    go_region_held3 (fun w9=>w9.cell? ⟨gI,0,none⟩=some (.int .i64 (o:Int))/\w9.cell? ⟨gI,1,none⟩=some (.int .i64 (p.i1 k))/\w9.cell? ⟨gI,3,none⟩=some (.int .i64 (p.i3 k))/\w9.cell? ⟨Z,7,none⟩=some (.slice (some ⟨bl,ol,none⟩) p.nl k7)/\w9.cell? ⟨bl,ol+k,none⟩=some (.int .i64 (p.l0 k))/\w9.cell? ⟨gW,0,none⟩=some (.slice (some ⟨gN,0,none⟩) 79 79)/\w9.cell? ⟨gN,o,none⟩=some (.string (bT (aU (o:Int))))) (go_keep)
     (first
       |(have _z:=HBC
         go_at_call 91
         clear _z
         refine (uq (rG p k) (aW (p.l0 k)) (aU (o:Int)) (aW (p.i1 k)) BB (aW (p.i3 k)) wC HIL.out HLen.out).mono ?_
         rintro e wD ⟨rfl,hb⟩
         have HBD:=hide (HBC.out.trans (hb.mono (by have:=HZ.out;have:=HBC.out.size;omega)))
         have HID:=hide (HIC.out.low hb)
         obtain ⟨t0,t1,t2,t3,t4,t5,t6,t7⟩:=HID.out.cells ho ho79
         clear hb)
       |(have _z:=HBB
         go_at_call 92
         clear _z
         refine (bW HD.out.d _ HIB.out.e.tab).mono ?_
         rintro e wC ⟨rfl,hb⟩
         have HBC:=hide (HBB.out.trans (hb.mono (by have:=HZ.out;have:=HBB.out.size;omega)))
         have HIC:=hide (HIB.out.low hb)
         obtain ⟨s0,s1,s2,s3,s4,s5,s6,s7⟩:=HIC.out.cells ho ho79
         clear hb)
       |(have _z:=HBA
         go_at_call 92
         clear _z
         refine (bW HD.out.b _ HIA.out.e.tab).mono ?_
         rintro e wB ⟨rfl,hb⟩
         have HBB:=hide (HBA.out.trans (hb.mono (by have:=HZ.out;have:=HBA.out.size;omega)))
         have HIB:=hide (HIA.out.low hb)
         obtain ⟨r0,r1,r2,r3,r4,r5,r6,r7⟩:=HIB.out.cells ho ho79
         clear hb)
       |(have _z:=HB5
         go_at_call 92
         clear _z
         refine (bW HD.out.l _ HI5.out.e.drew.tab).mono ?_
         rintro e wA ⟨rfl,hb⟩
         replace hb:=dL hb
         have HBA:=hide (HB5.out.trans (hb.mono (by have:=HZ.out;have:=HB5.out.size;omega)))
         have HIA:=hide (HI5.out.low hb)
         obtain ⟨p0,p1,p2,p3,p4,p5,p6,p7⟩:=HIA.out.cells ho ho79
         clear hb))
    go_wp2_with fail
    go_ret
    exact ⟨by rw [HQB.out];rfl,by rw [HZ.out];exact HBD.out⟩
   case true=>
    rw [hjc] at hs
    subst hs
    obtain rfl:=HC2.out hjc
    have HOB:Hid (([64]:List UInt8)++aW ((lbl p (p.i2 k).toNat:Nat):Int)=GZ p k):=hide (by unfold GZ;rw [hjc];simp)
    clear hjc
    go_upto_region 10 with (first
     |(go_at_call 98
       refine (rJ hly _ HI5.out.e.tab).mono ?_
       rintro e w6 ⟨he,hb6⟩
       rw [HOB.out] at he
       subst he
       have HI6:=hide (HI5.out.low hb6)
       have HB6:=hide (HB5.out.trans (hb6.mono (by have:=HZ.out;have:=HB5.out.size;omega)))
       clear hb6)
     |fail)
    clear q0 q1 q2 q3 q4 q5 q6 q7 HI5 HB5
    obtain ⟨q0,q1,q2,q3,q4,q5,q6,q7⟩:=HI6.out.cells ho ho79
    generalize hBB:GZ p k=BB at *
    have HQB:=hide hBB
    clear hBB
    go_region_held3 (fun w9=>w9.cell? ⟨gI,0,none⟩=some (.int .i64 (o:Int))/\w9.cell? ⟨gI,1,none⟩=some (.int .i64 (p.i1 k))/\w9.cell? ⟨gI,3,none⟩=some (.int .i64 (p.i3 k))/\w9.cell? ⟨Z,7,none⟩=some (.slice (some ⟨bl,ol,none⟩) p.nl k7)/\w9.cell? ⟨bl,ol+k,none⟩=some (.int .i64 (p.l0 k))/\w9.cell? ⟨gW,0,none⟩=some (.slice (some ⟨gN,0,none⟩) 79 79)/\w9.cell? ⟨gN,o,none⟩=some (.string (bT (aU (o:Int))))) (go_keep)
     (first
       |(have _z:=HBC
         go_at_call 91
         clear _z
         refine (uq (rG p k) (aW (p.l0 k)) (aU (o:Int)) (aW (p.i1 k)) BB (aW (p.i3 k)) wC HIL.out HLen.out).mono ?_
         rintro e wD ⟨rfl,hb⟩
         have HBD:=hide (HBC.out.trans (hb.mono (by have:=HZ.out;have:=HBC.out.size;omega)))
         have HID:=hide (HIC.out.low hb)
         obtain ⟨t0,t1,t2,t3,t4,t5,t6,t7⟩:=HID.out.cells ho ho79
         clear hb)
       |(have _z:=HBB
         go_at_call 92
         clear _z
         refine (bW HD.out.d _ HIB.out.e.tab).mono ?_
         rintro e wC ⟨rfl,hb⟩
         have HBC:=hide (HBB.out.trans (hb.mono (by have:=HZ.out;have:=HBB.out.size;omega)))
         have HIC:=hide (HIB.out.low hb)
         obtain ⟨s0,s1,s2,s3,s4,s5,s6,s7⟩:=HIC.out.cells ho ho79
         clear hb)
       |(have _z:=HBA
         go_at_call 92
         clear _z
         refine (bW HD.out.b _ HIA.out.e.tab).mono ?_
         rintro e wB ⟨rfl,hb⟩
         have HBB:=hide (HBA.out.trans (hb.mono (by have:=HZ.out;have:=HBA.out.size;omega)))
         have HIB:=hide (HIA.out.low hb)
         obtain ⟨r0,r1,r2,r3,r4,r5,r6,r7⟩:=HIB.out.cells ho ho79
         clear hb)
       |(have _z:=HB6
         go_at_call 92
         clear _z
         refine (bW HD.out.l _ HI6.out.e.drew.tab).mono ?_
         rintro e wA ⟨rfl,hb⟩
         replace hb:=dL hb
         have HBA:=hide (HB6.out.trans (hb.mono (by have:=HZ.out;have:=HB6.out.size;omega)))
         have HIA:=hide (HI6.out.low hb)
         obtain ⟨p0,p1,p2,p3,p4,p5,p6,p7⟩:=HIA.out.cells ho ho79
         clear hb))
    go_wp2_with fail
    go_ret
    exact ⟨by rw [HQB.out];rfl,by rw [HZ.out];exact HBD.out⟩
end Go.Proofs.YtjibjahfbblieaaGreatDoor
