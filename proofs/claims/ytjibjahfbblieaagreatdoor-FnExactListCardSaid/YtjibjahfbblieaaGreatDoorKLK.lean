import Derived.Test.YtjibjahfbblieaaGreatDoorKLO
namespace Go.Proofs.YtjibjahfbblieaaGreatDoor
open Go Go.RowKit
set_option linter.unusedVariables false
set_option maxHeartbeats 12800000 in
set_option maxRecDepth 100000 in
theorem AP (T:Int->List UInt8) (hT:FltS T) (p:PV) (s4 s5 s6 s7:Value) (w:World) (hw:Wri p) (h:PVA w p s4 s5 s6 s7):
 Calls Tryz.prog 12 #[p.agg s4 s5 s6 s7] w fun e w'=>∃ v',e=.returned v'/\lJ w' w.heap.size v' (flat (aJ T p))/\Below w.heap.size w w':=by
 have HW:=hide hw
 have HT:=hide hT
 have HTL:=hide hT.len
 obtain ⟨a4,k4,rfl⟩:=h.u.val
 obtain ⟨a5,k5,rfl⟩:=h.c.val
 obtain ⟨a6,k6,rfl⟩:=h.i.val
 obtain ⟨a7,k7,rfl⟩:=h.l.val
 have HP0:=hide (dA.mk w p (.slice a4 p.nu k4) (.slice a5 p.nc k5) (.slice a6 p.ni k6) (.slice a7 p.nl k7))
 have HB0:=hide (b_1 w (iO p (.slice a4 p.nu k4) (.slice a5 p.nc k5) (.slice a6 p.ni k6) (.slice a7 p.nl k7)))
 have HA:=hide h
 obtain ⟨⟨p0,p1⟩,⟨r0,r1⟩,⟨l0,l1⟩,n1,n2,n3,n4⟩:=hw.head
 have N4:=hide n4
 clear h hw hT n4
 unfold PV.agg
 go_enter Tryz.func12,Tryz.ntmps12
 go_wp2_with fail
 generalize w.alloc (iO p (.slice a4 p.nu k4) (.slice a5 p.nc k5) (.slice a6 p.ni k6) (.slice a7 p.nl k7))=w1 at HP0 HB0 ⊢
 have hl1:=HP0.out.lt
 obtain ⟨q00,q01,q02,q03,-,-,-,-⟩:=HP0.out.all
 have hcv:=fun (s:ByteArray) (w:World)=>rT s w
 obtain ⟨A1,hA1⟩:∃ l:List UInt8,l=([102,117,110,99,116,105,111,110,32]:List UInt8)++(aW p.line):=⟨_,rfl⟩
 have NA1:Hid (A1.length<=29):=hide (by rw [hA1];exact aj (a:=9) (b:=20) (by simp) (aO (by omega) (by omega)))
 have sA1:∀ w:World,(Op.stringOp .add ⟨#[102,117,110,99,116,105,111,110,32]⟩ (bT (aW p.line))).run Tryz.prog w=.ok (.string (bT A1)) w:=fun w=>by rw [hA1];exact aD (a:=9) (b:=20) (by simp) (aO (by omega) (by omega)) (by omega) w
 have EA1:=hide hA1
 clear hA1
 obtain ⟨A2,hA2⟩:∃ l:List UInt8,l=(A1)++([32,112,97,114,97,109,115,32]:List UInt8):=⟨_,rfl⟩
 have NA2:Hid (A2.length<=37):=hide (by rw [hA2];exact aj (a:=29) (b:=8) (NA1.out) (by simp))
 have sA2:∀ w:World,(Op.stringOp .add (bT (A1)) ⟨#[32,112,97,114,97,109,115,32]⟩).run Tryz.prog w=.ok (.string (bT A2)) w:=fun w=>by rw [hA2];exact aD (a:=29) (b:=8) (NA1.out) (by simp) (by omega) w
 have EA2:=hide hA2
 clear hA2
 obtain ⟨A3,hA3⟩:∃ l:List UInt8,l=(A2)++(aW p.params):=⟨_,rfl⟩
 have NA3:Hid (A3.length<=57):=hide (by rw [hA3];exact aj (a:=37) (b:=20) (NA2.out) (aO (by omega) (by omega)))
 have sA3:∀ w:World,(Op.stringOp .add (bT (A2)) (bT (aW p.params))).run Tryz.prog w=.ok (.string (bT A3)) w:=fun w=>by rw [hA3];exact aD (a:=37) (b:=20) (NA2.out) (aO (by omega) (by omega)) (by omega) w
 have EA3:=hide hA3
 clear hA3
 obtain ⟨A4,hA4⟩:∃ l:List UInt8,l=(A3)++([32,100,111,116,115,32]:List UInt8):=⟨_,rfl⟩
 have NA4:Hid (A4.length<=63):=hide (by rw [hA4];exact aj (a:=57) (b:=6) (NA3.out) (by simp))
 have sA4:∀ w:World,(Op.stringOp .add (bT (A3)) ⟨#[32,100,111,116,115,32]⟩).run Tryz.prog w=.ok (.string (bT A4)) w:=fun w=>by rw [hA4];exact aD (a:=57) (b:=6) (NA3.out) (by simp) (by omega) w
 have EA4:=hide hA4
 clear hA4
 obtain ⟨A5,hA5⟩:∃ l:List UInt8,l=(A4)++(oh p.dots):=⟨_,rfl⟩
 have NA5:Hid (A5.length<=64):=hide (by rw [hA5];exact aj (a:=63) (b:=1) (NA4.out) (by simp [oh]))
 have sA5:∀ w:World,(Op.stringOp .add (bT (A4)) (bT (oh p.dots))).run Tryz.prog w=.ok (.string (bT A5)) w:=fun w=>by rw [hA5];exact aD (a:=63) (b:=1) (NA4.out) (by simp [oh]) (by omega) w
 have EA5:=hide hA5
 clear hA5
 obtain ⟨A6,hA6⟩:∃ l:List UInt8,l=(A5)++([32,114,101,103,115,32]:List UInt8):=⟨_,rfl⟩
 have NA6:Hid (A6.length<=70):=hide (by rw [hA6];exact aj (a:=64) (b:=6) (NA5.out) (by simp))
 have sA6:∀ w:World,(Op.stringOp .add (bT (A5)) ⟨#[32,114,101,103,115,32]⟩).run Tryz.prog w=.ok (.string (bT A6)) w:=fun w=>by rw [hA6];exact aD (a:=64) (b:=6) (NA5.out) (by simp) (by omega) w
 have EA6:=hide hA6
 clear hA6
 obtain ⟨A7,hA7⟩:∃ l:List UInt8,l=(A6)++(aW p.regs):=⟨_,rfl⟩
 have NA7:Hid (A7.length<=90):=hide (by rw [hA7];exact aj (a:=70) (b:=20) (NA6.out) (aO (by omega) (by omega)))
 have sA7:∀ w:World,(Op.stringOp .add (bT (A6)) (bT (aW p.regs))).run Tryz.prog w=.ok (.string (bT A7)) w:=fun w=>by rw [hA7];exact aD (a:=70) (b:=20) (NA6.out) (aO (by omega) (by omega)) (by omega) w
 have EA7:=hide hA7
 clear hA7
 obtain ⟨A8,hA8⟩:∃ l:List UInt8,l=(A7)++([10]:List UInt8):=⟨_,rfl⟩
 have NA8:Hid (A8.length<=91):=hide (by rw [hA8];exact aj (a:=90) (b:=1) (NA7.out) (by simp))
 have sA8:∀ w:World,(Op.stringOp .add (bT (A7)) ⟨#[10]⟩).run Tryz.prog w=.ok (.string (bT A8)) w:=fun w=>by rw [hA8];exact aD (a:=90) (b:=1) (NA7.out) (by simp) (by omega) w
 have EA8:=hide hA8
 clear hA8
 go_region_held (fun w9=>w9.cell? ⟨w.heap.size,0,none⟩=some (.int .i64 p.params)/\w9.cell? ⟨w.heap.size,1,none⟩=some (.int .i64 p.regs)/\w9.cell? ⟨w.heap.size,2,none⟩=some (.int .i64 p.line)/\w9.cell? ⟨w.heap.size,3,none⟩=some (.bool p.dots)) (go_keep)
  (first
    |(have _z:=HB4
      go_at_call 30
      clear _z
      refine (mW p.regs _ (by omega) (by omega)).mono ?_
      rintro e w5 ⟨rfl,hb⟩
      have HB5:=hide (HB4.out.trans (hb.mono HB4.out.size))
      have HP5:=hide (HP4.out.low hb HP4.out.lt)
      obtain ⟨q50,q51,q52,q53,-,-,-,-⟩:=HP5.out.all
      have HC5:=hide (iX w5 (bT A8))
      have HP6:=hide (HP5.out.low HC5.out HP5.out.lt)
      obtain ⟨q60,q61,q62,q63,-,-,-,-⟩:=HP6.out.all
      clear hb q40 q41 q42 q43)
    |(have _z:=HB3
      go_at_call 31
      clear _z
      refine (Ef p.dots _).mono ?_
      rintro e w4 ⟨rfl,rfl⟩
      have HB4:=HB3
      have HP4:=HP3
      obtain ⟨q40,q41,q42,q43,-,-,-,-⟩:=HP4.out.all
      clear q30 q31 q32 q33)
    |(have _z:=HB2
      go_at_call 30
      clear _z
      refine (mW p.params _ (by omega) (by omega)).mono ?_
      rintro e w3 ⟨rfl,hb⟩
      have HB3:=hide (HB2.out.trans (hb.mono HB2.out.size))
      have HP3:=hide (HP2.out.low hb HP2.out.lt)
      obtain ⟨q30,q31,q32,q33,-,-,-,-⟩:=HP3.out.all
      clear hb q20 q21 q22 q23)
    |(have _z:=HB0
      go_at_call 30
      clear _z
      refine (mW p.line _ (by omega) (by omega)).mono ?_
      rintro e w2 ⟨rfl,hb⟩
      replace hb:=dL hb
      have HB2:=hide (HB0.out.trans (hb.mono HB0.out.size))
      have HP2:=hide (HP0.out.low hb HP0.out.lt)
      obtain ⟨q20,q21,q22,q23,-,-,-,-⟩:=HP2.out.all
      clear hb q00 q01 q02 q03))
 have HE:Hid (A8=E1 p 0):=hide (by
  rw [EA8.out,EA7.out,EA6.out,EA5.out,EA4.out,EA3.out,EA2.out,EA1.out,QS]
  unfold je
  simp)
 have HO:Hid (lJ (Lib.bytesWorld w5 5 (bT A8)) w.heap.size (.slice (some ⟨w5.heap.size,0,none⟩) (bT A8).size (grownCap w5 (bT A8).size 0 5)) (E1 p 0)):=hide (by
  have h:=lJ.conv w5 (bT A8) (by rw [dN];have:=NA8.out;omega)
  rw [bP,HE.out] at h
  rw [HE.out]
  exact h.less HB5.out.size)
 have HP:=HP6
 have HB:=hide (HB5.out.trans (HC5.out.mono HB5.out.size))
 clear q60 q61 q62 q63 q50 q51 q52 q53 HP0 HB0 HP2 HB2 HP3 HB3 HP4 HB4 HP5 HB5 HC5 HP6 NA1 NA2 NA3 NA4 NA5 NA6 NA7 NA8 EA1 EA2 EA3 EA4 EA5 EA6 EA7 EA8 sA1 sA2 sA3 sA4 sA5 sA6 sA7 sA8 HE
 generalize Lib.bytesWorld w5 5 (bT A8)=w2 at HO HP HB ⊢
 generalize hov:Value.slice (some ⟨w5.heap.size,0,none⟩) (bT A8).size (grownCap w5 (bT A8).size 0 5)=ov at HO ⊢
 clear hov
 obtain ⟨-,-,-,-,q4,-,-,-⟩:=HP.out.all
 go_wp2_with fail
 clear q4
 go_loopw [3,39] (fun ov iv wr=>∃ i:Nat,i<=p.nu/\iv=.int .i64 (i:Int)/\Hid (lJ wr w.heap.size ov (E1 p i))/\Hid (dA wr w.heap.size p (.slice a4 p.nu k4) (.slice a5 p.nc k5) (.slice a6 p.ni k6) (.slice a7 p.nl k7))/\Hid (Below w.heap.size w wr)) (fun _ iv _=>p.nu-gX iv)
 case atStart=>exact ⟨0,Nat.zero_le _,rfl,HO,HP,HB⟩
 case round=>
  clear HO HP HB
  obtain ⟨i,hi,rfl,HO,HP,HB⟩:=hrel
  have HLn0:=hide (IL HW.out hi)
  obtain ⟨L,hL⟩:∃ L,L=E1 p i:=⟨_,rfl⟩
  rw [<-hL] at HO HLn0
  have HLn:=hide HLn0.out
  have HL:=hide hL
  clear hL HLn0
  obtain ⟨og,oc,rfl,hog,hog2⟩:=HO.out.val
  have hZr:=HP.out.lt
  by_cases hin:i<p.nu
  ·obtain ⟨b,o,cap',hv,hb,c0,c1⟩:=MF (HA.out.u.low HB.out (Nat.le_refl _)) hin
   simp only [Value.slice.injEq,true_and] at hv
   obtain ⟨rfl,rfl⟩:=hv
   obtain ⟨hu0,hu1⟩:=HW.out.up hin
   obtain ⟨wi,hwi⟩:∃ wi,wr.alloc (.cells #[.bool (p.u0 i),.int .i64 (p.u1 i)] 83)=wi:=⟨_,rfl⟩
   have hB:=b_1 wr (.cells #[.bool (p.u0 i),.int .i64 (p.u1 i)] 83)
   rw [hwi] at hB
   have HO1:=hide (HO.out.low hB)
   have HP1:=hide (HP.out.low hB hZr)
   have HB1:=hide (HB.out.trans (hB.mono (Nat.le_of_lt hZr)))
   have e0:wi.cell? ⟨wr.heap.size,0,none⟩=some (.bool (p.u0 i)):=by rw [<-hwi];simp
   have e1:wi.cell? ⟨wr.heap.size,1,none⟩=some (.int .i64 (p.u1 i)):=by rw [<-hwi];simp
   have HU:=hide (Ro p i)
   clear hB
   by_cases hu:p.u0 i=true
   ·rw [hu] at c0 e0 hwi HU
    obtain ⟨U1,hU1⟩:∃ l:List UInt8,l=([32,32,117,112,32]:List UInt8)++([108,111,99,97,108,32]:List UInt8):=⟨_,rfl⟩
    have NU1:Hid (U1.length<=11):=hide (by rw [hU1];exact aj (a:=5) (b:=6) (by simp) (by simp))
    have sU1:∀ w:World,(Op.stringOp .add ⟨#[32,32,117,112,32]⟩ ⟨#[108,111,99,97,108,32]⟩).run Tryz.prog w=.ok (.string (bT U1)) w:=fun w=>by rw [hU1];exact aD (a:=5) (b:=6) (by simp) (by simp) (by omega) w
    have EU1:=hide hU1
    clear hU1
    obtain ⟨U2,hU2⟩:∃ l:List UInt8,l=(U1)++(aW (p.u1 i)):=⟨_,rfl⟩
    have NU2:Hid (U2.length<=31):=hide (by rw [hU2];exact aj (a:=11) (b:=20) (NU1.out) (aO (by omega) (by omega)))
    have sU2:∀ w:World,(Op.stringOp .add (bT (U1)) (bT (aW (p.u1 i)))).run Tryz.prog w=.ok (.string (bT U2)) w:=fun w=>by rw [hU2];exact aD (a:=11) (b:=20) (NU1.out) (aO (by omega) (by omega)) (by omega) w
    have EU2:=hide hU2
    clear hU2
    obtain ⟨U3,hU3⟩:∃ l:List UInt8,l=(U2)++([10]:List UInt8):=⟨_,rfl⟩
    have NU3:Hid (U3.length<=32):=hide (by rw [hU3];exact aj (a:=31) (b:=1) (NU2.out) (by simp))
    have sU3:∀ w:World,(Op.stringOp .add (bT (U2)) ⟨#[10]⟩).run Tryz.prog w=.ok (.string (bT U3)) w:=fun w=>by rw [hU3];exact aD (a:=31) (b:=1) (NU2.out) (by simp) (by omega) w
    have EU3:=hide hU3
    clear hU3
    go_wp2_with (first
     |(go_at_call 30
       refine (mW (p.u1 i) _ (by omega) (by omega)).mono ?_
       rintro e w3 ⟨rfl,hb3⟩
       have HB2:=hide (HB1.out.trans (hb3.mono HB1.out.size))
       have HO2:=hide (HO1.out.low hb3)
       have HP2:=hide (HP1.out.low hb3 HP1.out.lt)
       clear hb3)
     |(at_builtin
       refine zx rfl _ _ rfl w.heap.size _ L (bT U3) HO2.out rfl rfl (by rw [dN];have:=NU3.out;have:=HLn.out;omega) HB2.out.size ?_
       intro oa' oc' w9 L' HL' HO9 HBn HK HS
       have HB9:=hide (HBn.out _ _ HB2.out (Nat.le_refl _))
       have HP9:=hide (ah.same HP2.out (HK.out _ (ah.lt HP2.out) (HO2.out.apart HP2.out (by decide))))
       clear HBn HK HS)
     |fail)
    have HX:Hid (L'=E1 p (i+1)):=hide (by
     rw [HL'.out,bP,EU3.out,EU2.out,EU1.out,HL.out,Qd,HU.out]
     simp)
    go_roundw
    case rel=>exact ⟨i+1,by omega,by simp,by rw [<-HX.out];exact HO9,HP9,HB9⟩
    case measure=>simp [gX];omega
   ·simp only [Bool.not_eq_true] at hu
    rw [hu] at c0 e0 hwi HU
    obtain ⟨U1,hU1⟩:∃ l:List UInt8,l=([32,32,117,112,32]:List UInt8)++([111,117,116,101,114,32]:List UInt8):=⟨_,rfl⟩
    have NU1:Hid (U1.length<=11):=hide (by rw [hU1];exact aj (a:=5) (b:=6) (by simp) (by simp))
    have sU1:∀ w:World,(Op.stringOp .add ⟨#[32,32,117,112,32]⟩ ⟨#[111,117,116,101,114,32]⟩).run Tryz.prog w=.ok (.string (bT U1)) w:=fun w=>by rw [hU1];exact aD (a:=5) (b:=6) (by simp) (by simp) (by omega) w
    have EU1:=hide hU1
    clear hU1
    obtain ⟨U2,hU2⟩:∃ l:List UInt8,l=(U1)++(aW (p.u1 i)):=⟨_,rfl⟩
    have NU2:Hid (U2.length<=31):=hide (by rw [hU2];exact aj (a:=11) (b:=20) (NU1.out) (aO (by omega) (by omega)))
    have sU2:∀ w:World,(Op.stringOp .add (bT (U1)) (bT (aW (p.u1 i)))).run Tryz.prog w=.ok (.string (bT U2)) w:=fun w=>by rw [hU2];exact aD (a:=11) (b:=20) (NU1.out) (aO (by omega) (by omega)) (by omega) w
    have EU2:=hide hU2
    clear hU2
    obtain ⟨U3,hU3⟩:∃ l:List UInt8,l=(U2)++([10]:List UInt8):=⟨_,rfl⟩
    have NU3:Hid (U3.length<=32):=hide (by rw [hU3];exact aj (a:=31) (b:=1) (NU2.out) (by simp))
    have sU3:∀ w:World,(Op.stringOp .add (bT (U2)) ⟨#[10]⟩).run Tryz.prog w=.ok (.string (bT U3)) w:=fun w=>by rw [hU3];exact aD (a:=31) (b:=1) (NU2.out) (by simp) (by omega) w
    have EU3:=hide hU3
    clear hU3
    go_wp2_with (first
     |(go_at_call 30
       refine (mW (p.u1 i) _ (by omega) (by omega)).mono ?_
       rintro e w3 ⟨rfl,hb3⟩
       have HB2:=hide (HB1.out.trans (hb3.mono HB1.out.size))
       have HO2:=hide (HO1.out.low hb3)
       have HP2:=hide (HP1.out.low hb3 HP1.out.lt)
       clear hb3)
     |(at_builtin
       refine zx rfl _ _ rfl w.heap.size _ L (bT U3) HO2.out rfl rfl (by rw [dN];have:=NU3.out;have:=HLn.out;omega) HB2.out.size ?_
       intro oa' oc' w9 L' HL' HO9 HBn HK HS
       have HB9:=hide (HBn.out _ _ HB2.out (Nat.le_refl _))
       have HP9:=hide (ah.same HP2.out (HK.out _ (ah.lt HP2.out) (HO2.out.apart HP2.out (by decide))))
       clear HBn HK HS)
     |fail)
    have HX:Hid (L'=E1 p (i+1)):=hide (by
     rw [HL'.out,bP,EU3.out,EU2.out,EU1.out,HL.out,Qd,HU.out]
     simp)
    go_roundw
    case rel=>exact ⟨i+1,by omega,by simp,by rw [<-HX.out];exact HO9,HP9,HB9⟩
    case measure=>simp [gX];omega
  ·obtain rfl:i=p.nu:=by omega
   clear hog hog2
   obtain ⟨-,-,-,-,-,q5,-,-⟩:=HP.out.all
   go_wp2_with fail
   have HO8:Hid (lJ wr w.heap.size (.slice (some ⟨og,0,none⟩) L.length oc) (E2 T p 0)):=hide (by rw [QF,<-HL.out];exact HO.out)
   have HP8:=HP
   have HB8:=HB
   clear HO HP HB HL HLn q5 hZr hi hin
   generalize Value.slice (some ⟨og,0,none⟩) L.length oc=ov at HO8 ⊢
   generalize wr=w3 at *
   go_loopw [3,58] (fun ov iv wr=>∃ i:Nat,i<=p.nc/\iv=.int .i64 (i:Int)/\Hid (lJ wr w.heap.size ov (E2 T p i))/\Hid (dA wr w.heap.size p (.slice a4 p.nu k4) (.slice a5 p.nc k5) (.slice a6 p.ni k6) (.slice a7 p.nl k7))/\Hid (Below w.heap.size w wr)) (fun _ iv _=>p.nc-gX iv)
   case atStart=>exact ⟨0,Nat.zero_le _,rfl,HO8,HP8,HB8⟩
   case round=>
    clear HO8 HP8 HB8
    obtain ⟨i,hi,rfl,HO,HP,HB⟩:=hrel
    have HLn0:=hide (I6 HTL.out HW.out hi)
    obtain ⟨L,hL⟩:∃ L,L=E2 T p i:=⟨_,rfl⟩
    rw [<-hL] at HO HLn0
    have HLn:=hide HLn0.out
    have HL:=hide hL
    clear hL HLn0
    obtain ⟨og,oc,rfl,hog,hog2⟩:=HO.out.val
    have hZr:=HP.out.lt
    by_cases hin:i<p.nc
    ·obtain ⟨b,o,cap',hv,hb,c0,c1,c2,c3⟩:=Jv (HA.out.c.low HB.out (Nat.le_refl _)) hin
     simp only [Value.slice.injEq,true_and] at hv
     obtain ⟨rfl,rfl⟩:=hv
     obtain ⟨hi0,hi1⟩:=HW.out.ints i hin
     obtain ⟨hf0,hf1⟩:=HW.out.bits i hin
     have HTx:=hide (HW.out.text hin)
     have HNa:=hide (HW.out.nan hin)
     obtain ⟨kd,hkd⟩:∃ kd,p.c0 i=kd:=⟨_,rfl⟩
     rw [hkd] at c0 HNa
     have HKd:=hide hkd
     clear hkd
     obtain ⟨wi,hwi⟩:∃ wi,wr.alloc (.cells #[.int .i64 kd,.int .i64 (p.c1 i),.int .u64 (p.c2 i),.string (p.c3 i)] 86)=wi:=⟨_,rfl⟩
     have hB:=b_1 wr (.cells #[.int .i64 kd,.int .i64 (p.c1 i),.int .u64 (p.c2 i),.string (p.c3 i)] 86)
     rw [hwi] at hB
     have HO1:=hide (HO.out.low hB)
     have HP1:=hide (HP.out.low hB hZr)
     have HB1:=hide (HB.out.trans (hB.mono (Nat.le_of_lt hZr)))
     have e0:wi.cell? ⟨wr.heap.size,0,none⟩=some (.int .i64 kd):=by rw [<-hwi];simp
     have e1:wi.cell? ⟨wr.heap.size,1,none⟩=some (.int .i64 (p.c1 i)):=by rw [<-hwi];simp
     have e2:wi.cell? ⟨wr.heap.size,2,none⟩=some (.int .u64 (p.c2 i)):=by rw [<-hwi];simp
     have e3:wi.cell? ⟨wr.heap.size,3,none⟩=some (.string (p.c3 i)):=by rw [<-hwi];simp
     clear hB
     by_cases h4:kd=4
     ·subst h4
      have HC:Hid (dB T p i=([32,32,99,111,110,115,116,32]:List UInt8)++([105,110,116,32]++aW (p.c1 i))):=hide (by
       unfold dB
       rw [if_pos HKd.out])
      obtain ⟨F1,hF1⟩:∃ l:List UInt8,l=([105,110,116,32]:List UInt8)++(aW (p.c1 i)):=⟨_,rfl⟩
      have NF1:Hid (F1.length<=24):=hide (by rw [hF1];exact aj (a:=4) (b:=20) (by simp) (aO (by omega) (by omega)))
      have sF1:∀ w:World,(Op.stringOp .add ⟨#[105,110,116,32]⟩ (bT (aW (p.c1 i)))).run Tryz.prog w=.ok (.string (bT F1)) w:=fun w=>by rw [hF1];exact aD (a:=4) (b:=20) (by simp) (aO (by omega) (by omega)) (by omega) w
      have EF1:=hide hF1
      clear hF1
      obtain ⟨G1,hG1⟩:∃ l:List UInt8,l=([32,32,99,111,110,115,116,32]:List UInt8)++(F1):=⟨_,rfl⟩
      have NG1:Hid (G1.length<=32):=hide (by rw [hG1];exact aj (a:=8) (b:=24) (by simp) (NF1.out))
      have sG1:∀ w:World,(Op.stringOp .add ⟨#[32,32,99,111,110,115,116,32]⟩ (bT (F1))).run Tryz.prog w=.ok (.string (bT G1)) w:=fun w=>by rw [hG1];exact aD (a:=8) (b:=24) (by simp) (NF1.out) (by omega) w
      have EG1:=hide hG1
      clear hG1
      obtain ⟨G2,hG2⟩:∃ l:List UInt8,l=(G1)++([10]:List UInt8):=⟨_,rfl⟩
      have NG2:Hid (G2.length<=33):=hide (by rw [hG2];exact aj (a:=32) (b:=1) (NG1.out) (by simp))
      have sG2:∀ w:World,(Op.stringOp .add (bT (G1)) ⟨#[10]⟩).run Tryz.prog w=.ok (.string (bT G2)) w:=fun w=>by rw [hG2];exact aD (a:=32) (b:=1) (NG1.out) (by simp) (by omega) w
      have EG2:=hide hG2
      clear hG2
      go_wp2_with (first
       |(go_at_call 30
         refine (mW (p.c1 i) _ (by omega) (by omega)).mono ?_
         rintro e w4 ⟨rfl,hb4⟩
         have HB2:=hide (HB1.out.trans (hb4.mono HB1.out.size))
         have HO2:=hide (HO1.out.low hb4)
         have HP2:=hide (HP1.out.low hb4 HP1.out.lt)
         clear hb4)
       |(at_builtin
         refine zx rfl _ _ rfl w.heap.size _ L (bT G2) HO2.out rfl rfl (by rw [dN];have:=NG2.out;have:=HLn.out;omega) HB2.out.size ?_
         intro oa' oc' w9 L' HL' HO9 HBn HK HS
         have HB9:=hide (HBn.out _ _ HB2.out (Nat.le_refl _))
         have HP9:=hide (ah.same HP2.out (HK.out _ (ah.lt HP2.out) (HO2.out.apart HP2.out (by decide))))
         clear HBn HK HS)
       |fail)
      have HX:Hid (L'=E2 T p (i+1)):=hide (by
       rw [HL'.out,bP,EG2.out,EG1.out,EF1.out,HL.out,Oy,HC.out])
      go_roundw
      case rel=>exact ⟨i+1,by omega,by simp,by rw [<-HX.out];exact HO9,HP9,HB9⟩
      case measure=>simp [gX];omega
     ·by_cases h5:kd=5
      ·subst h5
       have HC:Hid (dB T p i=([32,32,99,111,110,115,116,32]:List UInt8)++([102,108,111,97,116,32]++T (p.c2 i))):=hide (by
        unfold dB
        rw [if_neg (by rw [HKd.out];decide),if_pos HKd.out])
       obtain ⟨F1,hF1⟩:∃ l:List UInt8,l=([102,108,111,97,116,32]:List UInt8)++(T (p.c2 i)):=⟨_,rfl⟩
       have NF1:Hid (F1.length<=1006):=hide (by rw [hF1];exact aj (a:=6) (b:=1000) (by simp) (HTL.out _))
       have sF1:∀ w:World,(Op.stringOp .add ⟨#[102,108,111,97,116,32]⟩ (bT (T (p.c2 i)))).run Tryz.prog w=.ok (.string (bT F1)) w:=fun w=>by rw [hF1];exact aD (a:=6) (b:=1000) (by simp) (HTL.out _) (by omega) w
       have EF1:=hide hF1
       clear hF1
       obtain ⟨G1,hG1⟩:∃ l:List UInt8,l=([32,32,99,111,110,115,116,32]:List UInt8)++(F1):=⟨_,rfl⟩
       have NG1:Hid (G1.length<=1014):=hide (by rw [hG1];exact aj (a:=8) (b:=1006) (by simp) (NF1.out))
       have sG1:∀ w:World,(Op.stringOp .add ⟨#[32,32,99,111,110,115,116,32]⟩ (bT (F1))).run Tryz.prog w=.ok (.string (bT G1)) w:=fun w=>by rw [hG1];exact aD (a:=8) (b:=1006) (by simp) (NF1.out) (by omega) w
       have EG1:=hide hG1
       clear hG1
       obtain ⟨G2,hG2⟩:∃ l:List UInt8,l=(G1)++([10]:List UInt8):=⟨_,rfl⟩
       have NG2:Hid (G2.length<=1015):=hide (by rw [hG2];exact aj (a:=1014) (b:=1) (NG1.out) (by simp))
       have sG2:∀ w:World,(Op.stringOp .add (bT (G1)) ⟨#[10]⟩).run Tryz.prog w=.ok (.string (bT G2)) w:=fun w=>by rw [hG2];exact aD (a:=1014) (b:=1) (NG1.out) (by simp) (by omega) w
       have EG2:=hide hG2
       clear hG2
       go_wp2_with (first
        |(go_at_call 33
          refine (BJ (p.c2 i) _ hf0).mono ?_
          rintro e w3 ⟨rfl,hb3⟩
          have HBa:=hide (HB1.out.trans (hb3.mono HB1.out.size))
          have HOa:=hide (HO1.out.low hb3)
          have HPa:=hide (HP1.out.low hb3 HP1.out.lt)
          clear hb3)
        |(go_at_call 32
          refine (HT.out.run (p.c2 i) _ hf0 hf1).mono ?_
          rintro e w4 ⟨rfl,hb4⟩
          have HB2:=hide (HBa.out.trans (hb4.mono HBa.out.size))
          have HO2:=hide (HOa.out.low hb4)
          have HP2:=hide (HPa.out.low hb4 HPa.out.lt)
          clear hb4)
        |(at_builtin
          refine zx rfl _ _ rfl w.heap.size _ L (bT G2) HO2.out rfl rfl (by rw [dN];have:=NG2.out;have:=HLn.out;omega) HB2.out.size ?_
          intro oa' oc' w9 L' HL' HO9 HBn HK HS
          have HB9:=hide (HBn.out _ _ HB2.out (Nat.le_refl _))
          have HP9:=hide (ah.same HP2.out (HK.out _ (ah.lt HP2.out) (HO2.out.apart HP2.out (by decide))))
          clear HBn HK HS)
        |fail)
       have HX:Hid (L'=E2 T p (i+1)):=hide (by
        rw [HL'.out,bP,EG2.out,EG1.out,EF1.out,HL.out,Oy,HC.out])
       go_roundw
       case rel=>exact ⟨i+1,by omega,by simp,by rw [<-HX.out];exact HO9,HP9,HB9⟩
       case measure=>simp [gX];omega
      ·have hk4:(kd==4)=false:=beq_false_of_ne h4
       have hk5:(kd==5)=false:=beq_false_of_ne h5
       have HC:Hid (dB T p i=([32,32,99,111,110,115,116,32]:List UInt8)++([115,116,114,105,110,103,32]++yg (p.c3 i).data.toList)):=hide (by
        unfold dB
        rw [if_neg (by rw [HKd.out];exact h4),if_neg (by rw [HKd.out];exact h5)])
       obtain ⟨F1,hF1⟩:∃ l:List UInt8,l=([115,116,114,105,110,103,32]:List UInt8)++(yg (p.c3 i).data.toList):=⟨_,rfl⟩
       have NF1:Hid (F1.length<=262153):=hide (by rw [hF1];exact aj (a:=7) (b:=262146) (by simp) (wO HTx.out))
       have sF1:∀ w:World,(Op.stringOp .add ⟨#[115,116,114,105,110,103,32]⟩ (bT (yg (p.c3 i).data.toList))).run Tryz.prog w=.ok (.string (bT F1)) w:=fun w=>by rw [hF1];exact aD (a:=7) (b:=262146) (by simp) (wO HTx.out) (by omega) w
       have EF1:=hide hF1
       clear hF1
       obtain ⟨G1,hG1⟩:∃ l:List UInt8,l=([32,32,99,111,110,115,116,32]:List UInt8)++(F1):=⟨_,rfl⟩
       have NG1:Hid (G1.length<=262161):=hide (by rw [hG1];exact aj (a:=8) (b:=262153) (by simp) (NF1.out))
       have sG1:∀ w:World,(Op.stringOp .add ⟨#[32,32,99,111,110,115,116,32]⟩ (bT (F1))).run Tryz.prog w=.ok (.string (bT G1)) w:=fun w=>by rw [hG1];exact aD (a:=8) (b:=262153) (by simp) (NF1.out) (by omega) w
       have EG1:=hide hG1
       clear hG1
       obtain ⟨G2,hG2⟩:∃ l:List UInt8,l=(G1)++([10]:List UInt8):=⟨_,rfl⟩
       have NG2:Hid (G2.length<=262162):=hide (by rw [hG2];exact aj (a:=262161) (b:=1) (NG1.out) (by simp))
       have sG2:∀ w:World,(Op.stringOp .add (bT (G1)) ⟨#[10]⟩).run Tryz.prog w=.ok (.string (bT G2)) w:=fun w=>by rw [hG2];exact aD (a:=262161) (b:=1) (NG1.out) (by simp) (by omega) w
       have EG2:=hide hG2
       clear hG2
       go_wp2_with (first
        |(go_at_call 34
          refine (Ao (p.c3 i) _ (by have:=HTx.out;omega)).mono ?_
          rintro e w4 ⟨rfl,hb4⟩
          have HB2:=hide (HB1.out.trans (hb4.mono HB1.out.size))
          have HO2:=hide (HO1.out.low hb4)
          have HP2:=hide (HP1.out.low hb4 HP1.out.lt)
          clear hb4)
        |(at_builtin
          refine zx rfl _ _ rfl w.heap.size _ L (bT G2) HO2.out rfl rfl (by rw [dN];have:=NG2.out;have:=HLn.out;omega) HB2.out.size ?_
          intro oa' oc' w9 L' HL' HO9 HBn HK HS
          have HB9:=hide (HBn.out _ _ HB2.out (Nat.le_refl _))
          have HP9:=hide (ah.same HP2.out (HK.out _ (ah.lt HP2.out) (HO2.out.apart HP2.out (by decide))))
          clear HBn HK HS)
        |fail)
       have HX:Hid (L'=E2 T p (i+1)):=hide (by
        rw [HL'.out,bP,EG2.out,EG1.out,EF1.out,HL.out,Oy,HC.out])
       go_roundw
       case rel=>exact ⟨i+1,by omega,by simp,by rw [<-HX.out];exact HO9,HP9,HB9⟩
       case measure=>simp [gX];omega
    ·obtain rfl:i=p.nc:=by omega
     clear hog hog2
     obtain ⟨q0,q1,q2,q3,q4,q5,q6,q7⟩:=HP.out.all
     go_wp2_with fail
     have HO8:Hid (lJ wr w.heap.size (.slice (some ⟨og,0,none⟩) L.length oc) (E3 T p 0)):=hide (by rw [Qr,<-HL.out];exact HO.out)
     have HP8:=HP
     have HB8:=HB
     clear HO HP HB HL HLn hZr hi hin q0 q1 q2 q3 q4 q5 q6 q7
     generalize Value.slice (some ⟨og,0,none⟩) L.length oc=ov at HO8 ⊢
     generalize wr=w3 at *
     refine (yx p (.slice a4 p.nu k4) (.slice a5 p.nc k5) (.slice a6 p.ni k6) (.slice a7 p.nl k7) w3 (by omega) (HA.out.i.low HB8.out (Nat.le_refl _))).mono ?_
     rintro e w4 ⟨gL,rfl,hgL,hLab,hb4⟩
     have hZ8:=HP8.out.lt
     have HO9:=hide (HO8.out.low hb4)
     have HP9:=hide (HP8.out.low hb4 hZ8)
     have HB9:=hide (HB8.out.trans (hb4.mono HB8.out.size))
     have HI9:=hide hLab
     have hgZ:w.heap.size<=gL:=by omega
     clear hb4 hLab HO8 HP8 HB8 hgL hZ8
     obtain ⟨-,-,-,-,-,-,q6,-⟩:=HP9.out.all
     go_wp2_with fail
     clear q6
     generalize w4=w5 at *
     go_loopw [3,92] (fun ov iv wr=>∃ i:Nat,i<=p.ni/\iv=.int .i64 (i:Int)/\Hid (lJ wr w.heap.size ov (E3 T p i))/\Hid (fE wr gL p.ni (rX p))/\Hid (dA wr w.heap.size p (.slice a4 p.nu k4) (.slice a5 p.nc k5) (.slice a6 p.ni k6) (.slice a7 p.nl k7))/\Hid (Below w.heap.size w wr)) (fun _ iv _=>p.ni-gX iv)
     case atStart=>exact ⟨0,Nat.zero_le _,rfl,HO9,HI9,HP9,HB9⟩
     case round=>
      clear HO9 HI9 HP9 HB9
      obtain ⟨i,hi,rfl,HO,HI,HP,HB⟩:=hrel
      have HLn0:=hide (Ia HTL.out HW.out hi)
      obtain ⟨L,hL⟩:∃ L,L=E3 T p i:=⟨_,rfl⟩
      rw [<-hL] at HO HLn0
      have HLn:=hide HLn0.out
      have HL:=hide hL
      clear hL HLn0
      obtain ⟨og,oc,rfl,hog,hog2⟩:=HO.out.val
      have hZr:=HP.out.lt
      have hGr:gL<wr.heap.size:=ah.lt HI.out
      by_cases hin:i<p.ni
      ·obtain ⟨b,o,cap',hv,hb,c0,c1,c2,c3⟩:=sV (HA.out.i.low HB.out (Nat.le_refl _)) hin
       simp only [Value.slice.injEq,true_and] at hv
       obtain ⟨rfl,rfl⟩:=hv
       obtain ⟨b',o',cap9,hv,hb',c4⟩:=I9 HA.out.l (k:=i) (by rw [N4.out];exact hin)
       simp only [Value.slice.injEq,true_and] at hv
       obtain ⟨rfl,rfl⟩:=hv
       have HD:=hide (HW.out.insD hin)
       obtain ⟨lb,hlb⟩:∃ lb:Nat,lb=lbl p i:=⟨_,rfl⟩
       have HDx:Hid (lD (lb:Int)):=hide (by rw [hlb];exact HD.out.x)
       have HLb:=hide hlb
       obtain ⟨lq,hlq⟩:∃ lq:Nat,lq=lbl p (p.i2 i).toNat:=⟨_,rfl⟩
       have HDy:Hid (lD (lq:Int)):=hide (by rw [hlq];exact HD.out.y)
       have HLq:=hide hlq
       clear hlb hlq
       obtain ⟨wi,hwi⟩:∃ wi,wr.alloc (.cells #[.int .i64 (p.i0 i),.int .i64 (p.i1 i),.int .i64 (p.i2 i),.int .i64 (p.i3 i)] 45)=wi:=⟨_,rfl⟩
       have hB:=b_1 wr (.cells #[.int .i64 (p.i0 i),.int .i64 (p.i1 i),.int .i64 (p.i2 i),.int .i64 (p.i3 i)] 45)
       have hR:ah wi 45 wr.heap.size 4 (fun j=>(#[.int .i64 (p.i0 i),.int .i64 (p.i1 i),.int .i64 (p.i2 i),.int .i64 (p.i3 i)]:Array Value).getD j (.bool false)):=by rw [<-hwi];exact ah.mk' wr 45 _
       rw [hwi] at hB
       have HS1:Hid (RdL wi w.heap.size gL wr.heap.size b' (o'+i) p (.slice a4 p.nu k4) (.slice a5 p.nc k5) (.slice (some ⟨b,o,none⟩) p.ni k6) (.slice (some ⟨b',o',none⟩) p.nl k7) i L (.slice (some ⟨og,0,none⟩) L.length oc) w):=hide ⟨HO.out.low hB,fE.low HI.out hB hGr,HP.out.low hB hZr,hR,((HB.out.trans (hB.mono (Nat.le_of_lt hZr))).cell (p:=⟨b',o'+i,none⟩) hb').trans c4,HB.out.trans (hB.mono (Nat.le_of_lt hZr)),Nat.lt_of_lt_of_le hb' HB.out.size,hgZ,Nat.le_of_lt hZr⟩
       have c4o:=hide c4
       clear hB hR HO HI HP HB c4
       have hdl:=N_ p i
       have hij:=Gh p i
       have clI:=hide (fun (wx:World) (h:fE wx gL p.ni (rX p))=>h.get hin)
       clear p0 p1 r0 r1 l0 l1 n1 n2 hb hog hog2
       by_cases ha:aH p p.ni i=true
       ·have hV:rX p i=(lb:Int):=by unfold rX;rw [if_pos ha,HLb.out]
        have HV:=hide hV
        obtain ⟨H1,hH1⟩:∃ l:List UInt8,l=([64]:List UInt8)++(aW lb):=⟨_,rfl⟩
        have NH1:Hid (H1.length<=21):=hide (by rw [hH1];exact aj (a:=1) (b:=20) (by simp) (eZ HDx.out))
        have sH1:∀ w:World,(Op.stringOp .add ⟨#[64]⟩ (bT (aW lb))).run Tryz.prog w=.ok (.string (bT H1)) w:=fun w=>by rw [hH1];exact aD (a:=1) (b:=20) (by simp) (eZ HDx.out) (by omega) w
        have EH1:=hide hH1
        clear hH1
        obtain ⟨H2,hH2⟩:∃ l:List UInt8,l=(H1)++([58,32]:List UInt8):=⟨_,rfl⟩
        have NH2:Hid (H2.length<=23):=hide (by rw [hH2];exact aj (a:=21) (b:=2) (NH1.out) (by simp))
        have sH2:∀ w:World,(Op.stringOp .add (bT (H1)) ⟨#[58,32]⟩).run Tryz.prog w=.ok (.string (bT H2)) w:=fun w=>by rw [hH2];exact aD (a:=21) (b:=2) (NH1.out) (by simp) (by omega) w
        have EH2:=hide hH2
        clear hH2
        have HH:Hid (H2=(if aH p p.ni i then ([64]:List UInt8)++aW (lbl p i)++[58,32] else [32,32,32,32])):=hide (by rw [if_pos ha,EH2.out,EH1.out,HLb.out])
        clear ha
        by_cases hJ:mJ p i=true
        ·have HJ:=hide hJ
         have hj1:jmp (p.i0 i)=true:=by
          unfold mJ at hJ
          simp only [Bool.and_eq_true] at hJ
          exact hJ.1.1
         have hq0:0<=p.i2 i/\p.i2 i<p.ni:=by
          unfold mJ at hJ
          simp only [Bool.and_eq_true,decide_eq_true_eq] at hJ
          exact ⟨hJ.1.2,hJ.2⟩
         obtain ⟨hq1,hq2⟩:=hq0
         have hq:(p.i2 i).toNat<p.ni:=by omega
         have hVq:rX p (p.i2 i).toNat=(lq:Int):=by
          unfold rX
          rw [if_pos (qO hin hJ),HLq.out]
         have hin2:inI (p.i2 i) 0 ((p.ni:Int)-1)=true:=by
          rw [hj1,hJ] at hij
          simpa using hij
         clear hij hJ
         obtain ⟨e0,e1,e2,e3,e6,e7,e4⟩:=HS1.out.cells
         have cl:=clI.out wi HS1.out.l
         rw [HV.out] at cl
         obtain ⟨J1,hJ1⟩:∃ l:List UInt8,l=([64]:List UInt8)++(aW lq):=⟨_,rfl⟩
         have NJ1:Hid (J1.length<=21):=hide (by rw [hJ1];exact aj (a:=1) (b:=20) (by simp) (eZ HDy.out))
         have sJ1:∀ w:World,(Op.stringOp .add ⟨#[64]⟩ (bT (aW lq))).run Tryz.prog w=.ok (.string (bT J1)) w:=fun w=>by rw [hJ1];exact aD (a:=1) (b:=20) (by simp) (eZ HDy.out) (by omega) w
         have EJ1:=hide hJ1
         clear hJ1
         go_wp2_with (first
          |(have _z:=HSwb
            go_at_call 30
            clear _z
            refine (oK HDy.out _).mono ?_
            rintro e wc ⟨rfl,hb⟩
            have HSwc:=hide (HSwb.out.low hb)
            obtain ⟨wcc0,wcc1,wcc2,wcc3,wcc4,wcc5,wcc6⟩:=HSwc.out.cells
            clear hb)
          |(have _z:=HSwa
            go_at_call 30
            clear _z
            refine (oK HD.out.c _).mono ?_
            rintro e wb ⟨rfl,hb⟩
            have HSwb:=hide (HSwa.out.low hb)
            obtain ⟨wbc0,wbc1,wbc2,wbc3,wbc4,wbc5,wbc6⟩:=HSwb.out.cells
            have cq:=HSwb.out.l.get (j:=(p.i2 i).toNat) hq
            rw [hVq] at cq
            clear hb)
          |(have _z:=HS1
            go_at_call 30
            clear _z
            refine (oK HDx.out _).mono ?_
            rintro e wa ⟨rfl,hb⟩
            have HSwa:=hide (HS1.out.low hb)
            obtain ⟨wac0,wac1,wac2,wac3,wac4,wac5,wac6⟩:=HSwa.out.cells
            clear hb)
          |(go_at_call 36;refine (d_ _ _).mono ?_;rintro e w9 ⟨rfl,rfl⟩)
          |(go_at_call 37;refine (bC _ _ _ _).mono ?_;rintro e w9 ⟨rfl,rfl⟩)
          |fail)
         obtain ⟨M1,hM1⟩:∃ l:List UInt8,l=(H2)++(aW (p.l0 i)):=⟨_,rfl⟩
         have NM1:Hid (M1.length<=43):=hide (by rw [hM1];exact aj (a:=23) (b:=20) (NH2.out) (eZ HD.out.l))
         have sM1:∀ w:World,(Op.stringOp .add (bT (H2)) (bT (aW (p.l0 i)))).run Tryz.prog w=.ok (.string (bT M1)) w:=fun w=>by rw [hM1];exact aD (a:=23) (b:=20) (NH2.out) (eZ HD.out.l) (by omega) w
         have EM1:=hide hM1
         clear hM1
         obtain ⟨M2,hM2⟩:∃ l:List UInt8,l=(M1)++([32]:List UInt8):=⟨_,rfl⟩
         have NM2:Hid (M2.length<=44):=hide (by rw [hM2];exact aj (a:=43) (b:=1) (NM1.out) (by simp))
         have sM2:∀ w:World,(Op.stringOp .add (bT (M1)) ⟨#[32]⟩).run Tryz.prog w=.ok (.string (bT M2)) w:=fun w=>by rw [hM2];exact aD (a:=43) (b:=1) (NM1.out) (by simp) (by omega) w
         have EM2:=hide hM2
         clear hM2
         obtain ⟨M3,hM3⟩:∃ l:List UInt8,l=(M2)++(aU (p.i0 i)):=⟨_,rfl⟩
         have NM3:Hid (M3.length<=53):=hide (by rw [hM3];exact aj (a:=44) (b:=9) (NM2.out) (cO _))
         have sM3:∀ w:World,(Op.stringOp .add (bT (M2)) (bT (aU (p.i0 i)))).run Tryz.prog w=.ok (.string (bT M3)) w:=fun w=>by rw [hM3];exact aD (a:=44) (b:=9) (NM2.out) (cO _) (by omega) w
         have EM3:=hide hM3
         clear hM3
         obtain ⟨M4,hM4⟩:∃ l:List UInt8,l=(M3)++([32]:List UInt8):=⟨_,rfl⟩
         have NM4:Hid (M4.length<=54):=hide (by rw [hM4];exact aj (a:=53) (b:=1) (NM3.out) (by simp))
         have sM4:∀ w:World,(Op.stringOp .add (bT (M3)) ⟨#[32]⟩).run Tryz.prog w=.ok (.string (bT M4)) w:=fun w=>by rw [hM4];exact aD (a:=53) (b:=1) (NM3.out) (by simp) (by omega) w
         have EM4:=hide hM4
         clear hM4
         obtain ⟨M5,hM5⟩:∃ l:List UInt8,l=(M4)++(aW (p.i1 i)):=⟨_,rfl⟩
         have NM5:Hid (M5.length<=74):=hide (by rw [hM5];exact aj (a:=54) (b:=20) (NM4.out) (eZ HD.out.b))
         have sM5:∀ w:World,(Op.stringOp .add (bT (M4)) (bT (aW (p.i1 i)))).run Tryz.prog w=.ok (.string (bT M5)) w:=fun w=>by rw [hM5];exact aD (a:=54) (b:=20) (NM4.out) (eZ HD.out.b) (by omega) w
         have EM5:=hide hM5
         clear hM5
         obtain ⟨M6,hM6⟩:∃ l:List UInt8,l=(M5)++([32]:List UInt8):=⟨_,rfl⟩
         have NM6:Hid (M6.length<=75):=hide (by rw [hM6];exact aj (a:=74) (b:=1) (NM5.out) (by simp))
         have sM6:∀ w:World,(Op.stringOp .add (bT (M5)) ⟨#[32]⟩).run Tryz.prog w=.ok (.string (bT M6)) w:=fun w=>by rw [hM6];exact aD (a:=74) (b:=1) (NM5.out) (by simp) (by omega) w
         have EM6:=hide hM6
         clear hM6
         obtain ⟨M7,hM7⟩:∃ l:List UInt8,l=(M6)++(J1):=⟨_,rfl⟩
         have NM7:Hid (M7.length<=96):=hide (by rw [hM7];exact aj (a:=75) (b:=21) (NM6.out) (NJ1.out))
         have sM7:∀ w:World,(Op.stringOp .add (bT (M6)) (bT (J1))).run Tryz.prog w=.ok (.string (bT M7)) w:=fun w=>by rw [hM7];exact aD (a:=75) (b:=21) (NM6.out) (NJ1.out) (by omega) w
         have EM7:=hide hM7
         clear hM7
         obtain ⟨M8,hM8⟩:∃ l:List UInt8,l=(M7)++([32]:List UInt8):=⟨_,rfl⟩
         have NM8:Hid (M8.length<=97):=hide (by rw [hM8];exact aj (a:=96) (b:=1) (NM7.out) (by simp))
         have sM8:∀ w:World,(Op.stringOp .add (bT (M7)) ⟨#[32]⟩).run Tryz.prog w=.ok (.string (bT M8)) w:=fun w=>by rw [hM8];exact aD (a:=96) (b:=1) (NM7.out) (by simp) (by omega) w
         have EM8:=hide hM8
         clear hM8
         obtain ⟨M9,hM9⟩:∃ l:List UInt8,l=(M8)++(aW (p.i3 i)):=⟨_,rfl⟩
         have NM9:Hid (M9.length<=117):=hide (by rw [hM9];exact aj (a:=97) (b:=20) (NM8.out) (eZ HD.out.d))
         have sM9:∀ w:World,(Op.stringOp .add (bT (M8)) (bT (aW (p.i3 i)))).run Tryz.prog w=.ok (.string (bT M9)) w:=fun w=>by rw [hM9];exact aD (a:=97) (b:=20) (NM8.out) (eZ HD.out.d) (by omega) w
         have EM9:=hide hM9
         clear hM9
         obtain ⟨M10,hM10⟩:∃ l:List UInt8,l=(M9)++([10]:List UInt8):=⟨_,rfl⟩
         have NM10:Hid (M10.length<=118):=hide (by rw [hM10];exact aj (a:=117) (b:=1) (NM9.out) (by simp))
         have sM10:∀ w:World,(Op.stringOp .add (bT (M9)) ⟨#[10]⟩).run Tryz.prog w=.ok (.string (bT M10)) w:=fun w=>by rw [hM10];exact aD (a:=117) (b:=1) (NM9.out) (by simp) (by omega) w
         have EM10:=hide hM10
         clear hM10
         have hnl:(i:Int)<((p.nl:Nat):Int):=by have:=N4.out;omega
         go_region_held3 (fun w9=>w9.cell? ⟨wr.heap.size,0,none⟩=some (.int .i64 (p.i0 i))/\w9.cell? ⟨wr.heap.size,1,none⟩=some (.int .i64 (p.i1 i))/\w9.cell? ⟨wr.heap.size,3,none⟩=some (.int .i64 (p.i3 i))/\w9.cell? ⟨w.heap.size,7,none⟩=some (.slice (some ⟨b',o',none⟩) p.nl k7)/\w9.cell? ⟨b',o'+i,none⟩=some (.int .i64 (p.l0 i))) (go_keep)
          (first
          |(have _z:=HSwg
            rw [if_pos (by rfl)]
            clear _z
            refine iY _ _ rfl w.heap.size _ L (bT M10) HSwg.out.o rfl rfl (by rw [dN];have:=NM10.out;have:=HLn.out;omega) (Nat.le_of_lt (ah.lt HSwg.out.fp)) ?_
            intro oa' oc' w9 L' HL' HO9 HBn HK HS
            have HB9:=hide (HBn.out _ _ HSwg.out.b (Nat.le_refl _))
            have HP9:=hide (ah.same HSwg.out.fp (HK.out _ (ah.lt HSwg.out.fp) (HSwg.out.o.apart HSwg.out.fp (by decide))))
            have HI9:=hide (ah.same HSwg.out.l (HK.out _ (ah.lt HSwg.out.l) (HSwg.out.o.apart HSwg.out.l (by decide))))
            have HR9:=ah.same HSwg.out.r (HK.out _ (ah.lt HSwg.out.r) (HSwg.out.o.apart HSwg.out.r (by decide)))
            have w9c0:w9.cell? ⟨wr.heap.size,0,none⟩=some (.int .i64 (p.i0 i)):=ah.cell HR9 (j:=0) (by omega)
            have w9c1:w9.cell? ⟨wr.heap.size,1,none⟩=some (.int .i64 (p.i1 i)):=ah.cell HR9 (j:=1) (by omega)
            have w9c3:w9.cell? ⟨wr.heap.size,3,none⟩=some (.int .i64 (p.i3 i)):=ah.cell HR9 (j:=3) (by omega)
            have w9c5:w9.cell? ⟨w.heap.size,7,none⟩=some (.slice (some ⟨b',o',none⟩) p.nl k7):=ah.cell HP9.out (j:=7) (by omega)
            have w9c6:w9.cell? ⟨b',o'+i,none⟩=some (.int .i64 (p.l0 i)):=(HB9.out.cell (p:=⟨b',o'+i,none⟩) hb').trans c4o.out
            clear HBn HK HS HR9)
          |(have _z:=HSwf
            go_at_call 30
            clear _z
            refine (oK HD.out.d _).mono ?_
            rintro e wg ⟨rfl,hb⟩
            have HSwg:=hide (HSwf.out.low hb)
            obtain ⟨wgc0,wgc1,wgc2,wgc3,wgc4,wgc5,wgc6⟩:=HSwg.out.cells
            clear hb)
          |(have _z:=HSwe
            go_at_call 30
            clear _z
            refine (oK HD.out.b _).mono ?_
            rintro e wf ⟨rfl,hb⟩
            have HSwf:=hide (HSwe.out.low hb)
            obtain ⟨wfc0,wfc1,wfc2,wfc3,wfc4,wfc5,wfc6⟩:=HSwf.out.cells
            clear hb)
          |(have _z:=HSwd
            go_at_call 11
            clear _z
            refine (gV (p.i0 i) _ HD.out.a.1 HD.out.a.2).mono ?_
            rintro e we ⟨rfl,hb⟩
            have HSwe:=hide (HSwd.out.low hb)
            obtain ⟨wec0,wec1,wec2,wec3,wec4,wec5,wec6⟩:=HSwe.out.cells
            clear hb)
          |(have _z:=HSwc
            go_at_call 30
            clear _z
            refine (oK HD.out.l _).mono ?_
            rintro e wd ⟨rfl,hb⟩
            replace hb:=dL hb
            have HSwd:=hide (HSwc.out.low hb)
            obtain ⟨wdc0,wdc1,wdc2,wdc3,wdc4,wdc5,wdc6⟩:=HSwd.out.cells
            clear hb))
         have HX:Hid (L'=E3 T p (i+1)):=hide (by
          rw [HL'.out,bP,EM10.out,EM9.out,EM8.out,EM7.out,EM6.out,EM5.out,EM4.out,EM3.out,EM2.out,EM1.out,HH.out,EJ1.out,HLq.out,HL.out,Fh]
          unfold iL
          rw [HJ.out]
          simp)
         go_wp2_with fail
         go_roundw
         case rel=>exact ⟨i+1,by omega,by simp,by rw [<-HX.out];exact HO9,HI9,HP9,HB9⟩
         case measure=>simp [gX];omega
        ·simp only [Bool.not_eq_true] at hJ
         have HJ:=hide hJ
         rw [hJ] at hij
         clear hJ
         by_cases hj1:jmp (p.i0 i)=true
         ·have hin2:inI (p.i2 i) 0 ((p.ni:Int)-1)=false:=by
           rw [hj1] at hij
           simpa using hij
          clear hij
          obtain ⟨e0,e1,e2,e3,e6,e7,e4⟩:=HS1.out.cells
          have cl:=clI.out wi HS1.out.l
          rw [HV.out] at cl
          go_wp2_with (first
           |(have _z:=HSwa
             go_at_call 30
             clear _z
             refine (oK HD.out.c _).mono ?_
             rintro e wb ⟨rfl,hb⟩
             have HSwb:=hide (HSwa.out.low hb)
             obtain ⟨wbc0,wbc1,wbc2,wbc3,wbc4,wbc5,wbc6⟩:=HSwb.out.cells
             clear hb)
           |(have _z:=HS1
             go_at_call 30
             clear _z
             refine (oK HDx.out _).mono ?_
             rintro e wa ⟨rfl,hb⟩
             have HSwa:=hide (HS1.out.low hb)
             obtain ⟨wac0,wac1,wac2,wac3,wac4,wac5,wac6⟩:=HSwa.out.cells
             clear hb)
           |(go_at_call 36;refine (d_ _ _).mono ?_;rintro e w9 ⟨rfl,rfl⟩)
           |(go_at_call 37;refine (bC _ _ _ _).mono ?_;rintro e w9 ⟨rfl,rfl⟩)
           |fail)
          obtain ⟨M1,hM1⟩:∃ l:List UInt8,l=(H2)++(aW (p.l0 i)):=⟨_,rfl⟩
          have NM1:Hid (M1.length<=43):=hide (by rw [hM1];exact aj (a:=23) (b:=20) (NH2.out) (eZ HD.out.l))
          have sM1:∀ w:World,(Op.stringOp .add (bT (H2)) (bT (aW (p.l0 i)))).run Tryz.prog w=.ok (.string (bT M1)) w:=fun w=>by rw [hM1];exact aD (a:=23) (b:=20) (NH2.out) (eZ HD.out.l) (by omega) w
          have EM1:=hide hM1
          clear hM1
          obtain ⟨M2,hM2⟩:∃ l:List UInt8,l=(M1)++([32]:List UInt8):=⟨_,rfl⟩
          have NM2:Hid (M2.length<=44):=hide (by rw [hM2];exact aj (a:=43) (b:=1) (NM1.out) (by simp))
          have sM2:∀ w:World,(Op.stringOp .add (bT (M1)) ⟨#[32]⟩).run Tryz.prog w=.ok (.string (bT M2)) w:=fun w=>by rw [hM2];exact aD (a:=43) (b:=1) (NM1.out) (by simp) (by omega) w
          have EM2:=hide hM2
          clear hM2
          obtain ⟨M3,hM3⟩:∃ l:List UInt8,l=(M2)++(aU (p.i0 i)):=⟨_,rfl⟩
          have NM3:Hid (M3.length<=53):=hide (by rw [hM3];exact aj (a:=44) (b:=9) (NM2.out) (cO _))
          have sM3:∀ w:World,(Op.stringOp .add (bT (M2)) (bT (aU (p.i0 i)))).run Tryz.prog w=.ok (.string (bT M3)) w:=fun w=>by rw [hM3];exact aD (a:=44) (b:=9) (NM2.out) (cO _) (by omega) w
          have EM3:=hide hM3
          clear hM3
          obtain ⟨M4,hM4⟩:∃ l:List UInt8,l=(M3)++([32]:List UInt8):=⟨_,rfl⟩
          have NM4:Hid (M4.length<=54):=hide (by rw [hM4];exact aj (a:=53) (b:=1) (NM3.out) (by simp))
          have sM4:∀ w:World,(Op.stringOp .add (bT (M3)) ⟨#[32]⟩).run Tryz.prog w=.ok (.string (bT M4)) w:=fun w=>by rw [hM4];exact aD (a:=53) (b:=1) (NM3.out) (by simp) (by omega) w
          have EM4:=hide hM4
          clear hM4
          obtain ⟨M5,hM5⟩:∃ l:List UInt8,l=(M4)++(aW (p.i1 i)):=⟨_,rfl⟩
          have NM5:Hid (M5.length<=74):=hide (by rw [hM5];exact aj (a:=54) (b:=20) (NM4.out) (eZ HD.out.b))
          have sM5:∀ w:World,(Op.stringOp .add (bT (M4)) (bT (aW (p.i1 i)))).run Tryz.prog w=.ok (.string (bT M5)) w:=fun w=>by rw [hM5];exact aD (a:=54) (b:=20) (NM4.out) (eZ HD.out.b) (by omega) w
          have EM5:=hide hM5
          clear hM5
          obtain ⟨M6,hM6⟩:∃ l:List UInt8,l=(M5)++([32]:List UInt8):=⟨_,rfl⟩
          have NM6:Hid (M6.length<=75):=hide (by rw [hM6];exact aj (a:=74) (b:=1) (NM5.out) (by simp))
          have sM6:∀ w:World,(Op.stringOp .add (bT (M5)) ⟨#[32]⟩).run Tryz.prog w=.ok (.string (bT M6)) w:=fun w=>by rw [hM6];exact aD (a:=74) (b:=1) (NM5.out) (by simp) (by omega) w
          have EM6:=hide hM6
          clear hM6
          obtain ⟨M7,hM7⟩:∃ l:List UInt8,l=(M6)++(aW (p.i2 i)):=⟨_,rfl⟩
          have NM7:Hid (M7.length<=95):=hide (by rw [hM7];exact aj (a:=75) (b:=20) (NM6.out) (eZ HD.out.c))
          have sM7:∀ w:World,(Op.stringOp .add (bT (M6)) (bT (aW (p.i2 i)))).run Tryz.prog w=.ok (.string (bT M7)) w:=fun w=>by rw [hM7];exact aD (a:=75) (b:=20) (NM6.out) (eZ HD.out.c) (by omega) w
          have EM7:=hide hM7
          clear hM7
          obtain ⟨M8,hM8⟩:∃ l:List UInt8,l=(M7)++([32]:List UInt8):=⟨_,rfl⟩
          have NM8:Hid (M8.length<=96):=hide (by rw [hM8];exact aj (a:=95) (b:=1) (NM7.out) (by simp))
          have sM8:∀ w:World,(Op.stringOp .add (bT (M7)) ⟨#[32]⟩).run Tryz.prog w=.ok (.string (bT M8)) w:=fun w=>by rw [hM8];exact aD (a:=95) (b:=1) (NM7.out) (by simp) (by omega) w
          have EM8:=hide hM8
          clear hM8
          obtain ⟨M9,hM9⟩:∃ l:List UInt8,l=(M8)++(aW (p.i3 i)):=⟨_,rfl⟩
          have NM9:Hid (M9.length<=116):=hide (by rw [hM9];exact aj (a:=96) (b:=20) (NM8.out) (eZ HD.out.d))
          have sM9:∀ w:World,(Op.stringOp .add (bT (M8)) (bT (aW (p.i3 i)))).run Tryz.prog w=.ok (.string (bT M9)) w:=fun w=>by rw [hM9];exact aD (a:=96) (b:=20) (NM8.out) (eZ HD.out.d) (by omega) w
          have EM9:=hide hM9
          clear hM9
          obtain ⟨M10,hM10⟩:∃ l:List UInt8,l=(M9)++([10]:List UInt8):=⟨_,rfl⟩
          have NM10:Hid (M10.length<=117):=hide (by rw [hM10];exact aj (a:=116) (b:=1) (NM9.out) (by simp))
          have sM10:∀ w:World,(Op.stringOp .add (bT (M9)) ⟨#[10]⟩).run Tryz.prog w=.ok (.string (bT M10)) w:=fun w=>by rw [hM10];exact aD (a:=116) (b:=1) (NM9.out) (by simp) (by omega) w
          have EM10:=hide hM10
          clear hM10
          have hnl:(i:Int)<((p.nl:Nat):Int):=by have:=N4.out;omega
          go_region_held3 (fun w9=>w9.cell? ⟨wr.heap.size,0,none⟩=some (.int .i64 (p.i0 i))/\w9.cell? ⟨wr.heap.size,1,none⟩=some (.int .i64 (p.i1 i))/\w9.cell? ⟨wr.heap.size,3,none⟩=some (.int .i64 (p.i3 i))/\w9.cell? ⟨w.heap.size,7,none⟩=some (.slice (some ⟨b',o',none⟩) p.nl k7)/\w9.cell? ⟨b',o'+i,none⟩=some (.int .i64 (p.l0 i))) (go_keep)
           (first
           |(have _z:=HSwg
             rw [if_pos (by rfl)]
             clear _z
             refine iY _ _ rfl w.heap.size _ L (bT M10) HSwg.out.o rfl rfl (by rw [dN];have:=NM10.out;have:=HLn.out;omega) (Nat.le_of_lt (ah.lt HSwg.out.fp)) ?_
             intro oa' oc' w9 L' HL' HO9 HBn HK HS
             have HB9:=hide (HBn.out _ _ HSwg.out.b (Nat.le_refl _))
             have HP9:=hide (ah.same HSwg.out.fp (HK.out _ (ah.lt HSwg.out.fp) (HSwg.out.o.apart HSwg.out.fp (by decide))))
             have HI9:=hide (ah.same HSwg.out.l (HK.out _ (ah.lt HSwg.out.l) (HSwg.out.o.apart HSwg.out.l (by decide))))
             have HR9:=ah.same HSwg.out.r (HK.out _ (ah.lt HSwg.out.r) (HSwg.out.o.apart HSwg.out.r (by decide)))
             have w9c0:w9.cell? ⟨wr.heap.size,0,none⟩=some (.int .i64 (p.i0 i)):=ah.cell HR9 (j:=0) (by omega)
             have w9c1:w9.cell? ⟨wr.heap.size,1,none⟩=some (.int .i64 (p.i1 i)):=ah.cell HR9 (j:=1) (by omega)
             have w9c3:w9.cell? ⟨wr.heap.size,3,none⟩=some (.int .i64 (p.i3 i)):=ah.cell HR9 (j:=3) (by omega)
             have w9c5:w9.cell? ⟨w.heap.size,7,none⟩=some (.slice (some ⟨b',o',none⟩) p.nl k7):=ah.cell HP9.out (j:=7) (by omega)
             have w9c6:w9.cell? ⟨b',o'+i,none⟩=some (.int .i64 (p.l0 i)):=(HB9.out.cell (p:=⟨b',o'+i,none⟩) hb').trans c4o.out
             clear HBn HK HS HR9)
           |(have _z:=HSwf
             go_at_call 30
             clear _z
             refine (oK HD.out.d _).mono ?_
             rintro e wg ⟨rfl,hb⟩
             have HSwg:=hide (HSwf.out.low hb)
             obtain ⟨wgc0,wgc1,wgc2,wgc3,wgc4,wgc5,wgc6⟩:=HSwg.out.cells
             clear hb)
           |(have _z:=HSwe
             go_at_call 30
             clear _z
             refine (oK HD.out.b _).mono ?_
             rintro e wf ⟨rfl,hb⟩
             have HSwf:=hide (HSwe.out.low hb)
             obtain ⟨wfc0,wfc1,wfc2,wfc3,wfc4,wfc5,wfc6⟩:=HSwf.out.cells
             clear hb)
           |(have _z:=HSwd
             go_at_call 11
             clear _z
             refine (gV (p.i0 i) _ HD.out.a.1 HD.out.a.2).mono ?_
             rintro e we ⟨rfl,hb⟩
             have HSwe:=hide (HSwd.out.low hb)
             obtain ⟨wec0,wec1,wec2,wec3,wec4,wec5,wec6⟩:=HSwe.out.cells
             clear hb)
           |(have _z:=HSwb
             go_at_call 30
             clear _z
             refine (oK HD.out.l _).mono ?_
             rintro e wd ⟨rfl,hb⟩
             replace hb:=dL hb
             have HSwd:=hide (HSwb.out.low hb)
             obtain ⟨wdc0,wdc1,wdc2,wdc3,wdc4,wdc5,wdc6⟩:=HSwd.out.cells
             clear hb))
          have HX:Hid (L'=E3 T p (i+1)):=hide (by
           rw [HL'.out,bP,EM10.out,EM9.out,EM8.out,EM7.out,EM6.out,EM5.out,EM4.out,EM3.out,EM2.out,EM1.out,HH.out,HL.out,Fh]
           unfold iL
           rw [HJ.out]
           simp)
          go_wp2_with fail
          go_roundw
          case rel=>exact ⟨i+1,by omega,by simp,by rw [<-HX.out];exact HO9,HI9,HP9,HB9⟩
          case measure=>simp [gX];omega
         ·simp only [Bool.not_eq_true] at hj1
          clear hij
          obtain ⟨e0,e1,e2,e3,e6,e7,e4⟩:=HS1.out.cells
          have cl:=clI.out wi HS1.out.l
          rw [HV.out] at cl
          go_wp2_with (first
           |(have _z:=HSwa
             go_at_call 30
             clear _z
             refine (oK HD.out.c _).mono ?_
             rintro e wb ⟨rfl,hb⟩
             have HSwb:=hide (HSwa.out.low hb)
             obtain ⟨wbc0,wbc1,wbc2,wbc3,wbc4,wbc5,wbc6⟩:=HSwb.out.cells
             clear hb)
           |(have _z:=HS1
             go_at_call 30
             clear _z
             refine (oK HDx.out _).mono ?_
             rintro e wa ⟨rfl,hb⟩
             have HSwa:=hide (HS1.out.low hb)
             obtain ⟨wac0,wac1,wac2,wac3,wac4,wac5,wac6⟩:=HSwa.out.cells
             clear hb)
           |(go_at_call 36;refine (d_ _ _).mono ?_;rintro e w9 ⟨rfl,rfl⟩)
           |(go_at_call 37;refine (bC _ _ _ _).mono ?_;rintro e w9 ⟨rfl,rfl⟩)
           |fail)
          obtain ⟨M1,hM1⟩:∃ l:List UInt8,l=(H2)++(aW (p.l0 i)):=⟨_,rfl⟩
          have NM1:Hid (M1.length<=43):=hide (by rw [hM1];exact aj (a:=23) (b:=20) (NH2.out) (eZ HD.out.l))
          have sM1:∀ w:World,(Op.stringOp .add (bT (H2)) (bT (aW (p.l0 i)))).run Tryz.prog w=.ok (.string (bT M1)) w:=fun w=>by rw [hM1];exact aD (a:=23) (b:=20) (NH2.out) (eZ HD.out.l) (by omega) w
          have EM1:=hide hM1
          clear hM1
          obtain ⟨M2,hM2⟩:∃ l:List UInt8,l=(M1)++([32]:List UInt8):=⟨_,rfl⟩
          have NM2:Hid (M2.length<=44):=hide (by rw [hM2];exact aj (a:=43) (b:=1) (NM1.out) (by simp))
          have sM2:∀ w:World,(Op.stringOp .add (bT (M1)) ⟨#[32]⟩).run Tryz.prog w=.ok (.string (bT M2)) w:=fun w=>by rw [hM2];exact aD (a:=43) (b:=1) (NM1.out) (by simp) (by omega) w
          have EM2:=hide hM2
          clear hM2
          obtain ⟨M3,hM3⟩:∃ l:List UInt8,l=(M2)++(aU (p.i0 i)):=⟨_,rfl⟩
          have NM3:Hid (M3.length<=53):=hide (by rw [hM3];exact aj (a:=44) (b:=9) (NM2.out) (cO _))
          have sM3:∀ w:World,(Op.stringOp .add (bT (M2)) (bT (aU (p.i0 i)))).run Tryz.prog w=.ok (.string (bT M3)) w:=fun w=>by rw [hM3];exact aD (a:=44) (b:=9) (NM2.out) (cO _) (by omega) w
          have EM3:=hide hM3
          clear hM3
          obtain ⟨M4,hM4⟩:∃ l:List UInt8,l=(M3)++([32]:List UInt8):=⟨_,rfl⟩
          have NM4:Hid (M4.length<=54):=hide (by rw [hM4];exact aj (a:=53) (b:=1) (NM3.out) (by simp))
          have sM4:∀ w:World,(Op.stringOp .add (bT (M3)) ⟨#[32]⟩).run Tryz.prog w=.ok (.string (bT M4)) w:=fun w=>by rw [hM4];exact aD (a:=53) (b:=1) (NM3.out) (by simp) (by omega) w
          have EM4:=hide hM4
          clear hM4
          obtain ⟨M5,hM5⟩:∃ l:List UInt8,l=(M4)++(aW (p.i1 i)):=⟨_,rfl⟩
          have NM5:Hid (M5.length<=74):=hide (by rw [hM5];exact aj (a:=54) (b:=20) (NM4.out) (eZ HD.out.b))
          have sM5:∀ w:World,(Op.stringOp .add (bT (M4)) (bT (aW (p.i1 i)))).run Tryz.prog w=.ok (.string (bT M5)) w:=fun w=>by rw [hM5];exact aD (a:=54) (b:=20) (NM4.out) (eZ HD.out.b) (by omega) w
          have EM5:=hide hM5
          clear hM5
          obtain ⟨M6,hM6⟩:∃ l:List UInt8,l=(M5)++([32]:List UInt8):=⟨_,rfl⟩
          have NM6:Hid (M6.length<=75):=hide (by rw [hM6];exact aj (a:=74) (b:=1) (NM5.out) (by simp))
          have sM6:∀ w:World,(Op.stringOp .add (bT (M5)) ⟨#[32]⟩).run Tryz.prog w=.ok (.string (bT M6)) w:=fun w=>by rw [hM6];exact aD (a:=74) (b:=1) (NM5.out) (by simp) (by omega) w
          have EM6:=hide hM6
          clear hM6
          obtain ⟨M7,hM7⟩:∃ l:List UInt8,l=(M6)++(aW (p.i2 i)):=⟨_,rfl⟩
          have NM7:Hid (M7.length<=95):=hide (by rw [hM7];exact aj (a:=75) (b:=20) (NM6.out) (eZ HD.out.c))
          have sM7:∀ w:World,(Op.stringOp .add (bT (M6)) (bT (aW (p.i2 i)))).run Tryz.prog w=.ok (.string (bT M7)) w:=fun w=>by rw [hM7];exact aD (a:=75) (b:=20) (NM6.out) (eZ HD.out.c) (by omega) w
          have EM7:=hide hM7
          clear hM7
          obtain ⟨M8,hM8⟩:∃ l:List UInt8,l=(M7)++([32]:List UInt8):=⟨_,rfl⟩
          have NM8:Hid (M8.length<=96):=hide (by rw [hM8];exact aj (a:=95) (b:=1) (NM7.out) (by simp))
          have sM8:∀ w:World,(Op.stringOp .add (bT (M7)) ⟨#[32]⟩).run Tryz.prog w=.ok (.string (bT M8)) w:=fun w=>by rw [hM8];exact aD (a:=95) (b:=1) (NM7.out) (by simp) (by omega) w
          have EM8:=hide hM8
          clear hM8
          obtain ⟨M9,hM9⟩:∃ l:List UInt8,l=(M8)++(aW (p.i3 i)):=⟨_,rfl⟩
          have NM9:Hid (M9.length<=116):=hide (by rw [hM9];exact aj (a:=96) (b:=20) (NM8.out) (eZ HD.out.d))
          have sM9:∀ w:World,(Op.stringOp .add (bT (M8)) (bT (aW (p.i3 i)))).run Tryz.prog w=.ok (.string (bT M9)) w:=fun w=>by rw [hM9];exact aD (a:=96) (b:=20) (NM8.out) (eZ HD.out.d) (by omega) w
          have EM9:=hide hM9
          clear hM9
          obtain ⟨M10,hM10⟩:∃ l:List UInt8,l=(M9)++([10]:List UInt8):=⟨_,rfl⟩
          have NM10:Hid (M10.length<=117):=hide (by rw [hM10];exact aj (a:=116) (b:=1) (NM9.out) (by simp))
          have sM10:∀ w:World,(Op.stringOp .add (bT (M9)) ⟨#[10]⟩).run Tryz.prog w=.ok (.string (bT M10)) w:=fun w=>by rw [hM10];exact aD (a:=116) (b:=1) (NM9.out) (by simp) (by omega) w
          have EM10:=hide hM10
          clear hM10
          have hnl:(i:Int)<((p.nl:Nat):Int):=by have:=N4.out;omega
          go_region_held3 (fun w9=>w9.cell? ⟨wr.heap.size,0,none⟩=some (.int .i64 (p.i0 i))/\w9.cell? ⟨wr.heap.size,1,none⟩=some (.int .i64 (p.i1 i))/\w9.cell? ⟨wr.heap.size,3,none⟩=some (.int .i64 (p.i3 i))/\w9.cell? ⟨w.heap.size,7,none⟩=some (.slice (some ⟨b',o',none⟩) p.nl k7)/\w9.cell? ⟨b',o'+i,none⟩=some (.int .i64 (p.l0 i))) (go_keep)
           (first
           |(have _z:=HSwg
             rw [if_pos (by rfl)]
             clear _z
             refine iY _ _ rfl w.heap.size _ L (bT M10) HSwg.out.o rfl rfl (by rw [dN];have:=NM10.out;have:=HLn.out;omega) (Nat.le_of_lt (ah.lt HSwg.out.fp)) ?_
             intro oa' oc' w9 L' HL' HO9 HBn HK HS
             have HB9:=hide (HBn.out _ _ HSwg.out.b (Nat.le_refl _))
             have HP9:=hide (ah.same HSwg.out.fp (HK.out _ (ah.lt HSwg.out.fp) (HSwg.out.o.apart HSwg.out.fp (by decide))))
             have HI9:=hide (ah.same HSwg.out.l (HK.out _ (ah.lt HSwg.out.l) (HSwg.out.o.apart HSwg.out.l (by decide))))
             have HR9:=ah.same HSwg.out.r (HK.out _ (ah.lt HSwg.out.r) (HSwg.out.o.apart HSwg.out.r (by decide)))
             have w9c0:w9.cell? ⟨wr.heap.size,0,none⟩=some (.int .i64 (p.i0 i)):=ah.cell HR9 (j:=0) (by omega)
             have w9c1:w9.cell? ⟨wr.heap.size,1,none⟩=some (.int .i64 (p.i1 i)):=ah.cell HR9 (j:=1) (by omega)
             have w9c3:w9.cell? ⟨wr.heap.size,3,none⟩=some (.int .i64 (p.i3 i)):=ah.cell HR9 (j:=3) (by omega)
             have w9c5:w9.cell? ⟨w.heap.size,7,none⟩=some (.slice (some ⟨b',o',none⟩) p.nl k7):=ah.cell HP9.out (j:=7) (by omega)
             have w9c6:w9.cell? ⟨b',o'+i,none⟩=some (.int .i64 (p.l0 i)):=(HB9.out.cell (p:=⟨b',o'+i,none⟩) hb').trans c4o.out
             clear HBn HK HS HR9)
           |(have _z:=HSwf
             go_at_call 30
             clear _z
             refine (oK HD.out.d _).mono ?_
             rintro e wg ⟨rfl,hb⟩
             have HSwg:=hide (HSwf.out.low hb)
             obtain ⟨wgc0,wgc1,wgc2,wgc3,wgc4,wgc5,wgc6⟩:=HSwg.out.cells
             clear hb)
           |(have _z:=HSwe
             go_at_call 30
             clear _z
             refine (oK HD.out.b _).mono ?_
             rintro e wf ⟨rfl,hb⟩
             have HSwf:=hide (HSwe.out.low hb)
             obtain ⟨wfc0,wfc1,wfc2,wfc3,wfc4,wfc5,wfc6⟩:=HSwf.out.cells
             clear hb)
           |(have _z:=HSwd
             go_at_call 11
             clear _z
             refine (gV (p.i0 i) _ HD.out.a.1 HD.out.a.2).mono ?_
             rintro e we ⟨rfl,hb⟩
             have HSwe:=hide (HSwd.out.low hb)
             obtain ⟨wec0,wec1,wec2,wec3,wec4,wec5,wec6⟩:=HSwe.out.cells
             clear hb)
           |(have _z:=HSwb
             go_at_call 30
             clear _z
             refine (oK HD.out.l _).mono ?_
             rintro e wd ⟨rfl,hb⟩
             replace hb:=dL hb
             have HSwd:=hide (HSwb.out.low hb)
             obtain ⟨wdc0,wdc1,wdc2,wdc3,wdc4,wdc5,wdc6⟩:=HSwd.out.cells
             clear hb))
          have HX:Hid (L'=E3 T p (i+1)):=hide (by
           rw [HL'.out,bP,EM10.out,EM9.out,EM8.out,EM7.out,EM6.out,EM5.out,EM4.out,EM3.out,EM2.out,EM1.out,HH.out,HL.out,Fh]
           unfold iL
           rw [HJ.out]
           simp)
          go_wp2_with fail
          go_roundw
          case rel=>exact ⟨i+1,by omega,by simp,by rw [<-HX.out];exact HO9,HI9,HP9,HB9⟩
          case measure=>simp [gX];omega
       ·have hV:rX p i= -1:=by unfold rX;rw [if_neg ha]
        have HV:=hide hV
        have HH:Hid (([32,32,32,32]:List UInt8)=(if aH p p.ni i then ([64]:List UInt8)++aW (lbl p i)++[58,32] else [32,32,32,32])):=hide (by rw [if_neg ha])
        clear ha
        by_cases hJ:mJ p i=true
        ·have HJ:=hide hJ
         have hj1:jmp (p.i0 i)=true:=by
          unfold mJ at hJ
          simp only [Bool.and_eq_true] at hJ
          exact hJ.1.1
         have hq0:0<=p.i2 i/\p.i2 i<p.ni:=by
          unfold mJ at hJ
          simp only [Bool.and_eq_true,decide_eq_true_eq] at hJ
          exact ⟨hJ.1.2,hJ.2⟩
         obtain ⟨hq1,hq2⟩:=hq0
         have hq:(p.i2 i).toNat<p.ni:=by omega
         have hVq:rX p (p.i2 i).toNat=(lq:Int):=by
          unfold rX
          rw [if_pos (qO hin hJ),HLq.out]
         have hin2:inI (p.i2 i) 0 ((p.ni:Int)-1)=true:=by
          rw [hj1,hJ] at hij
          simpa using hij
         clear hij hJ
         obtain ⟨e0,e1,e2,e3,e6,e7,e4⟩:=HS1.out.cells
         have cl:=clI.out wi HS1.out.l
         rw [HV.out] at cl
         obtain ⟨J1,hJ1⟩:∃ l:List UInt8,l=([64]:List UInt8)++(aW lq):=⟨_,rfl⟩
         have NJ1:Hid (J1.length<=21):=hide (by rw [hJ1];exact aj (a:=1) (b:=20) (by simp) (eZ HDy.out))
         have sJ1:∀ w:World,(Op.stringOp .add ⟨#[64]⟩ (bT (aW lq))).run Tryz.prog w=.ok (.string (bT J1)) w:=fun w=>by rw [hJ1];exact aD (a:=1) (b:=20) (by simp) (eZ HDy.out) (by omega) w
         have EJ1:=hide hJ1
         clear hJ1
         go_wp2_with (first
          |(have _z:=HSwb
            go_at_call 30
            clear _z
            refine (oK HDy.out _).mono ?_
            rintro e wc ⟨rfl,hb⟩
            have HSwc:=hide (HSwb.out.low hb)
            obtain ⟨wcc0,wcc1,wcc2,wcc3,wcc4,wcc5,wcc6⟩:=HSwc.out.cells
            clear hb)
          |(have _z:=HS1
            go_at_call 30
            clear _z
            refine (oK HD.out.c _).mono ?_
            rintro e wb ⟨rfl,hb⟩
            have HSwb:=hide (HS1.out.low hb)
            obtain ⟨wbc0,wbc1,wbc2,wbc3,wbc4,wbc5,wbc6⟩:=HSwb.out.cells
            have cq:=HSwb.out.l.get (j:=(p.i2 i).toNat) hq
            rw [hVq] at cq
            clear hb)
          |(go_at_call 36;refine (d_ _ _).mono ?_;rintro e w9 ⟨rfl,rfl⟩)
          |(go_at_call 37;refine (bC _ _ _ _).mono ?_;rintro e w9 ⟨rfl,rfl⟩)
          |fail)
         obtain ⟨M1,hM1⟩:∃ l:List UInt8,l=([32,32,32,32]:List UInt8)++(aW (p.l0 i)):=⟨_,rfl⟩
         have NM1:Hid (M1.length<=24):=hide (by rw [hM1];exact aj (a:=4) (b:=20) (by simp) (eZ HD.out.l))
         have sM1:∀ w:World,(Op.stringOp .add ⟨#[32,32,32,32]⟩ (bT (aW (p.l0 i)))).run Tryz.prog w=.ok (.string (bT M1)) w:=fun w=>by rw [hM1];exact aD (a:=4) (b:=20) (by simp) (eZ HD.out.l) (by omega) w
         have EM1:=hide hM1
         clear hM1
         obtain ⟨M2,hM2⟩:∃ l:List UInt8,l=(M1)++([32]:List UInt8):=⟨_,rfl⟩
         have NM2:Hid (M2.length<=25):=hide (by rw [hM2];exact aj (a:=24) (b:=1) (NM1.out) (by simp))
         have sM2:∀ w:World,(Op.stringOp .add (bT (M1)) ⟨#[32]⟩).run Tryz.prog w=.ok (.string (bT M2)) w:=fun w=>by rw [hM2];exact aD (a:=24) (b:=1) (NM1.out) (by simp) (by omega) w
         have EM2:=hide hM2
         clear hM2
         obtain ⟨M3,hM3⟩:∃ l:List UInt8,l=(M2)++(aU (p.i0 i)):=⟨_,rfl⟩
         have NM3:Hid (M3.length<=34):=hide (by rw [hM3];exact aj (a:=25) (b:=9) (NM2.out) (cO _))
         have sM3:∀ w:World,(Op.stringOp .add (bT (M2)) (bT (aU (p.i0 i)))).run Tryz.prog w=.ok (.string (bT M3)) w:=fun w=>by rw [hM3];exact aD (a:=25) (b:=9) (NM2.out) (cO _) (by omega) w
         have EM3:=hide hM3
         clear hM3
         obtain ⟨M4,hM4⟩:∃ l:List UInt8,l=(M3)++([32]:List UInt8):=⟨_,rfl⟩
         have NM4:Hid (M4.length<=35):=hide (by rw [hM4];exact aj (a:=34) (b:=1) (NM3.out) (by simp))
         have sM4:∀ w:World,(Op.stringOp .add (bT (M3)) ⟨#[32]⟩).run Tryz.prog w=.ok (.string (bT M4)) w:=fun w=>by rw [hM4];exact aD (a:=34) (b:=1) (NM3.out) (by simp) (by omega) w
         have EM4:=hide hM4
         clear hM4
         obtain ⟨M5,hM5⟩:∃ l:List UInt8,l=(M4)++(aW (p.i1 i)):=⟨_,rfl⟩
         have NM5:Hid (M5.length<=55):=hide (by rw [hM5];exact aj (a:=35) (b:=20) (NM4.out) (eZ HD.out.b))
         have sM5:∀ w:World,(Op.stringOp .add (bT (M4)) (bT (aW (p.i1 i)))).run Tryz.prog w=.ok (.string (bT M5)) w:=fun w=>by rw [hM5];exact aD (a:=35) (b:=20) (NM4.out) (eZ HD.out.b) (by omega) w
         have EM5:=hide hM5
         clear hM5
         obtain ⟨M6,hM6⟩:∃ l:List UInt8,l=(M5)++([32]:List UInt8):=⟨_,rfl⟩
         have NM6:Hid (M6.length<=56):=hide (by rw [hM6];exact aj (a:=55) (b:=1) (NM5.out) (by simp))
         have sM6:∀ w:World,(Op.stringOp .add (bT (M5)) ⟨#[32]⟩).run Tryz.prog w=.ok (.string (bT M6)) w:=fun w=>by rw [hM6];exact aD (a:=55) (b:=1) (NM5.out) (by simp) (by omega) w
         have EM6:=hide hM6
         clear hM6
         obtain ⟨M7,hM7⟩:∃ l:List UInt8,l=(M6)++(J1):=⟨_,rfl⟩
         have NM7:Hid (M7.length<=77):=hide (by rw [hM7];exact aj (a:=56) (b:=21) (NM6.out) (NJ1.out))
         have sM7:∀ w:World,(Op.stringOp .add (bT (M6)) (bT (J1))).run Tryz.prog w=.ok (.string (bT M7)) w:=fun w=>by rw [hM7];exact aD (a:=56) (b:=21) (NM6.out) (NJ1.out) (by omega) w
         have EM7:=hide hM7
         clear hM7
         obtain ⟨M8,hM8⟩:∃ l:List UInt8,l=(M7)++([32]:List UInt8):=⟨_,rfl⟩
         have NM8:Hid (M8.length<=78):=hide (by rw [hM8];exact aj (a:=77) (b:=1) (NM7.out) (by simp))
         have sM8:∀ w:World,(Op.stringOp .add (bT (M7)) ⟨#[32]⟩).run Tryz.prog w=.ok (.string (bT M8)) w:=fun w=>by rw [hM8];exact aD (a:=77) (b:=1) (NM7.out) (by simp) (by omega) w
         have EM8:=hide hM8
         clear hM8
         obtain ⟨M9,hM9⟩:∃ l:List UInt8,l=(M8)++(aW (p.i3 i)):=⟨_,rfl⟩
         have NM9:Hid (M9.length<=98):=hide (by rw [hM9];exact aj (a:=78) (b:=20) (NM8.out) (eZ HD.out.d))
         have sM9:∀ w:World,(Op.stringOp .add (bT (M8)) (bT (aW (p.i3 i)))).run Tryz.prog w=.ok (.string (bT M9)) w:=fun w=>by rw [hM9];exact aD (a:=78) (b:=20) (NM8.out) (eZ HD.out.d) (by omega) w
         have EM9:=hide hM9
         clear hM9
         obtain ⟨M10,hM10⟩:∃ l:List UInt8,l=(M9)++([10]:List UInt8):=⟨_,rfl⟩
         have NM10:Hid (M10.length<=99):=hide (by rw [hM10];exact aj (a:=98) (b:=1) (NM9.out) (by simp))
         have sM10:∀ w:World,(Op.stringOp .add (bT (M9)) ⟨#[10]⟩).run Tryz.prog w=.ok (.string (bT M10)) w:=fun w=>by rw [hM10];exact aD (a:=98) (b:=1) (NM9.out) (by simp) (by omega) w
         have EM10:=hide hM10
         clear hM10
         have hnl:(i:Int)<((p.nl:Nat):Int):=by have:=N4.out;omega
         go_region_held3 (fun w9=>w9.cell? ⟨wr.heap.size,0,none⟩=some (.int .i64 (p.i0 i))/\w9.cell? ⟨wr.heap.size,1,none⟩=some (.int .i64 (p.i1 i))/\w9.cell? ⟨wr.heap.size,3,none⟩=some (.int .i64 (p.i3 i))/\w9.cell? ⟨w.heap.size,7,none⟩=some (.slice (some ⟨b',o',none⟩) p.nl k7)/\w9.cell? ⟨b',o'+i,none⟩=some (.int .i64 (p.l0 i))) (go_keep)
          (first
          |(have _z:=HSwg
            rw [if_pos (by rfl)]
            clear _z
            refine iY _ _ rfl w.heap.size _ L (bT M10) HSwg.out.o rfl rfl (by rw [dN];have:=NM10.out;have:=HLn.out;omega) (Nat.le_of_lt (ah.lt HSwg.out.fp)) ?_
            intro oa' oc' w9 L' HL' HO9 HBn HK HS
            have HB9:=hide (HBn.out _ _ HSwg.out.b (Nat.le_refl _))
            have HP9:=hide (ah.same HSwg.out.fp (HK.out _ (ah.lt HSwg.out.fp) (HSwg.out.o.apart HSwg.out.fp (by decide))))
            have HI9:=hide (ah.same HSwg.out.l (HK.out _ (ah.lt HSwg.out.l) (HSwg.out.o.apart HSwg.out.l (by decide))))
            have HR9:=ah.same HSwg.out.r (HK.out _ (ah.lt HSwg.out.r) (HSwg.out.o.apart HSwg.out.r (by decide)))
            have w9c0:w9.cell? ⟨wr.heap.size,0,none⟩=some (.int .i64 (p.i0 i)):=ah.cell HR9 (j:=0) (by omega)
            have w9c1:w9.cell? ⟨wr.heap.size,1,none⟩=some (.int .i64 (p.i1 i)):=ah.cell HR9 (j:=1) (by omega)
            have w9c3:w9.cell? ⟨wr.heap.size,3,none⟩=some (.int .i64 (p.i3 i)):=ah.cell HR9 (j:=3) (by omega)
            have w9c5:w9.cell? ⟨w.heap.size,7,none⟩=some (.slice (some ⟨b',o',none⟩) p.nl k7):=ah.cell HP9.out (j:=7) (by omega)
            have w9c6:w9.cell? ⟨b',o'+i,none⟩=some (.int .i64 (p.l0 i)):=(HB9.out.cell (p:=⟨b',o'+i,none⟩) hb').trans c4o.out
            clear HBn HK HS HR9)
          |(have _z:=HSwf
            go_at_call 30
            clear _z
            refine (oK HD.out.d _).mono ?_
            rintro e wg ⟨rfl,hb⟩
            have HSwg:=hide (HSwf.out.low hb)
            obtain ⟨wgc0,wgc1,wgc2,wgc3,wgc4,wgc5,wgc6⟩:=HSwg.out.cells
            clear hb)
          |(have _z:=HSwe
            go_at_call 30
            clear _z
            refine (oK HD.out.b _).mono ?_
            rintro e wf ⟨rfl,hb⟩
            have HSwf:=hide (HSwe.out.low hb)
            obtain ⟨wfc0,wfc1,wfc2,wfc3,wfc4,wfc5,wfc6⟩:=HSwf.out.cells
            clear hb)
          |(have _z:=HSwd
            go_at_call 11
            clear _z
            refine (gV (p.i0 i) _ HD.out.a.1 HD.out.a.2).mono ?_
            rintro e we ⟨rfl,hb⟩
            have HSwe:=hide (HSwd.out.low hb)
            obtain ⟨wec0,wec1,wec2,wec3,wec4,wec5,wec6⟩:=HSwe.out.cells
            clear hb)
          |(have _z:=HSwc
            go_at_call 30
            clear _z
            refine (oK HD.out.l _).mono ?_
            rintro e wd ⟨rfl,hb⟩
            replace hb:=dL hb
            have HSwd:=hide (HSwc.out.low hb)
            obtain ⟨wdc0,wdc1,wdc2,wdc3,wdc4,wdc5,wdc6⟩:=HSwd.out.cells
            clear hb))
         have HX:Hid (L'=E3 T p (i+1)):=hide (by
          rw [HL'.out,bP,EM10.out,EM9.out,EM8.out,EM7.out,EM6.out,EM5.out,EM4.out,EM3.out,EM2.out,EM1.out,HH.out,EJ1.out,HLq.out,HL.out,Fh]
          unfold iL
          rw [HJ.out]
          simp)
         go_wp2_with fail
         go_roundw
         case rel=>exact ⟨i+1,by omega,by simp,by rw [<-HX.out];exact HO9,HI9,HP9,HB9⟩
         case measure=>simp [gX];omega
        ·simp only [Bool.not_eq_true] at hJ
         have HJ:=hide hJ
         rw [hJ] at hij
         clear hJ
         by_cases hj1:jmp (p.i0 i)=true
         ·have hin2:inI (p.i2 i) 0 ((p.ni:Int)-1)=false:=by
           rw [hj1] at hij
           simpa using hij
          clear hij
          obtain ⟨e0,e1,e2,e3,e6,e7,e4⟩:=HS1.out.cells
          have cl:=clI.out wi HS1.out.l
          rw [HV.out] at cl
          go_wp2_with (first
           |(have _z:=HS1
             go_at_call 30
             clear _z
             refine (oK HD.out.c _).mono ?_
             rintro e wb ⟨rfl,hb⟩
             have HSwb:=hide (HS1.out.low hb)
             obtain ⟨wbc0,wbc1,wbc2,wbc3,wbc4,wbc5,wbc6⟩:=HSwb.out.cells
             clear hb)
           |(go_at_call 36;refine (d_ _ _).mono ?_;rintro e w9 ⟨rfl,rfl⟩)
           |(go_at_call 37;refine (bC _ _ _ _).mono ?_;rintro e w9 ⟨rfl,rfl⟩)
           |fail)
          obtain ⟨M1,hM1⟩:∃ l:List UInt8,l=([32,32,32,32]:List UInt8)++(aW (p.l0 i)):=⟨_,rfl⟩
          have NM1:Hid (M1.length<=24):=hide (by rw [hM1];exact aj (a:=4) (b:=20) (by simp) (eZ HD.out.l))
          have sM1:∀ w:World,(Op.stringOp .add ⟨#[32,32,32,32]⟩ (bT (aW (p.l0 i)))).run Tryz.prog w=.ok (.string (bT M1)) w:=fun w=>by rw [hM1];exact aD (a:=4) (b:=20) (by simp) (eZ HD.out.l) (by omega) w
          have EM1:=hide hM1
          clear hM1
          obtain ⟨M2,hM2⟩:∃ l:List UInt8,l=(M1)++([32]:List UInt8):=⟨_,rfl⟩
          have NM2:Hid (M2.length<=25):=hide (by rw [hM2];exact aj (a:=24) (b:=1) (NM1.out) (by simp))
          have sM2:∀ w:World,(Op.stringOp .add (bT (M1)) ⟨#[32]⟩).run Tryz.prog w=.ok (.string (bT M2)) w:=fun w=>by rw [hM2];exact aD (a:=24) (b:=1) (NM1.out) (by simp) (by omega) w
          have EM2:=hide hM2
          clear hM2
          obtain ⟨M3,hM3⟩:∃ l:List UInt8,l=(M2)++(aU (p.i0 i)):=⟨_,rfl⟩
          have NM3:Hid (M3.length<=34):=hide (by rw [hM3];exact aj (a:=25) (b:=9) (NM2.out) (cO _))
          have sM3:∀ w:World,(Op.stringOp .add (bT (M2)) (bT (aU (p.i0 i)))).run Tryz.prog w=.ok (.string (bT M3)) w:=fun w=>by rw [hM3];exact aD (a:=25) (b:=9) (NM2.out) (cO _) (by omega) w
          have EM3:=hide hM3
          clear hM3
          obtain ⟨M4,hM4⟩:∃ l:List UInt8,l=(M3)++([32]:List UInt8):=⟨_,rfl⟩
          have NM4:Hid (M4.length<=35):=hide (by rw [hM4];exact aj (a:=34) (b:=1) (NM3.out) (by simp))
          have sM4:∀ w:World,(Op.stringOp .add (bT (M3)) ⟨#[32]⟩).run Tryz.prog w=.ok (.string (bT M4)) w:=fun w=>by rw [hM4];exact aD (a:=34) (b:=1) (NM3.out) (by simp) (by omega) w
          have EM4:=hide hM4
          clear hM4
          obtain ⟨M5,hM5⟩:∃ l:List UInt8,l=(M4)++(aW (p.i1 i)):=⟨_,rfl⟩
          have NM5:Hid (M5.length<=55):=hide (by rw [hM5];exact aj (a:=35) (b:=20) (NM4.out) (eZ HD.out.b))
          have sM5:∀ w:World,(Op.stringOp .add (bT (M4)) (bT (aW (p.i1 i)))).run Tryz.prog w=.ok (.string (bT M5)) w:=fun w=>by rw [hM5];exact aD (a:=35) (b:=20) (NM4.out) (eZ HD.out.b) (by omega) w
          have EM5:=hide hM5
          clear hM5
          obtain ⟨M6,hM6⟩:∃ l:List UInt8,l=(M5)++([32]:List UInt8):=⟨_,rfl⟩
          have NM6:Hid (M6.length<=56):=hide (by rw [hM6];exact aj (a:=55) (b:=1) (NM5.out) (by simp))
          have sM6:∀ w:World,(Op.stringOp .add (bT (M5)) ⟨#[32]⟩).run Tryz.prog w=.ok (.string (bT M6)) w:=fun w=>by rw [hM6];exact aD (a:=55) (b:=1) (NM5.out) (by simp) (by omega) w
          have EM6:=hide hM6
          clear hM6
          obtain ⟨M7,hM7⟩:∃ l:List UInt8,l=(M6)++(aW (p.i2 i)):=⟨_,rfl⟩
          have NM7:Hid (M7.length<=76):=hide (by rw [hM7];exact aj (a:=56) (b:=20) (NM6.out) (eZ HD.out.c))
          have sM7:∀ w:World,(Op.stringOp .add (bT (M6)) (bT (aW (p.i2 i)))).run Tryz.prog w=.ok (.string (bT M7)) w:=fun w=>by rw [hM7];exact aD (a:=56) (b:=20) (NM6.out) (eZ HD.out.c) (by omega) w
          have EM7:=hide hM7
          clear hM7
          obtain ⟨M8,hM8⟩:∃ l:List UInt8,l=(M7)++([32]:List UInt8):=⟨_,rfl⟩
          have NM8:Hid (M8.length<=77):=hide (by rw [hM8];exact aj (a:=76) (b:=1) (NM7.out) (by simp))
          have sM8:∀ w:World,(Op.stringOp .add (bT (M7)) ⟨#[32]⟩).run Tryz.prog w=.ok (.string (bT M8)) w:=fun w=>by rw [hM8];exact aD (a:=76) (b:=1) (NM7.out) (by simp) (by omega) w
          have EM8:=hide hM8
          clear hM8
          obtain ⟨M9,hM9⟩:∃ l:List UInt8,l=(M8)++(aW (p.i3 i)):=⟨_,rfl⟩
          have NM9:Hid (M9.length<=97):=hide (by rw [hM9];exact aj (a:=77) (b:=20) (NM8.out) (eZ HD.out.d))
          have sM9:∀ w:World,(Op.stringOp .add (bT (M8)) (bT (aW (p.i3 i)))).run Tryz.prog w=.ok (.string (bT M9)) w:=fun w=>by rw [hM9];exact aD (a:=77) (b:=20) (NM8.out) (eZ HD.out.d) (by omega) w
          have EM9:=hide hM9
          clear hM9
          obtain ⟨M10,hM10⟩:∃ l:List UInt8,l=(M9)++([10]:List UInt8):=⟨_,rfl⟩
          have NM10:Hid (M10.length<=98):=hide (by rw [hM10];exact aj (a:=97) (b:=1) (NM9.out) (by simp))
          have sM10:∀ w:World,(Op.stringOp .add (bT (M9)) ⟨#[10]⟩).run Tryz.prog w=.ok (.string (bT M10)) w:=fun w=>by rw [hM10];exact aD (a:=97) (b:=1) (NM9.out) (by simp) (by omega) w
          have EM10:=hide hM10
          clear hM10
          have hnl:(i:Int)<((p.nl:Nat):Int):=by have:=N4.out;omega
          go_region_held3 (fun w9=>w9.cell? ⟨wr.heap.size,0,none⟩=some (.int .i64 (p.i0 i))/\w9.cell? ⟨wr.heap.size,1,none⟩=some (.int .i64 (p.i1 i))/\w9.cell? ⟨wr.heap.size,3,none⟩=some (.int .i64 (p.i3 i))/\w9.cell? ⟨w.heap.size,7,none⟩=some (.slice (some ⟨b',o',none⟩) p.nl k7)/\w9.cell? ⟨b',o'+i,none⟩=some (.int .i64 (p.l0 i))) (go_keep)
           (first
           |(have _z:=HSwg
             rw [if_pos (by rfl)]
             clear _z
             refine iY _ _ rfl w.heap.size _ L (bT M10) HSwg.out.o rfl rfl (by rw [dN];have:=NM10.out;have:=HLn.out;omega) (Nat.le_of_lt (ah.lt HSwg.out.fp)) ?_
             intro oa' oc' w9 L' HL' HO9 HBn HK HS
             have HB9:=hide (HBn.out _ _ HSwg.out.b (Nat.le_refl _))
             have HP9:=hide (ah.same HSwg.out.fp (HK.out _ (ah.lt HSwg.out.fp) (HSwg.out.o.apart HSwg.out.fp (by decide))))
             have HI9:=hide (ah.same HSwg.out.l (HK.out _ (ah.lt HSwg.out.l) (HSwg.out.o.apart HSwg.out.l (by decide))))
             have HR9:=ah.same HSwg.out.r (HK.out _ (ah.lt HSwg.out.r) (HSwg.out.o.apart HSwg.out.r (by decide)))
             have w9c0:w9.cell? ⟨wr.heap.size,0,none⟩=some (.int .i64 (p.i0 i)):=ah.cell HR9 (j:=0) (by omega)
             have w9c1:w9.cell? ⟨wr.heap.size,1,none⟩=some (.int .i64 (p.i1 i)):=ah.cell HR9 (j:=1) (by omega)
             have w9c3:w9.cell? ⟨wr.heap.size,3,none⟩=some (.int .i64 (p.i3 i)):=ah.cell HR9 (j:=3) (by omega)
             have w9c5:w9.cell? ⟨w.heap.size,7,none⟩=some (.slice (some ⟨b',o',none⟩) p.nl k7):=ah.cell HP9.out (j:=7) (by omega)
             have w9c6:w9.cell? ⟨b',o'+i,none⟩=some (.int .i64 (p.l0 i)):=(HB9.out.cell (p:=⟨b',o'+i,none⟩) hb').trans c4o.out
             clear HBn HK HS HR9)
           |(have _z:=HSwf
             go_at_call 30
             clear _z
             refine (oK HD.out.d _).mono ?_
             rintro e wg ⟨rfl,hb⟩
             have HSwg:=hide (HSwf.out.low hb)
             obtain ⟨wgc0,wgc1,wgc2,wgc3,wgc4,wgc5,wgc6⟩:=HSwg.out.cells
             clear hb)
           |(have _z:=HSwe
             go_at_call 30
             clear _z
             refine (oK HD.out.b _).mono ?_
             rintro e wf ⟨rfl,hb⟩
             have HSwf:=hide (HSwe.out.low hb)
             obtain ⟨wfc0,wfc1,wfc2,wfc3,wfc4,wfc5,wfc6⟩:=HSwf.out.cells
             clear hb)
           |(have _z:=HSwd
             go_at_call 11
             clear _z
             refine (gV (p.i0 i) _ HD.out.a.1 HD.out.a.2).mono ?_
             rintro e we ⟨rfl,hb⟩
             have HSwe:=hide (HSwd.out.low hb)
             obtain ⟨wec0,wec1,wec2,wec3,wec4,wec5,wec6⟩:=HSwe.out.cells
             clear hb)
           |(have _z:=HSwb
             go_at_call 30
             clear _z
             refine (oK HD.out.l _).mono ?_
             rintro e wd ⟨rfl,hb⟩
             replace hb:=dL hb
             have HSwd:=hide (HSwb.out.low hb)
             obtain ⟨wdc0,wdc1,wdc2,wdc3,wdc4,wdc5,wdc6⟩:=HSwd.out.cells
             clear hb))
          have HX:Hid (L'=E3 T p (i+1)):=hide (by
           rw [HL'.out,bP,EM10.out,EM9.out,EM8.out,EM7.out,EM6.out,EM5.out,EM4.out,EM3.out,EM2.out,EM1.out,HH.out,HL.out,Fh]
           unfold iL
           rw [HJ.out]
           simp)
          go_wp2_with fail
          go_roundw
          case rel=>exact ⟨i+1,by omega,by simp,by rw [<-HX.out];exact HO9,HI9,HP9,HB9⟩
          case measure=>simp [gX];omega
         ·simp only [Bool.not_eq_true] at hj1
          clear hij
          obtain ⟨e0,e1,e2,e3,e6,e7,e4⟩:=HS1.out.cells
          have cl:=clI.out wi HS1.out.l
          rw [HV.out] at cl
          go_wp2_with (first
           |(have _z:=HS1
             go_at_call 30
             clear _z
             refine (oK HD.out.c _).mono ?_
             rintro e wb ⟨rfl,hb⟩
             have HSwb:=hide (HS1.out.low hb)
             obtain ⟨wbc0,wbc1,wbc2,wbc3,wbc4,wbc5,wbc6⟩:=HSwb.out.cells
             clear hb)
           |(go_at_call 36;refine (d_ _ _).mono ?_;rintro e w9 ⟨rfl,rfl⟩)
           |(go_at_call 37;refine (bC _ _ _ _).mono ?_;rintro e w9 ⟨rfl,rfl⟩)
           |fail)
          obtain ⟨M1,hM1⟩:∃ l:List UInt8,l=([32,32,32,32]:List UInt8)++(aW (p.l0 i)):=⟨_,rfl⟩
          have NM1:Hid (M1.length<=24):=hide (by rw [hM1];exact aj (a:=4) (b:=20) (by simp) (eZ HD.out.l))
          have sM1:∀ w:World,(Op.stringOp .add ⟨#[32,32,32,32]⟩ (bT (aW (p.l0 i)))).run Tryz.prog w=.ok (.string (bT M1)) w:=fun w=>by rw [hM1];exact aD (a:=4) (b:=20) (by simp) (eZ HD.out.l) (by omega) w
          have EM1:=hide hM1
          clear hM1
          obtain ⟨M2,hM2⟩:∃ l:List UInt8,l=(M1)++([32]:List UInt8):=⟨_,rfl⟩
          have NM2:Hid (M2.length<=25):=hide (by rw [hM2];exact aj (a:=24) (b:=1) (NM1.out) (by simp))
          have sM2:∀ w:World,(Op.stringOp .add (bT (M1)) ⟨#[32]⟩).run Tryz.prog w=.ok (.string (bT M2)) w:=fun w=>by rw [hM2];exact aD (a:=24) (b:=1) (NM1.out) (by simp) (by omega) w
          have EM2:=hide hM2
          clear hM2
          obtain ⟨M3,hM3⟩:∃ l:List UInt8,l=(M2)++(aU (p.i0 i)):=⟨_,rfl⟩
          have NM3:Hid (M3.length<=34):=hide (by rw [hM3];exact aj (a:=25) (b:=9) (NM2.out) (cO _))
          have sM3:∀ w:World,(Op.stringOp .add (bT (M2)) (bT (aU (p.i0 i)))).run Tryz.prog w=.ok (.string (bT M3)) w:=fun w=>by rw [hM3];exact aD (a:=25) (b:=9) (NM2.out) (cO _) (by omega) w
          have EM3:=hide hM3
          clear hM3
          obtain ⟨M4,hM4⟩:∃ l:List UInt8,l=(M3)++([32]:List UInt8):=⟨_,rfl⟩
          have NM4:Hid (M4.length<=35):=hide (by rw [hM4];exact aj (a:=34) (b:=1) (NM3.out) (by simp))
          have sM4:∀ w:World,(Op.stringOp .add (bT (M3)) ⟨#[32]⟩).run Tryz.prog w=.ok (.string (bT M4)) w:=fun w=>by rw [hM4];exact aD (a:=34) (b:=1) (NM3.out) (by simp) (by omega) w
          have EM4:=hide hM4
          clear hM4
          obtain ⟨M5,hM5⟩:∃ l:List UInt8,l=(M4)++(aW (p.i1 i)):=⟨_,rfl⟩
          have NM5:Hid (M5.length<=55):=hide (by rw [hM5];exact aj (a:=35) (b:=20) (NM4.out) (eZ HD.out.b))
          have sM5:∀ w:World,(Op.stringOp .add (bT (M4)) (bT (aW (p.i1 i)))).run Tryz.prog w=.ok (.string (bT M5)) w:=fun w=>by rw [hM5];exact aD (a:=35) (b:=20) (NM4.out) (eZ HD.out.b) (by omega) w
          have EM5:=hide hM5
          clear hM5
          obtain ⟨M6,hM6⟩:∃ l:List UInt8,l=(M5)++([32]:List UInt8):=⟨_,rfl⟩
          have NM6:Hid (M6.length<=56):=hide (by rw [hM6];exact aj (a:=55) (b:=1) (NM5.out) (by simp))
          have sM6:∀ w:World,(Op.stringOp .add (bT (M5)) ⟨#[32]⟩).run Tryz.prog w=.ok (.string (bT M6)) w:=fun w=>by rw [hM6];exact aD (a:=55) (b:=1) (NM5.out) (by simp) (by omega) w
          have EM6:=hide hM6
          clear hM6
          obtain ⟨M7,hM7⟩:∃ l:List UInt8,l=(M6)++(aW (p.i2 i)):=⟨_,rfl⟩
          have NM7:Hid (M7.length<=76):=hide (by rw [hM7];exact aj (a:=56) (b:=20) (NM6.out) (eZ HD.out.c))
          have sM7:∀ w:World,(Op.stringOp .add (bT (M6)) (bT (aW (p.i2 i)))).run Tryz.prog w=.ok (.string (bT M7)) w:=fun w=>by rw [hM7];exact aD (a:=56) (b:=20) (NM6.out) (eZ HD.out.c) (by omega) w
          have EM7:=hide hM7
          clear hM7
          obtain ⟨M8,hM8⟩:∃ l:List UInt8,l=(M7)++([32]:List UInt8):=⟨_,rfl⟩
          have NM8:Hid (M8.length<=77):=hide (by rw [hM8];exact aj (a:=76) (b:=1) (NM7.out) (by simp))
          have sM8:∀ w:World,(Op.stringOp .add (bT (M7)) ⟨#[32]⟩).run Tryz.prog w=.ok (.string (bT M8)) w:=fun w=>by rw [hM8];exact aD (a:=76) (b:=1) (NM7.out) (by simp) (by omega) w
          have EM8:=hide hM8
          clear hM8
          obtain ⟨M9,hM9⟩:∃ l:List UInt8,l=(M8)++(aW (p.i3 i)):=⟨_,rfl⟩
          have NM9:Hid (M9.length<=97):=hide (by rw [hM9];exact aj (a:=77) (b:=20) (NM8.out) (eZ HD.out.d))
          have sM9:∀ w:World,(Op.stringOp .add (bT (M8)) (bT (aW (p.i3 i)))).run Tryz.prog w=.ok (.string (bT M9)) w:=fun w=>by rw [hM9];exact aD (a:=77) (b:=20) (NM8.out) (eZ HD.out.d) (by omega) w
          have EM9:=hide hM9
          clear hM9
          obtain ⟨M10,hM10⟩:∃ l:List UInt8,l=(M9)++([10]:List UInt8):=⟨_,rfl⟩
          have NM10:Hid (M10.length<=98):=hide (by rw [hM10];exact aj (a:=97) (b:=1) (NM9.out) (by simp))
          have sM10:∀ w:World,(Op.stringOp .add (bT (M9)) ⟨#[10]⟩).run Tryz.prog w=.ok (.string (bT M10)) w:=fun w=>by rw [hM10];exact aD (a:=97) (b:=1) (NM9.out) (by simp) (by omega) w
          have EM10:=hide hM10
          clear hM10
          have hnl:(i:Int)<((p.nl:Nat):Int):=by have:=N4.out;omega
          go_region_held3 (fun w9=>w9.cell? ⟨wr.heap.size,0,none⟩=some (.int .i64 (p.i0 i))/\w9.cell? ⟨wr.heap.size,1,none⟩=some (.int .i64 (p.i1 i))/\w9.cell? ⟨wr.heap.size,3,none⟩=some (.int .i64 (p.i3 i))/\w9.cell? ⟨w.heap.size,7,none⟩=some (.slice (some ⟨b',o',none⟩) p.nl k7)/\w9.cell? ⟨b',o'+i,none⟩=some (.int .i64 (p.l0 i))) (go_keep)
           (first
           |(have _z:=HSwg
             rw [if_pos (by rfl)]
             clear _z
             refine iY _ _ rfl w.heap.size _ L (bT M10) HSwg.out.o rfl rfl (by rw [dN];have:=NM10.out;have:=HLn.out;omega) (Nat.le_of_lt (ah.lt HSwg.out.fp)) ?_
             intro oa' oc' w9 L' HL' HO9 HBn HK HS
             have HB9:=hide (HBn.out _ _ HSwg.out.b (Nat.le_refl _))
             have HP9:=hide (ah.same HSwg.out.fp (HK.out _ (ah.lt HSwg.out.fp) (HSwg.out.o.apart HSwg.out.fp (by decide))))
             have HI9:=hide (ah.same HSwg.out.l (HK.out _ (ah.lt HSwg.out.l) (HSwg.out.o.apart HSwg.out.l (by decide))))
             have HR9:=ah.same HSwg.out.r (HK.out _ (ah.lt HSwg.out.r) (HSwg.out.o.apart HSwg.out.r (by decide)))
             have w9c0:w9.cell? ⟨wr.heap.size,0,none⟩=some (.int .i64 (p.i0 i)):=ah.cell HR9 (j:=0) (by omega)
             have w9c1:w9.cell? ⟨wr.heap.size,1,none⟩=some (.int .i64 (p.i1 i)):=ah.cell HR9 (j:=1) (by omega)
             have w9c3:w9.cell? ⟨wr.heap.size,3,none⟩=some (.int .i64 (p.i3 i)):=ah.cell HR9 (j:=3) (by omega)
             have w9c5:w9.cell? ⟨w.heap.size,7,none⟩=some (.slice (some ⟨b',o',none⟩) p.nl k7):=ah.cell HP9.out (j:=7) (by omega)
             have w9c6:w9.cell? ⟨b',o'+i,none⟩=some (.int .i64 (p.l0 i)):=(HB9.out.cell (p:=⟨b',o'+i,none⟩) hb').trans c4o.out
             clear HBn HK HS HR9)
           |(have _z:=HSwf
             go_at_call 30
             clear _z
             refine (oK HD.out.d _).mono ?_
             rintro e wg ⟨rfl,hb⟩
             have HSwg:=hide (HSwf.out.low hb)
             obtain ⟨wgc0,wgc1,wgc2,wgc3,wgc4,wgc5,wgc6⟩:=HSwg.out.cells
             clear hb)
           |(have _z:=HSwe
             go_at_call 30
             clear _z
             refine (oK HD.out.b _).mono ?_
             rintro e wf ⟨rfl,hb⟩
             have HSwf:=hide (HSwe.out.low hb)
             obtain ⟨wfc0,wfc1,wfc2,wfc3,wfc4,wfc5,wfc6⟩:=HSwf.out.cells
             clear hb)
           |(have _z:=HSwd
             go_at_call 11
             clear _z
             refine (gV (p.i0 i) _ HD.out.a.1 HD.out.a.2).mono ?_
             rintro e we ⟨rfl,hb⟩
             have HSwe:=hide (HSwd.out.low hb)
             obtain ⟨wec0,wec1,wec2,wec3,wec4,wec5,wec6⟩:=HSwe.out.cells
             clear hb)
           |(have _z:=HSwb
             go_at_call 30
             clear _z
             refine (oK HD.out.l _).mono ?_
             rintro e wd ⟨rfl,hb⟩
             replace hb:=dL hb
             have HSwd:=hide (HSwb.out.low hb)
             obtain ⟨wdc0,wdc1,wdc2,wdc3,wdc4,wdc5,wdc6⟩:=HSwd.out.cells
             clear hb))
          have HX:Hid (L'=E3 T p (i+1)):=hide (by
           rw [HL'.out,bP,EM10.out,EM9.out,EM8.out,EM7.out,EM6.out,EM5.out,EM4.out,EM3.out,EM2.out,EM1.out,HH.out,HL.out,Fh]
           unfold iL
           rw [HJ.out]
           simp)
          go_wp2_with fail
          go_roundw
          case rel=>exact ⟨i+1,by omega,by simp,by rw [<-HX.out];exact HO9,HI9,HP9,HB9⟩
          case measure=>simp [gX];omega
      ·obtain rfl:i=p.ni:=by omega
       have HO8:Hid (lJ wr w.heap.size (.slice (some ⟨og,0,none⟩) L.length oc) (flat (aJ T p))):=hide (by rw [<-Jq,<-HL.out];exact HO.out)
       clear hog hog2
       go_wp2_with fail
       go_ret
       exact ⟨_,rfl,HO8.out,HB.out⟩
end Go.Proofs.YtjibjahfbblieaaGreatDoor
