import Derived.Test.YtjibjahfbblieaaGreatDoorKMF
import Derived.Test.YtjibjahfbblieaaGreatDoorKP1R1
namespace Go.Proofs.YtjibjahfbblieaaGreatDoor
open Go Go.RowKit
set_option linter.unusedVariables false
set_option maxHeartbeats 3200000 in
set_option maxRecDepth 100000 in
theorem J8 (gB gW gN o:Nat) (i1 i2 i3:Int) (w:World) (hB:w.cell? ⟨gB,0,none⟩=some (.pointer (some ⟨gW,0,none⟩))) (hBl:gB<w.heap.size) (hN:NamW w gW gN):
 Calls Tryz.prog 42 #[.agg #[.int .i64 (o:Int),.int .i64 i1,.int .i64 i2,.int .i64 i3],.pointer (some ⟨gB,0,none⟩)] w fun e w'=>jk (aU (o:Int)≠[]) w e w':=by
 have hb:=b_1 w (.cells #[.int .i64 (o:Int),.int .i64 i1,.int .i64 i2,.int .i64 i3] 45)
 have HB1:=hide hb
 have hN1:=hN.low hb
 have cB:(w.alloc (.cells #[.int .i64 (o:Int),.int .i64 i1,.int .i64 i2,.int .i64 i3] 45)).cell? ⟨gB,0,none⟩=some (.pointer (some ⟨gW,0,none⟩)):=(hb.cell (p:=⟨gB,0,none⟩) hBl).trans hB
 have cW:(w.alloc (.cells #[.int .i64 (o:Int),.int .i64 i1,.int .i64 i2,.int .i64 i3] 45)).cell? ⟨gW,0,none⟩=some (.slice (some ⟨gN,0,none⟩) 79 79):=ah.cell hN1.p (j:=0) (by omega)
 have cI:(w.alloc (.cells #[.int .i64 (o:Int),.int .i64 i1,.int .i64 i2,.int .i64 i3] 45)).cell? ⟨w.heap.size,0,none⟩=some (.int .i64 (o:Int)):=by simp
 by_cases h79:o<79
 ·have hI1:(0:Int)<=(o:Int):=by omega
  have hI2:(o:Int)<79:=by omega
  have cN:(w.alloc (.cells #[.int .i64 (o:Int),.int .i64 i1,.int .i64 i2,.int .i64 i3] 45)).cell? ⟨gN,o,none⟩=some (.string (bT (aU (o:Int)))):=ah.cell hN1.n (j:=o) h79
  clear hb hN1 hN hB
  generalize hL:aU (o:Int)=L at *
  have HL:=hide hL
  clear hL
  go_enter Tryz.func42,Tryz.ntmps42
  go_wp2_with fail
  generalize w.alloc (.cells #[.int .i64 (o:Int),.int .i64 i1,.int .i64 i2,.int .i64 i3] 45)=w1 at *
  obtain ⟨X,hX⟩:∃ X,w.heap.size=X:=⟨_,rfl⟩
  rw [hX] at HB1 cI ⊢
  have HX:=hide hX
  clear hX
  go_quiet (fail)
  go_wp2_with fail
  go_ret
  unfold jk
  rw [HX.out]
  refine ⟨!(bT L).toList.isEmpty,rfl,?_,bF HB1.out _⟩
  have e:(bT L).toList=L:=by rw [Go.ByteArray.toList_eq];exact bP L
  rw [e]
  cases L with
  |nil=>exact .inr ⟨rfl,fun h=>h rfl⟩
  |cons a l=>exact .inl ⟨rfl,by simp⟩
 ·have hI2:¬ ((o:Int)<79):=by omega
  have hI3:decide ((o:Int)<79)=false:=decide_eq_false hI2
  have HL:Hid (aU (o:Int)=[]):=hide (by
   unfold aU
   rw [if_neg (by omega),if_neg (by omega)])
  clear hb hN1 hN hB
  go_enter Tryz.func42,Tryz.ntmps42
  go_wp2_with fail
  generalize w.alloc (.cells #[.int .i64 (o:Int),.int .i64 i1,.int .i64 i2,.int .i64 i3] 45)=w1 at *
  obtain ⟨X,hX⟩:∃ X,w.heap.size=X:=⟨_,rfl⟩
  rw [hX] at HB1 cI ⊢
  have HX:=hide hX
  clear hX
  go_region
  go_wp2_with fail
  go_ret
  unfold jk
  rw [HX.out]
  exact ⟨false,rfl,.inr ⟨rfl,fun h=>h HL.out⟩,bF HB1.out _⟩
set_option maxHeartbeats 1600000 in
set_option maxRecDepth 100000 in
theorem FD (v:Value) (n:Nat) (x0 x1 x2 x3:Nat->Int) (Q:Nat->Prop) (g:Nat) (w:World) (hn:n<=1048576) (h:jQ w v n x0 x1 x2 x3)
 (HC:∀ i,i<n->∀ w',Below w.heap.size w w'->Calls Tryz.prog 42 #[.agg #[.int .i64 (x0 i),.int .i64 (x1 i),.int .i64 (x2 i),.int .i64 (x3 i)],.pointer (some ⟨g,0,none⟩)] w' fun e w2=>jk (Q i) w' e w2):
 Calls Tryz.prog 41 #[v,.func (.func 42) #[] #[.pointer (some ⟨g,0,none⟩)]] w fun e w'=>jk (∀ k,k<n->Q k) w e w':=by
 have HA:=hide h
 obtain ⟨sa,cap,rfl⟩:=h.val
 clear h
 have HC:=hide HC
 go_enter Tryz.func41,Tryz.ntmps41
 go_wp2_with fail
 go_loopw [9] (fun iv wr=>∃ i:Nat,i<=n/\iv=.int .i64 i/\Hid (∀ k,k<i->Q k)/\Hid (Below w.heap.size w wr)) (fun iv _=>match iv with | .int _ x=>n-x.toNat|_=>0)
 case atStart=>exact ⟨0,by omega,rfl,hide (fun k hk=>by omega),hide (Below.refl _ _)⟩
 case round=>
  obtain ⟨i,hi9,rfl,HU,HBw⟩:=hrel
  by_cases hin:i<n
  ·obtain ⟨b,o,cap',hv,hb,c0,c1,c2,c3⟩:=sV (HA.out.low HBw.out (Nat.le_refl _)) hin
   simp only [Value.slice.injEq,true_and] at hv
   obtain ⟨rfl,rfl⟩:=hv
   go_wp2_with fail
   refine (HC.out i hin _ (HBw.out.alloc HBw.out.size _)).mono ?_
   rintro e w3 ⟨r,rfl,hr,hb3⟩
   have HB4:=hide ((HBw.out.alloc HBw.out.size _).trans (hb3.mono (HBw.out.alloc HBw.out.size _).size))
   clear c0 c1 c2 c3 hb3
   rcases hr with ⟨rfl,hr⟩|⟨rfl,hr⟩
   ·have HR:=hide hr
    clear hr
    go_wp2
    go_roundw
    case rel=>exact ⟨i+1,by omega,by simp,hide (dZ HU.out HR.out),HB4⟩
    case measure=>simp;omega
   ·have HR:=hide hr
    clear hr
    go_wp2
    go_ret
    exact ⟨_,rfl,.inr ⟨rfl,fun hq=>HR.out (hq i hin)⟩,HB4.out⟩
  ·obtain rfl:i=n:=by omega
   go_wp2
   go_ret
   exact ⟨_,rfl,.inl ⟨rfl,HU.out⟩,HBw.out⟩
set_option maxHeartbeats 1600000 in
set_option maxRecDepth 100000 in
theorem vS (gW gN:Nat) (p:PV) (s4 s5 s6 s7:Value) (w:World) (hw:Wri p) (hA:PVA w p s4 s5 s6 s7) (hN:NamW w gW gN):
 Calls Tryz.prog 17 #[.pointer (some ⟨gW,0,none⟩),p.agg s4 s5 s6 s7] w fun e w'=>jk (pU p) w e w':=by
 obtain ⟨-,-,-,-,-,hni,-⟩:=hw.head
 have hb1:=b_1 w (.cells #[.pointer (some ⟨gW,0,none⟩)] 50)
 have hb2:=b_1 (w.alloc (.cells #[.pointer (some ⟨gW,0,none⟩)] 50)) (iO p s4 s5 s6 s7)
 have hbB:Below w.heap.size w ((w.alloc (.cells #[.pointer (some ⟨gW,0,none⟩)] 50)).alloc (iO p s4 s5 s6 s7)):=hb1.trans (hb2.mono hb1.size)
 have hsz:(w.alloc (.cells #[.pointer (some ⟨gW,0,none⟩)] 50)).heap.size=w.heap.size+1:=by simp
 have h1:=(ah.mk' w 50 #[.pointer (some ⟨gW,0,none⟩)])
 have HR:=hide (ah.low h1 hb2 (ah.lt h1))
 have hP:=dA.mk (w.alloc (.cells #[.pointer (some ⟨gW,0,none⟩)] 50)) p s4 s5 s6 s7
 rw [hsz] at hP
 have q6:=hP.all.2.2.2.2.2.2.1
 have HN:=hide (hN.low hbB)
 have HA:=hide (hA.i.low hbB (Nat.le_refl _))
 have HB:=hide hbB
 have HW:=hide hw
 clear hb1 hb2 hbB h1 hP hN hA hw hsz
 unfold PV.agg
 go_enter Tryz.func17,Tryz.ntmps17
 go_upto_region 1 with (fail)
 generalize (w.alloc (.cells #[.pointer (some ⟨gW,0,none⟩)] 50)).alloc (iO p s4 s5 s6 s7)=w1 at *
 obtain ⟨X,hX⟩:∃ X,w.heap.size=X:=⟨_,rfl⟩
 rw [hX] at HR HB q6 ⊢
 have HX:=hide hX
 clear hX
 go_wp2_with fail
 refine (FD _ p.ni p.i0 p.i1 p.i2 p.i3 (fun k=>aU (p.i0 k)≠[]) X w1 (by omega) HA.out (fun i hi w' hb=>?_)).mono ?_
 ·have h0:=(HW.out.ins hi).1
  obtain ⟨o,ho⟩:∃ o:Nat,p.i0 i=(o:Int):=⟨(p.i0 i).toNat,by omega⟩
  have hR:=ah.low HR.out hb (ah.lt HR.out)
  rw [ho]
  exact J8 X gW gN o (p.i1 i) (p.i2 i) (p.i3 i) w' (ah.cell hR (j:=0) (by simp)) (ah.lt hR) (HN.out.low hb)
 rintro e w2 ⟨r,rfl,hr,hb2⟩
 have HR2:=hide hr
 have HB2:=hide (HB.out.trans (hb2.mono (by have:=HX.out;have:=HB.out.size;omega)))
 clear hr hb2
 go_wp2_with fail
 go_ret
 exact ⟨r,rfl,HR2.out,by rw [HX.out];exact HB2.out⟩
set_option maxHeartbeats 1600000 in
set_option maxRecDepth 100000 in
theorem vZ (gW gN:Nat) (v:Value) (n:Nat) (P:Nat->PV) (w:World) (hn:n<=1048576) (hw:∀ i,i<n->Wri (P i)) (h:bY w v n P) (hN:NamW w gW gN):
 Calls Tryz.prog 16 #[v,.func (.func 17) #[.pointer (some ⟨gW,0,none⟩)] #[]] w fun e w'=>jk (∀ k,k<n->pU (P k)) w e w':=by
 have HA:=hide h
 obtain ⟨sa,cap,rfl⟩:=h.val
 clear h
 have HW:=hide hw
 have HN:=hide hN
 clear hw hN
 go_enter Tryz.func16,Tryz.ntmps16
 go_wp2_with fail
 go_loopw [9] (fun iv wr=>∃ i:Nat,i<=n/\iv=.int .i64 i/\Hid (∀ k,k<i->pU (P k))/\Hid (Below w.heap.size w wr)) (fun iv _=>match iv with | .int _ x=>n-x.toNat|_=>0)
 case atStart=>exact ⟨0,by omega,rfl,hide (fun k hk=>by omega),hide (Below.refl _ _)⟩
 case round=>
  obtain ⟨i,hi9,rfl,HU,HBw⟩:=hrel
  by_cases hin:i<n
  ·rcases HA.out with ⟨h9,_⟩|⟨b,o,cap',e,hb,hcap,hc⟩
   ·omega
   cases e
   obtain ⟨s4,s5,s6,s7,h8,hp8⟩:=hc i hin
   obtain ⟨a4,k4,rfl⟩:=hp8.u.val
   obtain ⟨a5,k5,rfl⟩:=hp8.c.val
   obtain ⟨a6,k6,rfl⟩:=hp8.i.val
   obtain ⟨a7,k7,rfl⟩:=hp8.l.val
   obtain ⟨c0,c1,c2,c3,c4,c5,c6,c7⟩:=h8.low HBw.out hb
   have hbA:=b_1 wr (.cells #[.int .i64 (P i).params,.int .i64 (P i).regs,.int .i64 (P i).line,.bool (P i).dots,.slice a4 (P i).nu k4,.slice a5 (P i).nc k5,.slice a6 (P i).ni k6,.slice a7 (P i).nl k7] 43)
   have HP8:=hide ((hp8.low HBw.out (Nat.le_refl _)).low hbA (Nat.le_refl _))
   have HN8:=hide ((HN.out.low HBw.out).low hbA)
   clear hc h8 hp8 hbA
   go_wp2_with fail
   clear c0 c1 c2 c3 c4 c5 c6 c7
   refine (vS gW gN (P i) _ _ _ _ _ (HW.out i hin) HP8.out HN8.out).mono ?_
   rintro e w3 ⟨r,rfl,hr,hb3⟩
   have HB4:=hide ((HBw.out.alloc HBw.out.size _).trans (hb3.mono (HBw.out.alloc HBw.out.size _).size))
   clear hb3
   rcases hr with ⟨rfl,hr⟩|⟨rfl,hr⟩
   ·have HR:=hide hr
    clear hr
    go_wp2
    go_roundw
    case rel=>exact ⟨i+1,by omega,by simp,hide (dZ HU.out HR.out),HB4⟩
    case measure=>simp;omega
   ·have HR:=hide hr
    clear hr
    go_wp2
    go_ret
    exact ⟨_,rfl,.inr ⟨rfl,fun hq=>HR.out (hq i hin)⟩,HB4.out⟩
  ·obtain rfl:i=n:=by omega
   go_wp2
   go_ret
   exact ⟨_,rfl,.inl ⟨rfl,HU.out⟩,HBw.out⟩
end Go.Proofs.YtjibjahfbblieaaGreatDoor
