import Derived.Test.YtjibjahfbblieaaGreatDoorKA0
import Derived.Test.YtjibjahfbblieaaGreatDoorKP1A5
import Derived.RowKit
import Derived.Deep.Slices
import Derived.Lib.SmallJoins
namespace Go.Proofs.YtjibjahfbblieaaGreatDoor
open Go Go.RowKit
set_option linter.unusedVariables false
def OU (l r:Int) (Q:Prop):Prop:=r= -1∨(0<=r/\r<=l/\Q)
def MV (f:Nat->Nat):Nat->Nat
 |0=>0
 |k+1=>MV f k+f k
def Ip (x:Nat->ByteArray) (n:Nat):Nat:=MV (fun k=>(x k).size) n
theorem I5 (x:Nat->ByteArray):Ip x 0=0:=rfl
theorem H9 (x:Nat->ByteArray) (k:Nat):Ip x (k+1)=Ip x k+(x k).size:=rfl
set_option maxHeartbeats 800000 in
set_option maxRecDepth 100000 in
theorem xu (v:Value) (n:Nat) (x0 x1 x2:Nat->Int) (x3:Nat->ByteArray) (l:Int) (w:World) (h0:0<=l) (h1:l<=1048576) (hn:n<=9223372036854775807) (hs:∀ k,k<n->(x3 k).size<=9223372036854775807) (h:gD w v n x0 x1 x2 x3):
 Calls Tryz.prog 48 #[v,.int .i64 l] w fun e w'=>∃ r,e=.returned (.int .i64 r)/\OU l r (n<=l/\(∀ k,k<n->(x3 k).size<=l)/\r+n+Ip x3 n=l)/\Below w.heap.size w w':=by
 by_cases hl:l<n
 ·obtain ⟨a,cap,rfl⟩:=h.val
  clear h hs
  go_enter Tryz.func48,Tryz.ntmps48
  go_wp2
  go_ret
  exact ⟨-1,rfl,.inl rfl,Below.refl _ _⟩
 ·rcases h with ⟨rfl,a,cap,rfl⟩|⟨b,o,cap,rfl,hb,hcap,hc⟩
  ·clear hs
   go_enter Tryz.func48,Tryz.ntmps48
   go_wp2
   go_loopw [1,5] (fun lv iv wr=>lv=.int .i64 l/\iv=.int .i64 0/\wr=w) (fun _ _ _=>0)
   case atStart=>exact ⟨by simp,rfl,rfl⟩
   case round=>
    obtain ⟨rfl,rfl,rfl⟩:=hrel
    go_wp2
    go_ret
    exact ⟨l,rfl,.inr ⟨h0,by omega,by omega,fun k hk=>by omega,by rw [I5];omega⟩,Below.refl _ _⟩
  ·have HC:=hide hc
   have HS:=hide hs
   clear hc hs
   go_enter Tryz.func48,Tryz.ntmps48
   go_wp2
   go_loopw [1,5] (fun lv iv wr=>∃ (i:Nat) (r:Int),i<=n/\iv=.int .i64 i/\lv=.int .i64 r/\0<=r/\r<=l/\Hid (∀ k,k<i->(x3 k).size<=l)/\Hid (r+n+Ip x3 i=l)/\Below w.heap.size w wr) (fun _ iv _=>match iv with | .int _ x=>n-x.toNat|_=>0)
   case atStart=>exact ⟨0,l-n,by omega,rfl,rfl,by omega,by omega,hide (fun k hk=>by omega),hide (by rw [I5];omega),Below.refl _ _⟩
   case round=>
    obtain ⟨i,r,hi9,rfl,rfl,hr0,hr1,HK,HE,hbw⟩:=hrel
    by_cases hin:i<n
    ·have c0:=(hbw.cell (p:=⟨b,o+i*4,none⟩) (by assumption)).trans (HC.out i hin).1
     have c1:=(hbw.cell (p:=⟨b,o+i*4+1,none⟩) (by assumption)).trans (HC.out i hin).2.1
     have c2:=(hbw.cell (p:=⟨b,o+i*4+2,none⟩) (by assumption)).trans (HC.out i hin).2.2.1
     have c3:=(hbw.cell (p:=⟨b,o+i*4+3,none⟩) (by assumption)).trans (HC.out i hin).2.2.2
     go_wp2_with fail
     refine (zB (x0 i) (x1 i) (x2 i) (x3 i) r wr hr0 (by omega) (HS.out i hin)).mono ?_
     rintro e w2 ⟨rfl,hb2⟩
     have hbw2:=hbw.trans (hb2.mono hbw.size)
     clear c0 c1 c2 c3 hb2 hbw
     by_cases hsz:r<(x3 i).size
     ·rw [if_pos hsz]
      go_wp2
      go_ret
      exact ⟨-1,rfl,.inl rfl,hbw2⟩
     ·rw [if_neg hsz]
      have hge:¬ (r-((x3 i).size:Int)<0):=by omega
      go_wp2
      go_roundw
      case rel=>exact ⟨i+1,r-((x3 i).size:Int),by omega,by simp,rfl,by omega,by omega,hide (fun k hk=>by
       by_cases e:k=i
       ·subst e;omega
       ·exact HK.out k (by omega)),hide (by have:=HE.out;rw [H9];omega),hbw2⟩
      case measure=>simp;omega
    ·obtain rfl:i=n:=by omega
     go_wp2
     go_ret
     exact ⟨r,rfl,.inr ⟨hr0,hr1,by omega,HK.out,HE.out⟩,hbw⟩
def PV.weight (p:PV):Nat:=p.nu+p.nc+Ip p.c3 p.nc+p.ni+p.nl
def PV.sane (p:PV):Prop:=p.fits 9223372036854775807
def PC (w:World) (g:Nat) (p:PV) (s4 s5 s6 s7:Value):Prop:=
 g<w.heap.size/\w.cell? ⟨g,0,none⟩=some (.int .i64 p.params)/\w.cell? ⟨g,1,none⟩=some (.int .i64 p.regs)/\w.cell? ⟨g,2,none⟩=some (.int .i64 p.line)/\w.cell? ⟨g,3,none⟩=some (.bool p.dots)/\
  w.cell? ⟨g,4,none⟩=some s4/\w.cell? ⟨g,5,none⟩=some s5/\w.cell? ⟨g,6,none⟩=some s6/\w.cell? ⟨g,7,none⟩=some s7
theorem PC.mk (w:World) (T:Nat) (p:PV) (s4 s5 s6 s7:Value):PC (w.alloc (.cells #[.int .i64 p.params,.int .i64 p.regs,.int .i64 p.line,.bool p.dots,s4,s5,s6,s7] T)) w.heap.size p s4 s5 s6 s7:=by
 refine ⟨by simp,?_,?_,?_,?_,?_,?_,?_,?_⟩<;>simp
theorem PC.low {w w':World} {g B:Nat} {p:PV} {s4 s5 s6 s7:Value} (h:PC w g p s4 s5 s6 s7) (hb:Below B w w') (hB:g<B):PC w' g p s4 s5 s6 s7:=by
 obtain ⟨h,h0,h1,h2,h3,h4,h5,h6,h7⟩:=h
 exact ⟨Nat.lt_of_lt_of_le h hb.size,(hb.cell (p:=⟨g,0,none⟩) hB).trans h0,(hb.cell (p:=⟨g,1,none⟩) hB).trans h1,(hb.cell (p:=⟨g,2,none⟩) hB).trans h2,(hb.cell (p:=⟨g,3,none⟩) hB).trans h3,
  (hb.cell (p:=⟨g,4,none⟩) hB).trans h4,(hb.cell (p:=⟨g,5,none⟩) hB).trans h5,(hb.cell (p:=⟨g,6,none⟩) hB).trans h6,(hb.cell (p:=⟨g,7,none⟩) hB).trans h7⟩
theorem OU.fst {l:Int} {n:Nat} (h:l<n):OU l (-1) (n<=l):=.inl rfl
set_option maxHeartbeats 800000 in
set_option maxRecDepth 100000 in
theorem yQ (p:PV) (s4 s5 s6 s7:Value) (l:Int) (w:World) (h0:0<=l) (h1:l<=1048576) (hs:p.sane) (h:PVA w p s4 s5 s6 s7):
 Calls Tryz.prog 24 #[p.agg s4 s5 s6 s7,.int .i64 l] w fun e w'=>∃ r,e=.returned (.int .i64 r)/\OU l r (p.fits l.toNat/\r+p.weight=l)/\Below w.heap.size w w':=by
 obtain ⟨hs1,hs2,hs3,hs4,hs5⟩:=hs
 obtain ⟨a4,k4,rfl⟩:=h.u.val
 obtain ⟨a6,k6,rfl⟩:=h.i.val
 obtain ⟨a7,k7,rfl⟩:=h.l.val
 have HS:=hide hs5
 have HPC:=hide (PC.mk w 76 p (.slice a4 p.nu k4) s5 (.slice a6 p.ni k6) (.slice a7 p.nl k7))
 have HB:=hide (b_1 w (.cells #[.int .i64 p.params,.int .i64 p.regs,.int .i64 p.line,.bool p.dots,.slice a4 p.nu k4,s5,.slice a6 p.ni k6,.slice a7 p.nl k7] 76))
 have HA:=hide (h.low HB.out (Nat.le_refl _))
 clear h hs5
 unfold PV.agg
 go_enter Tryz.func24,Tryz.ntmps24
 go_wp2_with fail
 generalize w.alloc (.cells #[.int .i64 p.params,.int .i64 p.regs,.int .i64 p.line,.bool p.dots,.slice a4 p.nu k4,s5,.slice a6 p.ni k6,.slice a7 p.nl k7] 76)=w1 at HPC HB HA ⊢
 refine (EJ _ _ _ l w1 h0 h1 hs1).mono ?_
 rintro e w2 ⟨rfl,rfl⟩
 by_cases q1:l<p.nu
 ·rw [if_pos q1]
  go_wp2
  go_ret
  exact ⟨-1,rfl,.inl rfl,HB.out⟩
 rw [if_neg q1]
 have q1':¬ (l-(p.nu:Int)<0):=by omega
 obtain ⟨hg,-,-,-,-,e4,e5,e6,e7⟩:=HPC.out
 go_wp2_with fail
 refine (xu s5 p.nc p.c0 p.c1 p.c2 p.c3 _ w2 (by omega) (by omega) hs2 HS.out HA.out.c).mono ?_
 rintro e w3 ⟨r3,rfl,hr3,hb3⟩
 have HB3:=hide (HB.out.trans (hb3.mono HB.out.size))
 have HPC3:=hide (HPC.out.low hb3 hg)
 clear e4 e5 e6 e7 hb3 HB HPC HA
 rcases hr3 with rfl|⟨hr30,hr31,hr32,hr33,hr34⟩
 ·go_wp2
  go_ret
  exact ⟨-1,rfl,.inl rfl,HB3.out⟩
 have q3':¬ (r3<0):=by omega
 have HR:=hide hr33
 have HE:=hide hr34
 clear hr33 hr34
 obtain ⟨-,-,-,-,-,e4,e5,e6,e7⟩:=HPC3.out
 go_wp2_with fail
 refine (vB _ _ _ r3 w3 (by omega) (by omega) hs3).mono ?_
 rintro e w4 ⟨rfl,rfl⟩
 by_cases q4:r3<p.ni
 ·rw [if_pos q4]
  go_wp2
  go_ret
  exact ⟨-1,rfl,.inl rfl,HB3.out⟩
 rw [if_neg q4]
 have q4':¬ (r3-(p.ni:Int)<0):=by omega
 go_wp2_with fail
 refine (Ai _ _ _ (r3-p.ni) w4 (by omega) (by omega) hs4).mono ?_
 rintro e w5 ⟨rfl,rfl⟩
 by_cases q5:r3-p.ni<p.nl
 ·rw [if_pos q5]
  go_wp2
  go_ret
  exact ⟨-1,rfl,.inl rfl,HB3.out⟩
 rw [if_neg q5]
 have q5':¬ (r3-(p.ni:Int)-(p.nl:Int)<0):=by omega
 go_wp2
 go_ret
 exact ⟨_,rfl,.inr ⟨by omega,by omega,⟨by omega,by omega,by omega,by omega,fun k hk=>by have:=HR.out k hk;omega⟩,by have:=HE.out;unfold PV.weight;omega⟩,HB3.out⟩
def C8 (w:World) (b q:Nat) (p:PV) (s4 s5 s6 s7:Value):Prop:=
 w.cell? ⟨b,q,none⟩=some (.int .i64 p.params)/\w.cell? ⟨b,q+1,none⟩=some (.int .i64 p.regs)/\w.cell? ⟨b,q+2,none⟩=some (.int .i64 p.line)/\w.cell? ⟨b,q+3,none⟩=some (.bool p.dots)/\
  w.cell? ⟨b,q+4,none⟩=some s4/\w.cell? ⟨b,q+5,none⟩=some s5/\w.cell? ⟨b,q+6,none⟩=some s6/\w.cell? ⟨b,q+7,none⟩=some s7
theorem C8.low {w w':World} {b q B:Nat} {p:PV} {s4 s5 s6 s7:Value} (h:C8 w b q p s4 s5 s6 s7) (hb:Below B w w') (hB:b<B):C8 w' b q p s4 s5 s6 s7:=by
 obtain ⟨h0,h1,h2,h3,h4,h5,h6,h7⟩:=h
 exact ⟨(hb.cell (p:=⟨b,q,none⟩) hB).trans h0,(hb.cell (p:=⟨b,q+1,none⟩) hB).trans h1,(hb.cell (p:=⟨b,q+2,none⟩) hB).trans h2,(hb.cell (p:=⟨b,q+3,none⟩) hB).trans h3,
  (hb.cell (p:=⟨b,q+4,none⟩) hB).trans h4,(hb.cell (p:=⟨b,q+5,none⟩) hB).trans h5,(hb.cell (p:=⟨b,q+6,none⟩) hB).trans h6,(hb.cell (p:=⟨b,q+7,none⟩) hB).trans h7⟩
def bY (w:World) (v:Value) (n:Nat) (P:Nat->PV):Prop:=
 (n=0/\∃ a cap,v=.slice a 0 cap)∨∃ b o cap,v=.slice (some ⟨b,o,none⟩) n cap/\b<w.heap.size/\n<=cap/\∀ i,i<n->∃ s4 s5 s6 s7,C8 w b (o+i*8) (P i) s4 s5 s6 s7/\PVA w (P i) s4 s5 s6 s7
theorem bY.low {w w':World} {v:Value} {n B:Nat} {P:Nat->PV} (h:bY w v n P) (hb:Below B w w') (hB:w.heap.size<=B):bY w' v n P:=by
 rcases h with h|⟨b,o,cap,rfl,hbB,hcap,hc⟩
 ·exact .inl h
 ·refine .inr ⟨b,o,cap,rfl,Nat.lt_of_lt_of_le hbB hb.size,hcap,fun i hi=>?_⟩
  obtain ⟨s4,s5,s6,s7,h1,h2⟩:=hc i hi
  exact ⟨s4,s5,s6,s7,h1.low hb (Nat.lt_of_lt_of_le hbB hB),h2.low hb hB⟩
theorem bY.val {w:World} {v:Value} {n:Nat} {P:Nat->PV} (h:bY w v n P):∃ a cap,v=.slice a n cap:=by
 rcases h with ⟨rfl,a,cap,rfl⟩|⟨b,o,cap,rfl,_⟩
 ·exact ⟨a,cap,rfl⟩
 ·exact ⟨_,cap,rfl⟩
def allFit (n:Nat) (P:Nat->PV) (m:Nat):Prop:=∀ k,k<n->(P k).fits m
def CX (P:Nat->PV) (n:Nat):Nat:=MV (fun k=>(P k).weight) n
theorem Mt (P:Nat->PV):CX P 0=0:=rfl
theorem B_ (P:Nat->PV) (k:Nat):CX P (k+1)=CX P k+(P k).weight:=rfl
theorem PV.fits.mono {p:PV} {m m':Nat} (h:p.fits m) (hm:m<=m'):p.fits m':=by
 obtain ⟨h1,h2,h3,h4,h5⟩:=h
 exact ⟨by omega,by omega,by omega,by omega,fun k hk=>by have:=h5 k hk;omega⟩
set_option maxHeartbeats 800000 in
set_option maxRecDepth 100000 in
theorem uY (v:Value) (n:Nat) (P:Nat->PV) (l:Int) (w:World) (h0:0<=l) (h1:l<=1048576) (hn:n<=9223372036854775807) (hs:∀ k,k<n->(P k).sane) (h:bY w v n P):
 Calls Tryz.prog 9 #[v,.int .i64 l] w fun e w'=>∃ r,e=.returned (.int .i64 r)/\OU l r (n<=l/\allFit n P l.toNat/\r+n+CX P n=l)/\Below w.heap.size w w':=by
 by_cases hl:l<n
 ·obtain ⟨a,cap,rfl⟩:=h.val
  clear h hs
  go_enter Tryz.func9,Tryz.ntmps9
  go_wp2
  go_ret
  exact ⟨-1,rfl,.inl rfl,Below.refl _ _⟩
 ·rcases h with ⟨rfl,a,cap,rfl⟩|⟨b,o,cap,rfl,hb,hcap,hc⟩
  ·clear hs
   go_enter Tryz.func9,Tryz.ntmps9
   go_wp2
   go_loopw [1,5] (fun lv iv wr=>lv=.int .i64 l/\iv=.int .i64 0/\wr=w) (fun _ _ _=>0)
   case atStart=>exact ⟨by simp,rfl,rfl⟩
   case round=>
    obtain ⟨rfl,rfl,rfl⟩:=hrel
    go_wp2
    go_ret
    exact ⟨l,rfl,.inr ⟨h0,by omega,by omega,fun k hk=>by omega,by rw [Mt];omega⟩,Below.refl _ _⟩
  ·have HC:=hide hc
   have HS:=hide hs
   clear hc hs
   go_enter Tryz.func9,Tryz.ntmps9
   go_wp2
   go_loopw [1,5] (fun lv iv wr=>∃ (i:Nat) (r:Int),i<=n/\iv=.int .i64 i/\lv=.int .i64 r/\0<=r/\r<=l/\Hid (allFit i P l.toNat)/\Hid (r+n+CX P i=l)/\Below w.heap.size w wr) (fun _ iv _=>match iv with | .int _ x=>n-x.toNat|_=>0)
   case atStart=>exact ⟨0,l-n,by omega,rfl,rfl,by omega,by omega,hide (fun k hk=>by omega),hide (by rw [Mt];omega),Below.refl _ _⟩
   case round=>
    obtain ⟨i,r,hi9,rfl,rfl,hr0,hr1,HK,HE,hbw⟩:=hrel
    by_cases hin:i<n
    ·obtain ⟨s4,s5,s6,s7,hc8,hpva⟩:=HC.out i hin
     have HP:=hide (hpva.low hbw (Nat.le_refl _))
     obtain ⟨c0,c1,c2,c3,c4,c5,c6,c7⟩:=hc8.low hbw hb
     clear hc8 hpva
     go_wp2_with fail
     refine (yQ (P i) s4 s5 s6 s7 r wr hr0 (by omega) (HS.out i hin) HP.out).mono ?_
     rintro e w2 ⟨r2,rfl,hr2,hb2⟩
     have hbw2:=hbw.trans (hb2.mono hbw.size)
     clear c0 c1 c2 c3 c4 c5 c6 c7 hb2 hbw HP
     rcases hr2 with rfl|⟨hr20,hr21,hr22,hr23⟩
     ·go_wp2
      go_ret
      exact ⟨-1,rfl,.inl rfl,hbw2⟩
     ·have hge:¬ (r2<0):=by omega
      have HR:=hide hr22
      have HE2:=hide hr23
      clear hr22 hr23
      go_wp2
      go_roundw
      case rel=>exact ⟨i+1,r2,by omega,by simp,rfl,by omega,by omega,hide (fun k hk=>by
       by_cases e:k=i
       ·subst e;exact HR.out.mono (by omega)
       ·exact HK.out k (by omega)),hide (by have:=HE.out;have:=HE2.out;rw [B_];omega),hbw2⟩
      case measure=>simp;omega
    ·obtain rfl:i=n:=by omega
     go_wp2
     go_ret
     exact ⟨r,rfl,.inr ⟨hr0,hr1,by omega,HK.out,HE.out⟩,hbw⟩
set_option maxHeartbeats 800000 in
set_option maxRecDepth 100000 in
theorem yA (v:Value) (n:Nat) (P:Nat->PV) (l:Int) (w:World) (h0:0<=l) (h1:l<=1048576) (hn:n<=9223372036854775807) (hs:∀ k,k<n->(P k).sane) (h:bY w v n P):
 Calls Tryz.prog 4 #[.agg #[v],.int .i64 l] w fun e w'=>∃ r,e=.returned (.int .i64 r)/\OU l r (n<=l/\allFit n P l.toNat/\r+n+CX P n=l)/\Below w.heap.size w w':=by
 have HA:=hide (h.low (b_1 w (.cells #[v] 24)) (Nat.le_refl _))
 have HS:=hide hs
 clear h hs
 go_enter Tryz.func4,Tryz.ntmps4
 go_wp2_with fail
 refine (uY v n P l _ h0 h1 hn HS.out HA.out).mono ?_
 rintro e w2 ⟨r,rfl,hr,hb⟩
 have hb2:=(b_1 w (.cells #[v] 24)).trans (hb.mono (by simp))
 clear hb
 rcases hr with rfl|⟨h2,h3,h4⟩
 ·go_wp2
  go_ret
  exact ⟨-1,rfl,.inl rfl,hb2⟩
 ·have hge:¬ (r<0):=by omega
  have HR:=hide h4
  clear h4
  go_wp2
  go_ret
  exact ⟨r,rfl,.inr ⟨h2,h3,HR.out⟩,hb2⟩
def sl (g n:Nat):Value:=.slice (some ⟨g,0,none⟩) n n
abbrev dF:Value:=.slice none 0 0
theorem PC.other {w:World} {g g' j:Nat} {p:PV} {s4 s5 s6 s7 x:Value} (h:PC w g p s4 s5 s6 s7) (hn:g≠g'):PC (w.setCell ⟨g',j,none⟩ x) g p s4 s5 s6 s7:=by
 obtain ⟨h,h0,h1,h2,h3,h4,h5,h6,h7⟩:=h
 have e:∀ k,(w.setCell ⟨g',j,none⟩ x).cell? ⟨g,k,none⟩=w.cell? ⟨g,k,none⟩:=fun k=>World.cell?_setCell_other _ _ _ _ (fun e=>hn (by injection e with e1;exact e1.symm))
 exact ⟨by simpa using h,(e 0).trans h0,(e 1).trans h1,(e 2).trans h2,(e 3).trans h3,(e 4).trans h4,(e 5).trans h5,(e 6).trans h6,(e 7).trans h7⟩
structure TP (w wr:World) (p:PV) (s4 s5 s6 s7:Value) (fo:Nat->Value):Prop where
 pc:PC wr w.heap.size p s4 s5 s6 s7
 rz:∃ fz,ah wr 43 (w.heap.size+1) 8 fz
 ro:ah wr 43 (w.heap.size+1+1) 8 fo
 be:Below w.heap.size w wr
theorem TP.call {w wr w2:World} {p:PV} {s4 s5 s6 s7:Value} {fo:Nat->Value} (h:TP w wr p s4 s5 s6 s7 fo) (hb:Below wr.heap.size wr w2):TP w w2 p s4 s5 s6 s7 fo:=by
 obtain ⟨h1,⟨fz,h2⟩,h3,h4⟩:=h
 exact ⟨h1.low hb h1.1,⟨fz,h2.low hb h2.lt⟩,h3.low hb h3.lt,h4.trans (hb.mono h4.size)⟩
theorem TP.put {w wr:World} {p:PV} {s4 s5 s6 s7:Value} {fo:Nat->Value} (h:TP w wr p s4 s5 s6 s7 fo) {j:Nat} (hj:j<8) (x:Value):TP w (wr.setCell ⟨w.heap.size+1+1,j,none⟩ x) p s4 s5 s6 s7 (fun i=>if i=j then x else fo i):=by
 obtain ⟨h1,⟨fz,h2⟩,h3,h4⟩:=h
 exact ⟨h1.other (by omega),⟨fz,h2.other (by omega)⟩,h3.set hj x,h4.setCell (by show w.heap.size<=w.heap.size+1+1;omega) _⟩
theorem TP.start (w:World) (p:PV) (s4 s5 s6 s7:Value) (zs os:Array Value) (hz:zs.size=8) (ho:os.size=8):
 TP w (((w.alloc (.cells #[.int .i64 p.params,.int .i64 p.regs,.int .i64 p.line,.bool p.dots,s4,s5,s6,s7] 76)).alloc (.cells zs 43)).alloc (.cells os 43)) p s4 s5 s6 s7 (fun j=>os.getD j (.bool false)):=by
 have h1:=PC.mk w 76 p s4 s5 s6 s7
 have h3:=OT w (.cells #[.int .i64 p.params,.int .i64 p.regs,.int .i64 p.line,.bool p.dots,s4,s5,s6,s7] 76) (.cells zs 43) (.cells os 43)
 have e1:(w.alloc (.cells #[.int .i64 p.params,.int .i64 p.regs,.int .i64 p.line,.bool p.dots,s4,s5,s6,s7] 76)).heap.size=w.heap.size+1:=by simp
 generalize w.alloc (.cells #[.int .i64 p.params,.int .i64 p.regs,.int .i64 p.line,.bool p.dots,s4,s5,s6,s7] 76)=wa at *
 have z1:=ah.mk' wa 43 zs
 have e2:(wa.alloc (.cells zs 43)).heap.size=wa.heap.size+1:=by simp
 have z2:=ah.mk' (wa.alloc (.cells zs 43)) 43 os
 have z3:=z1.low (b_1 _ (.cells os 43)) z1.lt
 rw [e2,e1,ho] at z2
 rw [e1,hz] at z3
 exact ⟨h1.low (zU _ _ _) (by omega),⟨_,z3⟩,z2,h3⟩
set_option maxHeartbeats 800000 in
set_option maxRecDepth 100000 in
theorem zN (p:PV) (s4 s5 s6 s7:Value) (w:World) (hf:p.fits 1048576) (h:PVA w p s4 s5 s6 s7):
 Calls Tryz.prog 38 #[p.agg s4 s5 s6 s7] w fun e w'=>∃ g4 g5 g6 g7,e=.returned (p.agg (sl g4 p.nu) (sl g5 p.nc) (sl g6 p.ni) (sl g7 p.nl))/\w.heap.size<=g4/\g4<g5/\g5<g6/\g6<g7/\g7<w'.heap.size/\PVO w' p g4 g5 g6 g7/\Below w.heap.size w w':=by
 obtain ⟨hs1,hs2,hs3,hs4,-⟩:=hf
 have HA:=hide h
 clear h
 have HT:=hide (TP.start w p s4 s5 s6 s7 #[.int .i64 0,.int .i64 0,.int .i64 0,.bool false,dF,dF,dF,dF] #[.int .i64 p.params,.int .i64 p.regs,.int .i64 p.line,.bool p.dots,dF,dF,dF,dF] rfl rfl)
 unfold PV.agg
 go_enter Tryz.func38,Tryz.ntmps38
 go_wp2_with fail
 generalize ((w.alloc (.cells #[.int .i64 p.params,.int .i64 p.regs,.int .i64 p.line,.bool p.dots,s4,s5,s6,s7] 76)).alloc (.cells #[.int .i64 0,.int .i64 0,.int .i64 0,.bool false,dF,dF,dF,dF] 43)).alloc (.cells #[.int .i64 p.params,.int .i64 p.regs,.int .i64 p.line,.bool p.dots,dF,dF,dF,dF] 43)=w1 at HT ⊢
 refine (FY s4 p.nu p.u0 p.u1 w1 hs1 (HA.out.u.low HT.out.be (Nat.le_refl _))).mono ?_
 rintro e w2 ⟨rfl,hU,hb4⟩
 have hT:=HT.out.call hb4
 have q4:w.heap.size+1+1<w1.heap.size:=HT.out.ro.lt
 have l4:=hU.lt
 have HU:=hide (hU.other (g':=w.heap.size+1+1) (j:=4) (x:=.slice (some ⟨w1.heap.size,0,none⟩) p.nu p.nu) (by omega))
 clear hU hb4 HT
 generalize w1.heap.size=g4 at *
 have d4:=hT.ro.cell (j:=4) (by omega)
 have z4:=hT.ro.frz 4
 have HT:=hide (hT.put (j:=4) (by omega) (.slice (some ⟨g4,0,none⟩) p.nu p.nu))
 clear hT
 have l4':g4<(w2.setCell ⟨w.heap.size+1+1,4,none⟩ (.slice (some ⟨g4,0,none⟩) p.nu p.nu)).heap.size:=by simpa using l4
 have e5:=HT.out.pc.2.2.2.2.2.2.1
 go_wp2_with fail
 clear d4 z4 e5 l4
 generalize w2.setCell ⟨w.heap.size+1+1,4,none⟩ (.slice (some ⟨g4,0,none⟩) p.nu p.nu)=w3 at *
 refine (wm s5 p.nc p.c0 p.c1 p.c2 p.c3 w3 hs2 (HA.out.c.low HT.out.be (Nat.le_refl _))).mono ?_
 rintro e w4 ⟨rfl,hC,hb5⟩
 have hT:=HT.out.call hb5
 have q5:w.heap.size+1+1<w3.heap.size:=HT.out.ro.lt
 have l5:=hC.lt
 have HU:=hide ((HU.out.low hb5 HU.out.lt).other (g':=w.heap.size+1+1) (j:=5) (x:=.slice (some ⟨w3.heap.size,0,none⟩) p.nc p.nc) (by omega))
 have HC:=hide (hC.other (g':=w.heap.size+1+1) (j:=5) (x:=.slice (some ⟨w3.heap.size,0,none⟩) p.nc p.nc) (by omega))
 clear hC hb5 HT
 generalize w3.heap.size=g5 at *
 have d5:=hT.ro.cell (j:=5) (by omega)
 have z5:=hT.ro.frz 5
 have HT:=hide (hT.put (j:=5) (by omega) (.slice (some ⟨g5,0,none⟩) p.nc p.nc))
 clear hT
 have l5':g5<(w4.setCell ⟨w.heap.size+1+1,5,none⟩ (.slice (some ⟨g5,0,none⟩) p.nc p.nc)).heap.size:=by simpa using l5
 have e6:=HT.out.pc.2.2.2.2.2.2.2.1
 go_wp2_with fail
 clear d5 z5 e6 l5
 generalize w4.setCell ⟨w.heap.size+1+1,5,none⟩ (.slice (some ⟨g5,0,none⟩) p.nc p.nc)=w5 at *
 refine (xB s6 p.ni p.i0 p.i1 p.i2 p.i3 w5 hs3 (HA.out.i.low HT.out.be (Nat.le_refl _))).mono ?_
 rintro e w6 ⟨rfl,hI,hb6⟩
 have hT:=HT.out.call hb6
 have q6:w.heap.size+1+1<w5.heap.size:=HT.out.ro.lt
 have l6:=hI.lt
 have HU:=hide ((HU.out.low hb6 HU.out.lt).other (g':=w.heap.size+1+1) (j:=6) (x:=.slice (some ⟨w5.heap.size,0,none⟩) p.ni p.ni) (by omega))
 have HC:=hide ((HC.out.low hb6 HC.out.lt).other (g':=w.heap.size+1+1) (j:=6) (x:=.slice (some ⟨w5.heap.size,0,none⟩) p.ni p.ni) (by omega))
 have HI:=hide (hI.other (g':=w.heap.size+1+1) (j:=6) (x:=.slice (some ⟨w5.heap.size,0,none⟩) p.ni p.ni) (by omega))
 clear hI hb6 HT
 generalize w5.heap.size=g6 at *
 have d6:=hT.ro.cell (j:=6) (by omega)
 have z6:=hT.ro.frz 6
 have HT:=hide (hT.put (j:=6) (by omega) (.slice (some ⟨g6,0,none⟩) p.ni p.ni))
 clear hT
 have l6':g6<(w6.setCell ⟨w.heap.size+1+1,6,none⟩ (.slice (some ⟨g6,0,none⟩) p.ni p.ni)).heap.size:=by simpa using l6
 have e7:=HT.out.pc.2.2.2.2.2.2.2.2
 go_wp2_with fail
 clear d6 z6 e7 l6
 generalize w6.setCell ⟨w.heap.size+1+1,6,none⟩ (.slice (some ⟨g6,0,none⟩) p.ni p.ni)=w7 at *
 refine (Av s7 p.nl p.l0 w7 hs4 (HA.out.l.low HT.out.be (Nat.le_refl _))).mono ?_
 rintro e w8 ⟨rfl,hL,hb7⟩
 have hT:=HT.out.call hb7
 have q7:w.heap.size+1+1<w7.heap.size:=HT.out.ro.lt
 have l7:=hL.lt
 have HU:=hide ((HU.out.low hb7 HU.out.lt).other (g':=w.heap.size+1+1) (j:=7) (x:=.slice (some ⟨w7.heap.size,0,none⟩) p.nl p.nl) (by omega))
 have HC:=hide ((HC.out.low hb7 HC.out.lt).other (g':=w.heap.size+1+1) (j:=7) (x:=.slice (some ⟨w7.heap.size,0,none⟩) p.nl p.nl) (by omega))
 have HI:=hide ((HI.out.low hb7 HI.out.lt).other (g':=w.heap.size+1+1) (j:=7) (x:=.slice (some ⟨w7.heap.size,0,none⟩) p.nl p.nl) (by omega))
 have HL:=hide (hL.other (g':=w.heap.size+1+1) (j:=7) (x:=.slice (some ⟨w7.heap.size,0,none⟩) p.nl p.nl) (by omega))
 clear hL hb7 HT
 generalize w7.heap.size=g7 at *
 have d7:=hT.ro.cell (j:=7) (by omega)
 have z7:=hT.ro.frz 7
 have HT:=hide (hT.put (j:=7) (by omega) (.slice (some ⟨g7,0,none⟩) p.nl p.nl))
 clear hT
 have l7':g7<(w8.setCell ⟨w.heap.size+1+1,7,none⟩ (.slice (some ⟨g7,0,none⟩) p.nl p.nl)).heap.size:=by simpa using l7
 obtain ⟨fz,hz⟩:=HT.out.rz
 have ho:=HT.out.ro
 have y0:=ho.cell (j:=0) (by omega)
 have x0:=hz.cell (j:=0) (by omega)
 have t0:=hz.frz 0
 have y1:=ho.cell (j:=1) (by omega)
 have x1:=hz.cell (j:=1) (by omega)
 have t1:=hz.frz 1
 have y2:=ho.cell (j:=2) (by omega)
 have x2:=hz.cell (j:=2) (by omega)
 have t2:=hz.frz 2
 have y3:=ho.cell (j:=3) (by omega)
 have x3:=hz.cell (j:=3) (by omega)
 have t3:=hz.frz 3
 have y4:=ho.cell (j:=4) (by omega)
 have x4:=hz.cell (j:=4) (by omega)
 have t4:=hz.frz 4
 have y5:=ho.cell (j:=5) (by omega)
 have x5:=hz.cell (j:=5) (by omega)
 have t5:=hz.frz 5
 have y6:=ho.cell (j:=6) (by omega)
 have x6:=hz.cell (j:=6) (by omega)
 have t6:=hz.frz 6
 have y7:=ho.cell (j:=7) (by omega)
 have x7:=hz.cell (j:=7) (by omega)
 have t7:=hz.frz 7
 simp only [Nat.reduceEqDiff,if_true,if_false] at y0 y1 y2 y3 y4 y5 y6 y7
 clear l7 hz ho
 go_wp2
 clear d7 z7 y0 y1 y2 y3 y4 y5 y6 y7
 generalize w8.setCell ⟨w.heap.size+1+1,7,none⟩ (.slice (some ⟨g7,0,none⟩) p.nl p.nl)=w9 at *
 have n4:g4≠w.heap.size+1:=by omega
 have n5:g5≠w.heap.size+1:=by omega
 have n6:g6≠w.heap.size+1:=by omega
 have n7:g7≠w.heap.size+1:=by omega
 have nb:w.heap.size<=w.heap.size+1:=by omega
 refine bodyPost_ret (v:=.agg #[.int .i64 p.params,.int .i64 p.regs,.int .i64 p.line,.bool p.dots,.slice (some ⟨g4,0,none⟩) p.nu p.nu,.slice (some ⟨g5,0,none⟩) p.nc p.nc,.slice (some ⟨g6,0,none⟩) p.ni p.ni,.slice (some ⟨g7,0,none⟩) p.nl p.nl]) ?_ rfl
  ⟨g4,g5,g6,g7,rfl,by omega,by omega,by omega,by omega,by simpa using l7',⟨(((((((HU.out.other n4).other n4).other n4).other n4).other n4).other n4).other n4).other n4,(((((((HC.out.other n5).other n5).other n5).other n5).other n5).other n5).other n5).other n5,(((((((HI.out.other n6).other n6).other n6).other n6).other n6).other n6).other n6).other n6,(((((((HL.out.other n7).other n7).other n7).other n7).other n7).other n7).other n7).other n7⟩,(((((((HT.out.be.setCell nb _).setCell nb _).setCell nb _).setCell nb _).setCell nb _).setCell nb _).setCell nb _).setCell nb _⟩
 simp [results,Tryz.results38,go_sem,x0,x1,x2,x3,x4,x5,x6,x7]
theorem PVO.low {w w':World} {p:PV} {g4 g5 g6 g7 B:Nat} (h:PVO w p g4 g5 g6 g7) (hb:Below B w w') (hB:w.heap.size<=B):PVO w' p g4 g5 g6 g7:=
 ⟨h.u.low hb (Nat.lt_of_lt_of_le h.u.lt hB),h.c.low hb (Nat.lt_of_lt_of_le h.c.lt hB),h.i.low hb (Nat.lt_of_lt_of_le h.i.lt hB),h.l.low hb (Nat.lt_of_lt_of_le h.l.lt hB)⟩
theorem PVO.other {w:World} {p:PV} {g4 g5 g6 g7 g' j:Nat} {x:Value} (h:PVO w p g4 g5 g6 g7) (h4:g4≠g') (h5:g5≠g') (h6:g6≠g') (h7:g7≠g'):PVO (w.setCell ⟨g',j,none⟩ x) p g4 g5 g6 g7:=
 ⟨h.u.other h4,h.c.other h5,h.i.other h6,h.l.other h7⟩
theorem PVO.by {w:World} {p:PV} {g4 g5 g6 g7:Nat} (h:PVO w p g4 g5 g6 g7):PVA w p (sl g4 p.nu) (sl g5 p.nc) (sl g6 p.ni) (sl g7 p.nl):=⟨h.u.by,h.c.by,h.i.by,h.l.by⟩
def F8 (f:Nat->Value) (q:Nat) (p:PV) (g4 g5 g6 g7:Nat):Prop:=
 f q=.int .i64 p.params/\f (q+1)=.int .i64 p.regs/\f (q+2)=.int .i64 p.line/\f (q+3)=.bool p.dots/\f (q+4)=sl g4 p.nu/\f (q+5)=sl g5 p.nc/\f (q+6)=sl g6 p.ni/\f (q+7)=sl g7 p.nl
structure ProsK (w:World) (G n:Nat) (P:Nat->PV) (k:Nat) (f:Nat->Value) (L b4 b5 b6 b7:Nat->Nat):Prop where
 row:ah w 43 G (n*8) f
 cel:∀ i,i<k->F8 f (i*8) (P i) (b4 i) (b5 i) (b6 i) (b7 i)
 own:∀ i,i<k->PVO w (P i) (b4 i) (b5 i) (b6 i) (b7 i)
 ord:∀ i,i<k->L i<=b4 i/\b4 i<b5 i/\b5 i<b6 i/\b6 i<b7 i/\b7 i<L (i+1)
 low:∀ i,i<=k->G<L i
 top:L k<=w.heap.size
def eY (w:World) (G n:Nat) (P:Nat->PV) (k:Nat):Prop:=∃ f L b4 b5 b6 b7,ProsK w G n P k f L b4 b5 b6 b7
theorem eY.low {w w':World} {G n k:Nat} {P:Nat->PV} {B:Nat} (h:eY w G n P k) (hb:Below B w w') (hB:w.heap.size<=B):eY w' G n P k:=by
 obtain ⟨f,L,b4,b5,b6,b7,h⟩:=h
 exact ⟨f,L,b4,b5,b6,b7,h.row.low hb (Nat.lt_of_lt_of_le h.row.lt hB),h.cel,fun i hi=>(h.own i hi).low hb hB,h.ord,h.low,Nat.le_trans h.top hb.size⟩
theorem eY.other {w:World} {G n k g' j:Nat} {P:Nat->PV} {x:Value} (h:eY w G n P k) (hg:g'<G):eY (w.setCell ⟨g',j,none⟩ x) G n P k:=by
 obtain ⟨f,L,b4,b5,b6,b7,h⟩:=h
 refine ⟨f,L,b4,b5,b6,b7,h.row.other (by omega),h.cel,fun i hi=>?_,h.ord,h.low,by simpa using h.top⟩
 have o:=h.ord i hi
 have l:=h.low i (by omega)
 exact (h.own i hi).other (by omega) (by omega) (by omega) (by omega)
theorem eY.by {w:World} {G n:Nat} {P:Nat->PV} (h:eY w G n P n):bY w (sl G n) n P:=by
 obtain ⟨f,L,b4,b5,b6,b7,h⟩:=h
 refine .inr ⟨G,0,n,rfl,h.row.lt,Nat.le_refl _,fun i hi=>⟨_,_,_,_,?_,(h.own i hi).by⟩⟩
 obtain ⟨c0,c1,c2,c3,c4,c5,c6,c7⟩:=h.cel i hi
 rw [Nat.zero_add]
 refine ⟨?_,?_,?_,?_,?_,?_,?_,?_⟩
 ·rw [h.row.cell (j:=i*8) (by omega),c0]
 ·rw [h.row.cell (j:=i*8+1) (by omega),c1]
 ·rw [h.row.cell (j:=i*8+2) (by omega),c2]
 ·rw [h.row.cell (j:=i*8+3) (by omega),c3]
 ·rw [h.row.cell (j:=i*8+4) (by omega),c4]
 ·rw [h.row.cell (j:=i*8+5) (by omega),c5]
 ·rw [h.row.cell (j:=i*8+6) (by omega),c6]
 ·rw [h.row.cell (j:=i*8+7) (by omega),c7]
def put8 (w:World) (G q:Nat) (v0 v1 v2 v3 v4 v5 v6 v7:Value):World:=
 (((((((w.setCell ⟨G,q,none⟩ v0).setCell ⟨G,q+1,none⟩ v1).setCell ⟨G,q+2,none⟩ v2).setCell ⟨G,q+3,none⟩ v3).setCell ⟨G,q+4,none⟩ v4).setCell ⟨G,q+5,none⟩ v5).setCell ⟨G,q+6,none⟩ v6).setCell ⟨G,q+7,none⟩ v7
theorem EK (w:World) (G q:Nat) (v0 v1 v2 v3 v4 v5 v6 v7:Value):(put8 w G q v0 v1 v2 v3 v4 v5 v6 v7).heap.size=w.heap.size:=by simp [put8]
theorem AU {B:Nat} {w w':World} (h:Below B w w') {G:Nat} (hG:B<=G) (q:Nat) (v0 v1 v2 v3 v4 v5 v6 v7:Value):Below B w (put8 w' G q v0 v1 v2 v3 v4 v5 v6 v7):=
 (((((((h.setCell hG _).setCell hG _).setCell hG _).setCell hG _).setCell hG _).setCell hG _).setCell hG _).setCell hG _
theorem PVO.put8 {w:World} {p:PV} {g4 g5 g6 g7 G:Nat} (h:PVO w p g4 g5 g6 g7) (h4:g4≠G) (h5:g5≠G) (h6:g6≠G) (h7:g7≠G) (q:Nat) (v0 v1 v2 v3 v4 v5 v6 v7:Value):PVO (put8 w G q v0 v1 v2 v3 v4 v5 v6 v7) p g4 g5 g6 g7:=
 (((((((h.other h4 h5 h6 h7).other h4 h5 h6 h7).other h4 h5 h6 h7).other h4 h5 h6 h7).other h4 h5 h6 h7).other h4 h5 h6 h7).other h4 h5 h6 h7).other h4 h5 h6 h7
theorem ah.put8 {w:World} {T G N q:Nat} {f:Nat->Value} (h:ah w T G N f) (hq:q+8<=N) (v0 v1 v2 v3 v4 v5 v6 v7:Value):
 ah (put8 w G q v0 v1 v2 v3 v4 v5 v6 v7) T G N (fun j=>if j=q+7 then v7 else if j=q+6 then v6 else if j=q+5 then v5 else if j=q+4 then v4 else if j=q+3 then v3 else if j=q+2 then v2 else if j=q+1 then v1 else if j=q then v0 else f j):=
 (((((((h.set (by omega) v0).set (by omega) v1).set (by omega) v2).set (by omega) v3).set (by omega) v4).set (by omega) v5).set (by omega) v6).set (by omega) v7
theorem eY.step {w w2:World} {G n i:Nat} {P:Nat->PV} {g4 g5 g6 g7:Nat} (h:eY w G n P i) (hi:i<n) (hb:Below w.heap.size w w2) (q4:w.heap.size<=g4) (q5:g4<g5) (q6:g5<g6) (q7:g6<g7) (q8:g7<w2.heap.size)
 (ho:PVO w2 (P i) g4 g5 g6 g7):eY (put8 w2 G (i*8) (.int .i64 (P i).params) (.int .i64 (P i).regs) (.int .i64 (P i).line) (.bool (P i).dots) (sl g4 (P i).nu) (sl g5 (P i).nc) (sl g6 (P i).ni) (sl g7 (P i).nl)) G n P (i+1):=by
 obtain ⟨f,L,b4,b5,b6,b7,h⟩:=h
 have hGl:G<w.heap.size:=Nat.lt_of_lt_of_le (h.low i (Nat.le_refl _)) h.top
 refine ⟨_,fun j=>if j=i+1 then w2.heap.size else L j,fun j=>if j=i then g4 else b4 j,fun j=>if j=i then g5 else b5 j,fun j=>if j=i then g6 else b6 j,fun j=>if j=i then g7 else b7 j,(h.row.low hb hGl).put8 (q:=i*8) (by omega) _ _ _ _ _ _ _ _,fun j hj=>?_,fun j hj=>?_,fun j hj=>?_,fun j hj=>?_,?_⟩
 ·by_cases e:j=i
  ·subst e
   simp [F8]
  ·obtain ⟨c0,c1,c2,c3,c4,c5,c6,c7⟩:=h.cel j (by omega)
   simp only [if_neg e]
   have K:∀ k,k<8->∀ a,a<8->¬ j*8+k=i*8+a:=fun k hk a ha=>by omega
   refine ⟨?_,?_,?_,?_,?_,?_,?_,?_⟩
   all_goals (simp only [];iterate 8 rw [if_neg (by omega)])
   all_goals assumption
 ·by_cases e:j=i
  ·subst e
   simp only [if_true]
   exact ho.put8 (by omega) (by omega) (by omega) (by omega) _ _ _ _ _ _ _ _ _
  ·simp only [if_neg e]
   have o:=h.ord j (by omega)
   have l:=h.low j (by omega)
   exact ((h.own j (by omega)).low hb (Nat.le_refl _)).put8 (by omega) (by omega) (by omega) (by omega) _ _ _ _ _ _ _ _ _
 ·by_cases e:j=i
  ·subst e
   have t:=h.top
   simp
   omega
  ·have o:=h.ord j (by omega)
   simp only [if_neg e]
   rw [if_neg (show ¬ j=i+1 by omega),if_neg (show ¬ j+1=i+1 by omega)]
   exact o
 ·show G<if j=i+1 then w2.heap.size else L j
  by_cases e:j=i+1
  ·rw [if_pos e];exact Nat.lt_of_lt_of_le hGl hb.size
  ·rw [if_neg e];exact h.low j (by omega)
 ·rw [EK]
  simp
theorem Tryz.info43:(Tryz.prog.info? 43).map (fun i=>(i.zero,i.size,i.bytes))=some (some (.agg #[.int .i64 0,.int .i64 0,.int .i64 0,.bool false,dF,dF,dF,dF]),8,128):=by kernel_rfl
theorem eY.new {w:World} {G n:Nat} {f:Nat->Value} {P:Nat->PV} (h:ah w 43 G (n*8) f):eY w G n P 0:=
 ⟨f,fun _=>G+1,fun _=>0,fun _=>0,fun _=>0,fun _=>0,h,fun i hi=>by omega,fun i hi=>by omega,fun i hi=>by omega,fun i hi=>by show G<G+1;omega,h.lt⟩
set_option maxHeartbeats 1600000 in
set_option maxRecDepth 100000 in
theorem vQ (v:Value) (n:Nat) (P:Nat->PV) (w:World) (hn:n<=1048576) (hf:allFit n P 1048576) (h:bY w v n P):
 Calls Tryz.prog 13 #[v] w fun e w'=>e=.returned (sl w.heap.size n)/\eY w' w.heap.size n P n/\Below w.heap.size w w':=by
 obtain ⟨i0,hi,hz0,hz1,hz2⟩:=info_parts Tryz.info43
 rcases h with ⟨rfl,a,cap,rfl⟩|⟨b,o,cap,rfl,hb,hcap,hc⟩
 ·clear hf
  go_enter Tryz.func13,Tryz.ntmps13
  go_wp2_with (first
   |(at_make;refine wpList_make_full _ rfl _ _ 28 rfl w.heap.size 43 i0 (.agg #[.int .i64 0,.int .i64 0,.int .i64 0,.bool false,dF,dF,dF,dF]) 8 Tryz.underlying28 hi hz0 hz1 _ _ _ _ 0 rfl rfl rfl rfl (by rw [hz2];omega) (by unfold maxLen;omega) (Nat.le_refl _) ?_;intro w1 hown hgrow)
   |go_in)
  have hb1:Below w.heap.size w w1:=(Below.refl _ _).grown hgrow (Nat.le_refl _) (fun _ h=>by cases h)
  have HO:=hide (eY.new (P:=P) (bQ hown))
  clear hgrow hown
  go_wp2
  go_loopw [4] (fun iv wr=>iv=.int .i64 0/\wr=w1) (fun _ _=>0)
  case atStart=>exact ⟨rfl,rfl⟩
  case round=>
   obtain ⟨rfl,rfl⟩:=hrel
   go_wp2
   go_ret
   exact ⟨rfl,HO.out,hb1⟩
 ·have HC:=hide hc
  have HF:=hide hf
  clear hc hf
  go_enter Tryz.func13,Tryz.ntmps13
  go_wp2_with (first
   |(at_make;refine wpList_make_full _ rfl _ _ 28 rfl w.heap.size 43 i0 (.agg #[.int .i64 0,.int .i64 0,.int .i64 0,.bool false,dF,dF,dF,dF]) 8 Tryz.underlying28 hi hz0 hz1 _ _ _ _ n rfl rfl rfl rfl (by rw [hz2];omega) (by unfold maxLen;omega) (Nat.le_refl _) ?_;intro w1 hown hgrow)
   |go_in)
  have hb1:Below w.heap.size w w1:=(Below.refl _ _).grown hgrow (Nat.le_refl _) (fun _ h=>by cases h)
  have HO:=hide (eY.new (P:=P) (bQ hown))
  clear hgrow hown
  go_wp2
  go_loopw [4] (fun iv wr=>∃ i:Nat,i<=n/\iv=.int .i64 i/\eY wr w.heap.size n P i/\Below w.heap.size w wr) (fun iv _=>match iv with | .int _ x=>n-x.toNat|_=>0)
  case atStart=>exact ⟨0,by omega,rfl,HO.out,hb1⟩
  case round=>
   clear HO hb1
   obtain ⟨i,hi9,rfl,hO,hbw⟩:=hrel
   by_cases hin:i<n
   ·obtain ⟨s4,s5,s6,s7,hc8,hpva⟩:=HC.out i hin
    have HP:=hide (hpva.low hbw (Nat.le_refl _))
    obtain ⟨c0,c1,c2,c3,c4,c5,c6,c7⟩:=hc8.low hbw hb
    clear hc8 hpva
    go_wp2_with fail
    refine (zN (P i) s4 s5 s6 s7 wr (HF.out i hin) HP.out).mono ?_
    rintro e w2 ⟨g4,g5,g6,g7,rfl,q4,q5,q6,q7,q8,ho,hb2⟩
    have HS:=hide (hO.step hin hb2 q4 q5 q6 q7 q8 ho)
    have HB:=hide (AU (hbw.trans (hb2.mono hbw.size)) (Nat.le_refl _) (i*8) (.int .i64 (P i).params) (.int .i64 (P i).regs) (.int .i64 (P i).line) (.bool (P i).dots) (sl g4 (P i).nu) (sl g5 (P i).nc) (sl g6 (P i).ni) (sl g7 (P i).nl))
    obtain ⟨f,L,b4,b5,b6,b7,hK⟩:=hO
    have hr:=hK.row.low hb2 hK.row.lt
    have d0:=hr.cell (j:=i*8) (by omega)
    have d1:=hr.cell (j:=i*8+1) (by omega)
    have d2:=hr.cell (j:=i*8+2) (by omega)
    have d3:=hr.cell (j:=i*8+3) (by omega)
    have d4:=hr.cell (j:=i*8+4) (by omega)
    have d5:=hr.cell (j:=i*8+5) (by omega)
    have d6:=hr.cell (j:=i*8+6) (by omega)
    have d7:=hr.cell (j:=i*8+7) (by omega)
    have z0:=hr.frz (i*8)
    have z1:=hr.frz (i*8+1)
    have z2:=hr.frz (i*8+2)
    have z3:=hr.frz (i*8+3)
    have z4:=hr.frz (i*8+4)
    have z5:=hr.frz (i*8+5)
    have z6:=hr.frz (i*8+6)
    have z7:=hr.frz (i*8+7)
    clear hr hK hb2 hbw ho c0 c1 c2 c3 c4 c5 c6 c7 HP
    unfold PV.agg sl
    go_wp2
    go_roundw
    case rel=>exact ⟨i+1,by omega,by simp,HS.out,HB.out⟩
    case measure=>simp;omega
   ·obtain rfl:i=n:=by omega
    have HO:=hide hO
    clear hO
    go_wp2
    go_ret
    exact ⟨rfl,HO.out,hbw⟩
set_option maxHeartbeats 1600000 in
set_option maxRecDepth 100000 in
theorem kU (v:Value) (n:Nat) (P:Nat->PV) (w:World) (hn:n<=1048576) (hf:allFit n P 1048576) (h:bY w v n P):
 Calls Tryz.prog 6 #[.agg #[v]] w fun e w'=>∃ G,e=.returned (.agg #[sl G n])/\w.heap.size<=G/\eY w' G n P n/\Below w.heap.size w w':=by
 have HA:=hide (h.low (OT w (.cells #[v] 24) (.cells #[dF] 30) (.cells #[dF] 30)) (Nat.le_refl _))
 have HF:=hide hf
 clear h hf
 go_enter Tryz.func6,Tryz.ntmps6
 go_wp2_with fail
 have HB:=hide (OT w (.cells #[v] 24) (.cells #[dF] 30) (.cells #[dF] 30))
 have hz:(((w.alloc (.cells #[v] 24)).alloc (.cells #[dF] 30)).alloc (.cells #[dF] 30)).heap.size=w.heap.size+1+1+1:=by simp
 have y1:=ah.mk' (w.alloc (.cells #[v] 24)) 30 #[dF]
 have y2:=ah.mk' ((w.alloc (.cells #[v] 24)).alloc (.cells #[dF] 30)) 30 #[dF]
 have y3:=y1.low (b_1 _ (.cells #[dF] 30)) y1.lt
 have u1:(w.alloc (.cells #[v] 24)).heap.size=w.heap.size+1:=by simp
 have u2:((w.alloc (.cells #[v] 24)).alloc (.cells #[dF] 30)).heap.size=w.heap.size+1+1:=by simp
 rw [u1] at y3
 rw [u2] at y2
 have a1:=y3.cell (j:=0) (by simp)
 have a2:=y2.cell (j:=0) (by simp)
 have t1:=y3.frz 0
 have t2:=y2.frz 0
 clear y1 y2 y3 u1 u2
 generalize ((w.alloc (.cells #[v] 24)).alloc (.cells #[dF] 30)).alloc (.cells #[dF] 30)=w1 at *
 refine (vQ v n P _ hn HF.out HA.out).mono ?_
 rintro e w2 ⟨rfl,ho,hb⟩
 have c1:=(hb.cell (p:=⟨w.heap.size+1,0,none⟩) (by show w.heap.size+1<w1.heap.size;omega)).trans a1
 have c2:=(hb.cell (p:=⟨w.heap.size+1+1,0,none⟩) (by show w.heap.size+1+1<w1.heap.size;omega)).trans a2
 have f1:=(hb.frozen (p:=⟨w.heap.size+1,0,none⟩) (by show w.heap.size+1<w1.heap.size;omega)).trans t1
 have f2:=(hb.frozen (p:=⟨w.heap.size+1+1,0,none⟩) (by show w.heap.size+1+1<w1.heap.size;omega)).trans t2
 have HB2:=hide (HB.out.trans (hb.mono HB.out.size))
 rw [hz] at ho ⊢
 have HO:=hide ((ho.other (g':=w.heap.size+1+1) (j:=0) (x:=sl (w.heap.size+1+1+1) n) (by omega)).other (g':=w.heap.size+1) (j:=0) (x:=sl (w.heap.size+1+1+1) n) (by omega))
 clear a1 a2 t1 t2 hb HB ho hz HA HF
 unfold sl at HO ⊢
 go_wp2
 refine bodyPost_ret (v:=.agg #[.slice (some ⟨w.heap.size+1+1+1,0,none⟩) n n]) ?_ rfl ⟨w.heap.size+1+1+1,rfl,by omega,HO.out,((HB2.out.setCell (by show w.heap.size<=w.heap.size+1+1;omega) _).setCell (by show w.heap.size<=w.heap.size+1;omega) _)⟩
 simp [results,Tryz.results6,go_sem,c1]
set_option maxHeartbeats 1600000 in
set_option maxRecDepth 100000 in
theorem yM (p:PV) (s4 s5 s6 s7 t4 t5 t6 t7:Value) (w:World) (hf:p.fits 1048576) (h:PVA w p s4 s5 s6 s7) (h':PVA w p t4 t5 t6 t7):
 Calls Tryz.prog 46 #[p.agg s4 s5 s6 s7,p.agg t4 t5 t6 t7] w fun e w'=>e=.returned (.bool true)/\Below w.heap.size w w':=by
 obtain ⟨hs1,hs2,hs3,hs4,-⟩:=hf
 have HB:=hide (zU w (.cells #[.int .i64 p.params,.int .i64 p.regs,.int .i64 p.line,.bool p.dots,s4,s5,s6,s7] 43) (.cells #[.int .i64 p.params,.int .i64 p.regs,.int .i64 p.line,.bool p.dots,t4,t5,t6,t7] 43))
 have HP:=hide ((PC.mk w 43 p s4 s5 s6 s7).low (b_1 _ (.cells #[.int .i64 p.params,.int .i64 p.regs,.int .i64 p.line,.bool p.dots,t4,t5,t6,t7] 43)) (by simp))
 have hQ:=PC.mk (w.alloc (.cells #[.int .i64 p.params,.int .i64 p.regs,.int .i64 p.line,.bool p.dots,s4,s5,s6,s7] 43)) 43 p t4 t5 t6 t7
 have u1:(w.alloc (.cells #[.int .i64 p.params,.int .i64 p.regs,.int .i64 p.line,.bool p.dots,s4,s5,s6,s7] 43)).heap.size=w.heap.size+1:=by simp
 rw [u1] at hQ
 have HQ:=hide hQ
 have HA:=hide (h.low HB.out (Nat.le_refl _))
 have HA':=hide (h'.low HB.out (Nat.le_refl _))
 clear h h' hQ u1
 unfold PV.agg
 go_enter Tryz.func46,Tryz.ntmps46
 go_wp2_with fail
 generalize (w.alloc (.cells #[.int .i64 p.params,.int .i64 p.regs,.int .i64 p.line,.bool p.dots,s4,s5,s6,s7] 43)).alloc (.cells #[.int .i64 p.params,.int .i64 p.regs,.int .i64 p.line,.bool p.dots,t4,t5,t6,t7] 43)=w1 at *
 refine (Em s4 t4 p.nu p.u0 p.u1 w1 hs1 HA.out.u HA'.out.u).mono ?_
 rintro e w2 ⟨rfl,hb⟩
 have HB:=hide (HB.out.trans (hb.mono HB.out.size))
 have HP:=hide (HP.out.low hb HP.out.1)
 have HQ:=hide (HQ.out.low hb HQ.out.1)
 have HA:=hide (HA.out.low hb (Nat.le_refl _))
 have HA':=hide (HA'.out.low hb (Nat.le_refl _))
 clear hb
 obtain ⟨-,-,-,-,-,c4,c5,c6,c7⟩:=HP.out
 obtain ⟨-,-,-,-,-,d4,d5,d6,d7⟩:=HQ.out
 go_wp2_with fail
 clear c4 c5 c6 c7 d4 d5 d6 d7
 refine (wI s5 t5 p.nc p.c0 p.c1 p.c2 p.c3 w2 hs2 HA.out.c HA'.out.c).mono ?_
 rintro e w3 ⟨rfl,hb⟩
 have HB:=hide (HB.out.trans (hb.mono HB.out.size))
 have HP:=hide (HP.out.low hb HP.out.1)
 have HQ:=hide (HQ.out.low hb HQ.out.1)
 have HA:=hide (HA.out.low hb (Nat.le_refl _))
 have HA':=hide (HA'.out.low hb (Nat.le_refl _))
 clear hb
 obtain ⟨-,-,-,-,-,c4,c5,c6,c7⟩:=HP.out
 obtain ⟨-,-,-,-,-,d4,d5,d6,d7⟩:=HQ.out
 go_wp2_with fail
 clear c4 c5 c6 c7 d4 d5 d6 d7
 refine (uZ s6 t6 p.ni p.i0 p.i1 p.i2 p.i3 w3 hs3 HA.out.i HA'.out.i).mono ?_
 rintro e w4 ⟨rfl,hb⟩
 have HB:=hide (HB.out.trans (hb.mono HB.out.size))
 have HP:=hide (HP.out.low hb HP.out.1)
 have HQ:=hide (HQ.out.low hb HQ.out.1)
 have HA:=hide (HA.out.low hb (Nat.le_refl _))
 have HA':=hide (HA'.out.low hb (Nat.le_refl _))
 clear hb
 obtain ⟨-,-,-,-,-,c4,c5,c6,c7⟩:=HP.out
 obtain ⟨-,-,-,-,-,d4,d5,d6,d7⟩:=HQ.out
 go_wp2_with fail
 clear c4 c5 c6 c7 d4 d5 d6 d7
 refine (z_ s7 t7 p.nl p.l0 w4 hs4 HA.out.l HA'.out.l).mono ?_
 rintro e w5 ⟨rfl,hb⟩
 have HB:=hide (HB.out.trans (hb.mono HB.out.size))
 go_wp2
 go_ret
 exact ⟨rfl,HB.out⟩
set_option maxHeartbeats 1600000 in
set_option maxRecDepth 100000 in
theorem vJ (v v':Value) (n:Nat) (P:Nat->PV) (w:World) (hn:n<=1048576) (hf:allFit n P 1048576) (h:bY w v n P) (h':bY w v' n P):
 Calls Tryz.prog 23 #[v,v'] w fun e w'=>e=.returned (.bool true)/\Below w.heap.size w w':=by
 by_cases h0:n=0
 ·subst h0
  obtain ⟨a,cap,rfl⟩:=h.val
  obtain ⟨a',cap',rfl⟩:=h'.val
  clear h h' hf
  go_enter Tryz.func23,Tryz.ntmps23
  go_wp2
  go_loopw [5] (fun iv wr=>iv=.int .i64 0/\wr=w) (fun _ _=>0)
  case atStart=>exact ⟨rfl,rfl⟩
  case round=>
   obtain ⟨rfl,rfl⟩:=hrel
   go_wp2
   go_ret
   exact ⟨rfl,Below.refl _ _⟩
 ·rcases h with ⟨h9,_⟩|⟨b,o,cap,rfl,hb,hcap,hc⟩
  ·exact absurd h9 h0
  rcases h' with ⟨h9,_⟩|⟨b',o',cap',rfl,hb',hcap',hc'⟩
  ·exact absurd h9 h0
  have HC:=hide hc
  have HC':=hide hc'
  have HF:=hide hf
  clear hc hc' hf
  go_enter Tryz.func23,Tryz.ntmps23
  go_wp2
  go_loopw [5] (fun iv wr=>∃ i:Nat,i<=n/\iv=.int .i64 i/\Below w.heap.size w wr) (fun iv _=>match iv with | .int _ x=>n-x.toNat|_=>0)
  case atStart=>exact ⟨0,by omega,rfl,Below.refl _ _⟩
  case round=>
   obtain ⟨i,hi9,rfl,hbw⟩:=hrel
   by_cases hin:i<n
   ·obtain ⟨s4,s5,s6,s7,hc8,hpva⟩:=HC.out i hin
    obtain ⟨t4,t5,t6,t7,hd8,hpvb⟩:=HC'.out i hin
    have HP:=hide (hpva.low hbw (Nat.le_refl _))
    have HP':=hide (hpvb.low hbw (Nat.le_refl _))
    obtain ⟨c0,c1,c2,c3,c4,c5,c6,c7⟩:=hc8.low hbw hb
    obtain ⟨e0,e1,e2,e3,e4,e5,e6,e7⟩:=hd8.low hbw hb'
    clear hc8 hpva hd8 hpvb
    have hlb:b<wr.heap.size:=Nat.lt_of_lt_of_le hb hbw.size
    have hlb':b'<wr.heap.size:=Nat.lt_of_lt_of_le hb' hbw.size
    have HB:=hide hbw
    clear hbw
    go_wp2_with fail
    go_region_held3 (fun w9=>(w9.cell? ⟨b,o+i*8,none⟩=some (.int .i64 (P i).params)/\w9.cell? ⟨b,o+i*8+1,none⟩=some (.int .i64 (P i).regs)/\w9.cell? ⟨b,o+i*8+2,none⟩=some (.int .i64 (P i).line)/\w9.cell? ⟨b,o+i*8+3,none⟩=some (.bool (P i).dots)/\w9.cell? ⟨b,o+i*8+4,none⟩=some (s4)/\w9.cell? ⟨b,o+i*8+5,none⟩=some (s5)/\w9.cell? ⟨b,o+i*8+6,none⟩=some (s6)/\w9.cell? ⟨b,o+i*8+7,none⟩=some (s7))/\w9.cell? ⟨b',o'+i*8,none⟩=some (.int .i64 (P i).params)/\w9.cell? ⟨b',o'+i*8+1,none⟩=some (.int .i64 (P i).regs)/\w9.cell? ⟨b',o'+i*8+2,none⟩=some (.int .i64 (P i).line)/\w9.cell? ⟨b',o'+i*8+3,none⟩=some (.bool (P i).dots)/\w9.cell? ⟨b',o'+i*8+4,none⟩=some (t4)/\w9.cell? ⟨b',o'+i*8+5,none⟩=some (t5)/\w9.cell? ⟨b',o'+i*8+6,none⟩=some (t6)/\w9.cell? ⟨b',o'+i*8+7,none⟩=some (t7)) (go_keep)
     (first |(go_at_call 46;refine (yM (P i) s4 s5 s6 s7 t4 t5 t6 t7 _ (HF.out i hin) (HP.out.low (Below.refl _ _).drew (Nat.le_refl _)) (HP'.out.low (Below.refl _ _).drew (Nat.le_refl _))).mono ?_;rintro e w2 ⟨rfl,hb2⟩;have q0:=(hb2.cell (p:=⟨b,o+i*8,none⟩) hlb).trans c0;have r0:=(hb2.cell (p:=⟨b',o'+i*8,none⟩) hlb').trans e0;have q1:=(hb2.cell (p:=⟨b,o+i*8+1,none⟩) hlb).trans c1;have r1:=(hb2.cell (p:=⟨b',o'+i*8+1,none⟩) hlb').trans e1;have q2:=(hb2.cell (p:=⟨b,o+i*8+2,none⟩) hlb).trans c2;have r2:=(hb2.cell (p:=⟨b',o'+i*8+2,none⟩) hlb').trans e2;have q3:=(hb2.cell (p:=⟨b,o+i*8+3,none⟩) hlb).trans c3;have r3:=(hb2.cell (p:=⟨b',o'+i*8+3,none⟩) hlb').trans e3;have q4:=(hb2.cell (p:=⟨b,o+i*8+4,none⟩) hlb).trans c4;have r4:=(hb2.cell (p:=⟨b',o'+i*8+4,none⟩) hlb').trans e4;have q5:=(hb2.cell (p:=⟨b,o+i*8+5,none⟩) hlb).trans c5;have r5:=(hb2.cell (p:=⟨b',o'+i*8+5,none⟩) hlb').trans e5;have q6:=(hb2.cell (p:=⟨b,o+i*8+6,none⟩) hlb).trans c6;have r6:=(hb2.cell (p:=⟨b',o'+i*8+6,none⟩) hlb').trans e6;have q7:=(hb2.cell (p:=⟨b,o+i*8+7,none⟩) hlb).trans c7;have r7:=(hb2.cell (p:=⟨b',o'+i*8+7,none⟩) hlb').trans e7;have HB2:=hide hb2;clear hb2))
    have HB3:=hide (HB.out.drew.trans (HB2.out.mono HB.out.size))
    rename_i hh
    clear hh c0 e0 q0 r0 c1 e1 q1 r1 c2 e2 q2 r2 c3 e3 q3 r3 c4 e4 q4 r4 c5 e5 q5 r5 c6 e6 q6 r6 c7 e7 q7 r7
    go_wp2
    go_roundw
    case rel=>exact ⟨i+1,by omega,by simp,HB3.out⟩
    case measure=>simp;omega
   ·obtain rfl:i=n:=by omega
    go_wp2
    go_ret
    exact ⟨rfl,hbw⟩
set_option maxHeartbeats 1600000 in
set_option maxRecDepth 100000 in
theorem ze (v v':Value) (n:Nat) (P:Nat->PV) (w:World) (hn:n<=1048576) (hf:allFit n P 1048576) (h:bY w v n P) (h':bY w v' n P):
 Calls Tryz.prog 8 #[.agg #[v],.agg #[v']] w fun e w'=>e=.returned (.bool true)/\Below w.heap.size w w':=by
 have HB:=hide (zU w (.cells #[v] 30) (.cells #[v'] 30))
 have HA:=hide (h.low HB.out (Nat.le_refl _))
 have HA':=hide (h'.low HB.out (Nat.le_refl _))
 have HF:=hide hf
 clear h h' hf
 go_enter Tryz.func8,Tryz.ntmps8
 go_wp2_with fail
 refine (vJ v v' n P _ hn HF.out HA.out HA'.out).mono ?_
 rintro e w2 ⟨rfl,hb⟩
 have HB2:=hide (HB.out.trans (hb.mono HB.out.size))
 clear hb
 go_wp2
 go_ret
 exact ⟨rfl,HB2.out⟩
def yR (Q:Prop) (b:Bool):Prop:=(b=true/\Q)∨(b=false/\¬ Q)
def jk (Q:Prop) (w:World) (e:Ending) (w':World):Prop:=∃ r:Bool,e=.returned (.bool r)/\yR Q r/\Below w.heap.size w w'
def inI (v lo hi:Int):Bool:=decide (lo<=v/\v<=hi)
theorem tY {v lo hi:Int} (h:lo<=v/\v<=hi):inI v lo hi=true:=by simp [inI,h]
theorem oC {v lo hi:Int} (h:¬ (lo<=v/\v<=hi)):inI v lo hi=false:=by simp [inI];omega
set_option maxHeartbeats 1600000 in
set_option maxRecDepth 100000 in
theorem bC (v lo hi:Int) (w:World):
 Calls Tryz.prog 37 #[.int .i64 v,.int .i64 lo,.int .i64 hi] w fun e w'=>e=.returned (.bool (inI v lo hi))/\w'=w:=by
 by_cases h1:lo<=v
 ·by_cases h2:v<=hi
  ·rw [tY ⟨h1,h2⟩]
   go_enter Tryz.func37,Tryz.ntmps37
   go_wp2
   go_ret
   exact ⟨rfl,rfl⟩
  ·rw [oC (by omega)]
   go_enter Tryz.func37,Tryz.ntmps37
   go_wp2
   go_ret
   exact ⟨rfl,rfl⟩
 ·rw [oC (by omega)]
  go_enter Tryz.func37,Tryz.ntmps37
  go_wp2
  go_ret
  exact ⟨rfl,rfl⟩
def isNanI (b:Int):Bool:=decide (9218868437227405312<b%9223372036854775808)
set_option maxHeartbeats 1600000 in
set_option maxRecDepth 100000 in
theorem EY (b:Int) (w:World) (h0:0<=b) (h1:b<18446744073709551616):
 Calls Tryz.prog 53 #[.int .u64 b] w fun e w'=>e=.returned (.bool (isNanI b))/\w'=w:=by
 clear h1
 go_enter Tryz.func53,Tryz.ntmps53
 go_wp2
 go_ret
 exact ⟨rfl,rfl⟩
def bI (k i b:Int) (t:ByteArray):Prop:=
 (k=4/\b=0/\t.toList=[])∨(k=5/\i=0/\t.toList=[]/\¬ (isNanI b=true/\b≠9221120237041090560))∨(k=6/\i=0/\b=0/\t.size<=65536)
set_option maxHeartbeats 1600000 in
set_option maxRecDepth 100000 in
theorem vo (k i b:Int) (t:ByteArray) (w:World) (h0:0<=b) (h1:b<18446744073709551616) (ht:t.size<=1048576):
 Calls Tryz.prog 51 #[.agg #[.int .i64 k,.int .i64 i,.int .u64 b,.string t]] w fun e w'=>jk (bI k i b t) w e w':=by
 by_cases k4:k=4
 ·subst k4
  go_enter Tryz.func51,Tryz.ntmps51
  go_wp2
  all_goals go_ret
  all_goals refine ⟨_,rfl,?_,zU _ _ _⟩
  all_goals first |exact .inl ⟨rfl,by simp_all [bI]⟩|exact .inr ⟨rfl,by simp_all [bI]⟩
 by_cases k5:k=5
 ·subst k5
  have HI:=hide (EY b · h0 h1)
  by_cases hn:isNanI b=true
  ·go_enter Tryz.func51,Tryz.ntmps51
   go_wp2_with (go_at_call 53;refine (HI.out _).mono ?_;rintro e w' ⟨rfl,rfl⟩)
   all_goals go_ret
   all_goals refine ⟨_,rfl,?_,zU _ _ _⟩
   all_goals first |exact .inl ⟨rfl,by simp_all [bI]⟩|exact .inr ⟨rfl,by simp_all [bI]⟩
  ·rw [Bool.not_eq_true] at hn
   go_enter Tryz.func51,Tryz.ntmps51
   go_wp2_with (go_at_call 53;refine (HI.out _).mono ?_;rintro e w' ⟨rfl,rfl⟩)
   all_goals go_ret
   all_goals refine ⟨_,rfl,?_,zU _ _ _⟩
   all_goals first |exact .inl ⟨rfl,by simp_all [bI]⟩|exact .inr ⟨rfl,by simp_all [bI]⟩
 by_cases k6:k=6
 ·subst k6
  by_cases hts:t.size<=65536
  ·have hti:¬ ((65536:Int)<(t.size:Int)):=by omega
   go_enter Tryz.func51,Tryz.ntmps51
   go_wp2
   all_goals go_ret
   all_goals refine ⟨_,rfl,?_,zU _ _ _⟩
   all_goals clear ht hti
   all_goals first |exact .inl ⟨rfl,by simp_all [bI]⟩|exact .inr ⟨rfl,by simp_all [bI]⟩
  ·have hti:((65536:Int)<(t.size:Int)):=by omega
   go_enter Tryz.func51,Tryz.ntmps51
   go_wp2
   go_ret
   refine ⟨_,rfl,.inr ⟨rfl,?_⟩,zU _ _ _⟩
   rintro (⟨h,_⟩|⟨h,_⟩|⟨_,_,_,h⟩)
   ·omega
   ·omega
   ·exact hts h
 ·go_enter Tryz.func51,Tryz.ntmps51
  go_wp2
  all_goals go_ret
  all_goals refine ⟨_,rfl,?_,zU _ _ _⟩
  all_goals exact .inr ⟨rfl,by simp_all [bI]⟩
end Go.Proofs.YtjibjahfbblieaaGreatDoor
namespace Go.Proofs.YtjibjahfbblieaaGreatDoor.F
open Go Go.RowKit
set_option linter.unusedVariables false
theorem cu (n m c0:Nat) (M C:Int) (hM:M=(m:Int)) (hC:C=(c0:Int)) (v:Value) (w:World) (h:Big w v (dig n)) (hl:(dig n).length<=100000) (hm:m<=10000) (hc0:c0<=100000000):
 Calls Tryz.prog 120 #[v,.int .i64 M,.int .i64 C] w fun e w'=>∃ v',e=.returned v'/\Big w' v' (dig (n*m+c0))/\Below w.heap.size w w':=by
 subst hM;subst hC;exact oL n m c0 v w h hl hm hc0
theorem f_ {n m k:Nat} (h:m<=10000^k):(dig (n*m)).length<=(dig n).length+k:=by
 refine bJ ?_
 rw [Nat.pow_add]
 have h1:=dR n
 rcases Nat.eq_zero_or_pos m with rfl|hm
 ·rw [Nat.mul_zero];exact Nat.mul_pos (Nat.pow_pos (by omega)) (Nat.pow_pos (by omega))
 ·exact Nat.lt_of_lt_of_le (Nat.mul_lt_mul_of_pos_right h1 hm) (Nat.mul_le_mul_left _ h)
theorem iW (n j:Nat):(dig (n*2^j)).length<=(dig n).length+j:=
 f_ (Nat.pow_le_pow_left (by omega) j)
theorem kT (n j:Nat):(dig (n*10^j)).length<=(dig n).length+j:=
 f_ (Nat.pow_le_pow_left (by omega) j)
set_option maxHeartbeats 800000 in
set_option maxRecDepth 100000 in
theorem Cq (n k:Nat) (v:Value) (w:World) (h:Big w v (dig n)) (hl:(dig n).length+k<=100000):
 Calls Tryz.prog 119 #[v,.int .i64 k] w fun e w'=>∃ v',e=.returned v'/\Big w' v' (dig (n*2^k))/\Below w.heap.size w w':=by
 have HL:=hide (iW n)
 generalize (dig n).length=len at *
 go_enter Tryz.func119,Tryz.ntmps119
 go_wp2
 go_loopw [0,1] (fun a i wr=>∃ j r:Nat,j+r<=k/\k<=j+r/\i=.int .i64 r/\Big wr a (dig (n*2^j))/\Below w.heap.size w wr) (fun _ i _=>(intOf i).toNat)
 case atStart=>exact ⟨0,k,by omega,by omega,rfl,by simpa using h,Below.refl _ _⟩
 case round=>
  obtain ⟨j,r,hj1,hj2,rfl,hbig,hb⟩:=hrel
  have hlj:=HL.out j
  by_cases hr:12<=r
  ·go_wp2_with (go_at_call 120;refine (cu (n*2^j) 4096 0 _ _ rfl rfl _ _ hbig (by omega) (by omega) (by omega)).mono ?_;rintro e w' ⟨v',rfl,hbig',hb'⟩)
   go_roundw
   case rel=>exact ⟨j+12,r-12,by omega,by omega,by go_num,by rw [Nat.pow_add,<-Nat.mul_assoc];simpa using hbig',hb.trans (hb'.mono hb.size)⟩
   case measure=>simp [intOf];omega
  ·go_wp2
   go_loopw [0,1] (fun a i wr=>∃ j r:Nat,j+r<=k/\k<=j+r/\i=.int .i64 r/\Big wr a (dig (n*2^j))/\Below w.heap.size w wr) (fun _ i _=>(intOf i).toNat)
   case atStart=>exact ⟨j,r,hj1,hj2,rfl,hbig,hb⟩
   case round=>
    clear hbig hb hlj hj1 hj2 hr
    obtain ⟨j,r,hj1,hj2,rfl,hbig,hb⟩:=hrel
    have hlj:=HL.out j
    by_cases hr:0<r
    ·go_wp2_with (go_at_call 120;refine (cu (n*2^j) 2 0 _ _ rfl rfl _ _ hbig (by omega) (by omega) (by omega)).mono ?_;rintro e w' ⟨v',rfl,hbig',hb'⟩)
     go_roundw
     case rel=>exact ⟨j+1,r-1,by omega,by omega,by go_num,by rw [Nat.pow_add,<-Nat.mul_assoc];simpa using hbig',hb.trans (hb'.mono hb.size)⟩
     case measure=>simp [intOf];omega
    ·have hjk:j=k:=by omega
     go_wp2
     go_ret
     exact ⟨_,rfl,by rw [<-hjk];exact hbig,hb⟩
end Go.Proofs.YtjibjahfbblieaaGreatDoor.F
namespace Go.Proofs.YtjibjahfbblieaaGreatDoor.F
open Go Go.RowKit
set_option linter.unusedVariables false
theorem sw {n:Nat} (h:n≠0):dig (n*10000)=0::dig n:=by
 rw [fT (by omega)]
 have e1:n*10000%10000=0:=by omega
 have e2:n*10000/10000=n:=by omega
 rw [e1,e2];rfl
theorem Fv {w:World} {g:Nat} {l:List Int} (h5:∀ j,j<l.length->w.cell? ⟨g,j,none⟩=some (.int .i64 (l.getD j 0))) (o:Obj) (hg:g<w.heap.size):
 ∀ j u,(l.map (Value.int .i64))[j]?=some u->(w.alloc o).cell? ((⟨g,0,none⟩:Addr).add j)=some u:=by
 intro j u hj
 rw [List.getElem?_map] at hj
 cases hx:l[j]? with
 |none=>rw [hx] at hj;simp at hj
 |some x=>
  rw [hx] at hj
  simp at hj
  subst hj
  obtain ⟨hlt,hxx⟩:=List.getElem?_eq_some_iff.1 hx
  have:=h5 j hlt
  rw [getD_lt hlt,hxx] at this
  rw [<-this]
  have hb:Below w.heap.size w (w.alloc o):=(Below.refl _ _).alloc (Nat.le_refl _) o
  rw [<-hb.cell (p:=⟨g,j,none⟩) hg]
  simp only [Addr.add]
  by_cases e:j=0
  ·subst e;simp
  ·simp [e]
theorem GV {wr:World} {ops:Array Oper} {rest:List Oper} {o:Oper} {a:Act} {Q:Exit->Act->World->Prop} (hgd:o.guard=none) (s x:Operand)
 (ho:o.op=.call { callee:=.builtin .append,args:=#[s,x],argTypes:=#[41,41] }) (v:Value) (L:List Int) (hbig:Big wr v L) (hx:a.eval x=v) (hs:a.eval s=.slice (some ⟨wr.heap.size,0,none⟩) 1 1)
 (hlen:L.length<=10000000000)
 (h:∀ v' w',Big w' v' (0::L)->Below wr.heap.size wr w'->wpList Tryz.prog ops Q rest (a.put o.dst v') w'):
 wpList Tryz.prog ops Q (o::rest) a (wr.alloc (.cells #[.int .i64 0] 3)):=by
 obtain ⟨i0,hi,hz0,hz1,hz2⟩:=info_parts Tryz.info3
 obtain ⟨g,cap,rfl,h2,h3,h4,h5⟩:=hbig
 have hown:=World.ownsRow_lit (base:=wr.heap.size) (e:=3) (size:=1) wr #[.int .i64 0] 1 (Nat.le_refl _) (by simp [maxLen]) rfl
 refine wpList_append_own _ hgd s x 41 ho wr.heap.size 3 i0 (.int .i64 0) 1 8 Tryz.underlying41 hi hz0 hz1 hz2 rfl (by decide) _ 1 _ hs hown ⟨g,0,none⟩ L.length cap (L.map (Value.int .i64)) hx (by simp) (Fv h5 _ h4)
  (ints_oneCell _ _) (by unfold maxLen;omega) (by omega) (by simp) ?_
 intro v' w' h1 h2 h3
 refine h v' w' (iD (B:=wr.heap.size) (L:=0::L) ?_ (fun hh=>by have:=(h3.1 hh).1;cases this)) (((Below.refl _ _).alloc (Nat.le_refl _) _).grown h2 (by simp) (fun q hq=>by cases hq;exact Nat.le_refl _))
 have e:(0::L).length=1+L.length:=by simp;omega
 rw [e];simpa using h1
set_option maxHeartbeats 800000 in
set_option maxRecDepth 100000 in
theorem EX (n k:Nat) (v:Value) (w:World) (h:Big w v (dig n)) (hn:n≠0) (hl:(dig n).length+k<=100000):
 Calls Tryz.prog 121 #[v,.int .i64 k] w fun e w'=>∃ v',e=.returned v'/\Big w' v' (dig (n*10^k))/\Below w.heap.size w w':=by
 have HL:=hide (kT n)
 have Hn:=hide hn
 clear hn
 generalize (dig n).length=len at *
 go_enter Tryz.func121,Tryz.ntmps121
 go_wp2
 go_loopw [0,1] (fun a i wr=>∃ j r:Nat,j+r<=k/\k<=j+r/\i=.int .i64 r/\Big wr a (dig (n*10^j))/\Below w.heap.size w wr) (fun _ i _=>(intOf i).toNat)
 case atStart=>exact ⟨0,k,by omega,by omega,rfl,by simpa using h,Below.refl _ _⟩
 case round=>
  obtain ⟨j,r,hj1,hj2,rfl,hbig,hb⟩:=hrel
  have hlj:=HL.out j
  by_cases hr:4<=r
  ·go_wp2_with (first
    |(at_builtin;refine GV rfl _ _ rfl _ _ hbig rfl rfl (by omega) ?_;intro v' w1 hbig' hb')
    |go_in)
   have Hz:=hide (sw (n:=n*10^j) (by have:=Hn.out;exact Nat.mul_ne_zero this (Nat.pos_iff_ne_zero.1 (Nat.pow_pos (by omega)))))
   go_wp2
   go_roundw
   case rel=>exact ⟨j+4,r-4,by omega,by omega,by go_num,by rw [Nat.pow_add,<-Nat.mul_assoc];rw [<-Hz.out] at hbig';exact hbig',hb.trans (hb'.mono hb.size)⟩
   case measure=>simp [intOf];omega
  ·go_wp2
   go_loopw [0,1] (fun a i wr=>∃ j r:Nat,j+r<=k/\k<=j+r/\i=.int .i64 r/\Big wr a (dig (n*10^j))/\Below w.heap.size w wr) (fun _ i _=>(intOf i).toNat)
   case atStart=>exact ⟨j,r,hj1,hj2,rfl,hbig,hb⟩
   case round=>
    clear hbig hb hlj hj1 hj2 hr
    obtain ⟨j,r,hj1,hj2,rfl,hbig,hb⟩:=hrel
    have hlj:=HL.out j
    by_cases hr:0<r
    ·go_wp2_with (go_at_call 120;refine (cu (n*10^j) 10 0 _ _ rfl rfl _ _ hbig (by omega) (by omega) (by omega)).mono ?_;rintro e w' ⟨v',rfl,hbig',hb'⟩)
     go_roundw
     case rel=>exact ⟨j+1,r-1,by omega,by omega,by go_num,by rw [Nat.pow_add,<-Nat.mul_assoc];simpa using hbig',hb.trans (hb'.mono hb.size)⟩
     case measure=>simp [intOf];omega
    ·have hjk:j=k:=by omega
     subst hjk
     go_wp2_with (go_at_call 135;refine (om _ _ _ hbig (by omega) (Ir _)).mono ?_;rintro e w' ⟨v',rfl,hbig',rfl⟩)
     go_ret
     exact ⟨_,rfl,by rw [xY] at hbig';exact hbig',hb⟩
end Go.Proofs.YtjibjahfbblieaaGreatDoor.F
namespace Go.Proofs.YtjibjahfbblieaaGreatDoor.F
open Go Go.RowKit
def bs (s:ByteArray):List Int:=s.data.toList.map fun b=>((b.toNat:Nat):Int)
theorem bD (s:ByteArray):(bs s).length=s.size:=by
 unfold bs
 rw [List.length_map,Array.length_toList]
 rfl
theorem aA {s:ByteArray} {k:Nat} (h:k<s.size):(bs s).getD k 0=((s[k].toNat:Nat):Int):=by
 have h':k<(bs s).length:=by rw [bD];exact h
 rw [getD_lt h']
 simp only [bs,List.getElem_map]
 rfl
def P6 (c:Int):Int:=
 if 48<=c/\c<=57 then c-48 else if 97<=c/\c<=102 then c-87 else if 65<=c/\c<=70 then c-55 else -1
def QT (l:List Int):Nat:=l.foldl (fun a c=>a*16+(P6 c).toNat) 0
def JV (l:List Int):Bool:=l.all fun c=>decide (0<=P6 c)
def dQ (c:Int):Bool:=decide (48<=c/\c<=57)
def aZ (l:List Int):Bool:=l.all dQ
def yK (l:List Int):Option Int:=if 1<=l.length/\l.length<=3/\aZ l=true then some (dval l) else none
def M0 (l:List Int):Option Int:=
 if l.getD 0 0=45 then (yK (l.drop 1)).map (fun x=> -x) else if l.getD 0 0=43 then yK (l.drop 1) else yK l
def Ib (l:List Int):Option Int:=if l.getD 0 0=101∨l.getD 0 0=69 then M0 (l.drop 1) else none
end Go.Proofs.YtjibjahfbblieaaGreatDoor.F
namespace Go.Proofs.YtjibjahfbblieaaGreatDoor
open Go.ChangeShapes Go.WideShapes Go.ChangeAt Go Go.RowKit Go.ChangeMaps Go.WideElems Go.Joins Go.Deep
set_option linter.unusedVariables false
section
variable {H : Type} {enc : TypeId × Value → H} {P : Program} {w : World} {sp : Nat → Bool} {hd : Bool}
theorem jF {t e:TypeId} {sz fuel n cap:Nat} {a:Option Addr} {x:DataW H × List MemPlace} (ht:P.underlying t=some (.slice e)) (hc:P.cellsOf e=sz) (hsz:0<sz)
 (h:DataW.trod enc P w 0 sp hd fuel t [.slice a n cap]=some x):
 n<=maxLen/\(n=0∨∃ b o m,a=some ⟨b,o,none⟩/\b<w.heap.size/\n<=cap/\∀ i,i<n->∃ cs y,cs.length=sz/\(∀ j,j<sz->w.cell? ⟨b,o+(i*sz+j),none⟩=cs[j]?)/\DataW.trod enc P w 0 sp hd m e cs=some y):=by
 rcases open_slice ht h with ⟨h0,_⟩|⟨a',len,cap',m,q,D,Pl,h0,_,hlc,hcm,hm,_,hel⟩
 ·simp at h0
  obtain ⟨-,rfl,-⟩:=h0
  exact ⟨Nat.zero_le _,.inl rfl⟩
 ·simp at h0
  obtain ⟨rfl,rfl,rfl⟩:=h0
  refine ⟨by omega,?_⟩
  by_cases hn:n=0
  ·exact .inl hn
  right
  have hnm:n<=m:=by rw [hm];split<;>omega
  obtain ⟨b,o,s⟩:=a'
  obtain ⟨cs0,hc0,_⟩:=hel 0 (by omega)
  obtain ⟨_,l0,k0⟩:=World.cells?_some hc0
  have k1:=k0 0 (by omega)
  rw [Nat.zero_mul,List.getElem?_eq_getElem (by omega)] at k1
  have hs:s=none:=Bq k1
  subst hs
  refine ⟨b,o,q,rfl,cell_lt k1,hlc,fun i hi=>?_⟩
  obtain ⟨cs,hcs,htr⟩:=hel i (by omega)
  obtain ⟨_,l1,k2⟩:=World.cells?_some hcs
  refine ⟨cs,_,by omega,fun j hj=>?_,htr⟩
  have k3:=k2 j (by omega)
  rw [dW,dW,hc,Nat.add_assoc] at k3
  exact k3
theorem jd {fs:Array Field} {t:TypeId} {fuel:Nat} {cs:List Value} {x:DataW H × List MemPlace} (ht:P.underlying t=some (.struct fs)) (h:DataW.trod enc P w 0 sp hd fuel t cs=some x) (j:Nat) (f:Field) (hf:fs[j]?=some f) (hc:P.cellsOf f.type=1) (ho:f.offset=j) {v:Value} (hv:cs[j]?=some v):
 ∃ n y,DataW.trod enc P w 0 sp hd n f.type [v]=some y:=by
 obtain ⟨xs,n,_,rfl,hl,hlen,hF⟩:=DataW.trod_struct ht h
 have hk:=hF j f hf
 rw [hc,ho] at hk
 have e:(cs.drop j).take 1=[v]:=by
  rw [List.getElem?_eq_some_iff] at hv
  obtain ⟨hj,rfl⟩:=hv
  rw [List.drop_eq_getElem_cons hj]
  rfl
 rw [e] at hk
 have hj:j<xs.length:=by
  rw [hlen]
  exact (Array.getElem?_eq_some_iff.1 hf).1
 rw [List.getElem?_eq_getElem hj] at hk
 exact ⟨n,_,hk⟩
end
end Go.Proofs.YtjibjahfbblieaaGreatDoor
