import Derived.Test.YtjibjahfbblieaaGreatDoorKN3
import Derived.Test.YtjibjahfbblieaaGreatDoorKMK3
import Derived.Deep.Slices
import Derived.Lib.SmallJoins
import Derived.Laws.IdiomStrings
import Derived.Lib.ItoaNum
import Derived.Lib.AppendStr
import Derived.Lib.UnsafeStr
import Derived.Laws.BytesArg
import Derived.Below
import Derived.BigRegion
import Derived.Test.YtjibjahfbblieaaGreatDoorKBO
import Derived.Deep.RegionHeld3
import Derived.Deep.QuietTactic
import Derived.BigQuiet
import Derived.OwnWalk
import Derived.Laws.OwnMore
import Derived.Deep.DeepCutAuto
import Derived.Tactics
import Derived.Tactics2
import Derived.Test.YtjibjahfbblieaaGreatDoorKP1G3
import Derived.WalkKit
import Derived.Test.YtjibjahfbblieaaGreatDoorKM2
import Derived.Laws.FloatArith
import Derived.Test.YtjibjahfbblieaaGreatDoorKMK2
import Derived.Laws.Bits64
import Derived.Laws.BitsAllLaws
import Derived.Lib.Strings
import Derived.Test.YtjibjahfbblieaaGreatDoorKP1J0
import Derived.Handy
import Derived.Lib.IndexAny
import Derived.Lib.IndexMore
import Derived.Test.YtjibjahfbblieaaGreatDoorKP1D5
import Derived.Test.YtjibjahfbblieaaGreatDoorKShelf
import Derived.Lib.Replace
import Derived.Lib.Builder
import Derived.Shelf.Strings.BuilderX
import Derived.Laws.Externs
import Derived.Shelf.RegionOpenPlain
import Derived.Lib.MakeNoZero
import Derived.RangeFuncOwn
namespace Go.Proofs.YtjibjahfbblieaaGreatDoor
open Go Go.RowKit Go.Joins
set_option linter.unusedVariables false
def au (L:List Int):Prop:=∀ x∈L,0<=x/\x<=255
theorem au.app {L M:List Int} (h:au L) (g:au M):au (L++M):=fun x hx=>by
 rcases List.mem_append.1 hx with h1|h1
 ·exact h x h1
 ·exact g x h1
theorem au.join {F:Nat->List Int} (i:Nat) (h:∀ k,au (F k)):au (joinL F i):=fun x hx=>by
 obtain ⟨k,-,hk⟩:=List.mem_flatMap.1 hx
 exact h k x hk
theorem au.u64n (v:Int) (n:Nat):au (u64n v n):=fun x hx=>by
 obtain ⟨k,-,rfl⟩:=List.mem_map.1 hx
 omega
theorem au.one {z:Int} (h0:0<=z) (h1:z<=255):au [z]:=fun x hx=>by
 have e:=List.mem_singleton.1 hx
 omega
theorem au.flag (b:Bool):au [uI b]:=au.one (by unfold uI;split<;>omega) (by unfold uI;split<;>omega)
theorem au.tx (s:ByteArray):au (Ka s):=fun x hx=>by
 obtain ⟨c,-,rfl⟩:=List.mem_map.1 hx
 have:=c.toNat_lt
 omega
theorem au.co (p:PV) (k:Nat):au (Le p k):=by
 refine au.app (au.one (by rw [IntKind.wrap_u8];omega) (by rw [IntKind.wrap_u8];omega)) ?_
 split
 ·exact au.u64n _ _
 ·split
  ·exact au.u64n _ _
  ·exact (au.u64n _ _).app (au.tx _)
theorem au.pb (p:PV):au (Mj p):=by
 refine au.app (au.app (au.app (au.app (au.app ?_ ?_) (au.u64n _ _)) ?_) (au.u64n _ _)) ?_
 ·exact (au.u64n _ _).app ((au.flag _).app ((au.u64n _ _).app ((au.u64n _ _).app (au.u64n _ _))))
 ·exact au.join _ fun k=>(au.flag _).app (au.u64n _ _)
 ·exact au.join _ fun k=>au.co p k
 ·exact au.join _ fun k=>(au.u64n _ _).app ((au.u64n _ _).app ((au.u64n _ _).app ((au.u64n _ _).app (au.u64n _ _))))
def magic:List Int:=[99,104,117,110,107,45,48,49]
def CS (n:Nat) (P:Nat->PV) (i:Nat):List Int:=(magic++u64n n 2)++joinL (fun k=>Mj (P k)) i
theorem MI (n:Nat) (P:Nat->PV) (i:Nat):CS n P i++Mj (P i)=CS n P (i+1):=by rw [CS,List.append_assoc,fF (fun k=>Mj (P k)) i];rfl
theorem Mh (n:Nat) (P:Nat->PV):CS n P 0=magic++u64n n 2:=by simp [CS,joinL]
theorem au.ch (n:Nat) (P:Nat->PV) (i:Nat):au (CS n P i):=
 au.app (au.app (fun x hx=>by simp [magic] at hx;omega) (au.u64n _ _)) (au.join _ fun k=>au.pb _)
theorem Dc (p:PV):(Mj p).length<=12+14*p.weight:=by
 have:=GK p p.ni
 unfold PV.weight Mj at *
 omega
theorem vW (n:Nat) (P:Nat->PV) (i:Nat):(CS n P i).length<=10+12*i+14*CX P i:=by
 induction i with
 |zero=>rw [Mh];simp [magic,dG]
 |succ i ih=>
  have:=Dc (P i)
  rw [<-MI,List.length_append,B_]
  omega
theorem xQ (P:Nat->PV) {i n:Nat} (h:i<=n):CX P i<=CX P n:=by
 induction h with
 |refl=>exact Nat.le_refl _
 |step _ ih=>exact Nat.le_trans ih (by rw [B_];omega)
def r_ (L:List Int) (j:Nat):Nat:=(L.getD j 0).toNat
def O4 (L:List Int):Nat:=mD (r_ L) L.length^^^4294967295
theorem bL.byA {w:World} {base:Nat} {v:Value} {L:List Int} (h:bL w base v L) (hB:au L):LM w v L.length (r_ L):=by
 obtain ⟨b,o,cap,rfl,h1,h2⟩:=h.part
 have hcap:L.length<=cap:=by
  obtain ⟨⟨-,h3⟩,-⟩:=h
  rcases h3 with ⟨h4,-⟩|⟨g,c,cur,h4,-,-,h5,-⟩
  ·cases h4
  ·cases h4;exact h5
 refine .inr ⟨b,o,cap,rfl,h1,hcap,fun j hj=>?_⟩
 have hm:L.getD j 0∈L:=by
  rw [List.getD_eq_getElem?_getD,List.getElem?_eq_getElem hj]
  exact List.getElem_mem hj
 obtain ⟨y0,y1⟩:=hB _ hm
 refine ⟨by unfold r_;omega,?_⟩
 rw [h2 j hj,r_,Int.toNat_of_nonneg y0]
def nW (n:Nat) (P:Nat->PV):Prop:=n<=65535/\∀ k,k<n->fU (P k)
def zh (n:Nat) (P:Nat->PV):List Int:=CS n P n++u64n (wrap64 (O4 (CS n P n))) 4
def Q0 (w:World) (base:Nat) (n:Nat) (P:Nat->PV) (v:Value) (c:Int):Prop:=(nW n P/\c=0/\bL w base v (zh n P))∨(¬ nW n P/\c=12/\v=.slice none 0 0)
def gX:Value->Nat
 | .int _ x=>x.toNat
 |_=>0
def El:Array Value:=#[.int .u8 99,.int .u8 104,.int .u8 117,.int .u8 110,.int .u8 107,.int .u8 45,.int .u8 48,.int .u8 49]
theorem Ep (w:World) (fr:Nat × Nat) (g:Nat) (hg:g=w.heap.size):iJ (w.alloc (.cells El 5 fr)) (.slice (some ⟨g,0,none⟩) 8 8) magic:=by
 refine ⟨g,0,8,rfl,by simp [hg],fun j hj=>?_⟩
 rw [Nat.zero_add,cell_alloc_mark_at w El 5 fr g j hg]
 match j,hj with
 |0,_=>rfl
 |1,_=>rfl
 |2,_=>rfl
 |3,_=>rfl
 |4,_=>rfl
 |5,_=>rfl
 |6,_=>rfl
 |7,_=>rfl
set_option maxHeartbeats 1600000 in
set_option maxRecDepth 100000 in
theorem sI (v:Value) (n:Nat) (P:Nat->PV) (w:World) (hn:n<=1048576) (hf:allFit n P 1048576) (hbit:iw n P) (hwt:CX P n<=1048576) (h:bY w v n P):
 Calls Tryz.prog 10 #[.agg #[v]] w fun e w'=>∃ v' c,e=.returned (.tuple #[v',.int .i64 c])/\Q0 w' w.heap.size n P v' c/\Below w.heap.size w w':=by
 have HF:=hide hf
 have HBit:=hide hbit
 have HWt:=hide hwt
 clear hf hbit hwt
 obtain ⟨a,cap,rfl⟩:=h.val
 have HA:=hide (h.low (b_1 w (.cells #[.slice a n cap] 30)) (Nat.le_refl _))
 have HB0:=hide (b_1 w (.cells #[.slice a n cap] 30))
 have HR0:=hide (ah.mk' w 30 #[.slice a n cap])
 clear h
 by_cases hbig:65535<n
 ·have hbi:(65535:Int)<(n:Int):=by omega
  go_enter Tryz.func10,Tryz.ntmps10
  go_wp2
  refine bodyPost_ret (v:=.tuple #[.slice none 0 0,.int .i64 12]) ?_ rfl ⟨_,_,rfl,.inr ⟨fun h=>by have:=h.1;omega,rfl,rfl⟩,HB0.out⟩
  simp [results,Tryz.results10,go_sem]
 ·have hbi:¬ (65535:Int)<(n:Int):=by omega
  go_enter Tryz.func10,Tryz.ntmps10
  have HM:=hide (Ep (w.alloc (.cells #[.slice a n cap] 30)) (8,9) (w.heap.size+1) (by simp))
  have HBm:=hide (b_1 (w.alloc (.cells #[.slice a n cap] 30)) (.cells El 5 (8,9)))
  have hcv:=run_convert_bytes_const_at (P:=Tryz.prog) (w.alloc (.cells #[.slice a n cap] 30)) 35 5 El 8 8 (w.heap.size+1) (by simp) Tryz.underlying35 Tryz.underlying5
  unfold El at hcv
  simp only [List.size_toArray,List.length_cons,List.length_nil,Nat.zero_add,Nat.reduceAdd] at hcv
  go_wp2_with fail
  clear hcv
  have HBm2:=hide (HB0.out.trans (HBm.out.mono (by simp)))
  have HR1:=hide (HR0.out.low HBm.out HR0.out.lt)
  have HA1:=hide (HA.out.low HBm.out (Nat.le_refl _))
  unfold El at *
  generalize (w.alloc (.cells #[.slice a n cap] 30)).alloc (.cells #[.int .u8 99,.int .u8 104,.int .u8 117,.int .u8 110,.int .u8 107,.int .u8 45,.int .u8 48,.int .u8 49] 5 (8,9))=w1 at *
  clear HR0 HA HB0 HBm
  refine (bV (n:Int) 2 w1 (by omega)).mono ?_
  rintro e w2 ⟨v2,rfl,ho,hb⟩
  obtain ⟨b2,o2,c2,rfl,-⟩:=ho.part
  have HP2:=hide ho.part
  have HM2:=hide (HM.out.low hb (Nat.le_refl _))
  have HB2:=hide hb
  clear ho hb HM
  go_wp2_with fail
  refine (Ca HM2.out HP2.out (by simp [magic]) (by rw [bO];omega)).mono ?_
  rintro e w3 ⟨v3,rfl,ho,hb⟩
  have HB3:=hide (HB2.out.trans (hb.mono HB2.out.size))
  have HO3:=hide (show bL w3 w1.heap.size v3 (CS n P 0) from by rw [Mh];exact ho.mono HB2.out.size)
  have hl1:=HR1.out.lt
  have HR3:=hide (HR1.out.low HB3.out hl1)
  have r3:w3.cell? ⟨w.heap.size,0,none⟩=some (.slice a n cap):=HR3.out.cell (j:=0) (by simp)
  clear ho hb HM2 HP2 HB2
  go_wp2_with fail
  rename_i K1 a1
  have HK1:=hide a1
  clear a1 r3
  go_loopw [4,22] (fun ov iv wr=>∃ i:Nat,i<=n/\iv=.int .i64 i/\Hid (bL wr w1.heap.size ov (CS n P i))/\Hid (∀ k,k<i->fU (P k))/\Hid (Below w1.heap.size w1 wr)) (fun _ iv _=>n-gX iv)
  case atStart=>exact ⟨0,by omega,rfl,HO3,hide (fun k hk=>by omega),HB3⟩
  case round=>
   clear HO3 HB3 HR3
   obtain ⟨i,hi9,rfl,HOw,HPl,HBw⟩:=hrel
   by_cases hin:i<n
   ·rcases HA1.out with ⟨h9,_⟩|⟨b,o,cap',e,hb,hcap,hc⟩
    ·omega
    ·cases e
     obtain ⟨s4,s5,s6,s7,hc8,hpva⟩:=hc i hin
     obtain ⟨a4,k4,rfl⟩:=hpva.u.val
     obtain ⟨a5,k5,rfl⟩:=hpva.c.val
     obtain ⟨a6,k6,rfl⟩:=hpva.i.val
     obtain ⟨a7,k7,rfl⟩:=hpva.l.val
     have HP:=hide (hpva.low HBw.out (Nat.le_refl _))
     obtain ⟨c0,c1,c2,c3,c4,c5,c6,c7⟩:=hc8.low HBw.out hb
     clear hc8 hpva hc
     have HLw:=hide (vW n P i)
     have HWi:=hide (xQ P (Nat.le_of_lt hin))
     have HWj:=hide (xQ P hin)
     obtain ⟨L,hLL⟩:∃ L,L=CS n P i:=⟨_,rfl⟩
     rw [<-hLL] at HOw HLw
     have HLL:=hide hLL
     clear hLL
     obtain ⟨g8,k8,rfl,hg8,hg9⟩:=HOw.out.blk
     go_wp2_with fail
     have HPC:=hide (PC.mk wr 43 (P i) (.slice a4 (P i).nu k4) (.slice a5 (P i).nc k5) (.slice a6 (P i).ni k6) (.slice a7 (P i).nl k7))
     have HBx:=hide (HBw.out.alloc HBw.out.size (.cells #[.int .i64 (P i).params,.int .i64 (P i).regs,.int .i64 (P i).line,.bool (P i).dots,.slice a4 (P i).nu k4,.slice a5 (P i).nc k5,.slice a6 (P i).ni k6,.slice a7 (P i).nl k7] 43))
     have hbx:=b_1 wr (.cells #[.int .i64 (P i).params,.int .i64 (P i).regs,.int .i64 (P i).line,.bool (P i).dots,.slice a4 (P i).nu k4,.slice a5 (P i).nc k5,.slice a6 (P i).ni k6,.slice a7 (P i).nl k7] 43)
     have HOx:=hide (HOw.out.low hbx (Nat.le_refl _))
     have HPx:=hide (HP.out.low hbx (Nat.le_refl _))
     clear hbx HP HOw c0 c1 c2 c3 c4 c5 c6 c7
     generalize wr.alloc (.cells #[.int .i64 (P i).params,.int .i64 (P i).regs,.int .i64 (P i).line,.bool (P i).dots,.slice a4 (P i).nu k4,.slice a5 (P i).nc k5,.slice a6 (P i).ni k6,.slice a7 (P i).nl k7] 43)=wx at *
     refine (vD (P i) _ _ _ _ wx (HF.out i hin) (HBit.out i hin) HPx.out).mono ?_
     rintro e w4 ⟨r,rfl,hr,hb⟩
     have HB4:=hide (HBx.out.trans (hb.mono HBx.out.size))
     have HO4:=hide (HOx.out.low hb (Nat.le_refl _))
     have HP4:=hide (HPx.out.low hb (Nat.le_refl _))
     have HC4:=hide (HPC.out.low hb HPC.out.1)
     clear hb HBx HOx HPx HPC
     rcases hr with ⟨rfl,hr⟩|⟨rfl,hr⟩
     ·have HQ:=hide hr
      clear hr
      obtain ⟨-,d0,d1,d2,d3,d4,d5,d6,d7⟩:=HC4.out
      go_wp2_with fail
      clear d0 d1 d2 d3 d4 d5 d6 d7
      refine (NH (P i) _ _ _ _ w4 (HF.out i hin) HQ.out.1.2.2.2.2.2.2 (HBit.out i hin) HP4.out).mono ?_
      rintro e w5 ⟨v5,rfl,ho,hb⟩
      obtain ⟨b5,o5,c5,rfl,-⟩:=ho.part
      have HB5:=hide (HB4.out.trans (hb.mono HB4.out.size))
      have HO5:=hide (HO4.out.low hb (Nat.le_refl _))
      have HJ5:=hide ho.part
      clear ho hb HO4 HP4 HC4
      go_wp2_with (
       at_builtin
       refine gU rfl _ _ rfl w1.heap.size _ _ L (Mj (P i)) HO5.out HJ5.out rfl rfl (by have:=HLw.out;have:=HWi.out;have:=HWj.out;have:=HWt.out;have h9:=Dc (P i);rw [B_] at *;omega) HB5.out.size ?_
       intro v6 w6 ho hgrow _
       have HB6:=hide (hgrow _ _ HB5.out (Nat.le_refl _))
       have HO6:=hide (show bL w6 w1.heap.size v6 (CS n P (i+1)) from by rw [<-MI,<-HLL.out];exact ho)
       clear ho hgrow)
      go_roundw
      case rel=>
       refine ⟨_,_,_,_,_,_,_,_,_,_,_,_,_,_,_,_,?_,rfl⟩
       exact ⟨i+1,by omega,by simp,HO6,hide (fun k hk=>by
        rcases Nat.lt_succ_iff_lt_or_eq.1 hk with h|rfl
        ·exact HPl.out k h
        ·exact HQ.out),HB6⟩
      case measure=>show n-gX (.int .i64 _)<n-gX (.int .i64 _);simp [gX];omega
     ·have HQ:=hide hr
      clear hr
      go_wp2_with fail
      refine bodyPost_ret (v:=.tuple #[.slice none 0 0,.int .i64 12]) ?_ rfl ⟨_,_,rfl,.inr ⟨fun h=>HQ.out (h.2 i hin),rfl,rfl⟩,HBm2.out.trans (HB4.out.mono HBm2.out.size)⟩
      simp [results,Tryz.results10,go_sem]
   ·obtain rfl:i=n:=by omega
    go_wp2
    refine HK1.out _ _ ?_
    clear HK1
    have HLw:=hide (vW i P i)
    have HBy:=hide (au.ch i P i)
    obtain ⟨L,hLL⟩:∃ L,L=CS i P i:=⟨_,rfl⟩
    rw [<-hLL] at HOw HLw HBy
    have HLL:=hide hLL
    clear hLL
    rename_i u4 _
    obtain ⟨g8,k8,hv8,hg8,hg9⟩:=HOw.out.blk
    subst hv8
    go_wp2_with fail
    refine (yN _ L.length (r_ L) wr (by have:=HLw.out;have:=HWt.out;omega) (HOw.out.byA HBy.out)).mono ?_
    rintro e w4 ⟨rfl,hb⟩
    have HB4:=hide (HBw.out.trans (hb.mono HBw.out.size))
    have HO4:=hide (HOw.out.low hb (Nat.le_refl _))
    have HCr:=hide (show mD (r_ L) L.length^^^4294967295=O4 L from rfl)
    clear hb HOw HBw
    generalize mD (r_ L) L.length^^^4294967295=cr at *
    go_wp2_with fail
    refine (bV (wrap64 cr) 4 w4 (by omega)).mono ?_
    rintro e w5 ⟨v5,rfl,ho,hb⟩
    obtain ⟨b5,o5,c5,rfl,-⟩:=ho.part
    have HB5:=hide (HB4.out.trans (hb.mono HB4.out.size))
    have HO5:=hide (HO4.out.low hb (Nat.le_refl _))
    have HJ5:=hide ho.part
    clear ho hb HO4 HB4
    go_wp2_with (
     at_builtin
     refine gU rfl _ _ rfl w1.heap.size _ _ L (u64n (wrap64 cr) 4) HO5.out HJ5.out rfl rfl (by have:=HLw.out;have:=HWt.out;rw [dG];omega) HB5.out.size ?_
     intro v6 w6 ho hgrow _
     have HB6:=hide (hgrow _ _ HB5.out (Nat.le_refl _))
     have HO6:=hide (show bL w6 w.heap.size v6 (zh i P) from by rw [zh,<-HLL.out,<-HCr.out];exact ho.mono HBm2.out.size)
     clear ho hgrow)
    refine bodyPost_ret (v:=.tuple #[v6,.int .i64 0]) ?_ rfl ⟨_,_,rfl,.inl ⟨⟨by omega,HPl.out⟩,rfl,HO6.out⟩,HBm2.out.trans (HB6.out.mono HBm2.out.size)⟩
    simp [results,Tryz.results10,go_sem]
end Go.Proofs.YtjibjahfbblieaaGreatDoor
namespace Go.Proofs.YtjibjahfbblieaaGreatDoor
open Go Go.RowKit
set_option linter.unusedVariables false
def Qm:List Int->Int
 | []=>0
 |b::l=>b+256*Qm l
def PV.rng (p:PV):Prop:=∀ k,k<p.nc-> -9223372036854775808<=p.c1 k/\p.c1 k<=9223372036854775807
structure PV.same (p q:PV):Prop where
 h0:p.params=q.params/\p.regs=q.regs/\p.line=q.line/\p.dots=q.dots
 n:p.nu=q.nu/\p.nc=q.nc/\p.ni=q.ni/\p.nl=q.nl
 u:∀ k,k<p.nu->p.u0 k=q.u0 k/\p.u1 k=q.u1 k
 c:∀ k,k<p.nc->p.c0 k=q.c0 k/\p.c1 k=q.c1 k/\p.c2 k=q.c2 k/\p.c3 k=q.c3 k
 i:∀ k,k<p.ni->p.i0 k=q.i0 k/\p.i1 k=q.i1 k/\p.i2 k=q.i2 k/\p.i3 k=q.i3 k
 l:∀ k,k<p.nl->p.l0 k=q.l0 k
def QL (n:Nat) (P:Nat->PV):Prop:=∀ k,k<n->(P k).rng
theorem mq.same {w:World} {v:Value} {n:Nat} {x0 y0:Nat->Bool} {x1 y1:Nat->Int} (h:mq w v n x0 x1) (e:∀ k,k<n->x0 k=y0 k/\x1 k=y1 k):mq w v n y0 y1:=by
 rcases h with h|⟨b,o,cap,rfl,h1,h2,h3⟩
 ·exact .inl h
 ·exact .inr ⟨b,o,cap,rfl,h1,h2,fun i hi=>by rw [<-(e i hi).1,<-(e i hi).2];exact h3 i hi⟩
theorem gD.same {w:World} {v:Value} {n:Nat} {x0 x1 x2 y0 y1 y2:Nat->Int} {x3 y3:Nat->ByteArray} (h:gD w v n x0 x1 x2 x3) (e:∀ k,k<n->x0 k=y0 k/\x1 k=y1 k/\x2 k=y2 k/\x3 k=y3 k):gD w v n y0 y1 y2 y3:=by
 rcases h with h|⟨b,o,cap,rfl,h1,h2,h3⟩
 ·exact .inl h
 ·exact .inr ⟨b,o,cap,rfl,h1,h2,fun i hi=>by rw [<-(e i hi).1,<-(e i hi).2.1,<-(e i hi).2.2.1,<-(e i hi).2.2.2];exact h3 i hi⟩
theorem jQ.same {w:World} {v:Value} {n:Nat} {x0 x1 x2 x3 y0 y1 y2 y3:Nat->Int} (h:jQ w v n x0 x1 x2 x3) (e:∀ k,k<n->x0 k=y0 k/\x1 k=y1 k/\x2 k=y2 k/\x3 k=y3 k):jQ w v n y0 y1 y2 y3:=by
 rcases h with h|⟨b,o,cap,rfl,h1,h2,h3⟩
 ·exact .inl h
 ·exact .inr ⟨b,o,cap,rfl,h1,h2,fun i hi=>by rw [<-(e i hi).1,<-(e i hi).2.1,<-(e i hi).2.2.1,<-(e i hi).2.2.2];exact h3 i hi⟩
theorem gy.same {w:World} {v:Value} {n:Nat} {x0 y0:Nat->Int} (h:gy w v n x0) (e:∀ k,k<n->x0 k=y0 k):gy w v n y0:=by
 rcases h with h|⟨b,o,cap,rfl,h1,h2,h3⟩
 ·exact .inl h
 ·exact .inr ⟨b,o,cap,rfl,h1,h2,fun i hi=>by rw [<-e i hi];exact h3 i hi⟩
theorem PVA.same {w:World} {p q:PV} {s4 s5 s6 s7:Value} (h:PVA w p s4 s5 s6 s7) (e:p.same q):PVA w q s4 s5 s6 s7:=by
 obtain ⟨⟨_,_,_,_⟩,⟨n1,n2,n3,n4⟩,hu,hc,hi,hl⟩:=e
 exact ⟨n1 ▸ h.u.same hu,n2 ▸ h.c.same hc,n3 ▸ h.i.same hi,n4 ▸ h.l.same hl⟩
theorem bY.same {w:World} {v:Value} {n:Nat} {P Q:Nat->PV} (h:bY w v n P) (e:∀ k,k<n->(P k).same (Q k)):bY w v n Q:=by
 rcases h with h|⟨b,o,cap,rfl,h1,h2,h3⟩
 ·exact .inl h
 ·refine .inr ⟨b,o,cap,rfl,h1,h2,fun i hi=>?_⟩
  obtain ⟨s4,s5,s6,s7,hc,hv⟩:=h3 i hi
  obtain ⟨y1,y2,y3,y4⟩:=(e i hi).h0
  refine ⟨s4,s5,s6,s7,?_,hv.same (e i hi)⟩
  unfold C8 at hc ⊢
  rw [<-y1,<-y2,<-y3,<-y4]
  exact hc
structure Keeps (w w':World) (S:Nat->Prop):Prop where
 os:w'.os=w.os
 tape:w'.tape=w.tape
 output:w'.output=w.output
 size:w.heap.size<=w'.heap.size
 block:∀ b,b<w.heap.size->¬ S b->w'.heap[b]?=w.heap[b]?
theorem Keeps.refl (w:World) (S:Nat->Prop):Keeps w w S:=⟨rfl,rfl,rfl,Nat.le_refl _,fun _ _ _=>rfl⟩
theorem Keeps.trans {w w' w'':World} {S:Nat->Prop} (h:Keeps w w' S) (k:Keeps w' w'' S):Keeps w w'' S:=
 ⟨k.os.trans h.os,k.tape.trans h.tape,k.output.trans h.output,Nat.le_trans h.size k.size,fun b hb hs=>(k.block b (Nat.lt_of_lt_of_le hb h.size) hs).trans (h.block b hb hs)⟩
theorem Keeps.mono {w w':World} {S S':Nat->Prop} (h:Keeps w w' S) (hs:∀ b,S b->S' b):Keeps w w' S':=⟨h.os,h.tape,h.output,h.size,fun b hb hn=>h.block b hb (fun x=>hn (hs b x))⟩
theorem Keeps.of {w w':World} {B:Nat} (h:Below B w w') (hB:w.heap.size<=B) (S:Nat->Prop):Keeps w w' S:=⟨h.os,h.tape,h.output,h.size,fun b hb _=>h.block b (Nat.lt_of_lt_of_le hb hB)⟩
theorem Keeps.below {w w':World} {S:Nat->Prop} {B:Nat} (h:Keeps w w' S) (hB:B<=w.heap.size) (hS:∀ b,S b->B<=b):Below B w w':=
 ⟨h.os,h.tape,h.output,h.size,fun b hb=>h.block b (by omega) (fun x=>by have:=hS b x;omega)⟩
theorem Keeps.setCell {w w':World} {S:Nat->Prop} (h:Keeps w w' S) {g j:Nat} (hg:S g) (x:Value):Keeps w (w'.setCell ⟨g,j,none⟩ x) S:=by
 have e:Below g w' (w'.setCell ⟨g,j,none⟩ x):=(Below.refl g w').setCell (Nat.le_refl _) x
 refine ⟨e.os.trans h.os,e.tape.trans h.tape,e.output.trans h.output,Nat.le_trans h.size e.size,fun b hb hn=>?_⟩
 rw [heap_setCell_other w' ⟨g,j,none⟩ b x (fun e=>hn (by subst e;exact hg))]
 exact h.block b hb hn
theorem ah.keep {w w':World} {T g N:Nat} {f:Nat->Value} {S:Nat->Prop} (h:ah w T g N f) (k:Keeps w w' S) (hn:¬ S g):ah w' T g N f:=h.same (k.block g h.lt hn)
theorem bL.keep {w w':World} {base:Nat} {v:Value} {L:List Int} {S:Nat->Prop} (h:bL w base v L) (k:Keeps w w' S) (hS:∀ b,S b->b<base):bL w' base v L:=by
 obtain ⟨⟨h1,h2⟩,hv⟩:=h
 rcases h2 with ⟨rfl,_⟩|⟨g,cap,cur,rfl,hBg,hh,hr⟩
 ·exact absurd rfl hv
 ·have hg:g<w.heap.size:=by
   rcases Nat.lt_or_ge g w.heap.size with c|c
   ·exact c
   ·rw [Array.getElem?_eq_none c] at hh;cases hh
  exact ⟨⟨h1,.inr ⟨g,cap,cur,rfl,hBg,(k.block g hg (fun x=>by have:=hS g x;omega)).trans hh,hr⟩⟩,hv⟩
theorem bL.row {w:World} {base:Nat} {v:Value} {L:List Int} (h:bL w base v L):∃ g cap,v=.slice (some ⟨g,0,none⟩) L.length cap/\base<=g/\ah w 5 g L.length (fun j=>.int .u8 (L.getD j 0)):=by
 obtain ⟨⟨h1,h2⟩,hv⟩:=h
 rcases h2 with ⟨rfl,_⟩|⟨g,cap,cur,rfl,hBg,hh,hn,hm,hs,ht⟩
 ·exact absurd rfl hv
 ·refine ⟨g,cap,rfl,hBg,cur,hh,by omega,fun j hj=>?_⟩
  have hc:j<cur.size:=by omega
  have e1:(cur.toList.take (L.length*1))[j]?=some cur[j]:=by
   rw [List.getElem?_take,if_pos (by omega)]
   simp [hc]
  rw [ht,List.getElem?_map,List.getElem?_eq_getElem hj] at e1
  have e2:Value.int .u8 L[j]=cur[j]:=by simpa using e1
  show _=some (Value.int .u8 (L.getD j 0))
  rw [Array.getElem?_eq_getElem hc,<-e2,List.getD_eq_getElem?_getD,List.getElem?_eq_getElem hj]
  rfl
def Rp (k j:Nat):Value:=.int .u8 (IntKind.u8.wrap ((k:Int)+(j:Int)))
def PW (w:World) (B:Nat) (v:Value) (l:List Int):Prop:=
 (l=[]/\∃ a cap,v=.slice a 0 cap/\∀ x,a=some x->x.spot=none)∨(∃ b o cap,v=.slice (some ⟨b,o,none⟩) l.length cap/\b<B/\l.length<=cap/\∀ j,j<l.length->w.cell? ⟨b,o+j,none⟩=some (.int .u8 (l.getD j 0)))
theorem PW.low {w w':World} {B C:Nat} {v:Value} {l:List Int} (h:PW w B v l) (hb:Below C w w') (hB:B<=C):PW w' B v l:=by
 rcases h with h|⟨b,o,cap,rfl,h1,h2,h3⟩
 ·exact .inl h
 ·exact .inr ⟨b,o,cap,rfl,h1,h2,fun j hj=>(hb.cell (p:=⟨b,o+j,none⟩) (Nat.lt_of_lt_of_le h1 hB)).trans (h3 j hj)⟩
def rdT (n:Nat) (l:List Int):List Int:=if n<=l.length then l.take n else []
def rdD (n:Nat) (l:List Int):List Int:=if n<=l.length then l.drop n else []
def Qk (n:Nat) (l:List Int) (sh:Bool):Bool:=if n<=l.length then sh else true
theorem au.rdT {n:Nat} {l:List Int} (h:au l):au (rdT n l):=by
 unfold Proofs.YtjibjahfbblieaaGreatDoor.rdT
 split
 ·exact fun x hx=>h x (List.mem_of_mem_take hx)
 ·intro x hx;cases hx
theorem au.rdD {n:Nat} {l:List Int} (h:au l):au (rdD n l):=by
 unfold Proofs.YtjibjahfbblieaaGreatDoor.rdD
 split
 ·exact fun x hx=>h x (List.mem_of_mem_drop hx)
 ·intro x hx;cases hx
def ED (sg:Bool) (t:List Int):Int:=if sg=true/\t.length=4/\2147483648<=Qm t then Qm t-4294967296 else wrap64 (Qm t)
theorem PW.form {w:World} {B:Nat} {v:Value} {l:List Int} (h:PW w B v l):∃ a cap,v=.slice a l.length cap:=by
 rcases h with ⟨rfl,a,cap,rfl,_⟩|⟨b,o,cap,rfl,_⟩
 ·exact ⟨_,_,rfl⟩
 ·exact ⟨_,_,rfl⟩
abbrev St:=List Int × Bool
def nm (k:Nat) (sg:Bool) (s:St):Int × St:=(ED sg (rdT k s.1),(rdD k s.1,Qk k s.1 s.2))
def Ow:Nat->St->List (Bool × Int) × St
 |0,s=>([],s)
 |n+1,s=>if s.2=true then ([],s) else
  (((nm 1 false s).1 !=0,(nm 1 false (nm 1 false s).2).1)::(Ow n (nm 1 false (nm 1 false s).2).2).1,(Ow n (nm 1 false (nm 1 false s).2).2).2)
def Nz (s:St):(Int × Int × Int × List Int) × St:=
 if (nm 1 false s).1=4 then (((nm 1 false s).1,(nm 8 false (nm 1 false s).2).1,0,[]),(nm 8 false (nm 1 false s).2).2)
 else if (nm 1 false s).1=5 then (((nm 1 false s).1,0,IntKind.u64.wrap (nm 8 false (nm 1 false s).2).1,[]),(nm 8 false (nm 1 false s).2).2)
 else (((nm 1 false s).1,0,0,rdT (nm 4 false (nm 1 false s).2).1.toNat (nm 4 false (nm 1 false s).2).2.1),
  (rdD (nm 4 false (nm 1 false s).2).1.toNat (nm 4 false (nm 1 false s).2).2.1,Qk (nm 4 false (nm 1 false s).2).1.toNat (nm 4 false (nm 1 false s).2).2.1 (nm 4 false (nm 1 false s).2).2.2))
def JF:Nat->St->List (Int × Int × Int × List Int) × St
 |0,s=>([],s)
 |n+1,s=>if s.2=true then ([],s) else ((Nz s).1::(JF n (Nz s).2).1,(JF n (Nz s).2).2)
def QO (s:St):(Int × Int × Int × Int × Int) × St:=
 (((nm 1 false s).1,(nm 1 false (nm 1 false s).2).1,(nm 4 true (nm 1 false (nm 1 false s).2).2).1,(nm 4 true (nm 4 true (nm 1 false (nm 1 false s).2).2).2).1,(nm 4 false (nm 4 true (nm 4 true (nm 1 false (nm 1 false s).2).2).2).2).1),
   (nm 4 false (nm 4 true (nm 4 true (nm 1 false (nm 1 false s).2).2).2).2).2)
def Nq:Nat->St->List (Int × Int × Int × Int × Int) × St
 |0,s=>([],s)
 |n+1,s=>if s.2=true then ([],s) else ((QO s).1::(Nq n (QO s).2).1,(Nq n (QO s).2).2)
def Rw (t:List Int):ByteArray:=⟨(t.map fun x=>UInt8.ofNat x.toNat).toArray⟩
structure DP where
 params:Int
 regs:Int
 line:Int
 dots:Bool
 ups:List (Bool × Int)
 cons:List (Int × Int × Int × List Int)
 ins:List (Int × Int × Int × Int × Int)
def DP.pv (d:DP):PV:=⟨d.params,d.regs,d.line,d.dots,d.ups.length,fun k=>(d.ups.getD k (false,0)).1,fun k=>(d.ups.getD k (false,0)).2,
 d.cons.length,fun k=>(d.cons.getD k (0,0,0,[])).1,fun k=>(d.cons.getD k (0,0,0,[])).2.1,fun k=>(d.cons.getD k (0,0,0,[])).2.2.1,fun k=>Rw (d.cons.getD k (0,0,0,[])).2.2.2,
 d.ins.length,fun k=>(d.ins.getD k (0,0,0,0,0)).1,fun k=>(d.ins.getD k (0,0,0,0,0)).2.1,fun k=>(d.ins.getD k (0,0,0,0,0)).2.2.1,fun k=>(d.ins.getD k (0,0,0,0,0)).2.2.2.1,
 d.ins.length,fun k=>(d.ins.getD k (0,0,0,0,0)).2.2.2.2⟩
def dH (s:St):(Int × Int × Int × Int × Int) × St:=
 (((nm 1 false s).1,(nm 1 false (nm 1 false s).2).1,(nm 1 false (nm 1 false (nm 1 false s).2).2).1,(nm 4 false (nm 1 false (nm 1 false (nm 1 false s).2).2).2).1,(nm 1 false (nm 4 false (nm 1 false (nm 1 false (nm 1 false s).2).2).2).2).1),
   (nm 1 false (nm 4 false (nm 1 false (nm 1 false (nm 1 false s).2).2).2).2).2)
def dU (s:St):List (Bool × Int) × St:=Ow (dH s).1.2.2.2.2.toNat (dH s).2
def dC (s:St):List (Int × Int × Int × List Int) × St:=JF (nm 2 false (dU s).2).1.toNat (nm 2 false (dU s).2).2
def dI (s:St):List (Int × Int × Int × Int × Int) × St:=Nq (nm 2 false (dC s).2).1.toNat (nm 2 false (dC s).2).2
def BN (s:St):DP × St:=(⟨(dH s).1.1,(dH s).1.2.2.1,(dH s).1.2.2.2.1,(dH s).1.2.1 !=0,(dU s).1,(dC s).1,(dI s).1⟩,(dI s).2)
def xw:Nat->St->List DP × St
 |0,s=>([],s)
 |n+1,s=>if s.2=true then ([],s) else ((BN s).1::(xw n (BN s).2).1,(xw n (BN s).2).2)
def QY (l:List Int):List DP × St:=xw (nm 2 false (rdD 8 l,Qk 8 l false)).1.toNat (nm 2 false (rdD 8 l,Qk 8 l false)).2
theorem lZ:(Tryz.prog.info? 5).map (fun i=>(i.zero,i.size,i.bytes))=some (some (.int .u8 0),1,1):=by kernel_rfl
theorem QM {α:Type} {l:List α} {j:Nat} {d:α} (h:j<l.length):l.getD j d=l[j]:=by
 rw [List.getD_eq_getElem?_getD,List.getElem?_eq_getElem h];rfl
def mg (w:World) (v:Value) (l:List Int):Prop:=
 ∃ g cap,v=.slice (some ⟨g,0,none⟩) l.length cap/\l.length<=cap/\cap<=maxLen/\g<w.heap.size/\∀ j,j<l.length->w.cell? ⟨g,j,none⟩=some (.int .u8 (l.getD j 0))
theorem xC {w:World} {base:Nat} {v:Value} {L:List Int} (h:w.ownsRow base 5 1 v L.length (L.map (Value.int .u8))) (hv:v≠ .slice none 0 0):mg w v L:=by
 obtain ⟨h1,h2⟩:=h
 rcases h2 with ⟨rfl,_⟩|⟨g,cap,cur,rfl,hB,hh,hn,hc,hs,ht⟩
 ·exact absurd rfl hv
 ·have hown:w.ownsRow base 5 1 (.slice (some ⟨g,0,none⟩) L.length cap) L.length (L.map (Value.int .u8)):=⟨h1,.inr ⟨g,cap,cur,rfl,hB,hh,hn,hc,hs,ht⟩⟩
  refine ⟨g,cap,rfl,hn,hc,(hown.lt g rfl).2,fun j hj=>?_⟩
  rw [hown.cellAt j (by omega),List.getElem?_map,List.getElem?_eq_getElem hj,QM hj];rfl
theorem lX {w:World} {g:Nat} {l:List Int} (h5:∀ j,j<l.length->w.cell? ⟨g,j,none⟩=some (.int .u8 (l.getD j 0))) (o:Obj) (hg:g<w.heap.size):
 ∀ j u,(l.map (Value.int .u8))[j]?=some u->(w.alloc o).cell? ((⟨g,0,none⟩:Addr).add j)=some u:=by
 intro j u hj
 rw [List.getElem?_map] at hj
 cases hx:l[j]? with
 |none=>rw [hx] at hj;simp at hj
 |some x=>
  rw [hx] at hj
  simp at hj
  subst hj
  obtain ⟨hlt,hxx⟩:=List.getElem?_eq_some_iff.1 hx
  have:=h5 j hlt
  rw [QM hlt,hxx] at this
  rw [<-this,eu,Nat.zero_add]
  have hb:Below w.heap.size w (w.alloc o):=(Below.refl _ _).alloc (Nat.le_refl _) o
  exact hb.cell (p:=⟨g,j,none⟩) hg
theorem jC {wr:World} {ops:Array Oper} {rest:List Oper} {o:Oper} {a:Act} {Q:Exit->Act->World->Prop} (hgd:o.guard=none) (s x:Operand)
 (ho:o.op=.call { callee:=.builtin .append,args:=#[s,x],argTypes:=#[35,35] }) (v:Value) (c:Int) (L:List Int) (hbig:mg wr v L) (hx:a.eval x=v) (hs:a.eval s=.slice (some ⟨wr.heap.size,0,none⟩) 1 1)
 (hlen:L.length<=10000000000)
 (h:∀ v' w',mg w' v' (c::L)->Below wr.heap.size wr w'->wpList Tryz.prog ops Q rest (a.put o.dst v') w'):
 wpList Tryz.prog ops Q (o::rest) a (wr.alloc (.cells #[.int .u8 c] 5)):=by
 obtain ⟨i0,hi,hz0,hz1,hz2⟩:=info_parts lZ
 obtain ⟨g,cap,rfl,h2,h3,h4,h5⟩:=hbig
 have hown:=World.ownsRow_lit (base:=wr.heap.size) (e:=5) (size:=1) wr #[.int .u8 c] 1 (Nat.le_refl _) (by simp [maxLen]) rfl
 refine wpList_append_own _ hgd s x 35 ho wr.heap.size 5 i0 (.int .u8 0) 1 1 Tryz.underlying35 hi hz0 hz1 hz2 rfl (by decide) _ 1 _ hs hown ⟨g,0,none⟩ L.length cap (L.map (Value.int .u8)) hx (by simp) (lX h5 _ h4)
  (ints_oneCell _ _) (by unfold maxLen;omega) (by omega) (by simp) ?_
 intro v' w' h1 h2 h3
 refine h v' w' (xC (base:=wr.heap.size) (L:=c::L) ?_ (fun hh=>by have:=(h3.1 hh).1;cases this)) (((Below.refl _ _).alloc (Nat.le_refl _) _).grown h2 (by simp) (fun q hq=>by cases hq;exact Nat.le_refl _))
 have e:(c::L).length=1+L.length:=by simp;omega
 rw [e];simpa using h1
def decL (u:Nat):List Int:=(Lib.decDigits u).map fun b=>((b.toNat:Nat):Int)
theorem jf {k:Nat} (h:k<10):(((UInt8.ofNat (48+k)).toNat:Nat):Int)=48+k:=by
 rw [UInt8.toNat_ofNat']
 omega
theorem bR {u:Nat} (h:u<10):decL u=[48+((u%10:Nat):Int)]:=by
 unfold decL
 rw [Lib.decDigits,dif_pos h]
 simp only [List.map_cons,List.map_nil]
 rw [jf h,Nat.mod_eq_of_lt h]
theorem d9 {u:Nat} (h:¬ u<10):decL u=decL (u/10)++[48+((u%10:Nat):Int)]:=by
 unfold decL
 rw [Lib.decDigits,dif_neg h,List.map_append]
 simp only [List.map_cons,List.map_nil]
 rw [jf (show u%10<10 by omega)]
def bS (u:Nat):List Int:=if u<10 then [] else decL (u/10)
theorem iF (u:Nat):decL u=bS u++[48+((u%10:Nat):Int)]:=by
 unfold bS
 split
 ·rw [bR (by assumption)];rfl
 ·rw [d9 (by assumption)]
theorem decL_len {u:Nat} {k:Nat} (h:u<10^k) (hk:1<=k):(decL u).length<=k:=by
 induction k generalizing u with
 |zero=>omega
 |succ k ih=>
  by_cases hu:u<10
  ·rw [bR hu];simp
  ·by_cases hk0:k=0
   ·subst hk0;simp at h;omega
   ·rw [d9 hu,List.length_append]
    have:=ih (u:=u/10) (by rw [Nat.pow_succ] at h;omega) (by omega)
    simp
    exact this
theorem fD {w:World} {v:Value} {l:List UInt8} (h:mg w v (l.map fun b=>((b.toNat:Nat):Int))):(convert 35 9 v).run Tryz.prog w=.ok (.string ⟨l.toArray⟩) w:=by
 obtain ⟨g,cap,rfl,h2,h3,h4,h5⟩:=h
 rw [List.length_map] at h5 ⊢
 refine run_convert_bytes_back w 35 9 5 ⟨g,0,none⟩ cap l Tryz.underlying35 Tryz.underlying5 Tryz.underlying9 (fun j hj=>?_)
 rw [eu,Nat.zero_add,h5 j hj,QM (by rw [List.length_map];exact hj)]
 simp
theorem qp (w:World) (c:Int):mg (w.alloc (.cells #[.int .u8 c] 5)) (.slice (some ⟨w.heap.size,0,none⟩) 1 1) [c]:=by
 refine ⟨w.heap.size,1,rfl,by simp,by simp [maxLen],by simp,fun j hj=>?_⟩
 have:j=0:=by simpa using hj
 subst this
 simp
def O8:Value->Nat
 | .int _ x=>x.toNat
 |_=>0
set_option maxHeartbeats 1600000 in
set_option maxRecDepth 100000 in
theorem dec_any (U:Nat) (w:World) (hu1:U<=1000000):
 Calls Tryz.prog 30 #[.int .i64 U] w fun e w'=>e=.returned (.string ⟨(Lib.itoa (U:Int)).toArray⟩)/\Below w.heap.size w w':=by
 have HL:=hide (decL_len (u:=U) (k:=20) (by omega) (by omega))
 have HI:Hid ((Lib.itoa (U:Int)).map (fun b=>((b.toNat:Nat):Int))=decL U):=hide (by
  unfold Lib.itoa
  rw [if_neg (by omega)]
  rfl)
 generalize Lib.itoa (U:Int)=out at *
 go_enter Tryz.func30,Tryz.ntmps30
 go_wp2
 go_loopw [3,4] (fun uv ov wr=>∃ (x:Nat) (L:List Int),uv=.int .u64 x/\x<=1000000/\mg wr ov L/\Hid (decL U=bS x++L)/\Below w.heap.size w wr) (fun uv _ _=>O8 uv)
 case atStart=>
  exact ⟨U,[48+((U%10:Nat):Int)],by simp,hu1,qp w _,hide (iF U),(Below.refl _ _).alloc (Nat.le_refl _) _⟩
 case round=>
  obtain ⟨x,L,rfl,hx,hbyt,He,hb⟩:=hrel
  have hlen:L.length<=20:=by
   have:=HL.out
   rw [He.out,List.length_append] at this
   omega
  by_cases hx10:10<=x
  ·have Hn:Hid (decL U=bS (x/10)++((48+((x/10%10:Nat):Int))::L)):=hide (by
    rw [He.out]
    have:bS x=decL (x/10):=by unfold bS;rw [if_neg (by omega)]
    rw [this,iF,List.append_assoc]
    rfl)
   clear He
   go_wp2_with (first
    |(at_builtin;(refine jC rfl _ _ rfl _ (48+(x:Int)/10%10) L hbyt rfl rfl (by omega) ?_;intro v' w1 hbyt' hb'))
    |go_in)
   go_wp2
   go_roundw
   case rel=>exact ⟨x/10,(48+((x/10%10:Nat):Int))::L,by go_num,by omega,hbyt',Hn,hb.trans (hb'.mono hb.size)⟩
   case measure=>simp [O8];omega
  ·have Hn:Hid (decL U=L):=hide (by
    rw [He.out]
    have:bS x=[]:=by unfold bS;rw [if_pos (by omega)]
    rw [this]
    rfl)
   clear He
   have hbyt':=hbyt
   rw [<-Hn.out,<-HI.out] at hbyt'
   have hcv:=fD hbyt'
   go_wp2
   go_ret
   exact ⟨rfl,hb⟩
def nA (w:World) (B:Nat) (v:Value) (L:List UInt8):Prop:=w.ownsRow B 5 1 v L.length (Lib.byteCells L)
theorem Ob {w:World} {B:Nat} {v:Value} {L:List UInt8} (h:nA w B v L) (hv:v≠ .slice none 0 0):mg w v (L.map fun b=>((b.toNat:Nat):Int)):=by
 refine xC (base:=B) ?_ hv
 rw [List.length_map,List.map_map]
 exact h
theorem o9 {w:World} {B:Nat} {v:Value} {L:List UInt8} (h:nA w B v L):(convert 35 9 v).run Tryz.prog w=.ok (.string ⟨L.toArray⟩) w:=by
 by_cases hv:v=.slice none 0 0
 ·subst hv
  obtain ⟨h1,⟨_,h2⟩|⟨g,cap,cur,e,_⟩⟩:=h
  ·have hL:L=[]:=List.eq_nil_of_length_eq_zero h2
   subst hL
   exact run_convert_bytes_nil w 35 5 Tryz.underlying35 Tryz.underlying5 0 0 9 Tryz.underlying9
  ·simp at e
 ·exact fD (Ob h hv)
theorem tX {wr w':World} {v:Value} {base:Nat} {L:List UInt8} (hown:nA wr base v L) (hbase:base<=wr.heap.size) (h3:wr.grownBy w' v.ownBlock):
 (∀ B w0,Below B w0 wr->B<=base->Below B w0 w')/\∀ gx,gx<wr.heap.size->v.ownBlock≠some gx->w'.heap[gx]?=wr.heap[gx]?:=
 ⟨fun B w0 hb hB=>hb.grown h3 (by omega) (fun q hq=>by have:=(World.ownsRow.lt hown q hq).1;omega),fun gx hgx hne=>h3.block gx hgx (fun e=>hne e.symm)⟩
theorem Dq {w':World} {v':Value} {base:Nat} {L:List UInt8} {s:ByteArray} (h2:w'.ownsRow base 5 1 v' (L.length+s.size) (Lib.byteCells L++Lib.strCells s)):nA w' base v' (L++s.data.toList):=by
 unfold nA
 rw [List.length_append,Lib.byteCells_append]
 exact h2
def P7:Nat->Nat->List UInt8->List UInt8
 |0,_,acc=>acc
 |n+1,k,acc=>if k=0 then acc else P7 n (k/10) ((48+UInt8.ofNat (k%10))::acc)
def Rk (k:Nat):ByteArray:=⟨(109::P7 k k []).toArray⟩
def QZ (k j:Nat):Value:=if j%2=0 then .bool (((k:Int)+(j:Int))%3==0) else .int .i64 ((k:Int)+(j:Int))
def mkConstS (k j:Nat):Value:=if j%4=0 then .int .i64 ((k:Int)+(j:Int)) else if j%4=1 then .int .i64 ((k:Int)+(j:Int)) else if j%4=2 then .int .u64 ((k:Int)+(j:Int)) else .string (Rk (k+j))
def Po (k j:Nat):Value:=if j%4=0 then .int .i64 ((k:Int)+(j:Int)) else if j%4=1 then .int .i64 ((k:Int)+(j:Int)) else if j%4=2 then .int .i64 ((k:Int)+(j:Int)) else .int .i64 ((k:Int)+(j:Int))
def Qo (k j:Nat):Value:=.int .i64 ((k:Int)+(j:Int))
def AV (w:World) (T g N:Nat):Prop:=∃ f,ah w T g N f
theorem AV.keep {w w':World} {T g N:Nat} {S:Nat->Prop} (h:AV w T g N) (k:Keeps w w' S) (hn:¬ S g):AV w' T g N:=by
 obtain ⟨f,h⟩:=h
 exact ⟨f,h.keep k hn⟩
structure ProsE (w:World) (G n:Nat) (P:Nat->PV) (i:Nat) (b4 b5 b6 b7:Nat->Nat):Prop where
 row:∃ f,ah w 43 G (n*8) f/\∀ j,i<=j->j<n->f (j*8+4)=sl (b4 j) (P j).nu/\f (j*8+5)=sl (b5 j) (P j).nc/\f (j*8+6)=sl (b6 j) (P j).ni/\f (j*8+7)=sl (b7 j) (P j).nl
 own:∀ j,i<=j->j<n->AV w 83 (b4 j) ((P j).nu*2)/\AV w 86 (b5 j) ((P j).nc*4)/\AV w 45 (b6 j) ((P j).ni*4)/\AV w 3 (b7 j) (P j).nl
structure Rise (G n:Nat) (L b4 b5 b6 b7:Nat->Nat):Prop where
 ord:∀ i,i<n->L i<=b4 i/\b4 i<b5 i/\b5 i<b6 i/\b6 i<b7 i/\b7 i<L (i+1)
 low:∀ i,i<=n->G<L i
theorem Rise.mono {G n:Nat} {L b4 b5 b6 b7:Nat->Nat} (h:Rise G n L b4 b5 b6 b7) {i j:Nat} (hij:i<=j) (hj:j<=n):L i<=L j:=by
 induction hij with
 |refl=>exact Nat.le_refl _
 | @step m hm ih=>
   have o:=h.ord m hj
   have t:=ih (Nat.le_of_lt hj)
   show L i<=L (m+1)
   omega
theorem ProsK.e {w:World} {G n:Nat} {P:Nat->PV} {f:Nat->Value} {L b4 b5 b6 b7:Nat->Nat} (h:ProsK w G n P n f L b4 b5 b6 b7):ProsE w G n P 0 b4 b5 b6 b7/\Rise G n L b4 b5 b6 b7:=by
 refine ⟨⟨⟨f,h.row,fun j _ hj=>⟨(h.cel j hj).2.2.2.2.1,(h.cel j hj).2.2.2.2.2.1,(h.cel j hj).2.2.2.2.2.2.1,(h.cel j hj).2.2.2.2.2.2.2⟩⟩,fun j _ hj=>?_⟩,⟨h.ord,h.low⟩⟩
 obtain ⟨⟨f4,r4,_⟩,⟨f5,r5,_⟩,⟨f6,r6,_⟩,⟨f7,r7,_⟩⟩:=h.own j hj
 exact ⟨⟨f4,r4⟩,⟨f5,r5⟩,⟨f6,r6⟩,⟨f7,by simpa using r7⟩⟩
def uL (w:World) (G n:Nat) (P:Nat->PV) (B:Nat):Prop:=∃ f L b4 b5 b6 b7,ProsK w G n P n f L b4 b5 b6 b7/\L n<=B
theorem eY.b {w:World} {G n:Nat} {P:Nat->PV} (h:eY w G n P n):uL w G n P w.heap.size:=by
 obtain ⟨f,L,b4,b5,b6,b7,h⟩:=h
 exact ⟨f,L,b4,b5,b6,b7,h,h.top⟩
theorem uL.low {w w':World} {G n C:Nat} {P:Nat->PV} {B:Nat} (h:uL w G n P C) (hb:Below B w w') (hB:w.heap.size<=B):uL w' G n P C:=by
 obtain ⟨f,L,b4,b5,b6,b7,h,hc⟩:=h
 exact ⟨f,L,b4,b5,b6,b7,⟨h.row.low hb (Nat.lt_of_lt_of_le h.row.lt hB),h.cel,fun i hi=>(h.own i hi).low hb hB,h.ord,h.low,Nat.le_trans h.top hb.size⟩,hc⟩
theorem uL.by {w:World} {G n C:Nat} {P:Nat->PV} (h:uL w G n P C):bY w (sl G n) n P:=by
 obtain ⟨f,L,b4,b5,b6,b7,h,hc⟩:=h
 exact eY.by ⟨f,L,b4,b5,b6,b7,h⟩
def BA (w:World) (T s:Nat) (v:Value) (n:Nat) (f:Nat->Value):Prop:=∃ a cap,v=.slice a n cap/\n<=cap/\((a=none/\n=0)∨∃ g,a=some ⟨g,0,none⟩/\ah w T g (n*s) f)
theorem BA.keep {w w':World} {T s n:Nat} {v:Value} {f:Nat->Value} {S:Nat->Prop} (h:BA w T s v n f) (k:Keeps w w' S) (hn:∀ b,v.ownBlock=some b->¬ S b):BA w' T s v n f:=by
 obtain ⟨a,cap,rfl,h1,h2|⟨g,rfl,h3⟩⟩:=h
 ·exact ⟨a,cap,rfl,h1,.inl h2⟩
 ·exact ⟨_,cap,rfl,h1,.inr ⟨g,rfl,h3.keep k (hn g (by simp [Value.ownBlock]))⟩⟩
theorem BA.low {w w':World} {T s n B:Nat} {v:Value} {f:Nat->Value} (h:BA w T s v n f) (hb:Below B w w') (hB:w.heap.size<=B):BA w' T s v n f:=h.keep (Keeps.of hb hB (fun _=>False)) (fun _ _ x=>x)
theorem BA.congr {w:World} {T s n:Nat} {v:Value} {f f':Nat->Value} (h:BA w T s v n f) (hf:∀ j,j<n*s->f j=f' j):BA w T s v n f':=by
 obtain ⟨a,cap,rfl,h1,h2|⟨g,rfl,h3⟩⟩:=h
 ·exact ⟨a,cap,rfl,h1,.inl h2⟩
 ·exact ⟨_,cap,rfl,h1,.inr ⟨g,rfl,h3.congr hf⟩⟩
theorem BA.form {w:World} {T s n:Nat} {v:Value} {f:Nat->Value} (h:BA w T s v n f):∃ a cap,v=.slice a n cap:=by
 obtain ⟨a,cap,rfl,_⟩:=h
 exact ⟨a,cap,rfl⟩
theorem BA.of {w:World} {B T s n:Nat} {v:Value} {xs:List Value} (h:w.ownsRow B T s v n xs):∃ f,BA w T s v n f:=by
 obtain ⟨h1,⟨rfl,h2⟩|⟨g,cap,cur,rfl,hb,hg,hnc,hr⟩⟩:=h
 ·subst h2
  exact ⟨fun _=>.bool false,none,0,rfl,Nat.le_refl _,.inl ⟨rfl,rfl⟩⟩
 ·exact ⟨_,_,cap,rfl,hnc,.inr ⟨g,rfl,bQ ⟨h1,.inr ⟨g,cap,cur,rfl,hb,hg,hnc,hr⟩⟩⟩⟩
theorem ah.apart {w:World} {T T' g g' N N':Nat} {f f':Nat->Value} (h:ah w T g N f) (h':ah w T' g' N' f') (hT:T≠T'):g≠g':=by
 rintro rfl
 obtain ⟨c,h1,_⟩:=h
 obtain ⟨c',h1',_⟩:=h'
 rw [h1] at h1'
 simp at h1'
 exact hT h1'.2
theorem BA.own {w:World} {T s n b:Nat} {v:Value} {f:Nat->Value} (h:BA w T s v n f) (hb:v.ownBlock=some b):ah w T b (n*s) f:=by
 obtain ⟨a,cap,rfl,h1,⟨rfl,h2⟩|⟨g,rfl,h3⟩⟩:=h
 ·simp [Value.ownBlock] at hb
 ·have e:g=b:=by simpa [Value.ownBlock] using hb
  subst e
  exact h3
theorem Fp {w w':World} {base e size n:Nat} {v:Value} {xs:List Value} {S:Nat->Prop} (h:w.ownsRow base e size v n xs) (k:Keeps w w' S) (hS:∀ b,S b->b<base):w'.ownsRow base e size v n xs:=by
 obtain ⟨h1,h2⟩:=h
 rcases h2 with h2|⟨g,cap,cur,rfl,hBg,hh,hr⟩
 ·exact ⟨h1,.inl h2⟩
 ·have hg:g<w.heap.size:=by
   rcases Nat.lt_or_ge g w.heap.size with c|c
   ·exact c
   ·rw [Array.getElem?_eq_none c] at hh;cases hh
  exact ⟨h1,.inr ⟨g,cap,cur,rfl,hBg,(k.block g hg (fun x=>by have:=hS g x;omega)).trans hh,hr⟩⟩
theorem D5 {w:World} {base base' e size n:Nat} {v:Value} {xs:List Value} (h:w.ownsRow base e size v n xs) (hb:base'<=base):w.ownsRow base' e size v n xs:=by
 obtain ⟨h1,h2|⟨g,cap,cur,h3,h4,h5⟩⟩:=h
 ·exact ⟨h1,.inl h2⟩
 ·exact ⟨h1,.inr ⟨g,cap,cur,h3,Nat.le_trans hb h4,h5⟩⟩
theorem eH {w:World} {base e size n:Nat} {v:Value} {xs:List Value} (h:w.ownsRow base e size v n xs):∃ a cap,v=.slice a n cap:=by
 obtain ⟨-,⟨rfl,h2⟩|⟨g,cap,cur,rfl,_⟩⟩:=h
 ·exact ⟨none,0,by rw [h2]⟩
 ·exact ⟨_,_,rfl⟩
theorem sS {w w':World} {base e size n:Nat} {v:Value} {xs:List Value} (h:w.ownsRow base e size v n xs) (hs:∀ g,v.ownBlock=some g->w'.heap[g]?=w.heap[g]?):w'.ownsRow base e size v n xs:=by
 obtain ⟨h1,h2|⟨g,cap,cur,rfl,hBg,hh,hr⟩⟩:=h
 ·exact ⟨h1,.inl h2⟩
 ·exact ⟨h1,.inr ⟨g,cap,cur,rfl,hBg,(hs g (by simp [Value.ownBlock])).trans hh,hr⟩⟩
theorem wJ {P:Program} (w:World) (base:Nat) (t ty e:TypeId) (i:TypeInfo) (z:Value) (size bytes:Nat) (ht:P.underlying t=some (.slice e)) (hi:P.info? e=some i) (hz:i.zero=some z)
 (hsize:i.size=size) (hby:i.bytes=bytes) (hzs:z.cells.size=size) (hsz:0<size)
 (v:Value) (n:Nat) (xs:List Value) (hown:w.ownsRow base e size v n xs)
 (a:Addr) (m c:Nat) (news:List Value) (hl:news.length=m*size) (hnews:∀ j u,news[j]?=some u->w.cell? (a.add j)=some u) (h1:∀ u∈news,u.oneCell'=true)
 (h63:n+m<=maxLen) (hbytes:(n+m)*bytes<=140737488355328) (hm:0<m) {v':Value} {w':World} (hr:(Builtin.append_ #[t,t] ty #[v,.slice (some a) m c]).run P w=.ok v' w'):
 ∀ g,v'.ownBlock=some g->v.ownBlock=some g∨w.heap.size<=g:=by
 subst hsize
 subst hby
 have hsmall:n+m<=9223372036854775807:=by simp only [maxLen] at h63;omega
 intro g hg
 rcases hown.2 with ⟨rfl,rfl⟩|⟨g',cap,cur,rfl,hbg,hgg,hnc,hcm,hcs,htake⟩
 ·have hr2:=run_append_nil (P:=P) w t ty e i z ht hi hz a m c news hl hnews (by omega) (by omega) (by have hb:=hbytes;simp only [Nat.zero_add] at hb;omega)
  rw [hr2] at hr
  simp only [Result.ok.injEq] at hr
  obtain ⟨rfl,-⟩:=hr
  right
  simp [Value.ownBlock] at hg
  omega
 ·by_cases hroom:n+m<=cap
  ·have hfit:n*i.size+news.length<=cur.size:=by rw [hl,hcs,<-Nat.add_mul];exact Nat.mul_le_mul_right _ hroom
   have hr2:=run_append_room (P:=P) w t ty e i ht hi g' n cap cur hgg a m c news hl hnews h1 hroom hfit
   rw [hr2] at hr
   simp only [Result.ok.injEq] at hr
   obtain ⟨rfl,-⟩:=hr
   left
   simpa [Value.ownBlock] using hg
  ·have holds:∀ j u,xs[j]?=some u->w.cell? ((⟨g',0,none⟩:Addr).add j)=some u:=hown.cells (g:=g') rfl
   have hr2:=run_append_grow (P:=P) w t ty e i z ht hi hz ⟨g',0,none⟩ n cap xs hown.1 holds a m c news hl hnews (by omega) (by omega) (growslice_fits (by omega) hbytes)
   rw [hr2] at hr
   simp only [Result.ok.injEq] at hr
   obtain ⟨rfl,-⟩:=hr
   right
   simp [Value.ownBlock] at hg
   omega
theorem oM {P:Program} (w:World) {ops:Array Oper} {rest:List Oper} {o:Oper} {a:Act} {Q:Exit->Act->World->Prop} (hgd:o.guard=none) (s x:Operand) (t:TypeId)
 (ho:o.op=.call { callee:=.builtin .append,args:=#[s,x],argTypes:=#[t,t] })
 (base:Nat) (e:TypeId) (i:TypeInfo) (z:Value) (size bytes:Nat) (ht:P.underlying t=some (.slice e)) (hi:P.info? e=some i) (hz:i.zero=some z)
 (hsize:i.size=size) (hby:i.bytes=bytes) (hzs:z.cells.size=size) (hsz:0<size)
 (v:Value) (n:Nat) (xs:List Value) (hs:a.eval s=v) (hown:w.ownsRow base e size v n xs)
 (ad:Addr) (m c:Nat) (news:List Value) (hx:a.eval x=.slice (some ad) m c) (hl:news.length=m*size) (hnews:∀ j u,news[j]?=some u->w.cell? (ad.add j)=some u) (h1:∀ u∈news,u.oneCell'=true)
 (h63:n+m<=maxLen) (hbytes:(n+m)*bytes<=140737488355328) (hbase:base<=w.heap.size) (hm:0<m)
 (h:∀ v' w',w'.ownsRow base e size v' (n+m) (xs++news)->w.grownBy w' v.ownBlock->(∀ g,v'.ownBlock=some g->v.ownBlock=some g∨w.heap.size<=g)->wpList P ops Q rest (a.put o.dst v') w'):wpList P ops Q (o::rest) a w:=
 wpList_plain hgd fun _ hK=>by
  obtain ⟨v',w',hr,h2,h3,h4⟩:=run_append_own (P:=P) w base t o.type e i z size bytes ht hi hz hsize hby hzs hsz v n xs hown ad m c news hl hnews h1 h63 hbytes hbase
  have h5:=wJ w base t o.type e i z size bytes ht hi hz hsize hby hzs hsz v n xs hown ad m c news hl hnews h1 h63 hbytes hm hr
  unfold Oper.wp execOp
  simp only [ho,resolve,invoke,builtin,Sem.run_bind,Sem.run_pure,Result.andThen_ok,List.map_toArray,List.map_cons,List.map_nil,hs,hx,hr]
  exact hK _ _ (h v' w' h2 h3 h5)
theorem gZ {w:World} {B T s n g:Nat} {v:Value} {xs:List Value} (h:w.ownsRow B T s v n xs) (hv:v.ownBlock=some g):ah w T g (n*s) (fun j=>xs.getD j (.bool false)):=by
 obtain ⟨h1,⟨rfl,h2⟩|⟨g',cap,cur,rfl,hb,hg,hr⟩⟩:=h
 ·simp [Value.ownBlock] at hv
 ·have e:g'=g:=by simpa [Value.ownBlock] using hv
  subst e
  exact bQ ⟨h1,.inr ⟨g',cap,cur,rfl,hb,hg,hr⟩⟩
theorem zW {w:World} {B T s n T' g N:Nat} {v:Value} {xs:List Value} {f:Nat->Value} (h:w.ownsRow B T s v n xs) (h':ah w T' g N f) (hT:T≠T'):v.ownBlock≠some g:=fun e=>(gZ h e).apart h' hT rfl
theorem um {w w':World} {base e size n:Nat} {v:Value} {xs:List Value} {S:Nat->Prop} (h:w.ownsRow base e size v n xs) (k:Keeps w w' S) (hS:∀ g,v.ownBlock=some g->¬ S g):w'.ownsRow base e size v n xs:=by
 obtain ⟨h1,h2|⟨g,cap,cur,rfl,hBg,hh,hr⟩⟩:=h
 ·exact ⟨h1,.inl h2⟩
 ·have hg:g<w.heap.size:=by
   rcases Nat.lt_or_ge g w.heap.size with c|c
   ·exact c
   ·rw [Array.getElem?_eq_none c] at hh;cases hh
  exact ⟨h1,.inr ⟨g,cap,cur,rfl,hBg,(k.block g hg (hS g (by simp [Value.ownBlock]))).trans hh,hr⟩⟩
theorem Pw {wr:World} {ops:Array Oper} {rest:List Oper} {o:Oper} {a:Act} {Q:Exit->Act->World->Prop} (hgd:o.guard=none) (s x:Operand) (TS T size bytes:Nat) (z:Value)
 (ho:o.op=.call { callee:=.builtin .append,args:=#[s,x],argTypes:=#[TS,TS] }) (hU:Tryz.prog.underlying TS=some (.slice T)) (hI:(Tryz.prog.info? T).map (fun i=>(i.zero,i.size,i.bytes))=some (some z,size,bytes)) (hz:z.cells.size=size) (hsz:0<size)
 (base:Nat) (v:Value) (n:Nat) (xs cs:List Value) (hown:wr.ownsRow base T size v n xs) (hs:a.eval s=v) (hx:a.eval x=.slice (some ⟨wr.heap.size,0,none⟩) 1 1) (hcs:cs.length=size) (h1:∀ u∈cs,u.oneCell'=true)
 (hlen:(n+1)*bytes<=140737488355328) (hb0:0<bytes) (hbase:base<=wr.heap.size)
 (h:∀ v' w',w'.ownsRow base T size v' (n+1) (xs++cs)->Keeps wr w' (fun b=>v.ownBlock=some b)->(∀ g,v'.ownBlock=some g->v.ownBlock=some g∨wr.heap.size<=g)->wpList Tryz.prog ops Q rest (a.put o.dst v') w'):
 wpList Tryz.prog ops Q (o::rest) a (wr.alloc (.cells cs.toArray T)):=by
 obtain ⟨i0,hi,hz0,hz1,hz2⟩:=info_parts hI
 have hn:n+1<=140737488355328:=Nat.le_trans (Nat.le_mul_of_pos_right _ hb0) hlen
 have hb1:Below wr.heap.size wr (wr.alloc (.cells cs.toArray T)):=b_1 wr _
 refine oM _ hgd s x TS ho base T i0 z size bytes hU hi hz0 hz1 hz2 hz hsz v n xs hs (hown.alloc _) ⟨wr.heap.size,0,none⟩ 1 1 cs hx (by omega)
  (fun j u hj=>?_) h1 (by unfold maxLen;omega) hlen (by simp;omega) (by omega) ?_
 ·rw [eu,Nat.zero_add]
  obtain ⟨hl,rfl⟩:=List.getElem?_eq_some_iff.1 hj
  have:=(ah.mk' wr T cs.toArray).cell (j:=j) (by simpa using hl)
  rw [this]
  simp [hl]
 ·intro v' w' h1 h2 h3
  refine h v' w' h1 ⟨h2.os.trans hb1.os,h2.tape.trans hb1.tape,h2.output.trans hb1.output,Nat.le_trans hb1.size h2.size,fun b hb hn=>?_⟩ (fun g e=>?_)
  ·exact (h2.block b (Nat.lt_of_lt_of_le hb hb1.size) (fun e=>hn e.symm)).trans (hb1.block b hb)
  ·rcases h3 g e with y|y
   ·exact .inl y
   ·right
    simp at y;omega
theorem zR {w w':World} {base e size n:Nat} {v:Value} {xs:List Value} (h:w.ownsRow base e size v n xs) (hb:Below w.heap.size w w'):w'.ownsRow base e size v n xs:=
 um h (Keeps.of hb (Nat.le_refl _) (fun _=>False)) (fun _ _ x=>x)
theorem MJ (w:World):Below w.heap.size w (w.alloc (.map #[] 0)):=(Below.refl _ w).alloc (Nat.le_refl _) _
def bT (l:List UInt8):ByteArray:=⟨l.toArray⟩
theorem Nh (a b:List UInt8):bT a++bT b=bT (a++b):=by
 apply ByteArray.ext
 simp [bT]
theorem dN (l:List UInt8):(bT l).size=l.length:=by
 show l.toArray.size=_
 simp
theorem bP (l:List UInt8):(bT l).data.toList=l:=by simp [bT]
theorem Qe (s:ByteArray):bT s.data.toList=s:=by
 apply ByteArray.ext
 simp [bT]
def hb (s:ByteArray) (k:Nat):Int:=if h:k<s.size then ((s[k].toNat:Nat):Int) else 0
theorem Ms {s:ByteArray} {k:Nat} (h:k<s.size):hb s k=((s[k].toNat:Nat):Int):=by rw [hb,dif_pos h]
theorem J6 (s:ByteArray) {i:Int} (w:World) (h0:0<=i) (h1:i<s.size):(Instr.index 9 (.string s) (.int .i64 i)).run Tryz.prog w=.ok (.int .u8 (hb s i.toNat)) w:=by
 rw [run_index_string w 9 s .i64 i Tryz.underlying9,dif_pos ⟨h0,h1⟩,Ms (by omega)]
theorem MR {s:ByteArray} {k:Nat} (h:k<s.size):∃ b:UInt8,hb s k=((b.toNat:Nat):Int)/\s.data.toList[k]?=some b:=by
 refine ⟨s[k],Ms h,?_⟩
 rw [List.getElem?_eq_getElem (by simpa using h)]
 rfl
theorem MS {wr:World} {ops:Array Oper} {rest:List Oper} {o:Oper} {a:Act} {Q:Exit->Act->World->Prop} (hgd:o.guard=none) (sl x:Operand)
 (ho:o.op=.call { callee:=.builtin .append,args:=#[sl,x],argTypes:=#[35,35] }) (base:Nat) (v:Value) (L cs:List UInt8) (arr:Array Value) (harr:arr=(Lib.byteCells cs).toArray) (hown:nA wr base v L) (hs:a.eval sl=v) (hx:a.eval x=.slice (some ⟨wr.heap.size,0,none⟩) cs.length cs.length)
 (hlen:L.length+cs.length<=140737488355328) (hbase:base<=wr.heap.size) (hne:cs≠[])
 (h:∀ v' w',nA w' base v' (L++cs)->v'≠ .slice none 0 0->(∀ B w0,Below B w0 wr->B<=base->Below B w0 w')->(∀ gx,gx<wr.heap.size->v.ownBlock≠some gx->w'.heap[gx]?=wr.heap[gx]?)->wpList Tryz.prog ops Q rest (a.put o.dst v') w'):
 wpList Tryz.prog ops Q (o::rest) a (wr.alloc (.cells arr 5)):=by
 subst harr
 obtain ⟨i0,hi,hz0,hz1,hz2⟩:=info_parts lZ
 refine wpList_append_own _ hgd sl x 35 ho base 5 i0 (.int .u8 0) 1 1 Tryz.underlying35 hi hz0 hz1 hz2 rfl (by decide) v L.length (Lib.byteCells L) hs (World.ownsRow.alloc hown _) ⟨wr.heap.size,0,none⟩ cs.length cs.length (Lib.byteCells cs) hx (by simp [Lib.byteCells])
  (fun j u hj=>?_) (fun u hu=>by
    obtain ⟨b,_,rfl⟩:=List.mem_map.1 hu
    rfl) (by unfold maxLen;omega) (by omega) (by simp;omega) ?_
 ·rw [eu,Nat.zero_add]
  obtain ⟨hl,rfl⟩:=List.getElem?_eq_some_iff.1 hj
  have:=(ah.mk' wr 5 (Lib.byteCells cs).toArray).cell (j:=j) (by simpa using hl)
  rw [this]
  simp [hl]
 ·intro v' w' h1 h2 h3
  have hcl:0<cs.length:=List.length_pos_iff.2 hne
  refine h v' w' ?_ (fun hh=>by have:=(h3.1 hh).2;omega) (fun B w0 hb hB=>(hb.alloc (by omega) _).grown h2 (by simp;omega) (fun q hq=>?_))
   (fun gx hgx hne=>(h2.block gx (by simp;omega) (fun e=>hne e.symm)).trans ((b_1 wr _).block gx hgx))
  ·unfold nA
   rw [List.length_append,Lib.byteCells_append]
   exact h1
  ·have:=(hown.lt q hq).1
   omega
theorem lH {wr:World} {ops:Array Oper} {rest:List Oper} {o:Oper} {a:Act} {Q:Exit->Act->World->Prop} (hgd:o.guard=none) (sl x:Operand)
 (ho:o.op=.call { callee:=.builtin .append,args:=#[sl,x],argTypes:=#[35,35] }) (base:Nat) (v:Value) (L cs:List UInt8) (arr:Array Value) (harr:arr=(Lib.byteCells cs).toArray) (hown:nA wr base v L) (hs:a.eval sl=v) (hx:a.eval x=.slice (some ⟨wr.heap.size,0,none⟩) cs.length cs.length)
 (hlen:L.length+cs.length<=140737488355328) (hbase:base<=wr.heap.size) (hne:cs≠[])
 (h:∀ oa oc w' L',Hid (L'=L++cs)->Hid (nA w' base (.slice oa L'.length oc) L')->Hid (∀ B w0,Below B w0 wr->B<=base->Below B w0 w')->Hid (∀ gx,gx<wr.heap.size->v.ownBlock≠some gx->w'.heap[gx]?=wr.heap[gx]?)->Hid (wr.heap.size<=w'.heap.size)->wpList Tryz.prog ops Q rest (a.put o.dst (.slice oa L'.length oc)) w'):
 wpList Tryz.prog ops Q (o::rest) a (wr.alloc (.cells arr 5)):=
 MS hgd sl x ho base v L cs arr harr hown hs hx hlen hbase hne (fun v' w' h1 h2 h3 h4=>by
  have hsz:wr.heap.size<=w'.heap.size:=by
   by_cases hc:wr.heap.size<=w'.heap.size
   ·exact hc
   ·exfalso
    have hb:=(h3 0 wr (Below.refl _ _) (Nat.zero_le _)).size
    omega
  obtain ⟨oa,oc,rfl⟩:=eH h1
  exact h oa oc w' (L++cs) (hide rfl) (hide h1) (hide h3) (hide h4) (hide hsz))
set_option maxHeartbeats 1600000 in
set_option maxRecDepth 100000 in
theorem d_ (o:Int) (w:World):Calls Tryz.prog 36 #[.int .i64 o] w fun e w'=>e=.returned (.bool (jmp o))/\w'=w:=by
 go_enter Tryz.func36,Tryz.ntmps36
 go_wp2
 all_goals go_ret
 all_goals refine ⟨?_,rfl⟩
 all_goals (simp_all [jmp])
theorem jq (o:Int) (w:World):Calls Tryz.prog 95 #[.int .i64 o] w fun e w'=>e=.returned (.bool (jmp o))/\w'=w:=by
 go_enter Tryz.func95,Tryz.ntmps95
 go_wp2
 all_goals go_ret
 all_goals refine ⟨?_,rfl⟩
 all_goals (simp_all [jmp])
theorem EI (b:Bool) (w:World):Calls Tryz.prog 31 #[.bool b] w fun e w'=>e=.returned (.string (bT [if b then 49 else 48]))/\w'=w:=by
 cases b
 all_goals
  go_enter Tryz.func31,Tryz.ntmps31
  go_wp2
  go_ret
  exact ⟨rfl,rfl⟩
def pW (b:UInt8):List UInt8:=if b=34∨b=92 then [92,b] else if 32<=b.toNat/\b.toNat<=126 then [b] else [92,UInt8.ofNat (48+b.toNat/100),UInt8.ofNat (48+b.toNat/10%10),UInt8.ofNat (48+b.toNat%10)]
def yg (l:List UInt8):List UInt8:=34::l.flatMap pW++[34]
theorem Lx (b:UInt8):(pW b).length<=4/\pW b≠[]:=by
 unfold pW
 split
 ·exact ⟨by simp,by simp⟩
 ·split
  ·exact ⟨by simp,by simp⟩
  ·exact ⟨by simp,by simp⟩
theorem vG (l:List UInt8):(l.flatMap pW).length<=4*l.length:=by
 induction l with
 |nil=>simp
 |cons x l ih=>
  have:=(Lx x).1
  rw [List.flatMap_cons,List.length_append,List.length_cons]
  omega
theorem jE {n:Nat} (hn:n<256):(UInt8.ofNat n).toNat=n:=by
 rw [UInt8.toNat_ofNat']
 omega
end Go.Proofs.YtjibjahfbblieaaGreatDoor
namespace Go.Proofs.YtjibjahfbblieaaGreatDoor.F
open Go Go.RowKit
set_option linter.unusedVariables false
theorem bF {B:Nat} {a w:World} (h:Below B a w) (n:Nat):Below B a (w.drewN n):=⟨h.os,h.tape,h.output,h.size,h.block⟩
theorem rZ (W:Nat) (w:World):(callFunc 106 #[.int .u64 W]).run Tryz.prog w=.ok (.value (.float .f64 W)) w:=by
 rw [run_callFunc_extern (e:=Extern.MathFloatBits.float64frombits) Tryz.func106 (by kernel_rfl) (by kernel_rfl) (by kernel_rfl) (by kernel_rfl)]
 rfl
end Go.Proofs.YtjibjahfbblieaaGreatDoor.F
namespace Go.Proofs.YtjibjahfbblieaaGreatDoor.F
open Go Go.RowKit
set_option linter.unusedVariables false
theorem isNanU_any (x:Int) (w:World) (h0:0<=x):Calls Tryz.prog 53 #[.int .u64 x] w fun e w'=>e=.returned (.bool (decide (9218868437227405312<x%9223372036854775808)))/\w'=w:=by
 go_enter Tryz.func53,Tryz.ntmps53
 go_wp2
 all_goals go_ret
 all_goals exact ⟨rfl,rfl⟩
theorem EG (x:Int) (w:World) (h0:0<=x):Calls Tryz.prog 55 #[.int .u64 x] w fun e w'=>e=.returned (.bool (x%9223372036854775808==9218868437227405312))/\w'=w:=by
 go_enter Tryz.func55,Tryz.ntmps55
 go_wp2
 all_goals go_ret
 all_goals exact ⟨rfl,rfl⟩
theorem EB (x:Int) (w:World):Calls Tryz.prog 54 #[.int .u64 x] w fun e w'=>e=.returned (.bool (decide (9223372036854775808<=x)))/\w'=w:=by
 go_enter Tryz.func54,Tryz.ntmps54
 go_wp2
 all_goals go_ret
 all_goals exact ⟨rfl,rfl⟩
theorem KO {a b c d:Int} (h1:a=c) (h2:b=d):Ending.returned (.tuple #[.int .i64 a,.int .i64 b])=.returned (.tuple #[.int .i64 c,.int .i64 d]):=by rw [h1,h2]
set_option maxHeartbeats 400000 in
theorem DY (r:Nat) (w:World) (hr:r<ak):Calls Tryz.prog 117 #[.int .u64 r] w fun e w'=>e=.returned (.tuple #[.int .i64 (wM r),.int .i64 (wE r)])/\w'=w:=by
 have h0:(r:Int)<9218868437227405312:=by unfold ak at hr;omega
 by_cases hs:r<4503599627370496
 ·have hM:(wM r:Int)=(r:Int)%4503599627370496:=by unfold wM;rw [if_pos hs];omega
  have hE:wE r= -1074:=by unfold wE wK;omega
  have hq:(r:Int)/4503599627370496%2048=0:=by omega
  rw [hM,hE]
  go_enter Tryz.func117,Tryz.ntmps117
  go_wp2
  all_goals go_ret2
  all_goals exact ⟨rfl,rfl⟩
 ·have hM:(wM r:Int)=(r:Int)%4503599627370496+4503599627370496:=by unfold wM;rw [if_neg hs];omega
  have hE:wE r=(r:Int)/4503599627370496%2048-1075:=by unfold wE wK;omega
  have hb:((r:Int)/4503599627370496%2048==0)=false:=by rw [beq_eq_false_iff_ne];omega
  have h1:0<=(r:Int)%4503599627370496/\(r:Int)%4503599627370496<4503599627370496:=by omega
  have h2:0<=(r:Int)/4503599627370496%2048/\(r:Int)/4503599627370496%2048<2048:=by omega
  rw [hM,hE]
  go_enter Tryz.func117,Tryz.ntmps117
  generalize hxx:(r:Int)%4503599627370496=x at *
  generalize hyy:(r:Int)/4503599627370496%2048=y at *
  go_wp2
  all_goals go_ret2
  all_goals exact ⟨KO (by first |rfl|(unfold wrap64;omega)) (by first |rfl|(unfold wrap64;omega)),rfl⟩
abbrev OE (W:Nat):Value:=.agg #[.bool true,.int .i64 0,.int .u64 W]
structure AsCalls (W:Nat) (nan inf:Bool):Prop where
 c1:∀ w,Calls Tryz.prog 53 #[.int .u64 W] w fun e w'=>e=.returned (.bool nan)/\w'=w
 c2:∀ w,Calls Tryz.prog 55 #[.int .u64 W] w fun e w'=>e=.returned (.bool inf)/\w'=w
theorem pE {s:Bool} {r:Nat} (hr:r<9223372036854775808):((aI s r:Nat):Int)%9223372036854775808=r:=by
 unfold aI;cases s<;>simp<;>omega
theorem yU {s:Bool} {r:Nat} (hr:r<9223372036854775808):decide (9223372036854775808<=((aI s r:Nat):Int))=s:=by
 unfold aI;cases s<;>simp<;>omega
theorem Lb {s:Bool} {r:Nat} (hr:r<9223372036854775808):AsCalls (aI s r) (decide (ak<r)) (decide (r=ak)):={
 c1:=fun w=>by
  have:=isNanU_any (aI s r:Nat) w (by omega)
  rw [pE hr] at this
  have e:decide ((9218868437227405312:Int)<r)=decide (ak<r):=by
   by_cases h:ak<r
   ·rw [decide_eq_true h,decide_eq_true];unfold ak at h;omega
   ·rw [decide_eq_false h,decide_eq_false];unfold ak at h;omega
  rw [e] at this
  exact this
 c2:=fun w=>by
  have:=EG (aI s r:Nat) w (by omega)
  rw [pE hr] at this
  have e:((r:Int)==9218868437227405312)=decide (r=ak):=by
   by_cases h:r=ak
   ·rw [decide_eq_true h,beq_iff_eq];unfold ak at h;omega
   ·rw [decide_eq_false h,beq_eq_false_iff_ne];unfold ak at h;omega
  rw [e] at this
  exact this }
end Go.Proofs.YtjibjahfbblieaaGreatDoor.F
namespace Go.Proofs.YtjibjahfbblieaaGreatDoor.F
open Go Go.RowKit
set_option linter.unusedVariables false
theorem zf {n:Nat} (h:n<9223372036854775808):(dig n).length<=5:=bJ (by omega)
set_option maxHeartbeats 1600000 in
set_option maxRecDepth 100000 in
theorem Nf (n:Nat) (w:World) (hn:n<9223372036854775808):
 Calls Tryz.prog 118 #[.int .i64 n] w fun e w'=>∃ v',e=.returned v'/\Big w' v' (dig n)/\Below w.heap.size w w':=by
 have H5:=hide (zf hn)
 go_enter Tryz.func118,Tryz.ntmps118
 go_wp2
 go_loopw [0,3] (fun v o wr=>∃ (x:Nat) (L:List Int),v=.int .i64 x/\x<9223372036854775808/\qj wr w.heap.size o L/\Hid (dig n=L++dig x)/\Below w.heap.size w wr) (fun v _ _=>(intOf v).toNat)
 case atStart=>exact ⟨n,[],rfl,hn,ny w,hide rfl,(Below.refl _ _).alloc (Nat.le_refl _) _⟩
 case round=>
  obtain ⟨x,L,rfl,hx,hown,He,hb⟩:=hrel
  have hbs:=hb.size
  by_cases h0:0<x
  ·have hL:L.length<=5:=by
    have h1:=H5.out
    rw [He.out,List.length_append] at h1
    omega
   have HL:=hide hL
   have Hn:=hide (show dig n=(L++[((x%10000:Nat):Int)])++dig (x/10000) by rw [He.out,fT (show x≠0 by omega),List.append_assoc];rfl)
   clear hL He
   go_wp2_with (first
    |(at_builtin;(refine nX rfl _ _ rfl w.heap.size _ L ((x:Int)%10000) hown rfl rfl (by have:=HL.out;omega) hbs ?_;intro v' w1 hown' hgrow))
    |go_in)
   have R:qj w1 w.heap.size v' (L++[((x%10000:Nat):Int)])/\Below w.heap.size w w1:=⟨by exact hown',hgrow _ _ hb (Nat.le_refl _)⟩
   clear hown' hgrow hown
   go_wp2
   go_roundw
   case rel=>exact ⟨x/10000,L++[((x%10000:Nat):Int)],by go_num,by omega,R.1,Hn,R.2⟩
   case measure=>simp [intOf];omega
  ·have hx0:x=0:=by omega
   subst hx0
   go_wp2
   go_ret
   exact ⟨_,rfl,by rw [He.out,dz,List.append_nil];exact hown.big,hb⟩
abbrev Qv (i:Int):Value:=.agg #[.bool false,.int .i64 i,.int .u64 0]
theorem Lc {x:Nat} (h:x<9223372036854775808):x^^^9223372036854775808=9223372036854775808+x:=by
 show x^^^2^63=2^63+x
 apply Nat.eq_of_testBit_eq
 intro i
 rw [Nat.testBit_xor,Nat.testBit_two_pow]
 rcases Nat.lt_trichotomy i 63 with hi|hi|hi
 ·rw [Nat.testBit_two_pow_add_gt hi,decide_eq_false (by omega),Bool.xor_false]
 ·subst hi
  rw [Nat.testBit_two_pow_add_eq,decide_eq_true rfl,Bool.xor_true]
 ·have h1:x<2^i:=Nat.lt_of_lt_of_le h (Nat.pow_le_pow_right (show 2 > 0 by omega) (show 63<=i by omega))
  have h2:2^63+x<2^i:=Nat.lt_of_lt_of_le (show 2^63+x<2^64 by omega) (Nat.pow_le_pow_right (by omega) (by omega))
  rw [Nat.testBit_lt_two_pow h1,Nat.testBit_lt_two_pow h2,decide_eq_false (by omega),Bool.xor_false]
end Go.Proofs.YtjibjahfbblieaaGreatDoor.F
namespace Go.Proofs.YtjibjahfbblieaaGreatDoor.F
open Go Go.RowKit
set_option linter.unusedVariables false
theorem fJ (c:Int) (l:List Int):dval (c::l)=(c-48).toNat*10^l.length+dval l:=by
 have key:∀ (l:List Int) (a:Nat),l.foldl (fun a c=>a*10+(c-48).toNat) a=a*10^l.length+l.foldl (fun a c=>a*10+(c-48).toNat) 0:=by
  intro l
  induction l with
  |nil=>intro a;simp
  |cons c l ih=>
   intro a
   rw [List.foldl_cons,List.foldl_cons,ih,ih (0*10+(c-48).toNat),List.length_cons,Nat.pow_succ,Nat.zero_mul,Nat.zero_add,Nat.add_mul]
   generalize 10^l.length=p
   grind
 unfold dval
 rw [List.foldl_cons,key,Nat.zero_mul,Nat.zero_add]
theorem lC {c:Int} {l:List Int} (h:aZ (c::l)=true):48<=c/\c<=57/\aZ l=true:=by
 unfold aZ at h ⊢
 rw [List.all_cons,Bool.and_eq_true] at h
 have:=of_decide_eq_true h.1
 exact ⟨this.1,this.2,h.2⟩
theorem qE {l:List Int} (h:aZ l=true):dval l<10^l.length:=by
 induction l with
 |nil=>simp [dval]
 |cons c l ih=>
  obtain ⟨h1,h2,h3⟩:=lC h
  have h4:=ih h3
  rw [fJ,List.length_cons,Nat.pow_succ]
  have h5:(c-48).toNat<=9:=by omega
  have h6:=Nat.mul_le_mul_right (10^l.length) h5
  omega
theorem yX:∀ {l m:List Int},aZ l=true->aZ m=true->l.length=m.length->dval l=dval m->l=m
 | [],[],_,_,_,_=>rfl
 | [],_::_,_,_,h,_=>by cases h
 |_::_,[],_,_,h,_=>by cases h
 |c::l,d::m,h1,h2,h3,h4=>by
  obtain ⟨a1,a2,a3⟩:=lC h1
  obtain ⟨b1,b2,b3⟩:=lC h2
  have hl:l.length=m.length:=by simpa using h3
  rw [fJ,fJ,hl] at h4
  have e1:=qE a3
  have e2:=qE b3
  rw [hl] at e1
  have hp:0<10^m.length:=Nat.pow_pos (by omega)
  have hc:(c-48).toNat=(d-48).toNat:=by
   have x1:((c-48).toNat*10^m.length+dval l)/10^m.length=(c-48).toNat:=by
    rw [Nat.add_comm,Nat.add_mul_div_right _ _ hp,Nat.div_eq_of_lt e1,Nat.zero_add]
   have x2:((d-48).toNat*10^m.length+dval m)/10^m.length=(d-48).toNat:=by
    rw [Nat.add_comm,Nat.add_mul_div_right _ _ hp,Nat.div_eq_of_lt e2,Nat.zero_add]
   rw [<-x1,h4,x2]
  have hv:dval l=dval m:=by rw [hc] at h4;omega
  have hcd:c=d:=by omega
  rw [hcd,yX a3 b3 hl hv]
def GX (s:ByteArray) (v:Value):Value:=if aZ (bs s)=true/\dval (bs s)=9223372036854775808 then Qv (-9223372036854775808) else v
end Go.Proofs.YtjibjahfbblieaaGreatDoor.F
namespace Go.Proofs.YtjibjahfbblieaaGreatDoor.F
open Go Go.RowKit
set_option linter.unusedVariables false
theorem K7 {A A' D:Nat} (hD:0<D) (h:A<=A'):rq A D<=rq A' D:=by
 unfold rq
 have hq:=Nat.div_le_div_right (c:=D) h
 have e1:=Nat.div_add_mod A D
 have e2:=Nat.div_add_mod A' D
 have r1:=Nat.mod_lt A hD
 have r2:=Nat.mod_lt A' hD
 by_cases c:A/D=A'/D
 ·rw [c] at e1 ⊢
  have hr:A%D<=A'%D:=by omega
  generalize A'/D=q at *
  generalize A%D=r at *
  generalize A'%D=r' at *
  split
  ·rename_i h1
   rw [if_pos (by omega)]
   exact Nat.le_refl _
  ·split<;>omega
 ·have:A/D+1<=A'/D:=by omega
  split<;>split<;>omega
theorem aC.mono {A A' d W W':Nat} (hd:0<d) (h:A<=A') (h1:aC A d W) (h2:aC A' d W'):W<=W':=by
 obtain ⟨k,a1,a2,a3⟩:=h1
 obtain ⟨k',b1,b2,b3⟩:=h2
 have p2':∀ n:Nat,0<2^n:=fun n=>Nat.pow_pos (by omega)
 have key:k*4503599627370496+rq A (d*2^k)<=k'*4503599627370496+rq A' (d*2^k'):=by
  rcases Nat.lt_trichotomy k k' with c|c|c
  ·have u1:rq A (d*2^k)<=9007199254740992:=by
    rw [<-Mr];refine NJ (Nat.mul_pos hd (p2' _)) ?_
    rw [Nat.mul_assoc,<-Nat.pow_add,Nat.add_comm k 53];exact a1
   have u2:4503599627370496<=rq A' (d*2^k'):=by
    rw [<-Gq];refine Qh (Nat.mul_pos hd (p2' _)) ?_
    rw [Nat.mul_assoc,<-Nat.pow_add,Nat.add_comm k' 52]
    rcases b2 with g|g
    ·omega
    ·exact g
   have:=Nat.mul_le_mul_right 4503599627370496 c
   rw [Nat.succ_mul] at this
   omega
  ·subst c
   have:=K7 (Nat.mul_pos hd (p2' k)) h
   omega
  ·exfalso
   rcases a2 with g|g
   ·omega
   ·have h3:d*2^(53+k')<=d*2^(52+k):=Nat.mul_le_mul_left _ (Nat.pow_le_pow_right (by omega) (by omega))
    omega
 rw [a3,b3]
 omega
theorem aB.ex (N:Nat) (E:Int):∃ W,aB N E W:=qI _ (jy _)
theorem aB.shift {m c W:Nat} {E:Int} (h:aB m (E+c) W):aB (m*10^c) E W:=by
 unfold aB at *
 have h1:=(aC.scale (c:=10^(c+(-E).toNat-(-(E+c)).toNat)) (jy _)).2 h
 have h2:=(aC.scale (N:=m*10^c*10^E.toNat*2^1074) (d:=10^(-E).toNat) (W:=W) (c:=10^c) (jy _)).1
 apply h2
 have e1:m*10^(E+↑c).toNat*2^1074*10^(c+(-E).toNat-(-(E+↑c)).toNat)=m*10^c*10^E.toNat*2^1074*10^c:=by
  generalize 2^1074=t
  have e:10^(E+↑c).toNat*10^(c+(-E).toNat-(-(E+↑c)).toNat)=10^c*10^E.toNat*10^c:=by
   rw [<-Nat.pow_add,<-Nat.pow_add,<-Nat.pow_add];congr 1;omega
  calc m*10^(E+↑c).toNat*t*10^(c+(-E).toNat-(-(E+↑c)).toNat)=m*t*(10^(E+↑c).toNat*10^(c+(-E).toNat-(-(E+↑c)).toNat)):=by simp only [Nat.mul_comm,Nat.mul_left_comm,Nat.mul_assoc]
   _=m*t*(10^c*10^E.toNat*10^c):=by rw [e]
   _=m*10^c*10^E.toNat*t*10^c:=by simp only [Nat.mul_comm,Nat.mul_left_comm,Nat.mul_assoc]
 have e2:10^(-(E+↑c)).toNat*10^(c+(-E).toNat-(-(E+↑c)).toNat)=10^(-E).toNat*10^c:=by
  rw [<-Nat.pow_add,<-Nat.pow_add];congr 1;omega
 rw [e1,e2] at h1
 exact h1
theorem aB.mono {N N' W W':Nat} {E:Int} (h:N<=N') (h1:aB N E W) (h2:aB N' E W'):W<=W':=
 aC.mono (jy _) (Nat.mul_le_mul_right _ (Nat.mul_le_mul_right _ h)) h1 h2
theorem GQ {N:Nat} (h:N≠0):kK N+1<=aK N:=by
 have h1:aK N≠0:=by rw [jg h];omega
 unfold kK;omega
theorem IQ (N:Nat):aK N<=kK N+19:=by unfold kK;omega
theorem oG {N:Nat} (h:kJ N=0):N=0:=by
 rcases Nat.eq_zero_or_pos N with e|e
 ·exact e
 ·exfalso
  have h1:=lW (n:=N) (by omega)
  have h2:=GQ (N:=N) (by omega)
  unfold kJ at h
  have h3:N<10^kK N:=by
   rcases Nat.lt_or_ge N (10^kK N) with g|g
   ·exact g
   ·have:=Nat.div_pos g (jy _);omega
  have:=iC (Nat.lt_of_le_of_lt h1 h3)
  omega
theorem FR:2*2^1074<10^324:=by decide+kernel
theorem JM {N:Nat} {E:Int} (h:E+kK N< -345):aB N E 0:=by
 have h1:=IQ N
 exact qN (a:=324) (b:=1074) FR (by omega)
theorem Gs {N W:Nat} {E:Int} (ht:Nc N=false) (h:aB (kJ N) (E+kK N) W):aB N E W:=by
 have h1:=h.shift
 unfold Nc at ht
 rw [decide_eq_false_iff_not] at ht
 have h2:=Nat.div_add_mod N (10^kK N)
 have e:kJ N*10^kK N=N:=by
  unfold kJ
  rw [Nat.mul_comm]
  omega
 rw [e] at h1
 exact h1
theorem KD {N W:Nat} {E:Int} (h1:aB (kJ N) (E+kK N) W) (h2:aB (kJ N+1) (E+kK N) W):aB N E W:=by
 obtain ⟨V,hV⟩:=aB.ex N E
 have h3:=Nat.div_add_mod N (10^kK N)
 have h4:=Nat.mod_lt N (jy (kK N))
 have a1:kJ N*10^kK N<=N:=by unfold kJ;exact Nat.div_mul_le_self _ _
 have a2:N<=(kJ N+1)*10^kK N:=by
  unfold kJ
  rw [Nat.add_mul,Nat.one_mul,Nat.mul_comm (N/_)]
  omega
 have b1:=aB.mono a1 h1.shift hV
 have b2:=aB.mono a2 hV h2.shift
 have:V=W:=by omega
 rw [<-this]
 exact hV
theorem Gm (N:Nat):kJ N<10000000000000000000:=by
 have h1:=iT N
 have h2:=IQ N
 unfold kJ
 refine Nat.div_lt_of_lt_mul ?_
 have e:(10000000000000000000:Nat)=10^19:=by decide
 rw [e,<-Nat.pow_add]
 exact Nat.lt_of_lt_of_le h1 (Nat.pow_le_pow_right (by omega) (by omega))
set_option maxHeartbeats 800000 in
set_option maxRecDepth 100000 in
theorem iE (s:ByteArray) (w:World) (h0:0<s.size) (hc:((s[0].toNat:Nat):Int)=46∨(48<=((s[0].toNat:Nat):Int)/\((s[0].toNat:Nat):Int)<=57)):
 Calls Tryz.prog 243 #[.string s] w fun e w'=>e=.returned (.tuple #[.float .f64 0,.int .i64 0,.bool false])/\w'=w:=by
 have e43:(((s[0].toNat:Nat):Int)==43)=false:=bq (by omega)
 have e45:(((s[0].toNat:Nat):Int)==45)=false:=bq (by omega)
 have e105:(((s[0].toNat:Nat):Int)==105)=false:=bq (by omega)
 have e73:(((s[0].toNat:Nat):Int)==73)=false:=bq (by omega)
 have e110:(((s[0].toNat:Nat):Int)==110)=false:=bq (by omega)
 have e78:(((s[0].toNat:Nat):Int)==78)=false:=bq (by omega)
 have h0a:(0:Int)<(s.size:Int):=by omega
 have h0b:¬ s.size=0:=by omega
 have h0c:((s.size:Int)==0)=false:=bq (by omega)
 clear hc
 go_enter Tryz.func243,Tryz.ntmps243
 go_wp2
 go_ret3
 exact ⟨rfl,rfl⟩
end Go.Proofs.YtjibjahfbblieaaGreatDoor.F
namespace Go.Proofs.YtjibjahfbblieaaGreatDoor.F
open Go Go.RowKit
set_option linter.unusedVariables false
def sD (W:Nat):Value:=if W=ak then .iface 223 (.int .i64 1) else .nilIface
def AtR (N:Nat) (E:Int) (s:ByteArray) (w:World) (e:Ending) (w':World):Prop:=
 ∃ W,e=.returned (.tuple #[.float .f64 W,.int .i64 s.size,sD W])/\aB N E W/\Below w.heap.size w w'
structure Vars (w:World) (G o P po C co:Nat):Prop where
 tabs:Tabs w G o
 h12:18<w.heap.size
 hP:P<w.heap.size
 opt:w.cell? ⟨11,0,none⟩=some (.bool true)
 expb:w.cell? ⟨13,1,none⟩=some (.int .u64 11)
 bias:w.cell? ⟨13,2,none⟩=some (.int .i64 (-1023))
 slice:w.cell? ⟨17,0,none⟩=some (.slice (some ⟨P,po,none⟩) 9 9)
 tab:∀ k,k<9->w.cell? ⟨P,po+k,none⟩=some (.int .i64 (dY.getD k 0:Nat))
 cheats:Cheats w C co
theorem Bg (W:Nat):Qg W=.tuple #[.float .f64 W,sD W]:=by
 unfold Qg sD
 split
 ·rename_i h;rw [h]
 ·rfl
theorem kQ {W:Nat} (h:W≠ak):sD W=.nilIface:=by unfold sD;rw [if_neg h]
theorem qQ:sD ak=.iface 223 (.int .i64 1):=by unfold sD;rw [if_pos rfl]
set_option maxHeartbeats 800000 in
set_option maxRecDepth 100000 in
theorem uU (w:World):Calls Tryz.prog 252 #[.bool false] w fun e w'=>e=.returned (.int .u64 0)/\w'=w:=by
 go_enter Tryz.func252,Tryz.ntmps252
 go_wp2
 go_ret
 exact ⟨rfl,rfl⟩
theorem Vars.drewN {w:World} {G o P po C co:Nat} (h:Vars w G o P po C co) (q:Nat):Vars (w.drewN q) G o P po C co:=
 ⟨⟨h.tabs.size,h.tabs.hG,h.tabs.mant,h.tabs.slice,h.tabs.tens,h.tabs.rows0,h.tabs.rows1⟩,h.h12,h.hP,h.opt,h.expb,h.bias,h.slice,h.tab,⟨h.cheats.size,h.cheats.hG,h.cheats.slice,h.cheats.delta,h.cheats.cut⟩⟩
set_option maxHeartbeats 1600000 in
set_option maxRecDepth 100000 in
theorem LH (N G o P po C co:Nat) (E:Int) (s:ByteArray) (w:World) (h0:0<s.size) (hs:s.size<=100) (hc:((s[0].toNat:Nat):Int)=46∨(48<=((s[0].toNat:Nat):Int)/\((s[0].toNat:Nat):Int)<=57)) (hrf:Calls Tryz.prog 244 #[.string s] w fun e w'=>Ke N E s w e w')
 (hV:Vars w G o P po C co) (hN:N=0):
 Calls Tryz.prog 219 #[.string s] w fun e w'=>AtR N E s w e w':=by
 have ho:=hV.opt
 have HV:=hide hV
 have S:=iE s w h0 hc
 have HS:=hide S
 have HR:=hide hrf
 have hm:kJ N=0:=by rw [hN];unfold kJ;rw [Nat.zero_div]
 have HD:Hid (aB N E 0):=hide (by rw [hN];exact kM E)
 have hb0:bits .or .u64 0 0=0:=by decide
 have hfb:=bB
 clear hc hrf S hV hN
 go_enter Tryz.func219,Tryz.ntmps219
 go_wp2_with fail
 refine HS.out.mono ?_
 rintro e w' ⟨rfl,rfl⟩
 go_wp2_with fail
 refine HR.out.mono ?_
 rintro e w' ⟨rfl,q,rfl⟩
 have hmi:((kJ N:Nat):Int)=0:=by omega
 go_wp2
 go_ret3
 refine ⟨0,?_,HD.out,below_drewN (Below.refl _ _) _⟩
 rw [kQ (by rw [iM];omega)]
 rfl
set_option maxHeartbeats 1600000 in
set_option maxRecDepth 100000 in
theorem KQ (N G o P po C co:Nat) (E:Int) (s:ByteArray) (w:World) (h0:0<s.size) (hs:s.size<=100) (hc:((s[0].toNat:Nat):Int)=46∨(48<=((s[0].toNat:Nat):Int)/\((s[0].toNat:Nat):Int)<=57)) (hrf:Calls Tryz.prog 244 #[.string s] w fun e w'=>Ke N E s w e w')
 (hV:Vars w G o P po C co) (hN:N≠0) (hp:310<E+kK N):
 Calls Tryz.prog 219 #[.string s] w fun e w'=>AtR N E s w e w':=by
 have ho:=hV.opt
 have HV:=hide hV
 have S:=iE s w h0 hc
 have HS:=hide S
 have HR:=hide hrf
 have hm:kJ N≠0:=fun h=>hN (oG h)
 have hE:bU N E=E+kK N:=by unfold bU;rw [if_neg hm]
 have HD:Hid (aB N E ak):=hide (lg hN (by have:=GQ hN;omega))
 have hp':310<bU N E:=by omega
 have hm0:(((kJ N:Nat):Int)==0)=false:=bq (by omega)
 have hbi:bits .or .u64 0 9218868437227405312=9218868437227405312:=Jy
 have hfb:=bB
 clear hc hrf S hV hN hE hp hm
 go_enter Tryz.func219,Tryz.ntmps219
 go_wp2_with fail
 refine HS.out.mono ?_
 rintro e w' ⟨rfl,rfl⟩
 go_wp2_with fail
 refine HR.out.mono ?_
 rintro e w' ⟨rfl,q,rfl⟩
 go_wp2
 go_ret3
 refine ⟨ak,?_,HD.out,below_drewN (Below.refl _ _) _⟩
 rw [qQ]
 rfl
set_option maxHeartbeats 1600000 in
set_option maxRecDepth 100000 in
theorem Jw (N G o P po C co:Nat) (E:Int) (s:ByteArray) (w:World) (h0:0<s.size) (hs:s.size<=100) (hc:((s[0].toNat:Nat):Int)=46∨(48<=((s[0].toNat:Nat):Int)/\((s[0].toNat:Nat):Int)<=57)) (hrf:Calls Tryz.prog 244 #[.string s] w fun e w'=>Ke N E s w e w')
 (hV:Vars w G o P po C co) (hN:N≠0) (hp:E+kK N< -345):
 Calls Tryz.prog 219 #[.string s] w fun e w'=>AtR N E s w e w':=by
 have ho:=hV.opt
 have HV:=hide hV
 have S:=iE s w h0 hc
 have HS:=hide S
 have HR:=hide hrf
 have hm:kJ N≠0:=fun h=>hN (oG h)
 have hE:bU N E=E+kK N:=by unfold bU;rw [if_neg hm]
 have HD:Hid (aB N E 0):=hide (JM hp)
 have hp':bU N E< -345:=by omega
 have hm0:(((kJ N:Nat):Int)==0)=false:=bq (by omega)
 have hb0:bits .or .u64 0 0=0:=by decide
 have hfb:=bB
 clear hc hrf S hV hN hE hp hm
 go_enter Tryz.func219,Tryz.ntmps219
 go_wp2_with fail
 refine HS.out.mono ?_
 rintro e w' ⟨rfl,rfl⟩
 go_wp2_with fail
 refine HR.out.mono ?_
 rintro e w' ⟨rfl,q,rfl⟩
 go_wp2
 go_ret3
 refine ⟨0,?_,HD.out,below_drewN (Below.refl _ _) _⟩
 rw [kQ (by rw [iM];omega)]
 rfl
set_option maxHeartbeats 1600000 in
set_option maxRecDepth 100000 in
theorem Ih (N G o P po C co:Nat) (E:Int) (s:ByteArray) (w:World) (h0:0<s.size) (hs:s.size<=100) (hc:((s[0].toNat:Nat):Int)=46∨(48<=((s[0].toNat:Nat):Int)/\((s[0].toNat:Nat):Int)<=57)) (hrf:Calls Tryz.prog 244 #[.string s] w fun e w'=>Ke N E s w e w')
 (hV:Vars w G o P po C co) (hN:N≠0) (hp1: -345<=E+kK N) (hp2:E+kK N<=310) (ht:Nc N=false):
 Calls Tryz.prog 219 #[.string s] w fun e w'=>AtR N E s w e w':=by
 have ho:=hV.opt
 have HV:=hide hV
 have S:=iE s w h0 hc
 have HS:=hide S
 have HR:=hide hrf
 have hm:kJ N≠0:=fun h=>hN (oG h)
 have hE:bU N E=E+kK N:=by unfold bU;rw [if_neg hm]
 have hml:=Gm N
 have X:=fun (q:Nat)=>EF (kJ N) G o (bU N E) (w.drewN q) (hV.drewN q).tabs hm (by omega)
 have Y:=fun (q:Nat)=>qL (kJ N) (bU N E) (w.drewN q) hm (by omega) (by omega) (by omega) hV.tabs.size (hV.tabs.rows0 _ (by omega)) (hV.tabs.rows1 _ (by omega))
 have HX:=hide X
 have HY:=hide Y
 have HD:Hid (∀ W,aB (kJ N) (bU N E) W->aB N E W):=hide (fun W h=>Gs ht (by rw [<-hE];exact h))
 have hq1: -345<=bU N E:=by omega
 have hq2:bU N E<=310:=by omega
 have hm0:(((kJ N:Nat):Int)==0)=false:=bq (by omega)
 have hfb:=bB
 clear hc hrf S hV hN hE hp1 hp2 hm X Y
 go_enter Tryz.func219,Tryz.ntmps219
 go_wp2_with fail
 refine HS.out.mono ?_
 rintro e w' ⟨rfl,rfl⟩
 go_wp2_with fail
 refine HR.out.mono ?_
 rintro e w' ⟨rfl,q,rfl⟩
 have hB:=uU
 have HB:=hide hB
 clear hB
 go_wp2_with fail
 refine (HB.out _).mono ?_
 rintro e w' ⟨rfl,rfl⟩
 go_wp2_with fail
 refine (HX.out q).mono ?_
 rintro e w' ⟨⟨f,ok,rfl,hok⟩,rfl⟩
 cases ok with
 |true=>
  obtain ⟨hd1,hd2⟩:=hok rfl
  have Hd1:=hide hd1
  have Hd2:=hide hd2
  clear hd1 hd2 hok
  go_wp2
  go_ret3
  refine ⟨f,?_,HD.out _ Hd1.out,below_drewN (Below.refl _ _) _⟩
  rw [kQ Hd2.out]
  rfl
 |false=>
  clear hok
  go_wp2_with fail
  refine (HY.out q).mono ?_
  rintro e w' ⟨W,rfl,hd,hb⟩
  rw [Bg]
  have Hd:=hide hd
  have Hb:=hide hb
  clear hd hb
  go_wp2
  go_ret3
  exact ⟨W,rfl,HD.out _ Hd.out,(below_drewN (Below.refl _ _) _).trans Hb.out⟩
end Go.Proofs.YtjibjahfbblieaaGreatDoor.F
namespace Go.Proofs.YtjibjahfbblieaaGreatDoor.F
open Go Go.RowKit
set_option linter.unusedVariables false
theorem nZ:Tryz.zeroCells279=(List.replicate 800 (Value.int .u8 0)++[Value.int .i64 0,Value.int .i64 0,Value.bool false,Value.bool false]).toArray:=by kernel_rfl
theorem jY {W:Nat} (h:W<ak):∃ k q,W=k*4503599627370496+q/\q<9007199254740992/\(k=0∨4503599627370496<=q):=by
 by_cases c:W<4503599627370496
 ·exact ⟨0,W,by omega,by omega,.inl rfl⟩
 ·have h1:=Nat.div_add_mod W 4503599627370496
  have h2:=Nat.mod_lt W (show 0<4503599627370496 by omega)
  have h3:1<=W/4503599627370496:=(Nat.one_le_div_iff (by omega)).2 (by omega)
  refine ⟨W/4503599627370496-1,4503599627370496+W%4503599627370496,?_,by omega,.inr (by omega)⟩
  generalize W/4503599627370496=a at *
  generalize W%4503599627370496=b at *
  omega
theorem Ij {q q' k k':Nat} (hq:q<9007199254740992) (hq':q'<9007199254740992) (hk:k=0∨4503599627370496<=q) (hk':k'=0∨4503599627370496<=q') (hle:k<=k') (h:q=q'*2^(k'-k)):q=q'/\k=k':=by
 by_cases e:k=k'
 ·subst e
  rw [Nat.sub_self,Nat.pow_zero,Nat.mul_one] at h
  exact ⟨h,rfl⟩
 ·exfalso
  have h1:2^1<=2^(k'-k):=Nat.pow_le_pow_right (by omega) (by omega)
  have h2:4503599627370496<=q':=by omega
  have h3:=Nat.mul_le_mul h2 h1
  omega
theorem FP {q q' k k':Nat} (h:Ieee.Datum.order (.number false q ((k:Int)-1074)) (.number false q' ((k':Int)-1074))=some .eq):(k<=k'->q=q'*2^(k'-k))/\(k'<=k->q'=q*2^(k-k')):=by
 have h1:compare (Ieee.signed false q (((k:Int)-1074)-min ((k:Int)-1074) ((k':Int)-1074)).toNat) (Ieee.signed false q' (((k':Int)-1074)-min ((k:Int)-1074) ((k':Int)-1074)).toNat)=.eq:=by
  have:=h
  unfold Ieee.Datum.order at this
  exact Option.some.inj this
 have h2:=Int.compare_eq_eq.1 h1
 obtain ⟨a,ha⟩:∃ a,a=(((k:Int)-1074)-min ((k:Int)-1074) ((k':Int)-1074)).toNat:=⟨_,rfl⟩
 obtain ⟨c,hc⟩:∃ c,c=(((k':Int)-1074)-min ((k:Int)-1074) ((k':Int)-1074)).toNat:=⟨_,rfl⟩
 rw [<-ha,<-hc] at h2
 clear h h1
 have h3:q*2^a=q'*2^c:=by
  unfold Ieee.signed at h2
  rw [if_neg (by decide),if_neg (by decide),Nat.shiftLeft_eq,Nat.shiftLeft_eq] at h2
  exact Int.ofNat.inj h2
 clear h2
 constructor
 ·intro hle
  have e1:a=0:=by omega
  have e2:c=k'-k:=by omega
  rw [e1,e2,Nat.pow_zero,Nat.mul_one] at h3
  exact h3
 ·intro hle
  have e1:a=k-k':=by omega
  have e2:c=0:=by omega
  rw [e1,e2,Nat.pow_zero,Nat.mul_one] at h3
  exact h3.symm
theorem Kw {v:Value} {L:List Value} {n k:Nat} (h:k<n):((List.replicate n v++L).toArray)[k]?=some v:=by
 rw [List.getElem?_toArray,List.getElem?_append_left (by rw [List.length_replicate];exact h),List.getElem?_replicate,if_pos h]
theorem nS {v:Value} {L:List Value} {n k j:Nat} (h:k=n+j):((List.replicate n v++L).toArray)[k]?=L[j]?:=by
 rw [List.getElem?_toArray,List.getElem?_append_right (by rw [List.length_replicate];omega),List.length_replicate,h,Nat.add_sub_cancel_left]
theorem zS:Ieee.double.read ak=.infinity false:=by decide+kernel
theorem zo {W W':Nat} (hW:W<=ak) (hW':W'<=ak) (h:Ieee.double.order W W'=some .eq):W=W':=by
 unfold Ieee.Format.order at h
 by_cases c:W=ak
 ·by_cases c':W'=ak
  ·rw [c,c']
  ·exfalso
   obtain ⟨k,q,e,h1,h2⟩:=jY (W:=W') (by omega)
   rw [c,zS,e,fH h1 h2 (by omega)] at h
   simp [Ieee.Datum.order] at h
 ·obtain ⟨k,q,e,h1,h2⟩:=jY (W:=W) (by omega)
  by_cases c':W'=ak
  ·exfalso
   rw [c',zS,e,fH h1 h2 (by omega)] at h
   simp [Ieee.Datum.order] at h
  ·obtain ⟨k',q',e',h1',h2'⟩:=jY (W:=W') (by omega)
   rw [e,e',fH h1 h2 (by omega),fH h1' h2' (by omega)] at h
   obtain ⟨g1,g2⟩:=FP h
   rcases Nat.le_total k k' with hl|hl
   ·obtain ⟨rfl,rfl⟩:=Ij h1 h1' h2 h2' hl (g1 hl)
    rw [e,e']
   ·obtain ⟨rfl,rfl⟩:=Ij h1' h1 h2' h2 hl (g2 hl)
    rw [e,e']
theorem q9 {N d W:Nat} (h:aC N d W):W<=ak:=by
 obtain ⟨k,_,_,h3⟩:=h
 rw [h3];exact Nat.min_le_right _ _
theorem J4 (w:World):DecAt (w.alloc (.cells Tryz.zeroCells279 279)) w.heap.size (fun _=>0) ((0:Nat):Int) 0 false:=by
 have hc:∀ k v,Tryz.zeroCells279[k]?=some v->(w.alloc (.cells Tryz.zeroCells279 279)).cell? ⟨w.heap.size,k,none⟩=some v:=by
  intro k v h
  rw [World.cell?_alloc_at _ _ _ _ rfl];exact h
 refine ⟨by simp,fun k=>by simp,fun k hk=>hc _ _ ?_,hc _ _ ?_,hc _ _ ?_,hc _ _ ?_,hc _ _ ?_⟩
 ·rw [nZ];exact Kw hk
 ·rw [nZ];exact nS (j:=0) rfl
 ·rw [nZ];exact nS (j:=1) rfl
 ·rw [nZ];exact nS (j:=2) rfl
 ·rw [nZ];exact nS (j:=3) rfl
end Go.Proofs.YtjibjahfbblieaaGreatDoor.F
namespace Go.Proofs.YtjibjahfbblieaaGreatDoor.F
open Go Go.RowKit
set_option linter.unusedVariables false
theorem Vars.info {w w':World} {G o P po C co g:Nat} (h:Vars w G o P po C co) (hb:Below w.heap.size w w') (hg:w.heap.size<=g):FInfo w' g P po C co:=by
 have h12:=h.h12
 have hP:=h.hP
 have hC:=h.cheats.hG
 have hCb:=h.cheats.below hb h.h12 hC
 exact ⟨by omega,by omega,by omega,(hb.cell (by show 13<w.heap.size;omega)).trans h.tabs.mant,(hb.cell (by show 13<w.heap.size;omega)).trans h.expb,(hb.cell (by show 13<w.heap.size;omega)).trans h.bias,(hb.cell (by show 17<w.heap.size;omega)).trans h.slice,
  fun k hk=>(hb.cell h.hP).trans (h.tab k hk),hCb⟩
theorem Txt.len {s:ByteArray} {k b p:Nat} {ds:List Int} {x:Int} (h:Txt s k ds b p x):aK (dval ds)<=100:=by
 have h1:=(Ec ((bs s).take k)).1
 rw [h.scan,List.length_take,bD] at h1
 have h2:=vR (l:=(bs s).take k) (by
  intro c hc
  obtain ⟨j,hj,rfl⟩:=List.getElem_of_mem hc
  rw [List.length_take,bD] at hj
  have:=h.dp j (by omega)
  rw [List.getElem_take]
  rw [List.getD_eq_getElem?_getD,List.getElem?_eq_getElem (by rw [bD];omega)] at this
  exact this)
 rw [h.scan] at h2
 have h3:=jG ds h2
 have h4:=h.hs
 have h5:ds.length<=min k s.size:=h1
 omega
set_option maxHeartbeats 3200000 in
set_option maxRecDepth 100000 in
theorem LY (N G o P po C co k b p:Nat) (ds:List Int) (x E:Int) (s:ByteArray) (w:World) (hT:Txt s k ds b p x) (hNd:N=dval ds) (hEd:E=x-b) (h0:0<s.size) (hs:s.size<=100) (hc:((s[0].toNat:Nat):Int)=46∨(48<=((s[0].toNat:Nat):Int)/\((s[0].toNat:Nat):Int)<=57)) (hrf:Calls Tryz.prog 244 #[.string s] w fun e w'=>Ke N E s w e w')
 (hV:Vars w G o P po C co) (hN:N≠0) (hp1: -345<=E+kK N) (hp2:E+kK N<=310) (ht:Nc N=true):
 Calls Tryz.prog 219 #[.string s] w fun e w'=>AtR N E s w e w':=by
 have hlen:=hT.len
 rw [<-hNd] at hlen
 have hN100:N<10^100:=Nat.lt_of_lt_of_le (iT N) (Nat.pow_le_pow_right (by omega) hlen)
 have hEb: -430<=E/\E<=1000:=by
  have h1:kK N<=81:=by unfold kK;omega
  omega
 have T:=fun (w':World) (D0:Nat->Int) (g:Nat) (h:DecAt w' g D0 ((0:Nat):Int) 0 false)=>KW s k b p g ds x D0 w' hT h
 have HT:=hide T
 have Hn:=hide (show N≠0/\N<10^100/\ -430<=E/\E<=1000/\N=dval ds/\E=x-b from ⟨hN,hN100,hEb.1,hEb.2,hNd,hEd⟩)
 clear T hlen hN100 hEb hNd hEd
 have ho:=hV.opt
 have HV:=hide hV
 have S:=iE s w h0 hc
 have HS:=hide S
 have HR:=hide hrf
 have hm:kJ N≠0:=fun h=>hN (oG h)
 have hE:bU N E=E+kK N:=by unfold bU;rw [if_neg hm]
 have hml:=Gm N
 have Y:=fun (q:Nat)=>qL (kJ N) (bU N E) (w.drewN q) hm (by omega) (by omega) (by omega) hV.tabs.size (hV.tabs.rows0 _ (by omega)) (hV.tabs.rows1 _ (by omega))
 have Z:=fun (w':World) (hb:Below w.heap.size w w')=>qL (kJ N+1) (bU N E) w' (by omega) (by omega) (by omega) (by omega) (Nat.lt_of_lt_of_le hV.tabs.size hb.size)
  ((hb.cell (show 14<w.heap.size from hV.tabs.size)).trans (hV.tabs.rows0 _ (by omega))) ((hb.cell (show 14<w.heap.size from hV.tabs.size)).trans (hV.tabs.rows1 _ (by omega)))
 have HY:=hide Y
 have HZ:=hide Z
 have HD:Hid (∀ W,aB (kJ N) (bU N E) W->aB (kJ N+1) (bU N E) W->aB N E W):=hide (fun W h h'=>KD (by rw [<-hE];exact h) (by rw [<-hE];exact h'))
 have hq1: -345<=bU N E:=by omega
 have hq2:bU N E<=310:=by omega
 have hm0:(((kJ N:Nat):Int)==0)=false:=bq (by omega)
 have hm1:IntKind.u64.wrap (((kJ N:Nat):Int)+1)=((kJ N+1:Nat):Int):=by rw [bA (by omega) (by omega)];omega
 have hfb:=bB
 have hB:=uU
 have HB:=hide hB
 clear hT hc hrf S hV hN hE hp1 hp2 hm Y Z hB hml
 go_enter Tryz.func219,Tryz.ntmps219
 go_wp2_with fail
 refine HS.out.mono ?_
 rintro e w' ⟨rfl,rfl⟩
 go_wp2_with fail
 refine HR.out.mono ?_
 rintro e w' ⟨rfl,q,rfl⟩
 go_wp2_with fail
 refine (HB.out _).mono ?_
 rintro e w' ⟨rfl,rfl⟩
 go_wp2_with fail
 refine (HY.out q).mono ?_
 rintro e w1 ⟨W,rfl,hd,hb⟩
 rw [Bg]
 have Hd:=hide hd
 have hb1:=(below_drewN (Below.refl _ _) q).trans hb
 have Hb:=hide hb1
 clear hd hb hb1
 go_wp2_with fail
 refine (HZ.out _ Hb.out).mono ?_
 rintro e w2 ⟨W',rfl,hd,hb⟩
 rw [Bg]
 have Hd':=hide hd
 have hb2:=Hb.out.trans (hb.mono Hb.out.size)
 have Hb2:=hide hb2
 clear hd hb hb2
 cases hcmp:(FloatKind.f64.format.order W W'==some Ordering.eq) with
 |true=>
  have hWW:W=W':=zo (q9 Hd.out) (q9 Hd'.out) (eq_of_beq hcmp)
  have HWW:=hide hWW
  clear hWW
  go_wp2_with fail
  go_ret3
  exact ⟨W,rfl,HD.out W Hd.out (by rw [HWW.out];exact Hd'.out),Hb2.out⟩
 |false=>
  go_wp2_with fail
  refine (HT.out _ _ _ (J4 w2)).mono ?_
  rintro e w3 ⟨rfl,D,nd,dp,hd,⟨g1,g2,g3,g4,g5⟩,hb3⟩
  obtain ⟨n1,n2,n3,n4,n5,n6⟩:=Hn.out
  have hb4:Below w'.heap.size w' w3:=(Hb2.out.alloc (Nat.le_trans (Nat.le_refl _) Hb2.out.size) _).trans (hb3.mono Hb2.out.size)
  have hlen:nd<=800:=by
   have:=iC (Nat.lt_of_le_of_lt (lW n1) n2)
   rw [<-n5] at g2
   omega
  have F:=rY N w2.heap.size P po C co nd E dp D w3 hd (HV.out.info hb4 Hb2.out.size) n1 n2 (by rw [g1,n5]) (by rw [g2,n5]) ⟨g3,hlen,g4⟩ (by omega) n3 n4
  have HF:=hide F
  have Hb4:=hide hb4
  clear F hb4 hb3 hd g1 g2 g3 g4 g5 n1 n2 n3 n4 n5 n6 hlen
  go_wp2_with fail
  refine (HF.out).mono ?_
  rintro e w5 ⟨V,rfl,hr,hb5⟩
  have Hr:=hide hr
  have hb6:=Hb4.out.trans (hb5.mono Hb2.out.size)
  have Hb6:=hide hb6
  clear hr hb5 hb6
  have hVn:(V:Int).toNat=V:=by omega
  by_cases hV:V=ak
  ·have hVd:decide (V=ak)=true:=decide_eq_true hV
   have HVi:=hide hV
   clear hV
   go_wp2_with fail
   go_ret3
   refine ⟨V,?_,Hr.out,Hb6.out⟩
   rw [HVi.out,qQ]
   rfl
  ·have hVd:decide (V=ak)=false:=decide_eq_false hV
   have HVi:=hide hV
   clear hV
   go_wp2_with fail
   go_ret3
   refine ⟨V,?_,Hr.out,Hb6.out⟩
   rw [kQ HVi.out]
   rfl
end Go.Proofs.YtjibjahfbblieaaGreatDoor.F
namespace Go.Proofs.YtjibjahfbblieaaGreatDoor.F
open Go Go.RowKit
set_option linter.unusedVariables false
set_option maxHeartbeats 800000 in
set_option maxRecDepth 100000 in
theorem Lf (N:Nat) (E:Int) (s:ByteArray) (w:World) (h:Calls Tryz.prog 219 #[.string s] w fun e w'=>AtR N E s w e w'):
 Calls Tryz.prog 189 #[.string s,.int .i64 64] w fun e w'=>AtR N E s w e w':=by
 have H:=hide h
 clear h
 go_enter Tryz.func189,Tryz.ntmps189
 go_wp2_with fail
 refine H.out.mono ?_
 rintro e w' ⟨W,rfl,hd,hb⟩
 have Hd:=hide hd
 have Hb:=hide hb
 clear hd hb
 go_wp2
 go_ret3
 exact ⟨W,rfl,Hd.out,Hb.out⟩
def Rt (N:Nat) (E:Int) (w:World) (e:Ending) (w':World):Prop:=
 ∃ W,e=.returned (.tuple #[.float .f64 W,sD W])/\aB N E W/\Below w.heap.size w w'
set_option maxHeartbeats 800000 in
set_option maxRecDepth 100000 in
theorem Ld (N:Nat) (E:Int) (s:ByteArray) (w:World) (h:Calls Tryz.prog 219 #[.string s] w fun e w'=>AtR N E s w e w'):
 Calls Tryz.prog 163 #[.string s,.int .i64 64] w fun e w'=>Rt N E w e w':=by
 have h':=Lf N E s w h
 have H:=hide h'
 clear h h'
 go_enter Tryz.func163,Tryz.ntmps163
 go_wp2_with fail
 refine H.out.mono ?_
 rintro e w' ⟨W,rfl,hd,hb⟩
 have Hd:=hide hd
 have Hb:=hide hb
 clear hd hb
 go_wp2
 go_ret2
 exact ⟨W,rfl,Hd.out,Hb.out⟩
def Oe (N:Nat) (E:Int) (w:World) (e:Ending) (w':World):Prop:=
 ∃ W,aB N E W/\Below w.heap.size w w'/\((W≠ak/\e=.returned (.tuple #[.float .f64 W,.nilIface]))∨(W=ak/\∃ B,e=.returned (.tuple #[.float .f64 W,.iface 226 (.pointer (some ⟨B,0,none⟩))])))
set_option maxHeartbeats 1600000 in
set_option maxRecDepth 100000 in
theorem K6 (N:Nat) (E:Int) (s:ByteArray) (w:World) (ev:Value) (hs:s.size<=100) (h2:6<w.heap.size) (hev:w.cell? ⟨6,0,none⟩=some ev) (hev2:ev=.nilIface∨∃ te pe,ev=.iface te pe) (h:Calls Tryz.prog 219 #[.string s] w fun e w'=>AtR N E s w e w'):
 Calls Tryz.prog 145 #[.string s,.int .i64 64] w fun e w'=>Oe N E w e w':=by
 have h':=Ld N E s w h
 have H:=hide h'
 have T:=fun (w':World) (hb:Below w.heap.size w w')=>Tryz.strconv_toError_range ⟨#[80,97,114,115,101,70,108,111,97,116]⟩ s 0 64 ev w' (by omega) ((hb.cell (show 6<w.heap.size from h2)).trans hev) hev2
 have HT:=hide T
 clear h h' T hev hev2
 go_enter Tryz.func145,Tryz.ntmps145
 go_wp2_with fail
 refine H.out.mono ?_
 rintro e w' ⟨W,rfl,hd,hb⟩
 have Hd:=hide hd
 have Hb:=hide hb
 clear hd hb
 by_cases hW:W=ak
 ·have hV:sD W=.iface 223 (.int .i64 1):=by rw [hW,qQ]
  have HW:=hide hW
  clear hW
  rw [hV]
  clear hV
  go_wp2_with fail
  refine (HT.out _ Hb.out).mono ?_
  rintro e w3 ⟨B,rfl,h3,h4,hb3⟩
  have Hb3:=hide hb3
  clear h3 h4 hb3
  go_wp2
  go_ret2
  exact ⟨W,Hd.out,Hb.out.trans (Hb3.out.mono Hb.out.size),.inr ⟨HW.out,B,rfl⟩⟩
 ·have hV:sD W=.nilIface:=kQ hW
  have HW:=hide hW
  clear hW
  rw [hV]
  clear hV
  go_wp2
  go_ret2
  exact ⟨W,Hd.out,Hb.out,.inl ⟨HW.out,rfl⟩⟩
end Go.Proofs.YtjibjahfbblieaaGreatDoor.F
namespace Go.Proofs.YtjibjahfbblieaaGreatDoor.F
open Go Go.RowKit
set_option linter.unusedVariables false
set_option maxHeartbeats 8000000 in
set_option maxRecDepth 100000 in
theorem QC (s:ByteArray) (k b p:Nat) (ds:List Int) (x:Int) (w:World) (hT:Txt s k ds b p x) (h0:0<s.size) (h2:s.size<=2):
 Calls Tryz.prog 244 #[.string s] w fun e w'=>Ke (dval ds) (x-b) s w e w':=by
 have HT:=hide hT
 have hk0:=hT.k0
 have hk:=hT.hk
 have hs:=hT.hs
 have hc:=mG hT (i:=0) (by omega) h0
 have e43:(((s[0].toNat:Nat):Int)==43)=false:=bq (by omega)
 have e45:(((s[0].toNat:Nat):Int)==45)=false:=bq (by omega)
 have h0a:(0:Int)<(s.size:Int):=by omega
 have h0b:¬ s.size=0:=by omega
 have h2I:(s.size:Int)<=2:=by omega
 clear hT hc
 go_enter Tryz.func244,Tryz.ntmps244
 go_wp2
 go_step3
 go_wp2
 go_step3
 go_wp2
 go_loop [2,5,7,9,13,14,15,16,17] (fun mv tv iv uv dv' gv nv kv pv=>∃ (i b' p' m nd nm:Nat) (ds':List Int) (tr:Bool) (dp:Int),i<=k/\mv=.int .u64 m/\tv=.bool tr/\iv=.int .i64 i/\uv=.bool false/\dv'=.bool (decide (p'=1))/\gv=.bool (decide (ds'≠[]))/\nv=.int .i64 nd/\kv=.int .i64 nm/\pv=.int .i64 dp/\
  Hid (aY ((bs s).take i)=(ds',b',p'))/\Hid (RF (dval ds') b' p' i m nd nm tr dp)) (fun _ _ iv _ _ _ _ _ _=>s.size-(intOf iv).toNat)
 case atStart=>exact ⟨0,0,0,0,0,0,[],false,0,Nat.zero_le _,rfl,rfl,rfl,rfl,rfl,rfl,rfl,rfl,rfl,hide rfl,hide RF.start⟩
 case round=>
  clear e43 e45 h0b h2I
  obtain ⟨i,b',p',m,nd,nm,ds',tr,dp,hi,rfl,rfl,rfl,rfl,rfl,rfl,rfl,rfl,rfl,Hsc,HS⟩:=hrel
  have hpi:=HT.out.pi hi Hsc.out
  have hlo:=HS.out.lo
  have hhi:=HS.out.hi
  have hle:=HS.out.le
  have hnm:nm<=19:=by have:=HS.out.hnm;omega
  by_cases hik:i<k
  ·have his:i<s.size:=by omega
   have hisI:(i:Int)<(s.size:Int):=by omega
   have hc:=mG HT.out hik his
   have e95:(((s[i].toNat:Nat):Int)==95)=false:=bq (by omega)
   by_cases hpt:((s[i].toNat:Nat):Int)=46
   ·have e46:(((s[i].toNat:Nat):Int)==46)=true:=by rw [hpt];rfl
    have hsc:=kC his Hsc.out hpt
    have hp0:=(HT.out.pi (i:=i+1) (by omega) hsc).1
    have hp':p'=0:=by omega
    have hb':b'=0:=hpi.2 hp'
    subst hp' hb'
    have HS':=hide HS.out.point
    have Hsc':=hide hsc
    clear hsc hpt hc
    go_wp2
    go_round
    case rel=>exact ⟨i+1,0,1,m,nd,nm,ds',tr,nd,by omega,rfl,rfl,by go_num,rfl,rfl,rfl,rfl,rfl,rfl,Hsc',HS'⟩
    case measure=>simp [intOf];omega
   ·have e46:(((s[i].toNat:Nat):Int)==46)=false:=bq hpt
    obtain ⟨hx1,hx2⟩:48<=((s[i].toNat:Nat):Int)/\((s[i].toNat:Nat):Int)<=57:=by omega
    have hsc:=oD his Hsc.out (by show dQ _=true;unfold dQ;rw [decide_eq_true_eq];exact ⟨hx1,hx2⟩)
    have Hsc':=hide hsc
    have Hv:=hide (gK ds' ((s[i].toNat:Nat):Int))
    have hne:decide (ds'++[((s[i].toNat:Nat):Int)]≠[])=true:=by simp
    have Hne:=hide hne
    clear hsc hc hpt hne
    by_cases hz:nd=0/\((s[i].toNat:Nat):Int)=48
    ·obtain ⟨hz1,hz2⟩:=hz
     have HS':Hid (RF (dval (ds'++[((s[i].toNat:Nat):Int)])) (b'+p') p' (i+1) m nd nm tr (dp-1)):=hide (by
      rw [Hv.out,hz2,hz1]
      have:=HS.out
      rw [hz1] at this
      exact this.zero hpi.1)
     have e48:(((s[i].toNat:Nat):Int)==48)=true:=by rw [hz2];rfl
     have en:((nd:Int)==0)=true:=by rw [hz1];rfl
     clear hz1 hz2
     go_wp2
     go_round
     case rel=>exact ⟨i+1,b'+p',p',m,nd,nm,_,tr,dp-1,by omega,rfl,rfl,by go_num,rfl,rfl,by rw [Hne.out],rfl,rfl,rfl,Hsc',HS'⟩
     case measure=>simp [intOf];omega
    ·have hz':nd≠0∨((s[i].toNat:Nat):Int)≠48:=by omega
     by_cases hm19:nm<19
     ·obtain ⟨m',hm'⟩:∃ m',m'=m*10+(((s[i].toNat:Nat):Int)-48).toNat:=⟨_,rfl⟩
      have HS':Hid (RF (dval (ds'++[((s[i].toNat:Nat):Int)])) (b'+p') p' (i+1) m' (nd+1) (nm+1) tr dp):=hide (by
       rw [Hv.out,hm'];exact HS.out.put1 hpi.1 hx1 hx2 hz' hm19)
      have hml:m<1000000000000000000:=by
       have h1:=HS.out.lt
       have h3:10^nm<=10^18:=Nat.pow_le_pow_right (by omega) (by omega)
       have e18:(10:Nat)^18=1000000000000000000:=by decide
       omega
      have e1:IntKind.u64.wrap ((m:Int)*10)=(m:Int)*10:=bA (by omega) (by omega)
      have e2:IntKind.u64.wrap ((m:Int)*10+(((s[i].toNat:Nat):Int)-48))=(m':Int):=by rw [bA (by omega) (by omega)];omega
      have hmI:(nm:Int)<19:=by omega
      clear hm' hml hz'
      by_cases e48':((s[i].toNat:Nat):Int)=48
      ·have e48:(((s[i].toNat:Nat):Int)==48)=true:=by rw [e48'];rfl
       have en:((nd:Int)==0)=false:=bq (by omega)
       clear hz e48'
       go_wp2
       go_round
       case rel=>exact ⟨i+1,b'+p',p',m',nd+1,nm+1,_,tr,dp,by omega,rfl,rfl,by go_num,rfl,rfl,by rw [Hne.out],by go_num,by go_num,rfl,Hsc',HS'⟩
       case measure=>simp [intOf];omega
      ·have e48:(((s[i].toNat:Nat):Int)==48)=false:=bq e48'
       clear hz e48'
       go_wp2
       go_round
       case rel=>exact ⟨i+1,b'+p',p',m',nd+1,nm+1,_,tr,dp,by omega,rfl,rfl,by go_num,rfl,rfl,by rw [Hne.out],by go_num,by go_num,rfl,Hsc',HS'⟩
       case measure=>simp [intOf];omega
     ·have hmI:(19:Int)<=nm:=by omega
      by_cases e48':((s[i].toNat:Nat):Int)=48
      ·have e48:(((s[i].toNat:Nat):Int)==48)=true:=by rw [e48'];rfl
       have en:((nd:Int)==0)=false:=bq (by omega)
       have HS':Hid (RF (dval (ds'++[((s[i].toNat:Nat):Int)])) (b'+p') p' (i+1) m (nd+1) nm tr dp):=hide (by
        rw [Hv.out];exact HS.out.put2 hpi.1 hx1 hx2 hm19 (by rw [decide_eq_false (by omega),Bool.or_false]))
       clear hz e48' hz' hm19
       go_wp2
       go_round
       case rel=>exact ⟨i+1,b'+p',p',m,nd+1,nm,_,tr,dp,by omega,rfl,rfl,by go_num,rfl,rfl,by rw [Hne.out],by go_num,rfl,rfl,Hsc',HS'⟩
       case measure=>simp [intOf];omega
      ·have e48:(((s[i].toNat:Nat):Int)==48)=false:=bq e48'
       have HS':Hid (RF (dval (ds'++[((s[i].toNat:Nat):Int)])) (b'+p') p' (i+1) m (nd+1) nm true dp):=hide (by
        rw [Hv.out];exact HS.out.put2 hpi.1 hx1 hx2 hm19 (by rw [decide_eq_true e48',Bool.or_true]))
       clear hz e48' hz' hm19
       go_wp2
       go_round
       case rel=>exact ⟨i+1,b'+p',p',m,nd+1,nm,_,true,dp,by omega,rfl,rfl,by go_num,rfl,rfl,by rw [Hne.out],by go_num,rfl,rfl,Hsc',HS'⟩
       case measure=>simp [intOf];omega
  ·have hik':i=k:=by omega
   subst hik'
   have hsc:=Hsc.out
   rw [HT.out.scan] at hsc
   obtain ⟨rfl,rfl,rfl⟩:ds=ds'/\b=b'/\p=p':=by
    have h1:=congrArg Prod.fst hsc
    have h2:=congrArg Prod.snd hsc
    exact ⟨h1,congrArg Prod.fst h2,congrArg Prod.snd h2⟩
   have hg:decide (ds≠[])=true:=by simp [HT.out.ne]
   obtain ⟨f1,f2,f3⟩:=HS.out.fin
   have Hf1:=hide f1
   have Hf2:=hide f2
   have Hf3:=hide f3
   have Hpi:=hide hpi
   have hex:=HT.out.ex
   clear hsc Hsc hpi f1 f2 f3
   rcases hex with ⟨hex,hx0⟩|⟨hex,hx0⟩
   ·have HexI:(i:Int)=(s.size:Int):=by omega
    clear hik
    by_cases hp0:p=0
    ·have hpd:decide (p=1)=false:=by simp;omega
     have Hp0:=hide hp0
     clear hp0
     by_cases hm0:m=0
     ·have em:((m:Int)==0)=true:=by rw [hm0];rfl
      have HE:Hid (bU (dval ds) (x-b)=0):=hide (by unfold bU;rw [if_pos (by rw [<-Hf1.out];exact hm0)])
      clear hm0
      go_wp2
      go_returns
      exact ⟨(by rw [HE.out,<-Hf1.out,<-Hf2.out]<;>rfl),0,rfl⟩
     ·have em:((m:Int)==0)=false:=bq (by omega)
      have HE:Hid (bU (dval ds) (x-b)=(nd:Int)-nm):=hide (by
       unfold bU
       rw [if_neg (by rw [<-Hf1.out];exact hm0)]
       have:=Hf3.out
       have:=Hpi.out.2 Hp0.out
       omega)
      clear hm0
      go_wp2
      go_returns
      exact ⟨(by rw [HE.out,<-Hf1.out,<-Hf2.out]<;>rfl),0,rfl⟩
    ·have hp1:p=1:=by have:=Hpi.out.1;omega
     have hpd:decide (p=1)=true:=by simp;omega
     have Hp1:=hide hp1
     clear hp0 hp1
     by_cases hm0:m=0
     ·have em:((m:Int)==0)=true:=by rw [hm0];rfl
      have HE:Hid (bU (dval ds) (x-b)=0):=hide (by unfold bU;rw [if_pos (by rw [<-Hf1.out];exact hm0)])
      clear hm0
      go_wp2
      go_returns
      exact ⟨(by rw [HE.out,<-Hf1.out,<-Hf2.out]<;>rfl),0,rfl⟩
     ·have em:((m:Int)==0)=false:=bq (by omega)
      have HE:Hid (bU (dval ds) (x-b)=dp-nm):=hide (by
       unfold bU
       rw [if_neg (by rw [<-Hf1.out];exact hm0)]
       have:=Hf3.out
       have:=HS.out.dpp Hp1.out
       omega)
      clear hm0
      go_wp2
      go_returns
      exact ⟨(by rw [HE.out,<-Hf1.out,<-Hf2.out]<;>rfl),0,rfl⟩
   ·obtain ⟨hce,v,hcase⟩:=jJ hx0
    exfalso
    rcases hcase with ⟨q1,q2,q3⟩|⟨q1,q2,q3⟩|⟨q1,q1',q2,q3⟩
    all_goals have:=q3.lt
    all_goals omega
end Go.Proofs.YtjibjahfbblieaaGreatDoor.F
namespace Go.Proofs.YtjibjahfbblieaaGreatDoor.F
open Go Go.RowKit
set_option linter.unusedVariables false
theorem p9 (m:List Int):(aY m).1=m.filter (fun c=>decide (c≠46))/\(aY m).2.2=m.count 46:=by
 unfold aY
 have key:∀ (m:List Int) (st:List Int × Nat × Nat),(m.foldl aX st).1=st.1++m.filter (fun c=>decide (c≠46))/\(m.foldl aX st).2.2=st.2.2+m.count 46:=by
  intro m
  induction m with
  |nil=>intro st;simp
  |cons c m ih=>
   intro st
   obtain ⟨h1,h2⟩:=ih (aX st c)
   rw [List.foldl_cons,h1,h2]
   by_cases e:c=46
   ·subst e
    simp [aX]
    omega
   ·simp [aX,e]
 have:=key m ([],0,0)
 simpa using this
theorem Iw {l:List Int} (h:l.all nY=true):lF l=l.length:=by
 rw [List.all_eq_true] at h
 refine LJ (Nat.le_refl _) (fun j hj=>?_) (.inl rfl)
 rw [List.getD_eq_getElem?_getD,List.getElem?_eq_getElem hj]
 exact h _ (List.getElem_mem hj)
end Go.Proofs.YtjibjahfbblieaaGreatDoor.F
namespace Go.Proofs.YtjibjahfbblieaaGreatDoor
open Go Go.RowKit
set_option linter.unusedVariables false
theorem Im {l:List UInt8} {j:Nat} {b:UInt8} (h:l[j]?=some b):(l.take (j+1)).flatMap pW=(l.take j).flatMap pW++pW b:=by
 rw [List.take_add_one,h]
 simp
theorem ML {b:UInt8} (h:b.toNat=34∨b.toNat=92):pW b=[92,b]:=by
 unfold pW
 rw [if_pos]
 rcases h with h|h
 ·exact .inl (UInt8.toNat_inj.1 (by rw [h];rfl))
 ·exact .inr (UInt8.toNat_inj.1 (by rw [h];rfl))
theorem Mi {b:UInt8} (h1:b.toNat≠34) (h2:b.toNat≠92) (h:32<=b.toNat/\b.toNat<=126):pW b=[b]:=by
 unfold pW
 rw [if_neg,if_pos h]
 rintro (e|e)
 ·exact h1 (by rw [e];rfl)
 ·exact h2 (by rw [e];rfl)
theorem MP {b:UInt8} (h:¬ (32<=b.toNat/\b.toNat<=126)):pW b=[92,UInt8.ofNat (48+b.toNat/100),UInt8.ofNat (48+b.toNat/10%10),UInt8.ofNat (48+b.toNat%10)]:=by
 unfold pW
 rw [if_neg,if_neg h]
 rintro (e|e)<;>exact h (by rw [e];decide)
theorem JH (w:World) (b:UInt8):nA (w.alloc (.cells #[.int .u8 (b.toNat:Int)] 5)) w.heap.size (.slice (some ⟨w.heap.size,0,none⟩) 1 1) [b]:=
 World.ownsRow_lit (base:=w.heap.size) (e:=5) (size:=1) w #[.int .u8 (b.toNat:Int)] 1 (Nat.le_refl _) (by simp [maxLen]) rfl
set_option maxHeartbeats 3200000 in
set_option maxRecDepth 100000 in
theorem Ao (s:ByteArray) (w:World) (hs:s.size<=1000000000):Calls Tryz.prog 34 #[.string s] w fun e w'=>e=.returned (.string (bT (yg s.data.toList)))/\Below w.heap.size w w':=by
 have HB0:=hide (b_1 w (.cells #[.int .u8 34] 5))
 have HO0:=hide (show nA (w.alloc (.cells #[.int .u8 34] 5)) w.heap.size (.slice (some ⟨w.heap.size,0,none⟩) 1 1) [34] from JH w 34)
 go_enter Tryz.func34,Tryz.ntmps34
 go_wp2_with fail
 obtain ⟨Z,hZ⟩:∃ Z,w.heap.size=Z:=⟨_,rfl⟩
 rw [hZ] at HB0 HO0 ⊢
 have HZ:=hide hZ
 clear hZ
 go_loopw [3,4] (fun ov iv wr=>∃ (j:Nat) (L:List UInt8),j<=s.size/\iv=.int .i64 (j:Int)/\Hid (L=34::(s.data.toList.take j).flatMap pW)/\Hid (nA wr Z ov L)/\Hid (Below Z w wr)) (fun _ iv _=>s.size-gX iv)
 case atStart=>exact ⟨0,_,Nat.zero_le _,rfl,hide rfl,by simpa using HO0,HB0⟩
 case round=>
  clear HO0 HB0
  obtain ⟨j,L,hj,rfl,HL,HO,HB⟩:=hrel
  obtain ⟨oa,oc,rfl⟩:=eH HO.out
  have HLn:Hid (L.length<=4000000001):=hide (by
   have:=vG (s.data.toList.take j)
   have h2:(s.data.toList.take j).length<=j:=by simp;omega
   rw [HL.out,List.length_cons]
   omega)
  have hZr:Z<=wr.heap.size:=by have:=HB.out.size;have:=HZ.out;omega
  by_cases hjn:j<s.size
  ·obtain ⟨b,hb1,hb2⟩:=MR hjn
   have hix:=fun w'=>J6 s (i:=(j:Int)) w' (by omega) (by omega)
   simp only [Int.toNat_natCast,hb1] at hix
   have hbl:=b.toNat_lt
   have HT:=hide (Im hb2)
   obtain ⟨N,hN⟩:∃ N,b.toNat=N:=⟨_,rfl⟩
   have HN:=hide hN
   rw [hN] at hix hbl
   clear hb1 hb2 hN
   have HF:Hid (∀ (cs:List UInt8),pW b=cs->L++cs=34::(s.data.toList.take (j+1)).flatMap pW):=hide (by
    intro cs h
    rw [HT.out,HL.out,List.cons_append,h])
   have HCl:Hid (∀ (cs:List UInt8),cs.length<=4->L.length+cs.length<=140737488355328):=hide (by intro cs h;have:=HLn.out;omega)
   by_cases h1:N=34∨N=92
   ·have HQ:Hid (pW b=[92,b]):=hide (ML (by rw [HN.out];exact h1))
    have HCs:Hid (#[.int .u8 92,.int .u8 (N:Int)]=(Lib.byteCells [92,b]).toArray):=hide (by
     rw [<-HN.out];rfl)
    rcases h1 with rfl|rfl
    all_goals
     go_wp2_with (first
      |(at_builtin
        refine lH rfl _ _ rfl Z _ L [92,b] _ HCs.out HO.out rfl rfl (HCl.out _ (by simp)) hZr (by simp) ?_
        intro oa' oc' w' L' HL' HO' HB' HK' HS'
        replace HB':=hide (HB'.out Z w HB.out (Nat.le_refl _))
        clear HK' HS')
      |fail)
     go_roundw
     case rel=>exact ⟨j+1,L',by omega,by simp,hide (by rw [HL'.out];exact HF.out _ HQ.out),HO',HB'⟩
     case measure=>simp [gX];omega
   ·have hq1:¬ (b.toNat=34∨b.toNat=92):=by rw [HN.out];exact h1
    have he1:((N:Int)==34)=false:=beq_false_of_ne (by omega)
    have he2:((N:Int)==92)=false:=beq_false_of_ne (by omega)
    by_cases h2:32<=N/\N<=126
    ·have HQ:Hid (pW b=[b]):=hide (Mi (fun e=>hq1 (.inl e)) (fun e=>hq1 (.inr e)) (by rw [HN.out];exact h2))
     have HCs:Hid (#[.int .u8 (N:Int)]=(Lib.byteCells [b]).toArray):=hide (by
      rw [<-HN.out];rfl)
     clear hq1
     have hl1:decide ((32:Int)<=(N:Int))=true:=decide_eq_true (by omega)
     have hl2:decide ((N:Int)<=126)=true:=decide_eq_true (by omega)
     go_wp2_with (first
      |(at_builtin
        refine lH rfl _ _ rfl Z _ L [b] _ HCs.out HO.out rfl rfl (HCl.out _ (by simp)) hZr (by simp) ?_
        intro oa' oc' w' L' HL' HO' HB' HK' HS'
        replace HB':=hide (HB'.out Z w HB.out (Nat.le_refl _))
        clear HK' HS')
      |fail)
     go_roundw
     case rel=>exact ⟨j+1,L',by omega,by simp,hide (by rw [HL'.out];exact HF.out _ HQ.out),HO',HB'⟩
     case measure=>simp [gX];omega
    ·have HQ:Hid (pW b=[92,UInt8.ofNat (48+N/100),UInt8.ofNat (48+N/10%10),UInt8.ofNat (48+N%10)]):=hide (by rw [<-HN.out];exact MP (by rw [HN.out];exact h2))
     have HCs:Hid (#[.int .u8 92,.int .u8 (48+(N:Int)/100),.int .u8 (48+(N:Int)/10%10),.int .u8 (48+(N:Int)%10)]=(Lib.byteCells [92,UInt8.ofNat (48+N/100),UInt8.ofNat (48+N/10%10),UInt8.ofNat (48+N%10)]).toArray):=hide (by
      simp only [Lib.byteCells,List.map_cons,List.map_nil]
      rw [jE (by omega),jE (by omega),jE (by omega)]
      rfl)
     clear hq1
     go_wp2_with (first
      |(at_builtin
        refine lH rfl _ _ rfl Z _ L [92,UInt8.ofNat (48+N/100),UInt8.ofNat (48+N/10%10),UInt8.ofNat (48+N%10)] _ HCs.out HO.out rfl rfl (HCl.out _ (by simp)) hZr (by simp) ?_
        intro oa' oc' w' L' HL' HO' HB' HK' HS'
        replace HB':=hide (HB'.out Z w HB.out (Nat.le_refl _))
        clear HK' HS')
      |fail)
     all_goals
      go_roundw
      case rel=>exact ⟨j+1,L',by omega,by simp,hide (by rw [HL'.out];exact HF.out _ HQ.out),HO',HB'⟩
      case measure=>simp [gX];omega
  ·obtain rfl:j=s.size:=by omega
   have HFu:Hid (L++[34]=yg s.data.toList):=hide (by
    rw [HL.out,List.take_of_length_le (by simp),yg])
   go_wp2_with (first
    |(at_builtin
      refine lH rfl _ _ rfl Z _ L [34] _ rfl HO.out rfl rfl (by have:=HLn.out;simp only [List.length_cons,List.length_nil];omega) hZr (by simp) ?_
      intro oa' oc' w' L' HL' HO' HB' HK' HS'
      replace HB':=hide (HB'.out Z w HB.out (Nat.le_refl _))
      have HZ1:=HZ
      have hcv:=o9 HO'.out
      clear HK' HS')
    |fail)
   go_ret
   refine ⟨?_,?_⟩
   ·rw [HL'.out,HFu.out];rfl
   ·rw [HZ.out];exact HB'.out
end Go.Proofs.YtjibjahfbblieaaGreatDoor
namespace Go.Proofs.YtjibjahfbblieaaGreatDoor.F
set_option maxHeartbeats 100000
def wV (r:Nat):Nat:=wM r*2^wK r
theorem KC {r q:Nat} (h:r<=q):wK r<=wK q:=by unfold wK;omega
theorem yJ {r q:Nat} (h:r<q):wV r<wV q:=by
 unfold wV
 have hk:=KC (Nat.le_of_lt h)
 have p:∀ x:Nat,0<2^x:=fun x=>Nat.pow_pos (by omega)
 rcases Nat.lt_or_ge (wK r) (wK q) with hlt|hge
 ·have h1:=qP r
  have h2:=MN (r:=q) (by omega)
  have h3:wM r*2^wK r<9007199254740992*2^wK r:=Nat.mul_lt_mul_of_pos_right h1 (p _)
  have h4:4503599627370496*2^wK q<=wM q*2^wK q:=Nat.mul_le_mul_right _ h2
  have h5:9007199254740992*2^wK r=4503599627370496*2^(wK r+1):=by rw [Nat.pow_succ];omega
  have h6:2^(wK r+1)<=2^wK q:=Nat.pow_le_pow_right (by omega) hlt
  have h7:=Nat.mul_le_mul_left 4503599627370496 h6
  omega
 ·have he:wK r=wK q:=Nat.le_antisymm hk hge
  rw [he]
  have h1:=nO r
  have h2:=nO q
  rw [he] at h1
  exact Nat.mul_lt_mul_of_pos_right (by omega) (p _)
theorem O_ {r q:Nat} (h:r<=q):wV r<=wV q:=by
 rcases Nat.lt_or_eq_of_le h with h|h
 ·exact Nat.le_of_lt (yJ h)
 ·rw [h];exact Nat.le_refl _
theorem LW:wV 0=0:=by unfold wV;rw [show wM 0=0 from rfl,Nat.zero_mul]
theorem vP {r:Nat} (h:r≠0):0<wV r:=by
 have:=yJ (r:=0) (q:=r) (by omega)
 rw [LW] at this
 exact this
theorem Co (s:Bool) (a c:Nat):qU s (a*c)=qU s a*(c:Int):=by
 unfold qU
 cases s with
 |false=>simp only [Bool.false_eq_true,if_false];rw [Int.natCast_mul]
 |true=>simp only [if_true];rw [Int.natCast_mul,Int.neg_mul]
theorem FL {a b:Int} {c:Nat} (hc:0<c):compare (a*(c:Int)) (b*(c:Int))=compare a b:=by
 have hc':(0:Int)<c:=by omega
 rcases Int.lt_trichotomy a b with h|h|h
 ·rw [l9 h,l9 (Int.mul_lt_mul_of_pos_right h hc')]
 ·rw [h,nT rfl,nT rfl]
 ·rw [lM h,lM (Int.mul_lt_mul_of_pos_right h hc')]
theorem BM {s t:Bool} {r q:Nat} (hr:r<ak) (hq:q<ak):
 Ieee.double.order (aI s r) (aI t q)=some (compare (qU s (wV r)) (qU t (wV q))):=by
 unfold Ieee.Format.order
 rw [lT hr,lT hq]
 unfold Ieee.Datum.order
 simp only [FI]
 obtain ⟨b,hb⟩:∃ b,b=min (wK r) (wK q):=⟨_,rfl⟩
 have e0:min (wE r) (wE q)=(b:Int)-1074:=by unfold wE;omega
 rw [e0]
 have e1:(wE r-((b:Int)-1074)).toNat=wK r-b:=by unfold wE;omega
 have e2:(wE q-((b:Int)-1074)).toNat=wK q-b:=by unfold wE;omega
 rw [e1,e2]
 have v1:wV r=wM r*2^(wK r-b)*2^b:=by
  unfold wV
  rw [Nat.mul_assoc,<-Nat.pow_add]
  congr 2
  omega
 have v2:wV q=wM q*2^(wK q-b)*2^b:=by
  unfold wV
  rw [Nat.mul_assoc,<-Nat.pow_add]
  congr 2
  omega
 rw [v1,v2,Co s (wM r*2^(wK r-b)),Co t (wM q*2^(wK q-b)),FL (Nat.pow_pos (by omega))]
theorem tq {s t:Bool} {r q:Nat} (hr:r<=ak) (hq:q<=ak):
 Ieee.double.order (aI s r) (aI t q)=some (compare (qU s (wV r)) (qU t (wV q))):=by
 rcases Nat.lt_or_eq_of_le hr with hr1|hr1
 ·rcases Nat.lt_or_eq_of_le hq with hq1|hq1
  ·exact BM hr1 hq1
  ·subst hq1
   have hlt:=yJ hr1
   unfold Ieee.Format.order
   rw [lT hr1,lY]
   generalize wV ak=Y at *
   generalize wV r=X at *
   cases t with
   |false=>
    rw [l9]
    ·rfl
    ·unfold qU;cases s<;>simp<;>omega
   |true=>
    rw [lM]
    ·rfl
    ·unfold qU;cases s<;>simp<;>omega
 ·subst hr1
  rcases Nat.lt_or_eq_of_le hq with hq1|hq1
  ·have hlt:=yJ hq1
   unfold Ieee.Format.order
   rw [lT hq1,lY]
   generalize wV ak=Y at *
   generalize wV q=X at *
   cases s with
   |false=>
    rw [lM]
    ·rfl
    ·unfold qU;cases t<;>simp<;>omega
   |true=>
    rw [l9]
    ·rfl
    ·unfold qU;cases t<;>simp<;>omega
  ·subst hq1
   have hp:=vP (r:=ak) (by decide)
   unfold Ieee.Format.order
   rw [lY,lY]
   generalize wV ak=Y at *
   cases s<;>cases t
   ·rw [nT rfl];rfl
   ·rw [lM]
    ·rfl
    ·unfold qU;simp;omega
   ·rw [l9]
    ·rfl
    ·unfold qU;simp;omega
   ·rw [nT rfl];rfl
end Go.Proofs.YtjibjahfbblieaaGreatDoor.F
namespace Go.Proofs.YtjibjahfbblieaaGreatDoor.F
set_option maxHeartbeats 400000
def l10 (x:Int):Int:=x*78913/262144
def MO (x:Int):Bool:=
 decide (10^(l10 x).toNat*2^(-x).toNat<=2^x.toNat*10^(-(l10 x)).toNat/\2^x.toNat*10^(-(l10 x+1)).toNat<10^(l10 x+1).toNat*2^(-x).toNat)
def KU:Bool:=(List.range 2098).all fun i=>MO ((i:Int)-1074)
set_option maxRecDepth 100000 in
theorem Bz:KU=true:=by decide+kernel
theorem G8 {x:Int} (h1: -1074<=x) (h2:x<=1023):MO x=true:=by
 have:=b_ Bz (i:=(x+1074).toNat) (by omega)
 have e:(((x+1074).toNat:Nat):Int)-1074=x:=by omega
 rw [e] at this
 exact this
def zV (n:Nat) (x:Int):Int:=(n:Int)-1-l10 x
def OX (n:Nat) (x:Int):Int:= -(x-63+dP (zV n x)+3)
def Ev:Bool:=(List.range 17).all fun n=>(List.range 2098).all fun i=>decide (4<=OX (n+1) ((i:Int)-1074)/\OX (n+1) ((i:Int)-1074)<64)
set_option maxRecDepth 100000 in
theorem wS:Ev=true:=by decide+kernel
theorem H8 {n:Nat} {x:Int} (hn1:1<=n) (hn2:n<=17) (h1: -1074<=x) (h2:x<=1023):4<=OX n x/\OX n x<64:=by
 have h:=b_ (b_ wS (i:=n-1) (by omega)) (i:=(x+1074).toNat) (by omega)
 have e:(((x+1074).toNat:Nat):Int)-1074=x:=by omega
 have e2:n-1+1=n:=by omega
 rw [e,e2] at h
 exact of_decide_eq_true h
theorem FZ {n:Nat} {x:Int} (hn1:1<=n) (hn2:n<=17) (h1: -1074<=x) (h2:x<=1023): -348<=zV n x/\zV n x<=347:=by
 unfold zV l10
 omega
def fA (x:Nat) (E p:Int):Nat:=x*10^p.toNat*2^E.toNat
def fB (E p:Int):Nat:=10^(-p).toNat*2^(-E).toNat
theorem wG (E p:Int):0<fB E p:=Nat.mul_pos (Nat.pow_pos (by omega)) (Nat.pow_pos (by omega))
theorem Lu {x y s:Nat} {E p:Int} (hxy:x=2048*y) (hx1:9223372036854775808<=x) (hx2:x<aF) (hp1: -348<=p) (hp2:p<=347) (hs:(s:Int)= -(E+dP p+3)) (hs4:4<=s):
 sM x (rowAt p).1 (rowAt p).2 s=unr (4*fA x E p) (fB E p):=by
 rw [KX hp1 hp2 hxy hx1 hx2 hs4]
 have q:∀ z:Nat,0<2^z:=fun z=>Nat.pow_pos (by omega)
 have hden:0<aS p:=Nat.mul_pos (Nat.pow_pos (by omega)) (q _)
 refine uK (Nat.mul_pos hden (Nat.mul_pos (q s) (by decide))) (wG E p) ?_
 unfold fA fB eO aS
 rw [xU]
 have e:(127-dP p).toNat+(-E).toNat=2+E.toNat+(dP p-127).toNat+s+128:=by omega
 have h4:(4:Nat)=2^2:=rfl
 have e2:2^(127-dP p).toNat*2^(-E).toNat=2^2*2^E.toNat*2^(dP p-127).toNat*2^s*2^128:=by
  rw [<-Nat.pow_add,e,Nat.pow_add,Nat.pow_add,Nat.pow_add,Nat.pow_add]
 rw [h4]
 clear hs hs4 e h4 hden
 generalize 10^p.toNat=a
 generalize 10^(-p).toNat=b
 generalize (2:Nat)^(127-dP p).toNat=c1 at *
 generalize (2:Nat)^(-E).toNat=c2 at *
 generalize (2:Nat)^E.toNat=c3 at *
 generalize (2:Nat)^(dP p-127).toNat=c4 at *
 generalize (2:Nat)^s=c5 at *
 generalize (2:Nat)^128=c6 at *
 generalize (2:Nat)^2=c7 at *
 calc x*(a*c1)*(b*c2)=x*a*b*(c1*c2):=by grind
  _=x*a*b*(c7*c3*c4*c5*c6):=by rw [e2]
  _=_:=by grind
theorem tL {x n:Nat} {E:Int} (hn1:1<=n) (h1: -1074<=E+63) (h2:E+63<=1023) (hx1:9223372036854775808<=x):
 10^(n-1)*fB E (zV n (E+63))<=fA x E (zV n (E+63)):=by
 have hlog:=(of_decide_eq_true (G8 h1 h2)).1
 obtain ⟨k,hk⟩:∃ k,k=l10 (E+63):=⟨_,rfl⟩
 obtain ⟨p,hp⟩:∃ p,p=zV n (E+63):=⟨_,rfl⟩
 have hpk:p=(n:Int)-1-k:=by rw [hp,hk];rfl
 rw [<-hk] at hlog
 rw [<-hp]
 unfold fA fB
 have q:∀ z:Nat,0<2^z:=fun z=>Nat.pow_pos (by omega)
 have t:∀ z:Nat,0<10^z:=fun z=>Nat.pow_pos (by omega)
 have e1:10^(n-1)*10^(-p).toNat*10^(-k).toNat=10^p.toNat*10^k.toNat:=by
  rw [<-Nat.pow_add,<-Nat.pow_add,<-Nat.pow_add];congr 1;omega
 have e2:9223372036854775808*2^E.toNat*2^(-(E+63)).toNat=2^(-E).toNat*2^(E+63).toNat:=by
  have:(9223372036854775808:Nat)=2^63:=rfl
  rw [this,<-Nat.pow_add,<-Nat.pow_add,<-Nat.pow_add];congr 1;omega
 refine Nat.le_of_mul_le_mul_right (c:=10^(-k).toNat*2^(-(E+63)).toNat) ?_ (Nat.mul_pos (t _) (q _))
 clear hk hp hpk
 generalize (10:Nat)^(n-1)=a0 at *
 generalize (10:Nat)^(-p).toNat=a1 at *
 generalize (10:Nat)^p.toNat=a2 at *
 generalize (10:Nat)^(-k).toNat=a3 at *
 generalize (10:Nat)^k.toNat=a4 at *
 generalize (2:Nat)^(-E).toNat=b1 at *
 generalize (2:Nat)^E.toNat=b2 at *
 generalize (2:Nat)^(-(E+63)).toNat=b3 at *
 generalize (2:Nat)^(E+63).toNat=b4 at *
 clear h1 h2
 calc a0*(a1*b1)*(a3*b3)=(a0*a1*a3)*b1*b3:=by grind
  _=a2*b1*(a4*b3):=by rw [e1];grind
  _<=a2*b1*(b4*a3):=Nat.mul_le_mul_left _ hlog
  _=a2*a3*(b1*b4):=by grind
  _=a2*a3*(9223372036854775808*b2*b3):=by rw [e2]
  _=9223372036854775808*(a2*a3*b2*b3):=by grind
  _<=x*(a2*a3*b2*b3):=Nat.mul_le_mul_right _ hx1
  _=x*a2*b2*(a3*b3):=by grind
theorem tF {x n:Nat} {E:Int} (hn1:1<=n) (h1: -1074<=E+63) (h2:E+63<=1023) (hx2:x<aF):
 fA x E (zV n (E+63))<2*10^n*fB E (zV n (E+63)):=by
 have hlog:=(of_decide_eq_true (G8 h1 h2)).2
 obtain ⟨k,hk⟩:∃ k,k=l10 (E+63):=⟨_,rfl⟩
 obtain ⟨p,hp⟩:∃ p,p=zV n (E+63):=⟨_,rfl⟩
 have hpk:p=(n:Int)-1-k:=by rw [hp,hk];rfl
 rw [<-hk] at hlog
 rw [<-hp]
 unfold fA fB
 have q:∀ z:Nat,0<2^z:=fun z=>Nat.pow_pos (by omega)
 have t:∀ z:Nat,0<10^z:=fun z=>Nat.pow_pos (by omega)
 have e1:10^n*10^(-p).toNat*10^(-(k+1)).toNat=10^p.toNat*10^(k+1).toNat:=by
  rw [<-Nat.pow_add,<-Nat.pow_add,<-Nat.pow_add];congr 1;omega
 have e2:9223372036854775808*2^E.toNat*2^(-(E+63)).toNat=2^(-E).toNat*2^(E+63).toNat:=by
  have:(9223372036854775808:Nat)=2^63:=rfl
  rw [this,<-Nat.pow_add,<-Nat.pow_add,<-Nat.pow_add];congr 1;omega
 have c1:=t p.toNat
 have c2:=q (-E).toNat
 have c3:=t (-(k+1)).toNat
 have c4:=q (-(E+63)).toNat
 have c5:=q E.toNat
 refine Nat.lt_of_mul_lt_mul_right (a:=10^(-(k+1)).toNat*2^(-(E+63)).toNat) ?_
 clear hk hp hpk
 generalize (10:Nat)^n=a0 at *
 generalize (10:Nat)^(-p).toNat=a1 at *
 generalize (10:Nat)^p.toNat=a2 at *
 generalize (10:Nat)^(-(k+1)).toNat=a3 at *
 generalize (10:Nat)^(k+1).toNat=a4 at *
 generalize (2:Nat)^(-E).toNat=b1 at *
 generalize (2:Nat)^E.toNat=b2 at *
 generalize (2:Nat)^(-(E+63)).toNat=b3 at *
 generalize (2:Nat)^(E+63).toNat=b4 at *
 clear h1 h2
 calc x*a2*b2*(a3*b3)=x*(a2*a3*b2*b3):=by grind
  _<aF*(a2*a3*b2*b3):=Nat.mul_lt_mul_of_pos_right hx2 (Nat.mul_pos (Nat.mul_pos (Nat.mul_pos c1 c3) c5) c4)
  _=2*(a2*a3*(9223372036854775808*b2*b3)):=by rw [show aF=2*9223372036854775808 from rfl];grind
  _=2*(a2*b1*(b4*a3)):=by rw [e2];grind
  _<=2*(a2*b1*(a4*b3)):=Nat.mul_le_mul_left _ (Nat.mul_le_mul_left _ (Nat.le_of_lt hlog))
  _=2*b1*b3*(a2*a4):=by grind
  _=2*b1*b3*(a0*a1*a3):=by rw [e1]
  _=2*a0*(a1*b1)*(a3*b3):=by grind
theorem ET {X B:Nat} (hB:0<B):(unr X B/10|||unr X B%2)|||(if unr X B%10≠0 then 1 else 0)=unr X (10*B):=by
 have hq:X/(10*B)=X/B/10:=by rw [Nat.mul_comm,Nat.div_div_eq_div_mul]
 have hm:X%(10*B)=0↔(X/B%10=0/\X%B=0):=by
  have d1:=Nat.div_add_mod X B
  have d2:=Nat.div_add_mod (X/B) 10
  have m1:=Nat.mod_lt X hB
  constructor
  ·intro h
   obtain ⟨z,hz⟩:=Nat.dvd_of_mod_eq_zero h
   have:X=B*(10*z):=by rw [hz];grind
   rw [this,Nat.mul_div_cancel_left _ hB]
   exact ⟨Nat.mul_mod_right _ _,Nat.mul_mod_right _ _⟩
  ·rintro ⟨h1,h2⟩
   rw [h1,Nat.add_zero] at d2
   rw [h2,Nat.add_zero] at d1
   rw [<-d1,<-d2]
   have:B*(10*(X/B/10))=10*B*(X/B/10):=by grind
   rw [this]
   exact Nat.mul_mod_right _ _
 rw [iy X (10*B),hq]
 rw [iy X B]
 generalize X/B=z at *
 have or1:∀ n:Nat,n|||1=n/2*2+1:=or_one
 by_cases hx:X%B=0
 ·rw [if_pos hx]
  by_cases hz:z%10=0
  ·rw [if_pos (hm.2 ⟨hz,hx⟩),if_neg (by omega)]
   have:z%2=0:=by omega
   rw [this,Nat.or_zero,Nat.or_zero]
  ·rw [if_neg (fun h=>hz (hm.1 h).1),if_pos hz]
   rcases Nat.mod_two_eq_zero_or_one z with h2|h2
   ·rw [h2,Nat.or_zero,or1]
   ·rw [h2,or1,or1]
    omega
 ·rw [if_neg hx,if_neg (fun h=>hx (hm.1 h).2)]
  have h2:(z/2*2+1)%2=1:=by omega
  have h10:(z/2*2+1)%10≠0:=by omega
  have hd:(z/2*2+1)/10=z/10:=by omega
  rw [h2,if_pos h10,hd,or1,or1]
  omega
end Go.Proofs.YtjibjahfbblieaaGreatDoor.F
namespace Go.Proofs.YtjibjahfbblieaaGreatDoor.F
open Go Go.RowKit
set_option linter.unusedVariables false
theorem mM (x:Int) (w:World) (h1: -2000<=x) (h2:x<=2000):
 Calls Tryz.prog 157 #[.int .i64 x] w fun e w'=>e=.returned (.int .i64 (l10 x))/\w'=w:=by
 go_enter Tryz.func157,Tryz.ntmps157
 go_wp2
 go_ret
 exact ⟨rfl,rfl⟩
theorem uy (x:Nat) (w:World) (h1:1<=x) (h2:x<=1000000000000000000):
 Calls Tryz.prog 235 #[.int .u64 x] w fun e w'=>e=.returned (.int .u64 ((4*x-2:Nat):Int))/\w'=w:=by
 have e:((4*x-2:Nat):Int)=(x:Int)*4-2:=by omega
 rw [e]
 go_enter Tryz.func235,Tryz.ntmps235
 go_wp2
 go_ret
 exact ⟨rfl,rfl⟩
def tenth (u:Nat):Nat:=(u/10|||u%2)|||(if u%10≠0 then 1 else 0)
theorem qZ (b:Bool) (w:World):
 Calls Tryz.prog 256 #[.bool b] w fun e w'=>e=.returned (.int .u64 (if b=true then 1 else 0))/\w'=w:=by
 cases b
 all_goals go_enter Tryz.func256,Tryz.ntmps256
 all_goals go_wp2
 all_goals go_ret
 all_goals exact ⟨rfl,rfl⟩
theorem tC {u b:Nat} (h:u<9223372036854775808) (hb:b<=1):bits .or .u64 (bits .or .u64 ((u:Int)/10) (bits .and .u64 (u:Int) 1)) (b:Int)=(((u/10|||u%2)|||b:Nat):Int):=by
 have e1:bits .and .u64 (u:Int) 1=((u%2:Nat):Int):=by
  have:=u64_and_nat u 1 (by omega) (by omega)
  rw [Nat.and_one_is_mod] at this
  exact this
 have e2:(u:Int)/10=((u/10:Nat):Int):=by omega
 have h3:(u/10|||u%2)<2^63:=Nat.or_lt_two_pow (by omega) (by omega)
 rw [e1,e2,or_val (by omega) (by omega),or_val (by omega) (by omega)]
set_option maxHeartbeats 800000 in
set_option maxRecDepth 100000 in
theorem Kg (u:Nat) (w:World) (h:u<9223372036854775808):
 Calls Tryz.prog 236 #[.int .u64 u,.int .u64 10] w fun e w'=>e=.returned (.int .u64 (tenth u))/\∃ n,w'=w.drewN n:=by
 by_cases h10:(u:Int)%10=0
 ·have HV:Hid (bits .or .u64 (bits .or .u64 ((u:Int)/10) (bits .and .u64 (u:Int) 1)) 0=(tenth u:Int)):=hide (by
   have:=tC (b:=0) h (by omega)
   unfold tenth
   rw [if_neg (by omega)]
   exact this)
  go_enter Tryz.func236,Tryz.ntmps236
  go_wp2_with fail
  go_quiet ((go_at_call 256;exact Calls.quiet_of_same (qZ _ _)))
  go_wp2
  all_goals go_ret
  all_goals exact ⟨dD HV.out,_,rfl⟩
 ·have HV:Hid (bits .or .u64 (bits .or .u64 ((u:Int)/10) (bits .and .u64 (u:Int) 1)) 1=(tenth u:Int)):=hide (by
   have:=tC (b:=1) h (by omega)
   unfold tenth
   rw [if_pos (by omega)]
   exact this)
  go_enter Tryz.func236,Tryz.ntmps236
  go_wp2_with fail
  go_quiet ((go_at_call 256;exact Calls.quiet_of_same (qZ _ _)))
  go_wp2
  all_goals go_ret
  all_goals exact ⟨dD HV.out,_,rfl⟩
set_option maxHeartbeats 1600000 in
set_option maxRecDepth 100000 in
theorem Pj (x n i hi lo s u Z:Nat) (E prec p lp:Int) (w:World) (hE1: -1200<=E) (hE2:E<=1000) (hn1:1<=n) (hn2:n<=17) (hp:Hid (p=(n:Int)-1-l10 (E+63))) (hp1: -348<=p) (hp2:p<=347) (hlp:Hid (lp=dP p)) (hl1: -1200<=lp) (hl2:lp<=1200)
 (hpi:Hid (p+348=(i:Int))) (hi696:i<696) (hg:14<w.heap.size) (t0:w.cell? ⟨14,i*2,none⟩=some (.int .u64 hi)) (t1:w.cell? ⟨14,i*2+1,none⟩=some (.int .u64 lo)) (t2:w.cell? ⟨3,n,none⟩=some (.int .u64 Z)) (hZ1:1<=Z) (hZ2:Z<=1000000000000000000)
 (hs:Hid ((s:Int)= -(E+lp+3))) (hs64:s<64) (hx2:x<18446744073709551616) (hhi:hi<18446744073709551616) (hlo:lo<18446744073709551616) (hpos:Hid (0<x*hi/aF)) (hu:Hid (u=sM x hi lo s)) (hu63:u<9223372036854775808)
 (hge:4*Z-2<=u):
 Calls Tryz.prog 213 #[.int .u64 x,.int .i64 E,.int .i64 n,.int .i64 prec,.int .u8 101] w fun r w'=>
  r=.returned (.tuple #[.int .u64 (fu (tenth u):Nat),.int .i64 (-(p-1))])/\Below w.heap.size w w':=by
 have hl: -400<=l10 (E+63)/\l10 (E+63)<=400:=by unfold l10;omega
 obtain ⟨hl3,hl4⟩:=hl
 have hpk:(n:Int)-1-l10 (E+63)=p:=hp.out.symm
 clear hp
 have HL:=hide (fun w=>mM (E+63) w (by omega) (by omega))
 generalize l10 (E+63)=k at *
 have HLP:=hide (fun w=>iA p w (by omega) (by omega))
 rw [<-hlp.out] at HLP
 have HU:=hide (fun w=>uy Z w hZ1 hZ2)
 go_enter Tryz.func213,Tryz.ntmps213
 go_wp2_with fail
 refine (HL.out _).mono ?_
 rintro r w1 ⟨rfl,rfl⟩
 go_wp2_with fail
 refine (HLP.out _).mono ?_
 rintro r w1 ⟨rfl,rfl⟩
 go_wp2_with fail
 refine (iQ i hi lo _ E lp p _ hpi.out hi696 (by omega) (by omega) (by omega) (by omega) hg (by simp) (by simp) (by simp) (dV (by omega) t0) (dV (by omega) t1) (by simp) (by simp) (by simp)).mono ?_
 rintro r w2 ⟨rfl,rfl⟩
 have hss: -(E+lp+3)=(s:Int):=by have:=hs.out;omega
 rw [hss]
 clear hss
 go_wp2_with fail
 refine (mR x hi lo s _ _ hx2 hhi hlo hs64 hpos.out (by simp) (by simp) (by simp)).mono ?_
 rintro r w2 ⟨rfl,m,hw2⟩
 have hb:Below w1.heap.size w1 w2:=by
  rw [hw2]
  exact bF ((Below.refl _ _).alloc (Nat.le_refl _) _) _
 have hc:w2.cell? ⟨3,n,none⟩=some (.int .u64 Z):=(hb.cell (p:=⟨3,n,none⟩) (show 3<w1.heap.size by omega)).trans t2
 have HB:=hide hb
 clear hw2 hb
 rw [<-hu.out]
 have hge2:((4*Z-2:Nat):Int)<=(u:Int):=by omega
 have HD:=hide (fun w=>Kg u w hu63)
 have ht63:tenth u<9223372036854775808:=by
  have e:tenth u<2^63:=by
   unfold tenth
   refine Nat.or_lt_two_pow (Nat.or_lt_two_pow (by omega) (by omega)) ?_
   split<;>omega
  exact e
 have HRd:=hide (fun w=>lU (tenth u) w ht63)
 go_wp2_with fail
 refine (HU.out _).mono ?_
 rintro r w' ⟨rfl,rfl⟩
 go_wp2_with fail
 refine (HD.out _).mono ?_
 rintro r w3 ⟨rfl,m2,rfl⟩
 go_wp2_with fail
 refine (HRd.out _).mono ?_
 rintro r w4 ⟨rfl,rfl⟩
 go_wp2
 all_goals go_ret2
 all_goals exact ⟨rfl,bF HB.out _⟩
set_option maxHeartbeats 1600000 in
set_option maxRecDepth 100000 in
theorem Pg (x n i hi lo s u Z:Nat) (E prec p lp:Int) (w:World) (hE1: -1200<=E) (hE2:E<=1000) (hn1:1<=n) (hn2:n<=17) (hp:Hid (p=(n:Int)-1-l10 (E+63))) (hp1: -348<=p) (hp2:p<=347) (hlp:Hid (lp=dP p)) (hl1: -1200<=lp) (hl2:lp<=1200)
 (hpi:Hid (p+348=(i:Int))) (hi696:i<696) (hg:14<w.heap.size) (t0:w.cell? ⟨14,i*2,none⟩=some (.int .u64 hi)) (t1:w.cell? ⟨14,i*2+1,none⟩=some (.int .u64 lo)) (t2:w.cell? ⟨3,n,none⟩=some (.int .u64 Z)) (hZ1:1<=Z) (hZ2:Z<=1000000000000000000)
 (hs:Hid ((s:Int)= -(E+lp+3))) (hs64:s<64) (hx2:x<18446744073709551616) (hhi:hi<18446744073709551616) (hlo:lo<18446744073709551616) (hpos:Hid (0<x*hi/aF)) (hu:Hid (u=sM x hi lo s)) (hu63:u<9223372036854775808)
 (hge:¬ 4*Z-2<=u):
 Calls Tryz.prog 213 #[.int .u64 x,.int .i64 E,.int .i64 n,.int .i64 prec,.int .u8 101] w fun r w'=>
  r=.returned (.tuple #[.int .u64 (fu u:Nat),.int .i64 (-p)])/\Below w.heap.size w w':=by
 have hl: -400<=l10 (E+63)/\l10 (E+63)<=400:=by unfold l10;omega
 obtain ⟨hl3,hl4⟩:=hl
 have hpk:(n:Int)-1-l10 (E+63)=p:=hp.out.symm
 clear hp
 have HL:=hide (fun w=>mM (E+63) w (by omega) (by omega))
 generalize l10 (E+63)=k at *
 have HLP:=hide (fun w=>iA p w (by omega) (by omega))
 rw [<-hlp.out] at HLP
 have HU:=hide (fun w=>uy Z w hZ1 hZ2)
 go_enter Tryz.func213,Tryz.ntmps213
 go_wp2_with fail
 refine (HL.out _).mono ?_
 rintro r w1 ⟨rfl,rfl⟩
 go_wp2_with fail
 refine (HLP.out _).mono ?_
 rintro r w1 ⟨rfl,rfl⟩
 go_wp2_with fail
 refine (iQ i hi lo _ E lp p _ hpi.out hi696 (by omega) (by omega) (by omega) (by omega) hg (by simp) (by simp) (by simp) (dV (by omega) t0) (dV (by omega) t1) (by simp) (by simp) (by simp)).mono ?_
 rintro r w2 ⟨rfl,rfl⟩
 have hss: -(E+lp+3)=(s:Int):=by have:=hs.out;omega
 rw [hss]
 clear hss
 go_wp2_with fail
 refine (mR x hi lo s _ _ hx2 hhi hlo hs64 hpos.out (by simp) (by simp) (by simp)).mono ?_
 rintro r w2 ⟨rfl,m,hw2⟩
 have hb:Below w1.heap.size w1 w2:=by
  rw [hw2]
  exact bF ((Below.refl _ _).alloc (Nat.le_refl _) _) _
 have hc:w2.cell? ⟨3,n,none⟩=some (.int .u64 Z):=(hb.cell (p:=⟨3,n,none⟩) (show 3<w1.heap.size by omega)).trans t2
 have HB:=hide hb
 clear hw2 hb
 rw [<-hu.out]
 have hge2:¬ ((4*Z-2:Nat):Int)<=(u:Int):=by omega
 have HRd:=hide (fun w=>lU u w hu63)
 go_wp2_with fail
 refine (HU.out _).mono ?_
 rintro r w' ⟨rfl,rfl⟩
 go_wp2_with fail
 refine (HRd.out _).mono ?_
 rintro r w4 ⟨rfl,rfl⟩
 go_wp2
 all_goals go_ret2
 all_goals exact ⟨rfl,HB.out⟩
structure FixW (x n:Nat) (E:Int) (d:Nat) (q:Int):Prop where
 lo:10^(n-1)<=d
 hi:d<10^n
 val:(q=zV n (E+63)/\d=rq (fA x E q) (fB E q))∨(q=zV n (E+63)-1/\d=rq (fA x E (q+1)) (10*fB E (q+1))/\10^n<=rq (fA x E (q+1)) (fB E (q+1)))
theorem CP {u Z:Nat} (hZ:Z%2=0) (hZ1:1<=Z):4*Z-2<=u↔Z<=fu u:=by
 unfold fu
 constructor
 ·intro h
  rw [Nat.le_div_iff_mul_le (by omega)]
  by_cases h2:4*Z<=u
  ·omega
  ·have h3:u/4=Z-1:=by omega
   rw [h3]
   omega
 ·intro h
  rw [Nat.le_div_iff_mul_le (by omega)] at h
  refine Classical.byContradiction fun hn=>?_
  have h4:u/4%2<=1:=by omega
  omega
end Go.Proofs.YtjibjahfbblieaaGreatDoor.F
namespace Go.Proofs.YtjibjahfbblieaaGreatDoor.F
open Go Go.RowKit
set_option linter.unusedVariables false
theorem qA {A B k:Nat} (hB:0<B) (h:k<=rq A B):(2*k)*B<=2*A+B:=by
 have hd:=Nat.div_add_mod A B
 have hm:=Nat.mod_lt A hB
 unfold rq at h
 split at h
 ·rename_i hc
  have h1:k<=A/B+1:=h
  have h2:B<=2*(A%B):=by omega
  have h3:(2*k)*B<=(2*(A/B+1))*B:=Nat.mul_le_mul_right _ (by omega)
  have h4:(2*(A/B+1))*B=2*(B*(A/B))+2*B:=by grind
  omega
 ·have h3:(2*k)*B<=(2*(A/B))*B:=Nat.mul_le_mul_right _ (by omega)
  have h4:(2*(A/B))*B=2*(B*(A/B)):=by grind
  omega
theorem Gi {A B k:Nat} (hB:0<B) (hk:1<=k) (h:10*k<=rq A B):k<=rq A (10*B):=by
 have h1:=qA hB h
 by_cases hA:10*B*k<=A
 ·exact pq (Nat.mul_pos (by omega) hB) hA
 ·have hlt:A<10*B*k:=by omega
  have e1:2*(10*k)*B=2*(10*B*k):=by grind
  rw [e1] at h1
  obtain ⟨j,rfl⟩:∃ j,k=j+1:=⟨k-1,by omega⟩
  have e2:10*B*(j+1)=10*B*j+10*B:=by rw [Nat.mul_add,Nat.mul_one]
  rw [e2] at h1 hlt
  have hq:A/(10*B)=j:=by
   refine Nat.div_eq_of_lt_le ?_ ?_
   ·rw [Nat.mul_comm];omega
   ·rw [Nat.mul_comm,e2];exact hlt
  have hr:A%(10*B)=A-10*B*j:=by
   have:=Nat.div_add_mod A (10*B)
   rw [hq] at this
   omega
  unfold rq
  rw [hq,hr,if_pos (by left;omega)]
  exact Nat.le_refl _
theorem vL {n:Nat} (h:n<=17):10^n<=100000000000000000:=Nat.pow_le_pow_right (by omega) h
theorem Ey (x y n:Nat) (E prec:Int) (w:World) (hxy:x=2048*y) (hx1:9223372036854775808<=x) (hx2:x<18446744073709551616) (h1: -1074<=E+63) (h2:E+63<=1023) (hn1:1<=n) (hn2:n<=17) (hg:14<w.heap.size)
 (hrow:∀ i,i<696->w.cell? ⟨14,i*2,none⟩=some (.int .u64 ((Go.Pinned.pow10Rows.getD i (0,0)).1:Nat))/\w.cell? ⟨14,i*2+1,none⟩=some (.int .u64 ((Go.Pinned.pow10Rows.getD i (0,0)).2:Nat)))
 (hten:w.cell? ⟨3,n,none⟩=some (.int .u64 ((10^n:Nat):Int))):
 Calls Tryz.prog 213 #[.int .u64 x,.int .i64 E,.int .i64 n,.int .i64 prec,.int .u8 101] w fun r w'=>∃ (d:Nat) (q:Int),r=.returned (.tuple #[.int .u64 d,.int .i64 (-q)])/\FixW x n E d q/\Below w.heap.size w w':=by
 obtain ⟨p,hp⟩:∃ p,p=zV n (E+63):=⟨_,rfl⟩
 have hpr:=FZ hn1 hn2 h1 h2
 have hsr:=H8 hn1 hn2 h1 h2
 rw [<-hp] at hpr
 have hsp:OX n (E+63)= -(E+dP p+3):=by unfold OX;rw [<-hp];omega
 rw [hsp] at hsr
 obtain ⟨s,hs⟩:∃ s:Nat,(s:Int)= -(E+dP p+3):=⟨(-(E+dP p+3)).toNat,by omega⟩
 have hrw:=of_decide_eq_true (wR (p:=p) hpr.1 hpr.2)
 obtain ⟨r1,r2,_,_,_⟩:=hrw
 have hhi:=wh (p:=p) hpr.1 hpr.2
 have hu:=Lu (s:=s) (E:=E) (p:=p) hxy hx1 hx2 hpr.1 hpr.2 hs (by omega)
 have hlow:=tL (n:=n) (E:=E) hn1 h1 h2 hx1
 have hupp:=tF (n:=n) (E:=E) hn1 h1 h2 hx2
 rw [<-hp] at hlow hupp
 have hB:=wG E p
 have h10:=vL hn2
 have h10p:0<10^n:=Nat.pow_pos (by omega)
 have hn10:10^n=10*10^(n-1):=by
  obtain ⟨j,rfl⟩:∃ j,n=j+1:=⟨n-1,by omega⟩
  rw [Nat.pow_succ,Nat.add_sub_cancel];omega
 have hev:10^n%2=0:=by rw [hn10];omega
 have hpos:0<x*(rowAt p).1/aF:=by
  rw [Nat.div_pos_iff]
  refine ⟨by rw [e64];omega,?_⟩
  have:9223372036854775808*9223372036854775808<=x*(rowAt p).1:=Nat.mul_le_mul hx1 hhi
  rw [e64];omega
 have hul:sM x (rowAt p).1 (rowAt p).2 s<9223372036854775808:=by
  rw [hu]
  have h3:=Ic (4*fA x E p) (fB E p)
  have h4:4*fA x E p/fB E p<8*10^n:=by
   rw [Nat.div_lt_iff_lt_mul hB]
   have:8*10^n*fB E p=4*(2*10^n*fB E p):=by grind
   omega
  omega
 have t01:=hrow (p+348).toNat (by omega)
 have hlb: -1200<=dP p/\dP p<=1200:=by unfold dP;omega
 have hrnd:=kP (N:=fA x E p) hB
 by_cases hge:4*10^n-2<=sM x (rowAt p).1 (rowAt p).2 s
 ·refine (Pj x n (p+348).toNat (rowAt p).1 (rowAt p).2 s _ (10^n) E prec p (dP p) w (by omega) (by omega) hn1 hn2 (hide hp) hpr.1 hpr.2 (hide rfl) hlb.1 hlb.2 (hide (by omega)) (by omega) hg t01.1 t01.2 hten h10p (by omega) (hide hs) (by omega) hx2 r1 r2 (hide hpos) (hide rfl) hul hge).mono ?_
  rintro r w' ⟨rfl,hb⟩
  refine ⟨_,p-1,rfl,?_,hb⟩
  have hten2:tenth (sM x (rowAt p).1 (rowAt p).2 s)=unr (4*fA x E p) (10*fB E p):=by
   rw [hu]
   exact ET hB
  have hB10:0<10*fB E p:=Nat.mul_pos (by omega) hB
  have hd:fu (tenth (sM x (rowAt p).1 (rowAt p).2 s))=rq (fA x E p) (10*fB E p):=by rw [hten2,kP hB10]
  rw [hd]
  have hbig:10^n<=rq (fA x E p) (fB E p):=by
   rw [<-hrnd,<-hu]
   exact (CP hev h10p).1 hge
  have hp1:p-1+1=p:=by omega
  refine ⟨?_,?_,.inr ⟨by rw [hp],by rw [hp1],by rw [hp1];exact hbig⟩⟩
  ·refine Gi hB (Nat.pow_pos (by omega)) ?_
   rw [<-hn10]
   exact hbig
  ·have:rq (fA x E p) (10*fB E p)<=2*10^(n-1):=by
    refine nE hB10 ?_
    have:10*fB E p*(2*10^(n-1))=2*(10*10^(n-1))*fB E p:=by grind
    rw [this,<-hn10]
    exact Nat.le_of_lt hupp
   have h1p:0<10^(n-1):=Nat.pow_pos (by omega)
   omega
 ·refine (Pg x n (p+348).toNat (rowAt p).1 (rowAt p).2 s _ (10^n) E prec p (dP p) w (by omega) (by omega) hn1 hn2 (hide hp) hpr.1 hpr.2 (hide rfl) hlb.1 hlb.2 (hide (by omega)) (by omega) hg t01.1 t01.2 hten h10p (by omega) (hide hs) (by omega) hx2 r1 r2 (hide hpos) (hide rfl) hul hge).mono ?_
  rintro r w' ⟨rfl,hb⟩
  refine ⟨_,p,rfl,?_,hb⟩
  have hsm:¬ 10^n<=fu (sM x (rowAt p).1 (rowAt p).2 s):=fun h=>hge ((CP hev h10p).2 h)
  rw [hu,hrnd] at hsm ⊢
  refine ⟨pq hB (by rw [Nat.mul_comm];exact hlow),by omega,.inl ⟨hp,rfl⟩⟩
end Go.Proofs.YtjibjahfbblieaaGreatDoor.F
namespace Go.Proofs.YtjibjahfbblieaaGreatDoor.F
open Go Go.RowKit
set_option linter.unusedVariables false
def g_ (d n j:Nat):Int:=((Lib.dg d (n-1-j)).toNat:Int)
theorem iB (d n j:Nat):g_ d n j=48+((d/10^(n-1-j)%10:Nat):Int):=by
 unfold g_ Lib.dg
 rw [UInt8.toNat_ofNat']
 omega
theorem gT (d n j:Nat):48<=g_ d n j/\g_ d n j<=57:=by rw [iB];omega
structure SetD (w w':World) (g d n nz:Nat):Prop where
 dig:∀ j,j<n->w'.cell? ⟨g,j,none⟩=some (.int .u8 (g_ d n j))
 le:nz<=n
 tail:∀ j,nz<=j->j<n->g_ d n j=48
 last:nz=0∨g_ d n (nz-1)≠48
 bel:Below g w w'
theorem D_ {w:World} {g m:Nat} {d:Array UInt8}:Below g w ((Sort.putRow (fun (b:UInt8)=>Value.int .u8 (b.toNat:Int)) w g 0 d).drewN m):=by
 refine bF (B:=g) (a:=w) (w:=Sort.putRow (fun (b:UInt8)=>Value.int .u8 (b.toNat:Int)) w g 0 d) ⟨rfl,rfl,rfl,Nat.le_of_eq (Sort.size_putRow _ _ _ _ _).symm,fun k hk=>?_⟩ m
 unfold Sort.putRow Sort.mapBlock
 rw [Array.getElem?_modify,if_neg (by omega)]
set_option maxHeartbeats 1600000 in
set_option maxRecDepth 100000 in
theorem mI (g d n:Nat) (P:Int) (w:World) (hg:g<w.heap.size) (hn1:1<=n) (hn2:n<=17) (hd:d<10^n) (hP1: -1000<=P) (hP2:P<=1000)
 (hc:∀ j,j<24->w.cell? ⟨g,j,none⟩=some (.int .u8 0)/\w.frozen? ⟨g,j,none⟩=false):
 Calls Tryz.prog 212 #[.slice (some ⟨g,0,none⟩) 24 24,.int .u64 d,.int .i64 P,.int .i64 n] w fun r w'=>∃ nz:Nat,r=.returned (.tuple #[.int .i64 (n+P),.int .i64 nz])/\SetD w w' g d n nz:=by
 have h18:=vL hn2
 have HHo:Hid (Sort.Holds (fun (b:UInt8)=>Value.int .u8 (b.toNat:Int)) w g 0 (Array.replicate n 0)):=hide (fun j hj=>by
  rw [Array.size_replicate] at hj
  have:=hc j (by omega)
  rw [Nat.zero_add]
  refine ⟨?_,this.2⟩
  rw [this.1,getElem!_pos _ j (by rw [Array.size_replicate];exact hj),Array.getElem_replicate]
  rfl)
 have HF:=Tryz.internal_strconv_formatBase10 g 0 24 d (Array.replicate n 0) w HHo.out (by rw [Array.size_replicate];exact hd) (by omega) (by rw [Array.size_replicate];omega)
 rw [Array.size_replicate] at HF
 have HH:=hide HF
 clear HF
 go_enter Tryz.func212,Tryz.ntmps212
 go_wp2_with fail
 refine HH.out.mono ?_
 rintro e w1 ⟨rfl,m,v',dk,hw1,hfm⟩
 have hcell:∀ j,j<n->w1.cell? ⟨g,j,none⟩=some (.int .u8 (g_ d n j)):=by
  intro j hj
  rw [hw1]
  have h1:=Sort.cell?_putRow (fun (b:UInt8)=>Value.int .u8 (b.toNat:Int)) w g 0 (Array.replicate n 0) dk HHo.out (by rw [hfm.size,Array.size_replicate]) j (by rw [hfm.size];exact hj)
  rw [Nat.zero_add,hfm.done j (Nat.zero_le _) hj] at h1
  exact h1
 have hb1:Below g w w1:=by rw [hw1];exact D_
 have hsz:w1.heap.size=w.heap.size:=by rw [hw1];simp
 clear hw1
 have Hc:=hide hcell
 have HB:=hide hb1
 clear hcell hb1 hc
 go_wp2_with fail
 go_loop [3] (fun nv=>∃ k:Nat,nv=.int .i64 k/\k<=n/\Hid (∀ j,k<=j->j<n->g_ d n j=48)) (fun nv=>(intOf nv).toNat)
 case atStart=>exact ⟨n,rfl,Nat.le_refl _,hide (fun j h1 h2=>by omega)⟩
 case round=>
  obtain ⟨k,rfl,hk,Ht⟩:=hrel
  by_cases h0:0<k
  ·have hck:=Hc.out (k-1) (by omega)
   have hr:=gT d n (k-1)
   by_cases h48:g_ d n (k-1)=48
   ·have Hn:Hid (∀ j,k-1<=j->j<n->g_ d n j=48):=hide (fun j h1 h2=>by
     by_cases e:j=k-1
     ·rw [e];exact h48
     ·exact Ht.out j (by omega) h2)
    rw [h48] at hck
    clear h48 hr Ht
    go_wp2
    go_round
    case rel=>exact ⟨k-1,by go_num,by omega,Hn⟩
    case measure=>simp [intOf];omega
   ·have hne:(g_ d n (k-1)==48)=false:=by rw [beq_eq_false_iff_ne];exact h48
    have Hl:=hide h48
    clear h48
    go_wp2
    go_ret2
    exact ⟨k,rfl,Hc.out,hk,Ht.out,.inr Hl.out,HB.out⟩
  ·have hk0:k=0:=by omega
   subst hk0
   go_wp2
   go_ret2
   exact ⟨0,rfl,Hc.out,hk,Ht.out,.inl rfl,HB.out⟩
end Go.Proofs.YtjibjahfbblieaaGreatDoor.F
namespace Go.Proofs.YtjibjahfbblieaaGreatDoor.F
open Go
set_option linter.unusedVariables false
theorem yu {c:UInt8}:∀ {a:List UInt8},c ∉ a->Lib.index a [c]= -1
 | [],_=>rfl
 |b::l,h=>by
  have hb:c≠b:=fun e=>h (by simp [e])
  have ih:=yu (a:=l) (c:=c) (fun e=>h (by simp [e]))
  unfold Lib.index
  have:([c]:List UInt8).isPrefixOf (b::l)=false:=by simp [List.isPrefixOf,hb]
  rw [this,ih]
  rfl
theorem index_one {c:UInt8} {b:List UInt8}:∀ {a:List UInt8},c ∉ a->Lib.index (a++c::b) [c]=(a.length:Int)
 | [],_=>by
   show Lib.index (c::b) [c]=_
   unfold Lib.index
   rw [if_pos (by simp [List.isPrefixOf])]
   rfl
 |x::l,h=>by
  have hb:c≠x:=fun e=>h (by simp [e])
  have ih:=index_one (b:=b) (a:=l) (c:=c) (fun e=>h (by simp [e]))
  show Lib.index (x::(l++c::b)) [c]=_
  unfold Lib.index
  have h1:([c]:List UInt8).isPrefixOf (x::(l++c::b))=false:=by simp [List.isPrefixOf,hb]
  rw [h1,ih]
  have:(((l.length:Nat):Int)== -1)=false:=by rw [beq_eq_false_iff_ne];omega
  simp [this]
theorem KT {c:UInt8} {a b:List UInt8} (h:c ∉ a):Lib.cut (a++c::b) [c]=(a,b,true):=by
 unfold Lib.cut
 rw [index_one h,if_pos (by omega)]
 simp
theorem xS {c:UInt8} {a b:List UInt8} (h:c ∉ a):Lib.replace (a++c::b) [c] [] 1=a++b:=by
 unfold Lib.replace
 have hne:(([c]:List UInt8)==[])=false:=rfl
 have hc:1<=Lib.count (a++c::b) [c]:=by
  unfold Lib.count Lib.countFrom
  rw [index_one h]
  have:(((a.length:Nat):Int)== -1)=false:=by rw [beq_eq_false_iff_ne];omega
  rw [this]
  simp
 have hn:Lib.replaceNum (a++c::b) [c] 1=1:=by
  unfold Lib.replaceNum
  rw [if_neg (by omega)]
  rfl
 rw [hne,hn,Lib.replaceK_hit _ _ 0 _ _ (index_one h)]
 simp [Lib.replaceK]
theorem AO {c:UInt8} {a:List UInt8} (h:c ∉ a):Lib.replace a [c] [] 1=a:=by
 unfold Lib.replace
 have hne:(([c]:List UInt8)==[])=false:=rfl
 have hc:Lib.count a [c]=0:=Lib.count_miss (yu h)
 have hn:Lib.replaceNum a [c] 1=0:=by
  unfold Lib.replaceNum
  rw [hc,if_pos (by omega)]
 rw [hne,hn]
 rfl
end Go.Proofs.YtjibjahfbblieaaGreatDoor.F
namespace Go.Proofs.YtjibjahfbblieaaGreatDoor
open Go Go.RowKit
set_option linter.unusedVariables false
def jS (w:World) (T g N:Nat) (f:Nat->Value):Prop:=∃ cur:Array Value,w.heap[g]?=some (.cells cur T (0,0))/\cur.size=N/\∀ j,j<N->cur[j]?=some (f j)
theorem jS.f {w:World} {T g N:Nat} {f:Nat->Value} (h:jS w T g N f):ah w T g N f:=by
 obtain ⟨cur,h1,h2,h3⟩:=h
 exact ⟨cur,h1,by omega,h3⟩
theorem jS.shape {w:World} {T g N:Nat} {f:Nat->Value} (h:jS w T g N f):w.shape? g=some (T,N):=by
 obtain ⟨cur,h1,h2,h3⟩:=h
 simp [World.shape?,h1,h2]
theorem jS.same {w w':World} {T g N:Nat} {f:Nat->Value} (h:jS w T g N f) (e:w'.heap[g]?=w.heap[g]?):jS w' T g N f:=by
 obtain ⟨cur,h1,h2,h3⟩:=h
 exact ⟨cur,e.trans h1,h2,h3⟩
theorem jS.set {w:World} {T g N:Nat} {f:Nat->Value} (h:jS w T g N f) {j:Nat} (hj:j<N) (x:Value):jS (w.setCell ⟨g,j,none⟩ x) T g N (fun i=>if i=j then x else f i):=by
 obtain ⟨cur,h1,h2,h3⟩:=h
 have e:=heap_setCell_same w g j _ _ x h1
 refine ⟨_,e,by simpa using h2,fun i hi=>?_⟩
 by_cases hij:i=j
 ·subst hij
  have h9:i<cur.size:=by omega
  simp [h9]
 ·have:=h3 i hi
  simp [hij,Ne.symm hij,this]
theorem jS.congr {w:World} {T g N:Nat} {f f':Nat->Value} (h:jS w T g N f) (hf:∀ j,j<N->f j=f' j):jS w T g N f':=by
 obtain ⟨cur,h1,h2,h3⟩:=h
 exact ⟨cur,h1,h2,fun j hj=>by rw [h3 j hj,hf j hj]⟩
def Kz (ad bf:Value):Nat->Value:=fun j=>if j=0 then ad else bf
def JZ (R:Nat) (w:World) (b:Nat):Prop:=∃ v,w.cell? ⟨R,1,none⟩=some v/\v.ownBlock=some b
structure RwI (w:World) (B R:Nat) (L:List UInt8) (ad bf:Value):Prop where
 r:jS w 59 R 2 (Kz ad bf)
 a:ad=.pointer none∨ad=.pointer (some ⟨R,0,none⟩)
 o:nA w B bf L
structure KpR (R:Nat) (w w':World):Prop where
 k:Keeps w w' (fun b=>b=R∨JZ R w b)
 o:∀ b,JZ R w' b->b<w.heap.size->JZ R w b
theorem KpR.trans {R:Nat} {w w1 w2:World} (h:KpR R w w1) (g:KpR R w1 w2):KpR R w w2:=by
 have hz:=h.k.size
 refine ⟨⟨g.k.os.trans h.k.os,g.k.tape.trans h.k.tape,g.k.output.trans h.k.output,Nat.le_trans h.k.size g.k.size,fun b hb hn=>?_⟩,fun b hb hl=>h.o b (g.o b hb (by omega)) hl⟩
 refine (g.k.block b (by omega) (fun e=>?_)).trans (h.k.block b hb hn)
 rcases e with e|e
 ·exact hn (.inl e)
 ·exact hn (.inr (h.o b e hb))
theorem KpR.refl (R:Nat) (w:World):KpR R w w:=⟨Keeps.refl _ _,fun b h _=>h⟩
theorem zP {w:World} {base e size n q:Nat} {v:Value} {xs:List Value} (h:w.ownsRow base e size v n xs) (hq:v.ownBlock=some q):base<=q/\q<w.heap.size:=h.lt q hq
section
variable {w w' : World} {B R : Nat} {L : List UInt8} {ad bf : Value}
theorem RwI.c1 (h:RwI w B R L ad bf):w.cell? ⟨R,1,none⟩=some bf:=h.r.f.cell (j:=1) (by omega)
theorem RwI.owr (h:RwI w B R L ad bf) {b:Nat} (hb:JZ R w b):bf.ownBlock=some b:=by
 obtain ⟨v,h1,h2⟩:=hb
 rw [h.c1] at h1
 cases h1
 exact h2
theorem RwI.ne (h:RwI w B R L ad bf):bf.ownBlock≠some R:=fun e=>(gZ h.o e).apart h.r.f (by decide) rfl
theorem RwI.owb (h:RwI w B R L ad bf) {b:Nat} (hb:JZ R w b):∃ f,ah w 5 b (L.length*1) f:=⟨_,gZ h.o (h.owr hb)⟩
theorem KpR.below (k:KpR R w w') (h:RwI w B R L ad bf) (hR:B<=R) (hB:B<=w.heap.size):Below B w w':=
 k.k.below hB (fun b e=>by
  rcases e with e|e
  ·omega
  ·exact (zP h.o (h.owr e)).1)
theorem RwI.low (h:RwI w B R L ad bf) (k:Keeps w w' (fun _=>False)):RwI w' B R L ad bf:=
 ⟨h.r.same (k.block R h.r.f.lt (fun x=>x)),h.a,Fp h.o k (fun _ x=>x.elim)⟩
theorem KpR.cell (h:RwI w B R L ad bf) (x:Value):KpR R w (w.setCell ⟨R,0,none⟩ x):=by
 refine ⟨(Keeps.refl w (fun b=>b=R∨JZ R w b)).setCell (.inl rfl) x,fun b hb hl=>?_⟩
 obtain ⟨v,h1,h2⟩:=hb
 have h4:=(h.r.f.set (j:=0) (by omega) x).cell (j:=1) (by omega)
 rw [if_neg (by omega)] at h4
 rw [h4] at h1
 cases h1
 exact ⟨_,h.c1,h2⟩
end
theorem KH:(Tryz.prog.info? 59).map (·.size)=some 2:=by kernel_rfl
theorem LG:liesAt Tryz.prog Tryz.prog.depth 59 (2/Tryz.prog.cellsOf 59) 0 59 1=true:=by kernel_rfl
theorem O9 {ad bf:Value} (x:Value):∀ j,j<2->(if j=0 then x else Kz ad bf j)=Kz x bf j:=fun j hj=>by
 by_cases e:j=0
 ·subst e;simp [Kz]
 ·rw [if_neg e];simp only [Kz,if_neg e]
theorem MH {ad bf:Value} (x:Value):∀ j,j<2->(if j=1 then x else Kz ad bf j)=Kz ad x j:=fun j hj=>by
 by_cases e:j=1
 ·subst e;simp [Kz]
 ·obtain rfl:j=0:=by omega
  simp [Kz]
theorem ru {w w':World} {B:Nat} {bf:Value} {L:List UInt8} {S:Nat->Prop} (h:nA w B bf L) (k:Keeps w w' S) (hS:∀ g,bf.ownBlock=some g->¬ S g):nA w' B bf L:=
 sS h (fun g hg=>k.block g (zP h hg).2 (hS g hg))
theorem RwI.setC {w:World} {B R:Nat} {L:List UInt8} {ad bf:Value} (h:RwI w B R L ad bf) (j:Nat) (x:Value):nA (w.setCell ⟨R,j,none⟩ x) B bf L:=
 ru h.o ((Keeps.refl w (fun b=>b=R)).setCell (S:=fun b=>b=R) (j:=j) rfl x) (fun g hg e=>h.ne (e ▸ hg))
set_option maxHeartbeats 1600000 in
set_option maxRecDepth 100000 in
theorem mH (w:World) (B R:Nat) (L:List UInt8) (ad bf:Value) (h:RwI w B R L ad bf):
 Calls Tryz.prog 45 #[.pointer (some ⟨R,0,none⟩)] w fun e w'=>e=.returned (.tuple #[])/\RwI w' B R L (.pointer (some ⟨R,0,none⟩)) bf/\KpR R w w'/\w'.heap.size=w.heap.size:=by
 obtain ⟨j,hj,hjs⟩:=Option.map_eq_some_iff.1 KH
 have c0:w.cell? ⟨R,0,none⟩=some ad:=h.r.f.cell (j:=0) (by omega)
 rcases h.a with rfl|rfl
 ·have z0:w.frozen? ⟨R,0,none⟩=false:=h.r.f.frz 0
  have hsh:=h.r.shape
  have H1:=hide (show RwI (w.setCell ⟨R,0,none⟩ (.pointer (some ⟨R,0,none⟩))) B R L (.pointer (some ⟨R,0,none⟩)) bf from ⟨(h.r.set (j:=0) (by omega) _).congr (O9 _),.inr rfl,h.setC 0 _⟩)
  have H2:=hide (KpR.cell h (.pointer (some ⟨R,0,none⟩)))
  have hsz:(w.setCell ⟨R,0,none⟩ (.pointer (some ⟨R,0,none⟩))).heap.size=w.heap.size:=by simp
  have HZ:=hide hsz
  clear h hsz
  go_enter Tryz.func45,Tryz.ntmps45
  go_wp2
  rw [Lib.run_to_unsafe w ⟨R,0,none⟩ Tryz.underlying57 Tryz.underlying129 hj (by rw [hjs];decide) hsh (by show 0<2;omega)]
  simp only [Result.andThen]
  rw [Oper.upon_value]
  go_wp2
  rw [run_callFunc_extern Tryz.func77 (by kernel_rfl) (by kernel_rfl) (by kernel_rfl) (e:=Extern.AbiNoEscape.same) (by kernel_rfl)]
  rw [Lib.run_noEscape]
  simp only [Result.andThen]
  rw [Oper.upon_value]
  go_wp2
  rw [Lib.run_from_unsafe w ⟨R,0,none⟩ Tryz.underlying129 Tryz.underlying57 hj hsh LG]
  simp only [Result.andThen]
  rw [Oper.upon_value]
  go_wp2
  go_end0
  exact ⟨rfl,H1.out,H2.out,HZ.out⟩
 ·have H1:=hide h
  clear h
  go_enter Tryz.func45,Tryz.ntmps45
  go_wp2
  rw [Lib.run_neq_ptr_same w _ Tryz.underlying57 hj]
  go_wp2
  go_end0
  exact ⟨rfl,H1.out,KpR.refl R w,rfl⟩
theorem D6 {P:Program} (w:World) (base:Nat) (t u ty e:TypeId) (i:TypeInfo) (ht:P.underlying t=some (.slice e)) (hu:P.underlying u=some .string) (hi:P.info? e=some i) (hz:i.zero=some (.int .u8 0))
 (hsize:i.size=1) (hby:i.bytes=1) (v:Value) (n:Nat) (xs:List Value) (hown:w.ownsRow base e 1 v n xs) (s:ByteArray) (hbytes:n+s.size<=140737488355328) {v':Value} {w':World}
 (hr:(Builtin.append_ #[t,u] ty #[v,.string s]).run P w=.ok v' w'):∀ g,v'.ownBlock=some g->v.ownBlock=some g∨w.heap.size<=g:=by
 intro g hg
 have hxl:xs.length=n:=by simpa using hown.1
 rcases hown.2 with ⟨rfl,rfl⟩|⟨g',cap,cur,rfl,hbg,hgg,hnc,hcm,hcs,htake⟩
 ·by_cases hm:s.size=0
  ·have hf:=Lib.run_firstCells_string (P:=P) w 1 s
   rw [hm] at hf
   simp [Builtin.append_,run_underlying ht,run_underlying hu,sizeOf,typeInfo,hi,hsize,Builtin.lenOf,hm,hf] at hr
   obtain ⟨rfl,-⟩:=hr
   simp [Value.ownBlock] at hg
  ·have hr2:=run_append_nil_string (P:=P) w t u ty e i (.int .u8 0) ht hu hi hz s (by omega) (by omega) (by rw [hby];omega)
   rw [hr2] at hr
   simp only [Result.ok.injEq] at hr
   obtain ⟨rfl,-⟩:=hr
   right
   simp [Value.ownBlock] at hg
   omega
 ·by_cases hroom:n+s.size<=cap
  ·have hcs':cur.size=cap:=by simpa using hcs
   have hr2:=Lib.run_append_room_string (P:=P) w t u ty e i ht hu hi hsize g' n cap cur hgg s hroom (by omega)
   rw [hr2] at hr
   simp only [Result.ok.injEq] at hr
   obtain ⟨rfl,-⟩:=hr
   left
   simpa [Value.ownBlock] using hg
  ·have holds:∀ j u,xs[j]?=some u->w.cell? ((⟨g',0,none⟩:Addr).add j)=some u:=hown.cells (g:=g') rfl
   have hr2:=Lib.run_append_grow_string (P:=P) w t u ty e i (.int .u8 0) ht hu hi hz ⟨g',0,none⟩ n cap xs (by rw [hsize];simpa using hxl) holds s (by omega) (by omega) (by rw [hby];exact growslice_fits (by omega) (by omega))
   rw [hr2] at hr
   simp only [Result.ok.injEq] at hr
   obtain ⟨rfl,-⟩:=hr
   right
   simp [Value.ownBlock] at hg
   omega
theorem BF {wr:World} {ops:Array Oper} {rest:List Oper} {o:Oper} {a:Act} {Q:Exit->Act->World->Prop} (hgd:o.guard=none) (sl x:Operand)
 (ho:o.op=.call { callee:=.builtin .append,args:=#[sl,x],argTypes:=#[35,9] }) (base:Nat) (v:Value) (L:List UInt8) (s:ByteArray) (hown:nA wr base v L) (hs:a.eval sl=v) (hx:a.eval x=.string s)
 (hlen:L.length+s.size<=140737488355328) (hbase:base<=wr.heap.size)
 (h:∀ v' w',nA w' base v' (L++s.data.toList)->(∀ g,v'.ownBlock=some g->v.ownBlock=some g∨wr.heap.size<=g)->(∀ B w0,Below B w0 wr->B<=base->Below B w0 w')->(∀ gx,gx<wr.heap.size->v.ownBlock≠some gx->w'.heap[gx]?=wr.heap[gx]?)->wpList Tryz.prog ops Q rest (a.put o.dst v') w'):
 wpList Tryz.prog ops Q (o::rest) a wr:=by
 obtain ⟨i0,hi,hz0,hz1,hz2⟩:=info_parts lZ
 refine wpList_plain hgd fun _ hK=>?_
 obtain ⟨v',w',hr,h2,h3,h4⟩:=Lib.run_append_own_string (P:=Tryz.prog) wr base 35 9 o.type 5 i0 Tryz.underlying35 Tryz.underlying9 hi hz0 hz1 hz2 v L.length (Lib.byteCells L) hown s (by unfold maxLen;omega) hlen hbase
 have h5:=D6 (P:=Tryz.prog) wr base 35 9 o.type 5 i0 Tryz.underlying35 Tryz.underlying9 hi hz0 hz1 hz2 v L.length (Lib.byteCells L) hown s hlen hr
 obtain ⟨g1,g2⟩:=tX hown hbase h3
 unfold Oper.wp execOp
 simp only [ho,resolve,invoke,builtin,Sem.run_bind,Sem.run_pure,Result.andThen_ok,List.map_toArray,List.map_cons,List.map_nil,hs,hx,hr]
 exact hK _ _ (h v' w' (Dq h2) h5 g1 g2)
set_option maxHeartbeats 1600000 in
set_option maxRecDepth 100000 in
theorem BK (w:World) (B R:Nat) (L:List UInt8) (ad bf:Value) (x:ByteArray) (h:RwI w B R L ad bf) (hB:B<=w.heap.size) (hl:L.length+x.size<=140737488355328):
 Calls Tryz.prog 20 #[.pointer (some ⟨R,0,none⟩),.string x] w fun e w'=>e=.returned (.tuple #[.int .i64 x.size,.nilIface])/\(∃ bf',RwI w' B R (L++x.data.toList) (.pointer (some ⟨R,0,none⟩)) bf')/\KpR R w w':=by
 have HC:=hide (mH w B R L ad bf h)
 clear h
 go_enter Tryz.func20,Tryz.ntmps20
 go_wp2_with fail
 refine HC.out.mono ?_
 rintro e w1 ⟨rfl,h1,k1,hz1⟩
 have c1:=h1.c1
 have H1:=hide h1
 have K1:=hide k1
 have hB1:B<=w1.heap.size:=by omega
 clear h1 k1 HC hz1
 go_wp2_with (first
  |(have _z:=H1
    at_builtin
    clear _z
    refine BF rfl _ _ rfl B _ L x H1.out.o rfl rfl hl hB1 ?_
    intro v5 w5 g1 gn g2 g3
    have hRl:R<w1.heap.size:=H1.out.r.f.lt
    have hr5:=H1.out.r.same (g3 R hRl H1.out.ne)
    have d1:w5.cell? ⟨R,1,none⟩=some bf:=hr5.f.cell (j:=1) (by omega)
    have f1:w5.frozen? ⟨R,1,none⟩=false:=hr5.f.frz 1
    have hne5:v5.ownBlock≠some R:=fun e=>(gZ g1 e).apart hr5.f (by decide) rfl
    have HI5:=hide (show RwI (w5.setCell ⟨R,1,none⟩ v5) B R (L++x.data.toList) (.pointer (some ⟨R,0,none⟩)) v5 from ⟨(hr5.set (j:=1) (by omega) v5).congr (MH _),.inr rfl,
     ru g1 ((Keeps.refl w5 (fun b=>b=R)).setCell (S:=fun b=>b=R) (j:=1) rfl v5) (fun g hg e=>hne5 (e ▸ hg))⟩)
    have hbl:=g2 _ _ (Below.refl B w1) (Nat.le_refl _)
    have HK5:=hide (show KpR R w1 (w5.setCell ⟨R,1,none⟩ v5) from by
     have hsz:(w5.setCell ⟨R,1,none⟩ v5).heap.size=w5.heap.size:=by simp
     refine ⟨⟨hbl.os,hbl.tape,hbl.output,by rw [hsz];exact hbl.size,fun b hb hn=>?_⟩,fun b hb hlt=>?_⟩
     ·rw [heap_setCell_other w5 ⟨R,1,none⟩ b v5 (fun e=>hn (.inl e))]
      exact g3 b hb (fun e=>hn (.inr ⟨bf,H1.out.c1,e⟩))
     ·have hv:=HI5.out.owr hb
      refine ⟨bf,H1.out.c1,?_⟩
      rcases gn b hv with e|e
      ·exact e
      ·omega)
    have hL5:(L++x.data.toList).length=L.length+x.size:=by rw [List.length_append,Array.length_toList];rfl
    obtain ⟨a5,k5,hv5⟩:=eH g1
    rw [hL5] at hv5
    clear hL5
    clear g1 gn g2 g3 hr5 hbl hne5
    subst hv5)
  |fail)
 refine bodyPost_ret (v:=.tuple #[.int .i64 x.size,.nilIface]) ?_ rfl ⟨rfl,⟨_,HI5.out⟩,K1.out.trans HK5.out⟩
 simp [results,Tryz.results20,go_sem]
set_option maxHeartbeats 1600000 in
set_option maxRecDepth 100000 in
theorem AL (w:World) (B R:Nat) (L:List UInt8) (ad bf:Value) (x:UInt8) (h:RwI w B R L ad bf) (hB:B<=w.heap.size) (hl:L.length+1<=140737488355328):
 Calls Tryz.prog 21 #[.pointer (some ⟨R,0,none⟩),.int .u8 (x.toNat:Int)] w fun e w'=>e=.returned .nilIface/\(∃ bf',RwI w' B R (L++[x]) (.pointer (some ⟨R,0,none⟩)) bf')/\KpR R w w':=by
 have HC:=hide (mH w B R L ad bf h)
 have hxl:=x.toNat_lt
 clear h
 obtain ⟨N,hN⟩:∃ N,x.toNat=N:=⟨_,rfl⟩
 rw [hN] at hxl ⊢
 have HN:=hide hN
 clear hN
 go_enter Tryz.func21,Tryz.ntmps21
 go_wp2_with fail
 refine HC.out.mono ?_
 rintro e w1 ⟨rfl,h1,k1,hz1⟩
 have c1:=h1.c1
 have H1:=hide h1
 have K1:=hide k1
 have hB1:B<=w1.heap.size:=by omega
 have hRl:R<w1.heap.size:=h1.r.f.lt
 obtain ⟨ba,bc,hbf⟩:=eH h1.o
 subst hbf
 clear h1 k1 HC hz1
 go_wp2_with (first
  |(have _z:=H1
    at_builtin
    clear _z
    refine Pw rfl (.tmp 11) (.tmp 13) 35 5 1 1 (.int .u8 0) rfl Tryz.underlying35 lZ rfl (by decide) B _ L.length (Lib.byteCells L) [.int .u8 (N:Int)] H1.out.o rfl rfl rfl (fun u hu=>by simp at hu;subst hu;rfl) (by omega) (by decide) hB1 ?_
    intro v5 w5 g1 gk gn
    have g1':nA w5 B v5 (L++[x]):=by
     unfold nA
     rw [List.length_append,Lib.byteCells_append]
     have e:Lib.byteCells [x]=[.int .u8 (N:Int)]:=by rw [<-HN.out];rfl
     rw [e]
     exact g1
    have hr5:=H1.out.r.same (gk.block R hRl H1.out.ne)
    have d1:w5.cell? ⟨R,1,none⟩=some (.slice ba L.length bc):=hr5.f.cell (j:=1) (by omega)
    have f1:w5.frozen? ⟨R,1,none⟩=false:=hr5.f.frz 1
    have hne5:v5.ownBlock≠some R:=fun e=>(gZ g1 e).apart hr5.f (by decide) rfl
    have HI5:=hide (show RwI (w5.setCell ⟨R,1,none⟩ v5) B R (L++[x]) (.pointer (some ⟨R,0,none⟩)) v5 from ⟨(hr5.set (j:=1) (by omega) v5).congr (MH _),.inr rfl,
     ru g1' ((Keeps.refl w5 (fun b=>b=R)).setCell (S:=fun b=>b=R) (j:=1) rfl v5) (fun g hg e=>hne5 (e ▸ hg))⟩)
    have HK5:=hide (show KpR R w1 (w5.setCell ⟨R,1,none⟩ v5) from by
     have hsz:(w5.setCell ⟨R,1,none⟩ v5).heap.size=w5.heap.size:=by simp
     refine ⟨⟨gk.os,gk.tape,gk.output,by rw [hsz];exact gk.size,fun b hb hn=>?_⟩,fun b hb hlt=>?_⟩
     ·rw [heap_setCell_other w5 ⟨R,1,none⟩ b v5 (fun e=>hn (.inl e))]
      exact gk.block b hb (fun e=>hn (.inr ⟨_,H1.out.c1,e⟩))
     ·have hv:=HI5.out.owr hb
      refine ⟨_,H1.out.c1,?_⟩
      rcases gn b hv with e|e
      ·exact e
      ·omega)
    obtain ⟨a5,k5,hv5⟩:=eH g1
    clear g1 g1' gk gn hr5 hne5
    subst hv5)
  |fail)
 go_ret
 exact ⟨rfl,⟨_,HI5.out⟩,K1.out.trans HK5.out⟩
theorem Dh (w:World) (B R:Nat) (L:List UInt8) (ad bf:Value) (h:RwI w B R L ad bf):
 Calls Tryz.prog 19 #[.pointer (some ⟨R,0,none⟩)] w fun e w'=>e=.returned (.int .i64 (L.length:Int))/\w'=w:=by
 have c1:=h.c1
 obtain ⟨ba,bc,hbf⟩:=eH h.o
 subst hbf
 clear h
 generalize L.length=N at *
 go_enter Tryz.func19,Tryz.ntmps19
 go_wp2
 go_ret
 exact ⟨rfl,rfl⟩
end Go.Proofs.YtjibjahfbblieaaGreatDoor
namespace Go.Proofs.YtjibjahfbblieaaGreatDoor
open Go Go.RowKit Go.Shelf
set_option linter.unusedVariables false
theorem qo (w:World):KeepsOthers w w.drew:=⟨Nat.le_refl _,fun _ _ h _=>h⟩
theorem Es (w:World) (p:Addr) (n:Nat):KeepsOthers w (w.freeze p n):=by
 unfold World.freeze
 split
 ·exact KeepsOthers.refl w
 ·refine ⟨by simp,fun k o h hc=>?_⟩
  simp only [Array.getElem?_modify]
  split
  ·rw [h]
   cases o<;>first |rfl|(simp [Obj.isCells] at hc)
  ·exact h
theorem Kh:Tryz.prog.follows .mixedOrders=true:=by kernel_rfl
theorem vk (w:World) (p:Option Addr):(Builtin.unsafeString_ #[101,3] 9 #[.pointer p,.int .i64 0]).run Tryz.prog w=.ok (.string ⟨#[]⟩) w:=
 Lib.run_unsafeString_none w _ _ _ p
set_option maxHeartbeats 4000000 in
set_option maxRecDepth 100000 in
theorem KL (w:World) (B R g cap:Nat) (L:List UInt8) (cur:Array Value) (hRl:R<w.heap.size) (hB:B<=w.heap.size) (c0:w.cell? ⟨R,1,none⟩=some (.slice none 0 0)):
 Calls Tryz.prog 22 #[.pointer (some ⟨R,0,none⟩)] w fun e w'=>e=.returned (.string ⟨([]:List UInt8).toArray⟩)/\Below B w w'/\KeepsOthers w w':=by
 have c1:w.drew.cell? ⟨R,1,none⟩=some (.slice none 0 0):=c0
 have hUS:=vk w.drew none
 have hSD:(Builtin.unsafeSliceData_ #[35] 101 #[.slice none 0 0]).run Tryz.prog w.drew=.ok (.pointer none) w.drew:=rfl
 have mixed:=Kh
 go_enter Tryz.func22,Tryz.ntmps22
 go_wp2
 go_region_o
 all_goals (go_wp2;go_ret;exact ⟨rfl,Below.drew (Below.refl B w),qo w⟩)
set_option maxHeartbeats 4000000 in
set_option maxRecDepth 100000 in
theorem I7 (w:World) (B R g cap:Nat) (L:List UInt8) (cur:Array Value) (hRl:R<w.heap.size) (hB:B<=w.heap.size) (c0:w.cell? ⟨R,1,none⟩=some (.slice (some ⟨g,0,none⟩) 0 0)) (hg:w.heap[g]?=some (.cells cur 5 (0,0))):
 Calls Tryz.prog 22 #[.pointer (some ⟨R,0,none⟩)] w fun e w'=>e=.returned (.string ⟨([]:List UInt8).toArray⟩)/\Below B w w'/\KeepsOthers w w':=by
 have c1:w.drew.cell? ⟨R,1,none⟩=some (.slice (some ⟨g,0,none⟩) 0 0):=c0
 have hUS:=vk
 have hSD:(Builtin.unsafeSliceData_ #[35] 101 #[.slice (some ⟨g,0,none⟩) 0 0]).run Tryz.prog w.drew=.ok (.pointer (some ⟨w.drew.heap.size,0,none⟩)) (w.drew.alloc (.view ⟨g,0,none⟩ 5)):=
  Lib.run_unsafeSliceData_zero w.drew _ _ 5 Tryz.underlying101 ⟨g,0,none⟩ 0 (5,cur.size) (by have hg':w.drew.heap[g]?=some (.cells cur 5 (0,0)):=hg;simp [World.shape?,hg'])
 have c2:(w.drew.alloc (.view ⟨g,0,none⟩ 5)).cell? ⟨R,1,none⟩=some (.slice (some ⟨g,0,none⟩) 0 0):=(World.cell?_of_block (a:=⟨R,1,none⟩) (Lib.alloc_old w.drew _ R hRl)).trans c1
 have c3:(w.alloc (.view ⟨g,0,none⟩ 5)).drew.cell? ⟨R,1,none⟩=some (.slice (some ⟨g,0,none⟩) 0 0):=c2
 clear hg
 have mixed:=Kh
 go_enter Tryz.func22,Tryz.ntmps22
 go_wp2
 go_region_o
 all_goals (go_wp2;go_ret;exact ⟨rfl,(Below.drew (Below.refl B w)).alloc hB _,(qo w).trans (KeepsOthers.alloc _ _)⟩)
set_option maxHeartbeats 4000000 in
set_option maxRecDepth 100000 in
theorem JU (w:World) (B R g cap:Nat) (L:List UInt8) (cur:Array Value) (hRl:R<w.heap.size) (hB:B<=w.heap.size) (c0:w.cell? ⟨R,1,none⟩=some (.slice (some ⟨g,0,none⟩) 0 cap)) (hc0:cap≠0):
 Calls Tryz.prog 22 #[.pointer (some ⟨R,0,none⟩)] w fun e w'=>e=.returned (.string ⟨([]:List UInt8).toArray⟩)/\Below B w w'/\KeepsOthers w w':=by
 have c1:w.drew.cell? ⟨R,1,none⟩=some (.slice (some ⟨g,0,none⟩) 0 cap):=c0
 have hUS:=vk
 have hSD:(Builtin.unsafeSliceData_ #[35] 101 #[.slice (some ⟨g,0,none⟩) 0 cap]).run Tryz.prog w.drew=.ok (.pointer (some ⟨g,0,none⟩)) w.drew:=Lib.run_unsafeSliceData_row _ _ _ _ _ _ hc0
 clear hc0
 have mixed:=Kh
 go_enter Tryz.func22,Tryz.ntmps22
 go_wp2
 go_region_o
 all_goals (go_wp2;go_ret;exact ⟨rfl,Below.drew (Below.refl B w),qo w⟩)
set_option maxHeartbeats 4000000 in
set_option maxRecDepth 100000 in
theorem GI (w:World) (B R g cap:Nat) (L:List UInt8) (cur:Array Value) (hRl:R<w.heap.size) (hB:B<=w.heap.size) (c0:w.cell? ⟨R,1,none⟩=some (.slice (some ⟨g,0,none⟩) L.length cap)) (hbg:B<=g) (hSD:(Builtin.unsafeSliceData_ #[35] 101 #[.slice (some ⟨g,0,none⟩) L.length cap]).run Tryz.prog w.drew=.ok (.pointer (some ⟨g,0,none⟩)) w.drew) (hUS:(Builtin.unsafeString_ #[101,3] 9 #[.pointer (some ⟨g,0,none⟩),.int .i64 L.length]).run Tryz.prog w.drew=.ok (.string ⟨L.toArray⟩) (w.drew.freeze ⟨g,0,none⟩ L.length)):
 Calls Tryz.prog 22 #[.pointer (some ⟨R,0,none⟩)] w fun e w'=>e=.returned (.string ⟨L.toArray⟩)/\Below B w w'/\KeepsOthers w w':=by
 have c1:w.drew.cell? ⟨R,1,none⟩=some (.slice (some ⟨g,0,none⟩) L.length cap):=c0
 have mixed:=Kh
 go_enter Tryz.func22,Tryz.ntmps22
 go_wp2
 go_region_o
 all_goals (go_wp2;go_ret;exact ⟨rfl,Lib.below_freeze (Below.drew (Below.refl B w)) (p:=⟨g,0,none⟩) hbg _,(qo w).trans (Es _ _ _)⟩)
theorem Ah (w:World) (B R:Nat) (L:List UInt8) (ad bf:Value) (h:RwI w B R L ad bf) (hB:B<=w.heap.size):
 Calls Tryz.prog 22 #[.pointer (some ⟨R,0,none⟩)] w fun e w'=>e=.returned (.string ⟨L.toArray⟩)/\Below B w w'/\KeepsOthers w w':=by
 have c0:=h.c1
 have hRl:R<w.heap.size:=h.r.f.lt
 have ho:=h.o
 have ho2:=ho
 obtain ⟨h1,⟨rfl,h2⟩|⟨g,cap,cur,rfl,hbg,hg,hnc,hcm,hcs,htake⟩⟩:=ho2
 ·have hL:L=[]:=List.eq_nil_of_length_eq_zero h2
  subst hL
  exact KL w B R 0 0 [] #[] hRl hB c0
 ·by_cases hL0:L=[]
  ·subst hL0
   by_cases hc0:cap=0
   ·subst hc0
    exact I7 w B R g 0 [] cur hRl hB c0 hg
   ·exact JU w B R g cap [] #[] hRl hB c0 hc0
  ·have hl0:L.length≠0:=by simpa using hL0
   refine GI w B R g cap L #[] hRl hB c0 hbg (Lib.run_unsafeSliceData_row _ _ _ _ _ _ (by omega)) ?_
   refine Lib.run_unsafeString_row w.drew 101 3 9 5 Tryz.underlying101 (by kernel_rfl) g cur.size (by have hg':w.drew.heap[g]?=some (.cells cur 5 (0,0)):=hg;simp [World.shape?,hg']) L hL0 (by omega) (by unfold maxLen at hcm;omega) ?_
   intro j x hx
   exact World.ownsRow.cells ho (g:=g) rfl j (.int .u8 x.toNat) (by simp [Lib.byteCells,hx])
end Go.Proofs.YtjibjahfbblieaaGreatDoor
namespace Go.Proofs.YtjibjahfbblieaaGreatDoor
open Go Go.RowKit
set_option linter.unusedVariables false
def XV (v:Value) (k:Nat) (p:PV) (s4 s5 s6 s7:Value):Value:=.agg #[v,.int .i64 k,.int .i64 p.params,.int .i64 p.regs,.int .i64 p.line,.bool p.dots,s4,s5,s6,s7]
def Rm (o a b c:Int):Value:=.agg #[.int .i64 o,.int .i64 a,.int .i64 b,.int .i64 c]
def Oz (o a b c:Int):Prop:=(o=28/\c=0)∨(o=31/\b=0)
def Oq (o a b c:Int):Int:=if ((o=28∨o=29)/\b=0)∨o=18 then a+1 else if o=30/\b=0 then a else -1
def NW (o:Int):Prop:=(1<=o/\o<=38)∨(65<=o/\o<=78)
theorem tN {Q:Prop} {b:Bool} (h:Q↔b=true):yR Q b:=by
 cases b
 ·exact .inr ⟨rfl,fun q=>by have:=h.1 q;cases this⟩
 ·exact .inl ⟨rfl,h.2 rfl⟩
theorem dD {k:IntKind} {a b:Int} (h:a=b):Ending.returned (.int k a)=.returned (.int k b):=by rw [h]
set_option maxHeartbeats 1600000 in
set_option maxRecDepth 100000 in
theorem sN (p:PV) (s4 s5 s6 s7:Value) (w:World) (hf:p.fits 1048576) (hbit:p.bitsOk) (h:PVA w p s4 s5 s6 s7):
 Calls Tryz.prog 39 #[p.agg s4 s5 s6 s7] w fun e w'=>jk (fU p) w e w':=by
 obtain ⟨hs1,hs2,hs3,hs4,hs5⟩:=hf
 obtain ⟨a4,k4,e4⟩:=h.u.val
 obtain ⟨a5,k5,e5⟩:=h.c.val
 obtain ⟨a6,k6,e6⟩:=h.i.val
 obtain ⟨a7,k7,e7⟩:=h.l.val
 have HA:=hide h
 have HS:=hide hs5
 have HBit:=hide hbit
 clear h hs5 hbit
 unfold PV.agg
 by_cases hh:¬ zZ p
 ·have HN:=hide hh
  clear hh
  subst e4 e5 e6 e7
  by_cases hnl:p.nl=p.ni
  ·go_enter Tryz.func39,Tryz.ntmps39
   go_wp2_with (first |(go_at_call 61;refine (jw _ _).mono ?_;rintro e w' ⟨rfl,rfl⟩)|(go_at_call 62;refine (kg _ _).mono ?_;rintro e w' ⟨rfl,rfl⟩))
   all_goals first |(go_ret;exact ⟨_,rfl,.inr ⟨rfl,fun h=>HN.out h.1⟩,b_1 _ _⟩)|(exfalso;apply HN.out;refine ⟨?_,?_,?_,?_,?_,?_,?_⟩<;>first |assumption|omega|simpa using ‹(!inI p.line 0 2147483647)=false›)
  ·have hni:((p.nl:Int) !=(p.ni:Int))=true:=by simp;omega
   go_enter Tryz.func39,Tryz.ntmps39
   go_wp2_with (first |(go_at_call 61;refine (jw _ _).mono ?_;rintro e w' ⟨rfl,rfl⟩)|(go_at_call 62;refine (kg _ _).mono ?_;rintro e w' ⟨rfl,rfl⟩))
   all_goals first |(go_ret;exact ⟨_,rfl,.inr ⟨rfl,fun h=>HN.out h.1⟩,b_1 _ _⟩)|(exfalso;omega)
 ·replace hh:=Classical.not_not.1 hh
  have HH:=hide hh
  obtain ⟨h1,h2,h3,h4,h5,h6,h7⟩:=hh
  have i4:¬ ((255:Int)<(p.nu:Int)):=by omega
  have i5:¬ ((65535:Int)<(p.nc:Int)):=by omega
  have i6:¬ ((65535:Int)<(p.ni:Int)):=by omega
  have HP1:=hide (PC.mk w 43 p s4 s5 s6 s7)
  have HB1:=hide (b_1 w (.cells #[.int .i64 p.params,.int .i64 p.regs,.int .i64 p.line,.bool p.dots,s4,s5,s6,s7] 43))
  subst e4 e5 e6 e7
  go_enter Tryz.func39,Tryz.ntmps39
  go_wp2_with (first |(go_at_call 61;refine (jw _ _).mono ?_;rintro e w' ⟨rfl,rfl⟩)|(go_at_call 62;refine (kg _ _).mono ?_;rintro e w' ⟨rfl,rfl⟩))
  rw [h7] at HP1 HB1
  generalize w.alloc (.cells #[.int .i64 p.params,.int .i64 p.regs,.int .i64 p.line,.bool p.dots,.slice a4 p.nu k4,.slice a5 p.nc k5,.slice a6 p.ni k6,.slice a7 p.ni k7] 43)=w1 at HP1 HB1 ⊢
  have HA1:=hide (HA.out.low HB1.out (Nat.le_refl _))
  clear HA
  refine (Fz _ p.nu p.u0 p.u1 (fun k=>inI (p.u1 k) 0 255=true) w1 hs1 HA1.out.u (fun i hi w' hw=>?_)).mono ?_
  ·refine (rC _ _ _).mono ?_
   rintro e w2 ⟨rfl,hb⟩
   exact ⟨_,rfl,tN Iff.rfl,hb⟩
  rintro e w2 ⟨r,rfl,hr,hb2⟩
  have HP2:=hide (HP1.out.low hb2 HP1.out.1)
  have HB2:=hide (HB1.out.trans (hb2.mono HB1.out.size))
  have HA2:=hide (HA1.out.low hb2 (Nat.le_refl _))
  clear HP1 HB1 HA1 hb2
  obtain ⟨-,-,-,-,-,d4,d5,d6,d7⟩:=HP2.out
  rcases hr with ⟨rfl,hr⟩|⟨rfl,hr⟩
  case inr=>
   have HR:=hide hr
   clear hr
   go_wp2
   go_ret
   exact ⟨_,rfl,.inr ⟨rfl,fun h=>HR.out h.2.1⟩,HB2.out⟩
  have HU:=hide hr
  clear hr
  go_wp2_with fail
  clear d4 d5 d6 d7
  refine (wY _ p.nc p.c0 p.c1 p.c2 p.c3 (fun k=>bI (p.c0 k) (p.c1 k) (p.c2 k) (p.c3 k)) w2 hs2 HA2.out.c (fun i hi w' hw=>nU _ _ _ _ _ (HBit.out i hi).1 (HBit.out i hi).2 (HS.out i hi))).mono ?_
  rintro e w3 ⟨r,rfl,hr,hb2⟩
  have HP3:=hide (HP2.out.low hb2 HP2.out.1)
  have HB3:=hide (HB2.out.trans (hb2.mono HB2.out.size))
  have HA3:=hide (HA2.out.low hb2 (Nat.le_refl _))
  clear HP2 HB2 HA2 hb2
  obtain ⟨-,-,-,-,-,d4,d5,d6,d7⟩:=HP3.out
  rcases hr with ⟨rfl,hr⟩|⟨rfl,hr⟩
  case inr=>
   have HR:=hide hr
   clear hr
   go_wp2
   go_ret
   exact ⟨_,rfl,.inr ⟨rfl,fun h=>HR.out h.2.2.1⟩,HB3.out⟩
  have HC:=hide hr
  clear hr
  go_wp2_with fail
  clear d4 d5 d6 d7
  refine (wQ _ p.ni p.i0 p.i1 p.i2 p.i3 (fun k=>(inI (p.i0 k) 0 255=true/\inI (p.i1 k) 0 255=true/\inI (p.i2 k) (-2147483648) 2147483647=true/\inI (p.i3 k) (-2147483648) 2147483647=true)) w3 hs3 HA3.out.i (fun i hi w' hw=>nL _ _ _ _ _)).mono ?_
  rintro e w4 ⟨r,rfl,hr,hb2⟩
  have HP4:=hide (HP3.out.low hb2 HP3.out.1)
  have HB4:=hide (HB3.out.trans (hb2.mono HB3.out.size))
  have HA4:=hide (HA3.out.low hb2 (Nat.le_refl _))
  clear HP3 HB3 HA3 hb2
  obtain ⟨-,-,-,-,-,d4,d5,d6,d7⟩:=HP4.out
  rcases hr with ⟨rfl,hr⟩|⟨rfl,hr⟩
  case inr=>
   have HR:=hide hr
   clear hr
   go_wp2
   go_ret
   exact ⟨_,rfl,.inr ⟨rfl,fun h=>HR.out (fun k hk=>(h.2.2.2 k hk).1)⟩,HB4.out⟩
  have HI:=hide hr
  clear hr
  go_wp2_with fail
  clear d4 d5 d6 d7
  have hl4:=HA4.out.l
  rw [h7] at hl4
  refine (Aa _ p.ni p.l0 (fun k=>inI (p.l0 k) 0 2147483647=true) w4 hs3 hl4 (fun i hi w' hw=>?_)).mono ?_
  ·refine (kg _ _).mono ?_
   rintro e w2 ⟨rfl,rfl⟩
   exact ⟨_,rfl,tN Iff.rfl,Below.refl _ _⟩
  rintro e w5 ⟨r,rfl,hr,hb2⟩
  have HB5:=hide (HB4.out.trans (hb2.mono HB4.out.size))
  clear HP4 HB4 HA4 hb2 hl4
  rcases hr with ⟨rfl,hr⟩|⟨rfl,hr⟩
  case inr=>
   have HR:=hide hr
   clear hr
   go_wp2
   go_ret
   exact ⟨_,rfl,.inr ⟨rfl,fun h=>HR.out (fun k hk=>(h.2.2.2 k hk).2)⟩,HB5.out⟩
  have HL:=hide hr
  clear hr
  go_wp2
  go_ret
  exact ⟨_,rfl,.inl ⟨rfl,HH.out,HU.out,HC.out,fun k hk=>⟨HI.out k hk,HL.out k hk⟩⟩,HB5.out⟩
def WK (w w':World) (R:Nat):Prop:=∀ g cur T fz,w.heap[g]?=some (.cells cur T fz)->T≠5->g≠R->w'.heap[g]?=some (.cells cur T fz)
theorem WK.refl (w:World) (R:Nat):WK w w R:=fun _ _ _ _ h _ _=>h
theorem WK.trans {a b c:World} {R:Nat} (h:WK a b R) (k:WK b c R):WK a c R:=fun g cur T fz h1 h2 h3=>k g cur T fz (h g cur T fz h1 h2 h3) h2 h3
theorem WK.of {w w':World} {R B:Nat} (h:Below B w w') (hB:w.heap.size<=B):WK w w' R:=fun g cur T fz h1 _ _=>by
 have hg:g<w.heap.size:=by
  rcases Nat.lt_or_ge g w.heap.size with c|c
  ·exact c
  ·rw [Array.getElem?_eq_none c] at h1;cases h1
 rw [h.block g (Nat.lt_of_lt_of_le hg hB)]
 exact h1
abbrev Ru (w:World) (T g:Nat) (a:Array Value):Prop:=ah w T g a.size (fun j=>a.getD j (.bool false))
def Ry (k i b:Int) (t:ByteArray):List Int:=[IntKind.u8.wrap k]++(if k=4 then u64n i 8 else if k=5 then u64n (wrap64 b) 8 else u64n t.size 4++Ka t)
def Pq (p:PV) (r:Int):Prop:=0<=r/\r<p.regs
def MC (p:PV) (k:Int):Prop:=0<=k/\k<p.nc/\p.c0 k.toNat=6
def Ku (p:PV) (o a b c:Int):Prop:=(o=6->0<=b/\b<p.nc)/\(o=9∨o=10∨o=14->MC p b)/\(o=13∨o=15->MC p c)
def LK (p:PV) (o a b c:Int):Prop:=
 (o=3->1<=b/\b<=p.regs-a)/\(o=4->b=0∨b=1)/\(o=5-> -32768<=b/\b<=32767)/\(o=17∨o=18->1<=b)/\(o=28->0<=b/\0<=c/\b<=p.regs-a/\c<=p.regs-a+1)/\
   (o=29->0<=b/\b<=p.regs-a)/\(o=30∨o=31->0<=b/\b<=p.regs-a+1)/\(o=37->1<=b/\b<=p.regs-a-3)
theorem yR.congr {Q Q':Prop} {b:Bool} (h:yR Q b) (e:Q↔Q'):yR Q' b:=by
 rcases h with ⟨h1,h2⟩|⟨h1,h2⟩
 ·exact .inl ⟨h1,e.1 h2⟩
 ·exact .inr ⟨h1,fun q=>h2 (e.2 q)⟩
def QK (p q:PV) (m:Nat):Prop:=∀ j,j<m->(q.u0 j=true->Pq p (q.u1 j))/\(q.u0 j=false->q.u1 j<p.nu)
def PI (o a b c:Int):List Int:=
 if o=1∨o=25 then [] else
 if o=2∨o=23∨o=24∨o=77∨o=78 then [a,b] else
 if o=11∨o=12∨o=19∨o=20∨o=21∨o=22 then [a,b,c] else
 if o=13 then [a,b] else
 if o=14∨o=17 then [a,c] else
 if o=15 then [a,a+1,b] else
 if o=35∨o=36 then [a,a+3] else
 if o=37 then [a,a+5] else
 if o=38 then [a,a+3] else
 if 64<o then [a,b,c] else [a]
def Rn (w:World) (v:Value) (l:List Int):Prop:=gy w v l.length (fun j=>l.getD j 0)
def Ra (p:PV) (j:Nat):Prop:=Oz (p.i0 j) (p.i1 j) (p.i2 j) (p.i3 j)
def OW (p:PV) (j:Nat):Int:=Oq (p.i0 j) (p.i1 j) (p.i2 j) (p.i3 j)
def Py (p:PV) (j:Nat):Prop:=(Ra p j->j+1<p.ni/\0<=OW p (j+1)/\OW p (j+1)<=p.i1 j)/\(OW p j<0∨(0<j/\Ra p (j-1)))
def NQ (o:Int):Prop:=o=25∨o=26∨o=27∨o=35∨o=36∨o=38
def P9 (p:PV) (j:Nat):Prop:=NQ (p.i0 j)->0<=p.i2 j/\p.i2 j<p.ni/\OW p (p.i2 j).toNat<0/\((j:Int)<p.i2 j∨p.i0 (p.i2 j).toNat=1)
def Ri (p:PV):Prop:=∀ j,j<p.ni->0<=p.i1 j/\p.i1 j<=255
def Q5 (p:PV) (j:Nat):Prop:=j+1<p.ni/\0<=OW p (j+1)/\OW p (j+1)<=p.i1 j
def FB:List (Prop × Int)->Int->Prop
 | [],r=>r=0
 |(Q,c)::l,r=>(Q/\FB l r)∨(¬ Q/\r=c)
theorem FB.unique:∀ {l:List (Prop × Int)} {r r':Int},FB l r->FB l r'->r=r'
 | [],_,_,h,h'=>by rw [show _=(0:Int) from h,show _=(0:Int) from h']
 |(Q,c)::l,r,r',h,h'=>by
  rcases h with ⟨q,h⟩|⟨q,h⟩<;>rcases h' with ⟨q',h'⟩|⟨q',h'⟩
  ·exact FB.unique h h'
  ·exact absurd q q'
  ·exact absurd q' q
  ·rw [h,h']
def K8 (p:PV) (l:List Int):Prop:=∀ r,r∈l->Pq p r
def QA (p:PV) (j:Nat):Prop:=p.i0 j=7∨p.i0 j=8->inI (p.i2 j) 0 ((p.nu:Int)-1)=true
def LP (P:Nat->PV) (k:Nat) (p:PV) (j:Nat):Prop:=p.i0 j=32->inI (p.i2 j) 0 ((k:Int)-1)=true/\QK p (P (p.i2 j).toNat) (P (p.i2 j).toNat).nu
def P_ (p:PV) (j:Nat):Prop:=j+1=p.ni->p.i0 j=30∨p.i0 j=29∨p.i0 j=25
def OO (p:PV) (j:Nat):Prop:=p.i0 j=31->p.dots=true
def asks (P:Nat->PV) (k:Nat) (p:PV) (j:Nat):List (Prop × Int):=
 [(NW (p.i0 j),2),(K8 p (PI (p.i0 j) (p.i1 j) (p.i2 j) (p.i3 j)),3),(Ku p (p.i0 j) (p.i1 j) (p.i2 j) (p.i3 j),4),(QA p j,5),(LP P k p j,6),(P9 p j,7),(Py p j,8),(P_ p j,9),(OO p j,10),(LK p (p.i0 j) (p.i1 j) (p.i2 j) (p.i3 j),11)]
def Rs (l:List (Prop × Int)) (w:World) (e:Ending) (w':World):Prop:=∃ c:Int,e=.returned (.int .i64 c)/\FB l c/\Below w.heap.size w w'
def Oh (n:Nat) (P:Nat->PV) (k:Nat):Prop:=vY n P k/\∀ j,j<(P k).ni->FB (asks P k (P k) j) 0
def yc (n:Nat) (P:Nat->PV) (k:Nat) (a c:Int):Prop:=
 (¬ vY n P k/\a=1/\c=0)∨(vY n P k/\∃ j:Nat,j<(P k).ni/\c=j/\a≠0/\FB (asks P k (P k) j) a/\∀ i,i<j->FB (asks P k (P k) i) 0)
def J_ (n:Nat) (P:Nat->PV) (a b c:Int):Prop:=
 (¬ (1<=n/\n<=1000)/\a=1/\b=0/\c=0)∨((1<=n/\n<=1000)/\((∃ k:Nat,k<n/\b=k/\yc n P k a c/\∀ i,i<k->Oh n P i)∨((∀ k,k<n->Oh n P k)/\a=0/\b=0/\c=0)))
theorem l8 {n:Nat} {P:Nat->PV} {k:Nat} {a c:Int} (h:yc n P k a c) (h':Oh n P k):False:=by
 rcases h with ⟨h,_⟩|⟨_,j,hj,_,ha,hf,_⟩
 ·exact h h'.1
 ·exact ha (hf.unique (h'.2 j hj))
theorem yc.unique {n:Nat} {P:Nat->PV} {k:Nat} {a c a' c':Int} (h:yc n P k a c) (h':yc n P k a' c'):a=a'/\c=c':=by
 rcases h with ⟨h,rfl,rfl⟩|⟨h,j,hj,rfl,ha,hf,hl⟩<;>rcases h' with ⟨h2,rfl,rfl⟩|⟨h2,j',hj',rfl,ha',hf',hl'⟩
 ·exact ⟨rfl,rfl⟩
 ·exact absurd h2 h
 ·exact absurd h h2
 ·have:j=j':=by
   rcases Nat.lt_trichotomy j j' with c|c|c
   ·exact absurd (hf.unique (hl' j c)) ha
   ·exact c
   ·exact absurd (hf'.unique (hl j' c)) ha'
  subst this
  exact ⟨hf.unique hf',rfl⟩
theorem J_.unique {n:Nat} {P:Nat->PV} {a b c a' b' c':Int} (h:J_ n P a b c) (h':J_ n P a' b' c'):a=a'/\b=b'/\c=c':=by
 rcases h with ⟨h,rfl,rfl,rfl⟩|⟨h,h3⟩<;>rcases h' with ⟨h2,rfl,rfl,rfl⟩|⟨h2,h4⟩
 ·exact ⟨rfl,rfl,rfl⟩
 ·exact absurd h2 h
 ·exact absurd h h2
 ·rcases h3 with ⟨k,hk,rfl,hb,hl⟩|⟨h3,rfl,rfl,rfl⟩<;>rcases h4 with ⟨k',hk',rfl,hb',hl'⟩|⟨h4,rfl,rfl,rfl⟩
  ·have:k=k':=by
    rcases Nat.lt_trichotomy k k' with c|c|c
    ·exact (l8 hb (hl' k c)).elim
    ·exact c
    ·exact (l8 hb' (hl k' c)).elim
   subst this
   exact ⟨(hb.unique hb').1,rfl,(hb.unique hb').2⟩
  ·exact (l8 hb (h4 k hk)).elim
  ·exact (l8 hb' (h3 k' hk')).elim
  ·exact ⟨rfl,rfl,rfl⟩
def Qz (a b c:Int):Value:=.agg #[.int .i64 a,.int .i64 b,.int .i64 c]
end Go.Proofs.YtjibjahfbblieaaGreatDoor
namespace Go.Proofs.YtjibjahfbblieaaGreatDoor
open Go.ChangeShapes Go.WideShapes Go.ChangeAt Go Go.RowKit Go.ChangeMaps Go.WideElems Go.Joins Go.Deep
set_option linter.unusedVariables false
theorem vv {n:Int} (h:(Lit.int .u64 n).wf=true):0<=n/\n<18446744073709551616:=by
 have m1:IntKind.u64.min=0:=by decide
 have m2:IntKind.u64.max=18446744073709551615:=by decide
 simp only [Lit.wf,Bool.and_eq_true,decide_eq_true_eq,m1,m2] at h
 omega
theorem JL {H:Type} {enc:TypeId × Value->H} {W:World} {sp:Nat->Bool} {hd:Bool} {fuel n cap:Nat} {a:Option Addr} {x:DataW H × List MemPlace} (h:DataW.trod enc Tryz.prog W 0 sp hd fuel 72 [.slice a n cap]=some x):
 n<=maxLen/\∃ x0 x1,mq W (.slice a n cap) n x0 x1:=by
 obtain ⟨hn,h⟩:=jF Tryz.underlying72 (show Tryz.prog.cellsOf 139=2 by kernel_rfl) (by omega) h
 refine ⟨hn,?_⟩
 rcases h with rfl|⟨b,o,m,rfl,hb,hcap,hel⟩
 ·exact ⟨fun _=>false,fun _=>0,.inl ⟨rfl,_,_,rfl⟩⟩
 ·have key:∀ i,∃ q:Bool × Int,i<n->(W.cell? ⟨b,o+i*2,none⟩=some (.bool (q.1))/\W.cell? ⟨b,o+i*2+1,none⟩=some (.int .i64 (q.2))):=by
   intro i
   by_cases hi:i<n
   ·obtain ⟨cs,y,hl,hcell,htr⟩:=hel i hi
    obtain ⟨v0,hv0⟩:∃ v,cs[0]?=some v:=⟨cs[0]'(by omega),List.getElem?_eq_getElem (by omega)⟩
    obtain ⟨n0,y0,t0⟩:=jd Tryz.underlying139 htr 0 _ rfl (by kernel_rfl) rfl hv0
    obtain ⟨z0,e0,_⟩:=DataW.trod_bool Tryz.underlying4 t0
    simp at e0
    subst e0
    obtain ⟨v1,hv1⟩:∃ v,cs[1]?=some v:=⟨cs[1]'(by omega),List.getElem?_eq_getElem (by omega)⟩
    obtain ⟨n1,y1,t1⟩:=jd Tryz.underlying139 htr 1 _ rfl (by kernel_rfl) rfl hv1
    obtain ⟨z1,e1,_,w1⟩:=DataW.trod_int Tryz.underlying3 t1
    simp at e1
    subst e1
    exact ⟨⟨z0,z1⟩,fun _=>⟨(hcell 0 (by omega)).trans hv0,(hcell 1 (by omega)).trans hv1⟩⟩
   ·exact ⟨⟨false,0⟩,fun h=>absurd h hi⟩
  exact ⟨fun i=>(Classical.choose (key i)).1,fun i=>(Classical.choose (key i)).2,.inr ⟨b,o,cap,rfl,hb,hcap,fun i hi=>(Classical.choose_spec (key i) hi)⟩⟩
theorem OZ {H:Type} {enc:TypeId × Value->H} {W:World} {sp:Nat->Bool} {hd:Bool} {fuel n cap:Nat} {a:Option Addr} {x:DataW H × List MemPlace} (h:DataW.trod enc Tryz.prog W 0 sp hd fuel 73 [.slice a n cap]=some x):
 n<=maxLen/\∃ x0 x1 x2 x3,gD W (.slice a n cap) n x0 x1 x2 x3/\(∀ i,i<n->0<=x2 i/\x2 i<18446744073709551616)/\(∀ i,i<n->(x3 i).size<=maxLen):=by
 obtain ⟨hn,h⟩:=jF Tryz.underlying73 (show Tryz.prog.cellsOf 136=4 by kernel_rfl) (by omega) h
 refine ⟨hn,?_⟩
 rcases h with rfl|⟨b,o,m,rfl,hb,hcap,hel⟩
 ·exact ⟨fun _=>0,fun _=>0,fun _=>0,fun _=>ByteArray.empty,⟨.inl ⟨rfl,_,_,rfl⟩,fun i hi=>by omega,fun i hi=>by omega⟩⟩
 ·have key:∀ i,∃ q:Int × Int × Int × ByteArray,i<n->(W.cell? ⟨b,o+i*4,none⟩=some (.int .i64 (q.1))/\W.cell? ⟨b,o+i*4+1,none⟩=some (.int .i64 (q.2.1))/\W.cell? ⟨b,o+i*4+2,none⟩=some (.int .u64 (q.2.2.1))/\W.cell? ⟨b,o+i*4+3,none⟩=some (.string (q.2.2.2)))/\0<=q.2.2.1/\q.2.2.1<18446744073709551616/\(q.2.2.2).size<=maxLen:=by
   intro i
   by_cases hi:i<n
   ·obtain ⟨cs,y,hl,hcell,htr⟩:=hel i hi
    obtain ⟨v0,hv0⟩:∃ v,cs[0]?=some v:=⟨cs[0]'(by omega),List.getElem?_eq_getElem (by omega)⟩
    obtain ⟨n0,y0,t0⟩:=jd Tryz.underlying136 htr 0 _ rfl (by kernel_rfl) rfl hv0
    obtain ⟨z0,e0,_,w0⟩:=DataW.trod_int Tryz.underlying3 t0
    simp at e0
    subst e0
    obtain ⟨v1,hv1⟩:∃ v,cs[1]?=some v:=⟨cs[1]'(by omega),List.getElem?_eq_getElem (by omega)⟩
    obtain ⟨n1,y1,t1⟩:=jd Tryz.underlying136 htr 1 _ rfl (by kernel_rfl) rfl hv1
    obtain ⟨z1,e1,_,w1⟩:=DataW.trod_int Tryz.underlying3 t1
    simp at e1
    subst e1
    obtain ⟨v2,hv2⟩:∃ v,cs[2]?=some v:=⟨cs[2]'(by omega),List.getElem?_eq_getElem (by omega)⟩
    obtain ⟨n2,y2,t2⟩:=jd Tryz.underlying136 htr 2 _ rfl (by kernel_rfl) rfl hv2
    obtain ⟨z2,e2,_,w2⟩:=DataW.trod_int Tryz.underlying84 t2
    simp at e2
    subst e2
    obtain ⟨v3,hv3⟩:∃ v,cs[3]?=some v:=⟨cs[3]'(by omega),List.getElem?_eq_getElem (by omega)⟩
    obtain ⟨n3,y3,t3⟩:=jd Tryz.underlying136 htr 3 _ rfl (by kernel_rfl) rfl hv3
    obtain ⟨z3,e3,_,w3⟩:=DataW.trod_string Tryz.underlying9 t3
    simp at e3
    subst e3
    exact ⟨⟨z0,z1,z2,z3⟩,fun _=>⟨⟨(hcell 0 (by omega)).trans hv0,(hcell 1 (by omega)).trans hv1,(hcell 2 (by omega)).trans hv2,(hcell 3 (by omega)).trans hv3⟩,(vv w2).1,(vv w2).2,w3⟩⟩
   ·exact ⟨⟨0,0,0,ByteArray.empty⟩,fun h=>absurd h hi⟩
  exact ⟨fun i=>(Classical.choose (key i)).1,fun i=>(Classical.choose (key i)).2.1,fun i=>(Classical.choose (key i)).2.2.1,fun i=>(Classical.choose (key i)).2.2.2,.inr ⟨b,o,cap,rfl,hb,hcap,fun i hi=>(Classical.choose_spec (key i) hi).1⟩,fun i hi=>⟨(Classical.choose_spec (key i) hi).2.1,(Classical.choose_spec (key i) hi).2.2.1⟩,fun i hi=>(Classical.choose_spec (key i) hi).2.2.2⟩
theorem Gr {H:Type} {enc:TypeId × Value->H} {W:World} {sp:Nat->Bool} {hd:Bool} {fuel n cap:Nat} {a:Option Addr} {x:DataW H × List MemPlace} (h:DataW.trod enc Tryz.prog W 0 sp hd fuel 74 [.slice a n cap]=some x):
 n<=maxLen/\∃ x0 x1 x2 x3,jQ W (.slice a n cap) n x0 x1 x2 x3:=by
 obtain ⟨hn,h⟩:=jF Tryz.underlying74 (show Tryz.prog.cellsOf 142=4 by kernel_rfl) (by omega) h
 refine ⟨hn,?_⟩
 rcases h with rfl|⟨b,o,m,rfl,hb,hcap,hel⟩
 ·exact ⟨fun _=>0,fun _=>0,fun _=>0,fun _=>0,.inl ⟨rfl,_,_,rfl⟩⟩
 ·have key:∀ i,∃ q:Int × Int × Int × Int,i<n->(W.cell? ⟨b,o+i*4,none⟩=some (.int .i64 (q.1))/\W.cell? ⟨b,o+i*4+1,none⟩=some (.int .i64 (q.2.1))/\W.cell? ⟨b,o+i*4+2,none⟩=some (.int .i64 (q.2.2.1))/\W.cell? ⟨b,o+i*4+3,none⟩=some (.int .i64 (q.2.2.2))):=by
   intro i
   by_cases hi:i<n
   ·obtain ⟨cs,y,hl,hcell,htr⟩:=hel i hi
    obtain ⟨v0,hv0⟩:∃ v,cs[0]?=some v:=⟨cs[0]'(by omega),List.getElem?_eq_getElem (by omega)⟩
    obtain ⟨n0,y0,t0⟩:=jd Tryz.underlying142 htr 0 _ rfl (by kernel_rfl) rfl hv0
    obtain ⟨z0,e0,_,w0⟩:=DataW.trod_int Tryz.underlying3 t0
    simp at e0
    subst e0
    obtain ⟨v1,hv1⟩:∃ v,cs[1]?=some v:=⟨cs[1]'(by omega),List.getElem?_eq_getElem (by omega)⟩
    obtain ⟨n1,y1,t1⟩:=jd Tryz.underlying142 htr 1 _ rfl (by kernel_rfl) rfl hv1
    obtain ⟨z1,e1,_,w1⟩:=DataW.trod_int Tryz.underlying3 t1
    simp at e1
    subst e1
    obtain ⟨v2,hv2⟩:∃ v,cs[2]?=some v:=⟨cs[2]'(by omega),List.getElem?_eq_getElem (by omega)⟩
    obtain ⟨n2,y2,t2⟩:=jd Tryz.underlying142 htr 2 _ rfl (by kernel_rfl) rfl hv2
    obtain ⟨z2,e2,_,w2⟩:=DataW.trod_int Tryz.underlying3 t2
    simp at e2
    subst e2
    obtain ⟨v3,hv3⟩:∃ v,cs[3]?=some v:=⟨cs[3]'(by omega),List.getElem?_eq_getElem (by omega)⟩
    obtain ⟨n3,y3,t3⟩:=jd Tryz.underlying142 htr 3 _ rfl (by kernel_rfl) rfl hv3
    obtain ⟨z3,e3,_,w3⟩:=DataW.trod_int Tryz.underlying3 t3
    simp at e3
    subst e3
    exact ⟨⟨z0,z1,z2,z3⟩,fun _=>⟨(hcell 0 (by omega)).trans hv0,(hcell 1 (by omega)).trans hv1,(hcell 2 (by omega)).trans hv2,(hcell 3 (by omega)).trans hv3⟩⟩
   ·exact ⟨⟨0,0,0,0⟩,fun h=>absurd h hi⟩
  exact ⟨fun i=>(Classical.choose (key i)).1,fun i=>(Classical.choose (key i)).2.1,fun i=>(Classical.choose (key i)).2.2.1,fun i=>(Classical.choose (key i)).2.2.2,.inr ⟨b,o,cap,rfl,hb,hcap,fun i hi=>(Classical.choose_spec (key i) hi)⟩⟩
theorem DZ {H:Type} {enc:TypeId × Value->H} {W:World} {sp:Nat->Bool} {hd:Bool} {fuel n cap:Nat} {a:Option Addr} {x:DataW H × List MemPlace} (h:DataW.trod enc Tryz.prog W 0 sp hd fuel 41 [.slice a n cap]=some x):
 n<=maxLen/\∃ x0,gy W (.slice a n cap) n x0:=by
 obtain ⟨hn,h⟩:=jF Tryz.underlying41 (show Tryz.prog.cellsOf 3=1 by kernel_rfl) (by omega) h
 refine ⟨hn,?_⟩
 rcases h with rfl|⟨b,o,m,rfl,hb,hcap,hel⟩
 ·exact ⟨fun _=>0,.inl ⟨rfl,_,_,rfl⟩⟩
 ·have key:∀ i,∃ q:Int,i<n->(W.cell? ⟨b,o+i,none⟩=some (.int .i64 (q))):=by
   intro i
   by_cases hi:i<n
   ·obtain ⟨cs,y,hl,hcell,htr⟩:=hel i hi
    obtain ⟨v0,hv0⟩:∃ v,cs[0]?=some v:=⟨cs[0]'(by omega),List.getElem?_eq_getElem (by omega)⟩
    have ecs:cs=[v0]:=by
     match cs,hl with
     | [c],_=>simp at hv0;rw [hv0]
    rw [ecs] at htr
    obtain ⟨z0,e0,_,w0⟩:=DataW.trod_int Tryz.underlying3 htr
    simp at e0
    subst e0
    exact ⟨z0,fun _=>((by simpa using hcell 0 (by omega)):W.cell? ⟨b,o+i,none⟩=cs[0]?).trans hv0⟩
   ·exact ⟨0,fun h=>absurd h hi⟩
  exact ⟨fun i=>(Classical.choose (key i)),.inr ⟨b,o,cap,rfl,hb,hcap,fun i hi=>(Classical.choose_spec (key i) hi)⟩⟩
theorem slice_form' {H:Type} {enc:TypeId × Value->H} {P:Program} {W:World} {sp:Nat->Bool} {hd:Bool} {fuel:Nat} {t e:TypeId} {v:Value} {x:DataW H × List MemPlace} (ht:P.underlying t=some (.slice e))
 (h:DataW.trod enc P W 0 sp hd fuel t [v]=some x):∃ a n cap,v=.slice a n cap:=by
 rcases open_slice ht h with ⟨h0,_⟩|⟨a',len,cap',m,q,D,Pl,h0,_⟩
 ·simp at h0
  exact ⟨_,_,_,h0⟩
 ·simp at h0
  exact ⟨_,_,_,h0⟩
def PV.nil:PV:=⟨0,0,0,false,0,fun _=>false,fun _=>0,0,fun _=>0,fun _=>0,fun _=>0,fun _=>ByteArray.empty,0,fun _=>0,fun _=>0,fun _=>0,fun _=>0,0,fun _=>0⟩
theorem uD:maxLen<=9223372036854775807:=by unfold maxLen;omega
theorem xJ:Tryz.prog.cellsOf 24=1:=by kernel_rfl
end Go.Proofs.YtjibjahfbblieaaGreatDoor
namespace Go.Proofs.YtjibjahfbblieaaGreatDoor
open Go Go.RowKit
set_option linter.unusedVariables false
def PZ (f:Nat):Prop:=∀ (v:Value) (n:Nat) (P:Nat->PV) (w:World),n<=1048576->allFit n P 1048576->iw n P->bY w v n P->
 Calls Tryz.prog f #[.agg #[v]] w fun e w'=>∃ a b c,e=.returned (Qz a b c)/\J_ n P a b c/\Below w.heap.size w w'
theorem E5 {n:Nat} {P:Nat->PV} {l:Int} (h:allFit n P l.toNat) (hl:l<=1048576):allFit n P 1048576:=fun k hk=>(h k hk).mono (by omega)
end Go.Proofs.YtjibjahfbblieaaGreatDoor
