import Derived.Test.YtjibjahfbblieaaGreatDoorKLS
import Derived.RangeFuncCalls
import Derived.RangeFuncLeaves
import Derived.OwnWalkIn
import Derived.TacticsInMore
import Derived.LoopNIn
import Derived.LoopIn
import Derived.RangeFuncNested
namespace Go.Proofs.YtjibjahfbblieaaGreatDoor
open Go Go.RowKit Go.Shelf
set_option linter.unusedVariables false
attribute [local go_sem] Oper.semAt_some
set_option maxRecDepth 100000 in
set_option maxHeartbeats 12800000 in
theorem NZ {T:Int->List UInt8} {p:PV} {a4 a5 a6 a7:Option Addr} {k4 k5 k6 k7:Nat} {w0:World} {R B9 gP gB gW gN:Nat} {X:Nat->Prop} {I J Jx:List (List UInt8)->World->Prop} (C:FlC T p (.slice a4 p.nu k4) (.slice a5 p.nc k5) (.slice a6 p.ni k6) (.slice a7 p.nl k7) w0 R B9 X I J) (n l:Nat) (hn:1<=n)
 (hY:Rv (n-1) l T p R w0.heap.size X J Jx) (W:World) (h0:J [] W) (hs:FlS W gP gB gW gN p (.slice a4 p.nu k4) (.slice a5 p.nc k5) (.slice a6 p.ni k6) (.slice a7 p.nl k7)) (hX:¬ X gP/\¬ X gB/\¬ X gW/\¬ X gN):
 CallsIn Fence.wide n Tryz.prog 71 #[.func (.yield l) #[] #[],.pointer (some ⟨gP,0,none⟩),.pointer (some ⟨gB,0,none⟩)] W fun e W'=>(∃ v,e=.returned v)/\(J (aJ T p) W'∨∃ m,Jx ((aJ T p).take m) W'):=by
 have HC:=hide C
 have HY:=hide hY
 have HJ0:=hide (show J ((aJ T p).take 0) W from h0)
 have HS0:=hide hs
 have HX:=hide hX
 obtain ⟨-,-,-,n1,n2,n3,n4⟩:=C.hw.head
 have N4:=hide n4
 obtain ⟨q00,q01,q02,q03,q04,q05,q06,q07⟩:=hs.fp.all
 clear C hY h0 hs hX n4
 have f1:Fence.wide.fn 72:=trivial
 have f2:Fence.wide.fn 73:=trivial
 have f3:Fence.wide.fn 74:=trivial
 have f4:Fence.wide.fn 75:=trivial
 have f5:Fence.wide.fn 76:=trivial
 refine callsIn_of_wp Tryz.func71 rfl trivial ?_ rfl
 simp only [Tryz.ntmps71,List.size_toArray,List.length_cons,List.length_nil,Nat.reduceAdd,Nat.reduceSub,Array.replicate_succ,Array.replicate_zero,List.push_toArray,List.append_toArray,List.nil_append,List.cons_append]
 gi_wp2_with (first
  |(gi_at_call 72
    refine (callsIn_wide.2 (FJ p _ _ _ _ W HC.out.hw (HC.out.pe HJ0.out))).mono ?_
    rintro e w1 ⟨rfl,hb1⟩
    have HJ1:=hide (HC.out.step HJ0.out hb1)
    have HS1:=hide (HS0.out.low hb1)
    obtain ⟨fn,tmps,assign,body,hy,hR⟩:=HY.out 0 _ w1 HJ1.out (Bc T p)
    have HR:=hide hR
    clear hb1 hR)
  |fail)
 refine HR.out.mono ?_
 rintro e w2 (⟨rfl,hj2,hk2⟩|⟨rfl,hx2⟩)
 rotate_left
 ·have HX2:=hide hx2
  clear hx2 HR hy q00 q01 q02 q03 q04 q05 q06 q07
  gi_wp2
  refine bodyPost_ret (results_none rfl _ _ _) rfl ?_
  exact ⟨⟨_,rfl⟩,.inr ⟨_,HX2.out⟩⟩
 have HS2:=hide (HC.out.round HJ1.out hk2 HS1.out HX.out)
 have HJ2:=hide hj2
 obtain ⟨-,-,-,-,r04,-,-,-⟩:=HS2.out.fp.all
 clear hj2 hk2 HR hy q00 q01 q02 q03 q04 q05 q06 q07 HJ1 HS1 HJ0 HS0
 gi_wp2
 gi_loopw [18] (fun iv wr=>∃ k:Nat,k<=p.nu/\iv=.int .i64 (k:Int)/\Hid (J ((aJ T p).take (1+k)) wr)/\Hid (FlS wr gP gB gW gN p (.slice a4 p.nu k4) (.slice a5 p.nc k5) (.slice a6 p.ni k6) (.slice a7 p.nl k7))) (fun iv _=>p.nu-gX iv)
 case atStart=>exact ⟨0,Nat.zero_le _,rfl,HJ2,HS2⟩
 case round=>
  clear HJ2 HS2 r04
  obtain ⟨k,hk,rfl,HJ,HS⟩:=hrel
  by_cases hkn:k<p.nu
  ·obtain ⟨b,o,cap',hv,hb,c0,c1⟩:=MF (HC.out.pva HJ.out).u hkn
   simp only [Value.slice.injEq,true_and] at hv
   obtain ⟨rfl,rfl⟩:=hv
   have hB:=b_1 wr (.cells #[.bool (p.u0 k),.int .i64 (p.u1 k)] 83)
   have HJA:=hide (HC.out.step HJ.out hB)
   have HSA:=hide (HS.out.low hB)
   clear hB
   gi_wp2_with (first
    |(gi_at_call 73
      refine (callsIn_wide.2 (Ki p k _ HC.out.hw hkn (HC.out.pe HJA.out))).mono ?_
      rintro e w3 ⟨rfl,hb3⟩
      have HJ3:=hide (HC.out.step HJA.out hb3)
      have HS3:=hide (HSA.out.low hb3)
      obtain ⟨fn,tmps,assign,body,hy,hR⟩:=HY.out (1+k) _ w3 HJ3.out (JQ T p hkn)
      have HR:=hide hR
      clear hb3 hR)
    |fail)
   refine HR.out.mono ?_
   rintro e w4 (⟨rfl,hj4,hk4⟩|⟨rfl,hx4⟩)
   ·have HS4:=hide (HC.out.round HJ3.out hk4 HS3.out HX.out)
    have HJ4:=hide hj4
    clear hj4 hk4 HR hy HJ3 HS3
    gi_wp2
    go_roundw
    case rel=>exact ⟨k+1,by omega,by simp,HJ4,HS4⟩
    case measure=>simp [gX];omega
   ·have HX4:=hide hx4
    clear hx4 HR hy
    gi_wp2
    refine bodyPost_ret (results_none rfl _ _ _) rfl ?_
    exact ⟨⟨_,rfl⟩,.inr ⟨_,HX4.out⟩⟩
  ·obtain rfl:k=p.nu:=by omega
   have HJ2:=HJ
   have HS2:=HS
   obtain ⟨-,-,-,-,-,r05,-,-⟩:=HS2.out.fp.all
   clear HJ HS
   gi_wp2
   generalize wr=w5 at *
   gi_loopw [31] (fun iv wr=>∃ k:Nat,k<=p.nc/\iv=.int .i64 (k:Int)/\Hid (J ((aJ T p).take (1+p.nu+k)) wr)/\Hid (FlS wr gP gB gW gN p (.slice a4 p.nu k4) (.slice a5 p.nc k5) (.slice a6 p.ni k6) (.slice a7 p.nl k7))) (fun iv _=>p.nc-gX iv)
   case atStart=>exact ⟨0,Nat.zero_le _,rfl,HJ2,HS2⟩
   case round=>
    clear HJ2 HS2 r05
    obtain ⟨k,hk,rfl,HJ,HS⟩:=hrel
    by_cases hkn:k<p.nc
    ·obtain ⟨b,o,cap',hv,hb,c0,c1,c2,c3⟩:=Jv (HC.out.pva HJ.out).c hkn
     simp only [Value.slice.injEq,true_and] at hv
     obtain ⟨rfl,rfl⟩:=hv
     have hB:=b_1 wr (.cells #[.int .i64 (p.c0 k),.int .i64 (p.c1 k),.int .u64 (p.c2 k),.string (p.c3 k)] 86)
     have HJA:=hide (HC.out.step HJ.out hB)
     have HSA:=hide (HS.out.low hB)
     clear hB
     gi_wp2_with (first
      |(gi_at_call 74
        refine (callsIn_wide.2 (BQ T HC.out.hT p k _ HC.out.hw hkn (HC.out.pe HJA.out) (HC.out.fe HJA.out))).mono ?_
        rintro e w6 ⟨rfl,hb6⟩
        have HJ6:=hide (HC.out.step HJA.out hb6)
        have HS6:=hide (HSA.out.low hb6)
        obtain ⟨fn,tmps,assign,body,hy,hR⟩:=HY.out (1+p.nu+k) _ w6 HJ6.out (yC T p hkn)
        have HR:=hide hR
        clear hb6 hR)
      |fail)
     refine HR.out.mono ?_
     rintro e w7 (⟨rfl,hj7,hk7⟩|⟨rfl,hx7⟩)
     ·have HS7:=hide (HC.out.round HJ6.out hk7 HS6.out HX.out)
      have HJ7:=hide hj7
      clear hj7 hk7 HR hy HJ6 HS6
      gi_wp2
      go_roundw
      case rel=>exact ⟨k+1,by omega,by simp,HJ7,HS7⟩
      case measure=>simp [gX];omega
     ·have HX7:=hide hx7
      clear hx7 HR hy
      gi_wp2
      refine bodyPost_ret (results_none rfl _ _ _) rfl ?_
      exact ⟨⟨_,rfl⟩,.inr ⟨_,HX7.out⟩⟩
    ·obtain rfl:k=p.nc:=by omega
     have HJ2:=HJ
     have HS2:=HS
     obtain ⟨-,-,-,-,-,-,r06,-⟩:=HS2.out.fp.all
     clear HJ HS
     gi_wp2_with (first
      |(gi_at_call 75
        refine (callsIn_wide.2 (yP p _ _ n3 (HC.out.pva HJ2.out).i)).mono ?_
        rintro e w8 ⟨gM,m,rfl,hgM,hM,hb8⟩
        have HJ8:=hide (HC.out.step HJ2.out hb8)
        have HS8:=hide (HS2.out.low hb8)
        have HM8:=hide hM
        have HXM:=hide (show ¬ X gM from fun e=>by have:=(HC.out.hJI _ _ HJ2.out).2.2 gM e;omega)
        obtain ⟨-,-,-,-,-,-,r86,-⟩:=HS8.out.fp.all
        clear hb8 hM r06)
      |fail)
     gi_loopw [47] (fun iv wr=>∃ k:Nat,k<=p.ni/\iv=.int .i64 (k:Int)/\Hid (J ((aJ T p).take (1+p.nu+p.nc+k)) wr)/\Hid (FlS wr gP gB gW gN p (.slice a4 p.nu k4) (.slice a5 p.nc k5) (.slice a6 p.ni k6) (.slice a7 p.nl k7))/\Hid (fQ wr gM p.ni m (aH p p.ni) (lbl p))) (fun iv _=>p.ni-gX iv)
     case atStart=>exact ⟨0,Nat.zero_le _,rfl,HJ8,HS8,HM8⟩
     case round=>
      clear HJ8 HS8 HM8 r86 HJ2 HS2
      obtain ⟨k,hk,rfl,HJ,HS,HM⟩:=hrel
      by_cases hkn:k<p.ni
      ·obtain ⟨q00,q01,q02,q03,q04,q05,q06,q07⟩:=HS.out.fp.all
       have qb:wr.cell? ⟨gB,0,none⟩=some (.pointer (some ⟨gW,0,none⟩)):=ah.cell HS.out.fb (j:=0) (by omega)
       have h79:p.i0 k<79:=by
        have h1:=HC.out.nm k hkn
        rcases Int.lt_or_le (p.i0 k) 79 with h2|h2
        ·exact h2
        ·exfalso
         apply h1
         unfold aU
         rw [if_neg (by omega),if_neg (by omega)]
       gi_wp2_with (first
        |(gi_at_call 76
          refine (callsIn_wide.2 (sK p a4 a5 a6 a7 k4 k5 k6 k7 gW gN gM m k wr HC.out.hw (HC.out.pva HJ.out) hkn HS.out.n HM.out (HC.out.pe HJ.out) h79)).mono ?_
          rintro e w9 ⟨rfl,hb9⟩
          have HJ9:=hide (HC.out.step HJ.out hb9)
          have HS9:=hide (HS.out.low hb9)
          have HM9:=hide (fQ.low HM.out hb9 HM.out.lt)
          obtain ⟨fn,tmps,assign,body,hy,hR⟩:=HY.out (1+p.nu+p.nc+k) _ w9 HJ9.out (FK T p hkn)
          have HR:=hide hR
          clear hb9 hR)
        |fail)
       refine HR.out.mono ?_
       rintro e w10 (⟨rfl,hj10,hk10⟩|⟨rfl,hx10⟩)
       ·have HS10:=hide (HC.out.round HJ9.out hk10 HS9.out HX.out)
        have HM10:=hide (HC.out.lab HJ9.out hk10 HM9.out HXM.out)
        have HJ10:=hide hj10
        clear hj10 hk10 HR hy HJ9 HS9 HM9 q00 q01 q02 q03 q04 q05 q06 q07 qb
        gi_wp2
        go_roundw
        case rel=>exact ⟨k+1,by omega,by simp,HJ10,HS10,HM10⟩
        case measure=>simp [gX];omega
       ·have HX10:=hide hx10
        clear hx10 HR hy q00 q01 q02 q03 q04 q05 q06 q07 qb
        gi_wp2
        refine bodyPost_ret (results_none rfl _ _ _) rfl ?_
        exact ⟨⟨_,rfl⟩,.inr ⟨_,HX10.out⟩⟩
      ·obtain rfl:k=p.ni:=by omega
       have HJf:=hide (show J (aJ T p) wr from by
        have:=HJ.out
        rw [<-FH T p,List.take_length] at this
        exact this)
       gi_wp2
       go_end0
       exact ⟨⟨_,rfl⟩,.inl HJf.out⟩
theorem lN (T:Int->List UInt8) (i:Nat) (P:Nat->PV):aG T (i+1) P=aG T i P++aJ T (P i):=by
 unfold aG
 rw [List.range_succ,List.flatMap_append]
 simp
theorem rQ (T:Int->List UInt8) {i n:Nat} (P:Nat->PV) (h:i<=n):aG T i P<+:aG T n P:=by
 induction n with
 |zero=>obtain rfl:i=0:=by omega
        exact List.prefix_refl _
 |succ n ih=>
  rcases Nat.lt_or_ge n i with c|c
  ·obtain rfl:i=n+1:=by omega
   exact List.prefix_refl _
  ·rw [lN]
   exact (ih c).trans (List.prefix_append _ _)
structure LnC (T:Int->List UInt8) (n:Nat) (P:Nat->PV) (v:Value) (w0:World) (R B9:Nat) (X:Nat->Prop) (I J Jx:List (List UInt8)->World->Prop):Prop where
 hT:FltP T
 hw:∀ i,i<n->Wri (P i)
 nm:∀ i,i<n->pU (P i)
 hA:bY w0 v n P
 hE:PE w0
 hF:F.FE w0
 hZR:w0.heap.size<=R
 hRB:R<B9
 hJI:∀ pre A,J pre A->I pre A/\B9+2<=A.heap.size
 hX:∀ b,X b->b<B9+2
 hJs:∀ pre A C,J pre A->I pre C->(∀ b,B9<=b->b<B9+2->C.heap[b]?=A.heap[b]?)->J pre C
 hIo:OwnFrom B9 I
 hIB:∀ pre A,I pre A->(∃ L ad bf,RwI A w0.heap.size R L ad bf)/\Below w0.heap.size w0 A
 hJx:∀ pre A B row,Jx pre A->A.grownBy B row->(∀ r,row=some r->B9+2<=r/\∃ o:Obj,A.heap[r]?=some o/\o.isCells=false)->Jx pre B
section
variable {T : Int → List UInt8} {n : Nat} {P : Nat → PV} {v : Value} {w0 : World} {R B9 : Nat} {X : Nat → Prop} {I J Jx : List (List UInt8) → World → Prop} {A C : World} {pre : List (List UInt8)}
theorem LnC.own (h:LnC T n P v w0 R B9 X I J Jx) {row:Option Nat} (hj:J pre A) (hg:A.grownBy C row) (hr:∀ r,row=some r->B9+2<=r/\∃ o:Obj,A.heap[r]?=some o/\o.isCells=false):J pre C:=by
 obtain ⟨h1,h2⟩:=h.hJI _ _ hj
 refine h.hJs _ _ _ hj (h.hIo _ _ _ row h1 hg (fun r e=>⟨by have:=(hr r e).1;omega,(hr r e).2⟩)) (fun b _ hb2=>hg.block b (by omega) (fun e=>by have:=(hr b e.symm).1;omega))
theorem LnC.step (h:LnC T n P v w0 R B9 X I J Jx) (hj:J pre A) (hb:Below A.heap.size A C):J pre C:=h.own hj (below_grown hb) (fun r e=>by cases e)
theorem LnC.base (h:LnC T n P v w0 R B9 X I J Jx) (hj:J pre A):Below w0.heap.size w0 A:=(h.hIB _ _ (h.hJI _ _ hj).1).2
theorem LnC.bu (h:LnC T n P v w0 R B9 X I J Jx) (hj:J pre A):∃ L ad bf,RwI A w0.heap.size R L ad bf:=(h.hIB _ _ (h.hJI _ _ hj).1).1
end
def Rq (m l:Nat) (T:Int->List UInt8) (n:Nat) (P:Nat->PV) (R Z B9:Nat) (X:Nat->Prop) (J Jx:List (List UInt8)->World->Prop):Prop:=
 ∀ (pre:List (List UInt8)) (x:List UInt8) (W1:World),J pre W1->pre++[x]<+:aG T n P->YieldAt Fence.wide m Tryz.prog l #[.string (bT x)] W1 fun e W'=>
   (e=.returned (.bool true)/\J (pre++[x]) W'/\KpL X R Z W1 W')∨(e=.returned (.bool false)/\Jx (pre++[x]) W'/\KeepsFrom (B9+2) W1 W')
theorem RoundIn.toIn {m:Nat} {P:Program} {l:Nat} {f:FuncId} {tmps:Array Value} {assign body:Code} {w:World} {R:Ending->World->Prop} (l' m':Nat) (h:RoundIn Fence.wide m P l f tmps assign body w R):RoundIn (Fence.wide.inRound l') m' P l f tmps assign body w R:=
 ⟨trivial,fun c cs _=>h.2 c cs (room_wide _)⟩
theorem KeepsFrom.lift {B B':Nat} {A C:World} (h:KeepsFrom B A C) (hB:B<=B'):KeepsFrom B' A C:=⟨h.size,fun g o hg ho hc=>h.same g o (by omega) ho hc⟩
def Q7 (D:Nat):Deferred:={ target:=.collected D,args:=#[] }
def Bt (Ds:List Nat) (B:Nat) (w:World):Prop:=Ds.Nodup/\∀ D,D∈Ds->B<=D/\w.heap[D]?=some (.deferred (some []))
theorem Bt.keep {Ds:List Nat} {B:Nat} {w w':World} (h:Bt Ds B w) (k:KeepsFrom B w w'):Bt Ds B w':=
 ⟨h.1,fun D hD=>⟨(h.2 D hD).1,k.same D _ (h.2 D hD).1 (h.2 D hD).2 rfl⟩⟩
theorem Bt.low {Ds:List Nat} {B:Nat} {w w':World} (h:Bt Ds B w) (k:Below w.heap.size w w'):Bt Ds B w':=
 ⟨h.1,fun D hD=>⟨(h.2 D hD).1,(k.block D (Array.getElem?_eq_some_iff.1 (h.2 D hD).2).1).trans (h.2 D hD).2⟩⟩
theorem jU {F:Fence} {m:Nat} {P:Program} {fn:Func} {tmps:Array Value} {R:Ending->World->Prop} {B:Nat} {u:Value} (hres:∀ w,(results fn tmps).run P w=.ok u w):
 ∀ (Ds:List Nat) (w:World),Bt Ds B w->(∀ A D o',R (.returned u) A->B<=D->A.heap[D]?=some (.deferred (some []))->R (.returned u) (A.putObj D o'))->R (.returned u) w->LeavesInM F m P fn tmps R (Ds.map Q7) .returning w
 | [],w,_,_,hR=>⟨u,hres w,hR⟩
 |D::Ds,w,hM,hS,hR=>by
  refine ⟨by simp,.inl ⟨D,_,rfl,run_takeDeferred (hM.2 D (by simp)).2,?_⟩⟩
  refine jU hres Ds _ ⟨(List.nodup_cons.1 hM.1).2,fun D' hD'=>⟨(hM.2 D' (by simp [hD'])).1,(World.putObj_heap_other (fun e=>(List.nodup_cons.1 hM.1).1 (by rw [<-e];exact hD'))).trans (hM.2 D' (by simp [hD'])).2⟩⟩ hS (hS _ _ _ hR (hM.2 D (by simp)).1 (hM.2 D (by simp)).2)
end Go.Proofs.YtjibjahfbblieaaGreatDoor
namespace Go.Proofs.YtjibjahfbblieaaGreatDoor
open Go Go.RowKit
set_option linter.unusedVariables false
set_option maxHeartbeats 3200000 in
set_option maxRecDepth 100000 in
theorem EN (w:World) (hT:qm w):Calls Tryz.prog 15 #[] w fun e w'=>∃ gN,e=.returned (.slice (some ⟨gN,0,none⟩) 79 79)/\w.heap.size<=gN/\ah w' 9 gN 79 (fun k=>.string (bT (aU (k:Int))))/\Below w.heap.size w w':=by
 have HT:=hide hT
 clear hT
 obtain ⟨i9,hi0,hz0,hz1,hz2⟩:=info_parts II
 go_enter Tryz.func15,Tryz.ntmps15
 go_upto_region 2 with (first
  |(at_make;refine wpList_make_full _ rfl _ _ 51 rfl _ 9 i9 (.string ByteArray.empty) 1 Tryz.underlying51 hi0 hz0 hz1 _ _ _ _ 79 rfl rfl rfl rfl (by rw [hz2];omega) (by unfold maxLen;omega) (Nat.le_refl _) ?_;intro w1 hown hgrow)
  |fail)
 have HX1:=hide (Nr hown)
 have HB1:Hid (Below w.heap.size w w1):=hide ((Below.refl _ _).grown hgrow (by simp) (fun _ h=>by cases h))
 have HT1:=hide (HT.out.low HB1.out)
 clear hown hgrow hi0 hz0 hz1 hz2
 obtain ⟨G,hG⟩:∃ G,w.heap.size=G:=⟨_,rfl⟩
 rw [hG] at HX1 HB1 ⊢
 have HG:=hide hG
 clear hG
 have hd1:Below w1.heap.size w1 w1.drew:=(Below.refl _ _).drew
 have hx2:=(HX1.out.low hd1).low (b_1 w1.drew (.cells (nC (oH.drop 1)).toArray 9))
 obtain ⟨w2,hc2,hx3,hk3⟩:=IX (o:=1) (dl:=78) (dc:=78) (gs:=w1.drew.heap.size) (sc:=38) hx2 (show (oH.drop 1).length=38 from rfl) (by omega) (by omega) (uz (w:=w1.drew))
 have HX2:=hide hx3
 have HB2:=hide (show Below G w w2 from (HB1.out.trans ((hd1.trans (b_1 w1.drew (.cells (nC (oH.drop 1)).toArray 9))).mono (by have:=HB1.out.size;have:=HG.out;omega))).trans (hk3.below (B:=G) (by have:=HB1.out.size;have:=HG.out;simp;omega) (fun b e=>by omega)))
 have HC2:=hide hc2
 clear hx2 hx3 hk3 hc2
 go_region_held3 (fun _=>True) (go_keep)
  (first
    |(refine pG (.tmp 4) (.tmp 5) 51 rfl (.slice (some ⟨G,1,none⟩) 78 78) (.slice (some ⟨w1.drew.heap.size,0,none⟩) 38 38) rfl rfl (HC2.out _) ?_)
    |(go_at_call 40
      refine (lS _ (HT1.out.low hd1)).mono ?_
      rintro e w' ⟨rfl,rfl⟩))
 go_wp2_with fail
 have HT2:=hide (show qm w2 from HT.out.low (by rw [HG.out];exact HB2.out))
 clear HC2 HX1 HB1 HT1 hd1
 generalize w1.heap.size=g1 at *
 have hd2:Below w2.heap.size w2 w2.drew:=(Below.refl _ _).drew
 have hx3:=(HX2.out.low hd2).low (b_1 w2.drew (.cells (nC (jA.drop 1)).toArray 9))
 obtain ⟨w3,hc3,hx4,hk4⟩:=IX (o:=65) (dl:=14) (dc:=14) (gs:=w2.drew.heap.size) (sc:=14) hx3 (show (jA.drop 1).length=14 from rfl) (by omega) (by omega) (uz (w:=w2.drew))
 have HX3:=hide hx4
 have HB3:=hide (show Below G w w3 from (HB2.out.trans ((hd2.trans (b_1 w2.drew (.cells (nC (jA.drop 1)).toArray 9))).mono (by have:=HB2.out.size;have:=HG.out;omega))).trans (hk4.below (B:=G) (by have:=HB2.out.size;have:=HG.out;simp;omega) (fun b e=>by omega)))
 have HC3:=hide hc3
 clear hx3 hx4 hk4 hc3
 go_region_held3 (fun _=>True) (go_keep)
  (first
    |(refine pG (.tmp 8) (.tmp 9) 51 rfl (.slice (some ⟨G,65,none⟩) 14 14) (.slice (some ⟨w2.drew.heap.size,0,none⟩) 14 14) rfl rfl (HC3.out _) ?_)
    |(go_at_call 40
      refine (Dz _ (HT2.out.low hd2)).mono ?_
      rintro e w' ⟨rfl,rfl⟩))
 go_wp2_with fail
 go_ret
 exact ⟨G,rfl,Nat.le_of_eq HG.out,HX3.out.f.congr IZ,by rw [HG.out];exact HB3.out⟩
end Go.Proofs.YtjibjahfbblieaaGreatDoor
