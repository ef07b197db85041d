import Derived.Test.YtjibjahfbblieaaGreatDoorKP1R2
import Derived.Test.YtjibjahfbblieaaGreatDoorKLK
import Derived.Test.YtjibjahfbblieaaGreatDoorKBR
namespace Go.Proofs.YtjibjahfbblieaaGreatDoor
open Go Go.RowKit
set_option linter.unusedVariables false
theorem O7 {wr:World} {ops:Array Oper} {rest:List Oper} {o:Oper} {a:Act} {Q:Exit->Act->World->Prop} (hgd:o.guard=none) (sl x:Operand)
 (ho:o.op=.call { callee:=.builtin .append,args:=#[sl,x],argTypes:=#[35,35] }) (base:Nat) (v:Value) (L:List UInt8) (hown:nA wr base v L) (hs:a.eval sl=v) (B2:Nat) (v2:Value) (L2:List UInt8) (h2:lJ wr B2 v2 L2) (hx:a.eval x=v2)
 (hlen:L.length+L2.length<=140737488355328) (hbase:base<=wr.heap.size)
 (h:∀ oa oc w' L',Hid (L'=L++L2)->Hid (nA w' base (.slice oa L'.length oc) L')->Hid (∀ B w0,Below B w0 wr->B<=base->Below B w0 w')->Hid (∀ gx,gx<wr.heap.size->v.ownBlock≠some gx->w'.heap[gx]?=wr.heap[gx]?)->wpList Tryz.prog ops Q rest (a.put o.dst (.slice oa L'.length oc)) w'):
 wpList Tryz.prog ops Q (o::rest) a wr:=by
 obtain ⟨i0,hi,hz0,hz1,hz2⟩:=info_parts lZ
 obtain ⟨g,cap,rfl,hc⟩:=h2.cells
 refine wpList_append_own _ hgd sl x 35 ho base 5 i0 (.int .u8 0) 1 1 Tryz.underlying35 hi hz0 hz1 hz2 rfl (by decide) v L.length (Lib.byteCells L) hs hown ⟨g,0,none⟩ L2.length cap (Lib.byteCells L2) hx (by simp [Lib.byteCells]) hc (fun u hu=>by
  obtain ⟨b,_,rfl⟩:=List.mem_map.1 hu
  rfl) (by unfold maxLen;omega) (by omega) hbase ?_
 intro v' w' g1 g2 g3
 have e:nA w' base v' (L++L2):=by
  unfold nA
  rw [List.length_append,Lib.byteCells_append]
  exact g1
 obtain ⟨k1,k2⟩:=tX hown hbase g2
 obtain ⟨oa,oc,rfl⟩:=eH e
 exact h oa oc w' _ (hide rfl) (hide e) (hide k1) (hide k2)
structure SlD (wr w:World) (Z:Nat) (v ov:Value) (L:List UInt8):Prop where
 c:ah wr 30 Z 1 (fun _=>v)
 o:nA wr (Z+1) ov L
 b:Below Z w wr
theorem SlD.low {wr w w':World} {Z:Nat} {v ov:Value} {L:List UInt8} (h:SlD wr w Z v ov L) (hb:Below wr.heap.size wr w'):SlD w' w Z v ov L:=
 ⟨ah.low h.c hb (ah.lt h.c),zR h.o hb,h.b.trans (hb.mono (Nat.le_of_lt (ah.lt h.c)))⟩
theorem D8 (w:World) (Z:Nat) (h:Z<=w.heap.size):nA (w.alloc (.cells #[] 5)) Z (.slice (some ⟨w.heap.size,0,none⟩) 0 0) []:=
 ⟨rfl,.inr ⟨w.heap.size,0,#[],rfl,h,heap_alloc_new w _,Nat.le_refl _,by unfold maxLen;omega,rfl,rfl⟩⟩
set_option maxHeartbeats 6400000 in
set_option maxRecDepth 100000 in
theorem EW (T:Int->List UInt8) (hT:FltS T) (a:Option Addr) (n cap:Nat) (P:Nat->PV) (w:World) (hn:n<=1048576) (hf:allFit n P 1048576) (hbit:iw n P) (hwt:CX P n<=1048576) (hc1:∀ i,i<n->∀ k,k<(P i).nc->lD ((P i).c1 k)) (h:bY w (.slice a n cap) n P):
 Calls Tryz.prog 5 #[.agg #[.slice a n cap]] w fun e w'=>∃ t c,e=.returned (.tuple #[.string t,.int .i64 c])/\Gg T n P t c/\Below w.heap.size w w':=by
 have HT:=hide hT
 have HFit:=hide hf
 have HBit:=hide hbit
 have HWt:=hide hwt
 have HC1:=hide hc1
 have HA:=hide h
 have hb1:=b_1 w (.cells #[.slice a n cap] 30)
 have HCb:=hide (gu w 30 (.slice a n cap))
 have HB0:=hide hb1
 clear hT hf hbit hwt hc1 h hb1
 obtain ⟨Z,hZ⟩:∃ Z,w.heap.size=Z:=⟨_,rfl⟩
 go_enter Tryz.func5,Tryz.ntmps5
 go_upto_region 1 with (fail)
 rw [hZ] at HCb HB0
 have HZ:=hide hZ
 clear hZ
 generalize w.alloc (.cells #[.slice a n cap] 30)=w1 at *
 have c0:w1.cell? ⟨Z,0,none⟩=some (.slice a n cap):=ah.cell HCb.out (j:=0) (by omega)
 go_upto_region 2 with (first
  |(go_at_call 10
    refine (sI (.slice a n cap) n P w1 hn HFit.out HBit.out HWt.out (HA.out.low HB0.out (by rw [HZ.out];exact Nat.le_refl _))).mono ?_
    rintro e w2 ⟨v2,c2,rfl,hr,hb2⟩
    have HCb2:=hide (ah.low HCb.out hb2 (ah.lt HCb.out))
    have HB2:=hide (HB0.out.trans (hb2.mono (by have:=HZ.out;have:=HB0.out.size;omega)))
    have HR2:=hide hr
    clear hb2 hr)
  |fail)
 clear c0 HCb HB0
 have hR2:=HR2.out
 clear HR2
 rcases hR2 with ⟨hp,rfl,hown⟩|⟨hp,rfl,hv⟩
 case inr=>
  have HNo:=hide hp
  clear hp hv
  go_wp2_with fail
  go_ret2
  exact ⟨_,_,rfl,.inl ⟨HNo.out,rfl,rfl⟩,by rw [HZ.out];exact HB2.out⟩
 have HYes:=hide hp
 have HW:Hid (∀ i,i<n->Wri (P i)):=hide (fun i hi=>⟨hp.2 i hi,fun k hk=>HC1.out i hi k hk,HBit.out i hi⟩)
 clear hp hown
 have hb3:=b_1 w2 (.cells #[] 5)
 have HS3:=hide (show SlD (w2.alloc (.cells #[] 5)) w Z (.slice a n cap) (.slice (some ⟨w2.heap.size,0,none⟩) 0 0) [] from
  ⟨ah.low HCb2.out hb3 (ah.lt HCb2.out),D8 w2 (Z+1) (ah.lt HCb2.out),HB2.out.trans (hb3.mono (Nat.le_of_lt (ah.lt HCb2.out)))⟩)
 clear hb3 HCb2 HB2
 go_upto_region 5 with (fail)
 generalize w2.alloc (.cells #[] 5)=w3 at *
 generalize w2.heap.size=gO at *
 have c0:w3.cell? ⟨Z,0,none⟩=some (.slice a n cap):=ah.cell HS3.out.c (j:=0) (by omega)
 go_wp2_with fail
 clear c0
 go_loopw [25] (fun iv wr=>∃ i:Nat,i<=n/\iv=.int .i64 (i:Int)/\Hid (∀ k,k<i->pU (P k))/\Hid (SlD wr w Z (.slice a n cap) (.slice (some ⟨gO,0,none⟩) 0 0) [])) (fun iv _=>n-gX iv)
 case atStart=>exact ⟨0,Nat.zero_le _,rfl,hide (fun k hk=>by omega),HS3⟩
 case round=>
  clear HS3
  obtain ⟨i,hi9,rfl,HU,HS⟩:=hrel
  have HBw:=hide (show Below w.heap.size w wr from by rw [HZ.out];exact HS.out.b)
  by_cases hin:i<n
  ·rcases HA.out with ⟨h9,_⟩|⟨b,o,cap',e,hb,hcap,hc⟩
   ·omega
   cases e
   obtain ⟨s4,s5,s6,s7,h8,hp8⟩:=hc i hin
   obtain ⟨a4,k4,rfl⟩:=hp8.u.val
   obtain ⟨a5,k5,rfl⟩:=hp8.c.val
   obtain ⟨a6,k6,rfl⟩:=hp8.i.val
   obtain ⟨a7,k7,rfl⟩:=hp8.l.val
   obtain ⟨c0,c1,c2,c3,c4,c5,c6,c7⟩:=h8.low HBw.out hb
   have HI:=hide hp8.i
   have hbA:=b_1 wr (iO (P i) (.slice a4 (P i).nu k4) (.slice a5 (P i).nc k5) (.slice a6 (P i).ni k6) (.slice a7 (P i).nl k7))
   have HS4:=hide (HS.out.low hbA)
   have q6:=(dA.mk wr (P i) (.slice a4 (P i).nu k4) (.slice a5 (P i).nc k5) (.slice a6 (P i).ni k6) (.slice a7 (P i).nl k7)).all.2.2.2.2.2.2.1
   clear hc h8 hp8 hb hbA
   go_upto_region 8 with (fail)
   clear c0 c1 c2 c3 c4 c5 c6 c7
   generalize wr.alloc (iO (P i) (.slice a4 (P i).nu k4) (.slice a5 (P i).nc k5) (.slice a6 (P i).ni k6) (.slice a7 (P i).nl k7))=w4 at *
   generalize wr.heap.size=gP at *
   go_wp2_with fail
   clear q6
   generalize wr=wo at *
   go_loopw [32] (fun jv wr=>∃ j:Nat,j<=(P i).ni/\jv=.int .i64 (j:Int)/\Hid (∀ q,q<j->aU ((P i).i0 q)≠[])/\Hid (SlD wr w Z (.slice (some ⟨b,o,none⟩) n cap) (.slice (some ⟨gO,0,none⟩) 0 0) [])) (fun jv _=>(P i).ni-gX jv)
   case atStart=>exact ⟨0,Nat.zero_le _,rfl,hide (fun k hk=>by omega),HS4⟩
   case round=>
    clear HS4
    obtain ⟨j,hj9,rfl,HUj,HSj⟩:=hrel
    have HBj:=hide (show Below w.heap.size w wr from by rw [HZ.out];exact HSj.out.b)
    by_cases hjn:j<(P i).ni
    ·obtain ⟨b2,o2,cap2,hv,hb2,d0,d1,d2,d3⟩:=sV (HI.out.low HBj.out (Nat.le_refl _)) hjn
     simp only [Value.slice.injEq,true_and] at hv
     obtain ⟨rfl,rfl⟩:=hv
     have hbB:=b_1 wr (.cells #[.int .i64 ((P i).i0 j),.int .i64 ((P i).i1 j),.int .i64 ((P i).i2 j),.int .i64 ((P i).i3 j)] 45)
     have HS5:=hide (HSj.out.low hbB)
     have hD:=((HW.out i hin).insD hjn).a
     have HN:=hide (gV ((P i).i0 j) (wr.alloc (.cells #[.int .i64 ((P i).i0 j),.int .i64 ((P i).i1 j),.int .i64 ((P i).i2 j),.int .i64 ((P i).i3 j)] 45)) hD.1 hD.2)
     clear hbB hD hb2
     obtain ⟨L,hL⟩:∃ L,aU ((P i).i0 j)=L:=⟨_,rfl⟩
     rw [hL] at HN
     have HL:=hide hL
     clear hL
     have hni:(P i).ni<=65535:=(HW.out i hin).head.2.2.2.2.2.1
     cases L with
     |nil=>
      have hE:((bT []).toList==([]:List UInt8))=true:=by
       rw [Go.ByteArray.toList_eq,bP]
       rfl
      have hE2:(bT []).toList.isEmpty=true:=by
       rw [Go.ByteArray.toList_eq,bP]
       rfl
      go_wp2_with (first
       |(go_at_call 11
         refine HN.out.mono ?_
         rintro e w6 ⟨rfl,hb6⟩
         have HS6:=hide (HS5.out.low hb6)
         clear hb6)
       |fail)
      go_ret2
      exact ⟨_,_,rfl,.inr ⟨HYes.out,.inl ⟨fun h=>h i hin j hjn HL.out,rfl,rfl⟩⟩,by rw [HZ.out];exact HS6.out.b⟩
     |cons x l=>
      have hE:((bT (x::l)).toList==([]:List UInt8))=false:=by
       rw [Go.ByteArray.toList_eq,bP]
       rfl
      have hE2:(bT (x::l)).toList.isEmpty=false:=by
       rw [Go.ByteArray.toList_eq,bP]
       rfl
      go_wp2_with (first
       |(go_at_call 11
         refine HN.out.mono ?_
         rintro e w6 ⟨rfl,hb6⟩
         have HS6:=hide (HS5.out.low hb6)
         clear hb6)
       |fail)
      go_roundw
      case rel=>exact ⟨j+1,by omega,by simp,hide (dZ HUj.out (by rw [HL.out];simp)),HS6⟩
      case measure=>simp [gX];omega
    ·obtain rfl:j=(P i).ni:=by omega
     go_wp2_with fail
     go_roundw
     case rel=>exact ⟨i+1,by omega,by simp,hide (dZ HU.out HUj.out),HSj⟩
     case measure=>simp [gX];omega
  ·obtain rfl:i=n:=by omega
   have HNm:=HU
   clear HU
   have c0:wr.cell? ⟨Z,0,none⟩=some (.slice a i cap):=ah.cell HS.out.c (j:=0) (by omega)
   go_wp2_with fail
   clear c0
   have HS1:=hide (show Hid (SlD wr w Z (.slice a i cap) (.slice (some ⟨gO,0,none⟩) ([]:List UInt8).length 0) []) from HS)
   clear HS HBw
   generalize wr=w3 at *
   go_loopw [6,45] (fun ov iv wr=>∃ (k:Nat) (L:List UInt8),k<=i/\iv=.int .i64 (k:Int)/\Hid (L=flat (aG T k P))/\Hid (L.length<=262144)/\Hid (SlD wr w Z (.slice a i cap) ov L)) (fun _ iv _=>i-gX iv)
   case atStart=>exact ⟨0,[],Nat.zero_le _,rfl,hide rfl,hide (by simp),HS1.out⟩
   case round=>
    clear HS1
    obtain ⟨k,L,hk9,rfl,HL,HLn,HS⟩:=hrel
    have HBw:=hide (show Below w.heap.size w wr from by rw [HZ.out];exact HS.out.b)
    obtain ⟨oa,oc,rfl⟩:=eH HS.out.o
    by_cases hkn:k<i
    ·rcases HA.out with ⟨h9,_⟩|⟨b,o,cap',e,hb,hcap,hc⟩
     ·omega
     cases e
     obtain ⟨s4,s5,s6,s7,h8,hp8⟩:=hc k hkn
     obtain ⟨a4,k4,rfl⟩:=hp8.u.val
     obtain ⟨a5,k5,rfl⟩:=hp8.c.val
     obtain ⟨a6,k6,rfl⟩:=hp8.i.val
     obtain ⟨a7,k7,rfl⟩:=hp8.l.val
     obtain ⟨c0,c1,c2,c3,c4,c5,c6,c7⟩:=h8.low HBw.out hb
     have hbA:=b_1 wr (iO (P k) (.slice a4 (P k).nu k4) (.slice a5 (P k).nc k5) (.slice a6 (P k).ni k6) (.slice a7 (P k).nl k7))
     have HS4:=hide (HS.out.low hbA)
     have HP4:=hide ((hp8.low HBw.out (Nat.le_refl _)).low hbA (Nat.le_refl _))
     obtain ⟨q0,q1,q2,q3,q4,q5,q6,q7⟩:=(dA.mk wr (P k) (.slice a4 (P k).nu k4) (.slice a5 (P k).nc k5) (.slice a6 (P k).ni k6) (.slice a7 (P k).nl k7)).all
     clear hc h8 hp8 hb hbA
     go_upto_region 18 with (fail)
     clear c0 c1 c2 c3 c4 c5 c6 c7
     generalize wr.alloc (iO (P k) (.slice a4 (P k).nu k4) (.slice a5 (P k).nc k5) (.slice a6 (P k).ni k6) (.slice a7 (P k).nl k7))=w4 at *
     generalize wr.heap.size=gP at *
     have HPr:=hide (AP T HT.out (P k) _ _ _ _ w4 (HW.out k hkn) HP4.out)
     have HFl:=hide (show (flat (aJ T (P k))).length<=30000000000 from by
      have:=Ia HT.out.len (HW.out k hkn) (Nat.le_refl (P k).ni)
      rw [Jq] at this
      exact this)
     have HFu:=hide (lN T k P)
     go_upto_region 19 with (first
      |(have _z:=HPr
        go_at_call 12
        clear _z
        refine HPr.out.mono ?_
        rintro e w5 ⟨v5,rfl,hT5,hb5⟩
        have HT5:=hide hT5
        have HS5:=hide (HS4.out.low hb5)
        clear HPr hb5 hT5)
      |(at_builtin
        refine O7 rfl _ _ rfl (Z+1) _ L HS5.out.o rfl _ v5 _ HT5.out rfl (by have:=HLn.out;have:=HFl.out;omega) (ah.lt HS5.out.c) ?_
        intro oa' oc' w6 L' HL' HO' HB' HK'
        have HS6:=hide (show SlD w6 w Z _ _ L' from ⟨ah.same HS5.out.c (HK'.out Z (ah.lt HS5.out.c) (zW HS5.out.o HS5.out.c (by decide))),HO'.out,(HB'.out Z w HS5.out.b (by omega))⟩)
        clear HO' HB' HK')
      |fail)
     have HE:=hide (show L'=flat (aG T (k+1) P) from by rw [HL'.out,HL.out,HFu.out,jN])
     clear HL' HS5 HT5 HFl HFu q0 q1 q2 q3 q4 q5 q6 q7
     obtain ⟨M,hM⟩:∃ M,L'.length=M:=⟨_,rfl⟩
     rw [hM] at HS6 ⊢
     have HM:=hide hM
     clear hM
     by_cases hbig:(262144:Int)<(M:Int)
     ·have HBig:=hide hbig
      go_wp2_with fail
      go_ret2
      exact ⟨_,_,rfl,.inr ⟨HYes.out,.inr ⟨HNm.out,.inl ⟨by
       have h1:=C_ (rQ T P (show k+1<=i by omega))
       rw [<-HE.out,HM.out] at h1
       have:=HBig.out
       omega,rfl,rfl⟩⟩⟩,by rw [HZ.out];exact HS6.out.b⟩
     ·have hbf:decide ((262144:Int)<(M:Int))=false:=decide_eq_false hbig
      have HLe:=hide hbig
      clear hbig
      go_wp2_with fail
      go_roundw
      case rel=>exact ⟨k+1,L',by omega,by simp,HE,hide (by rw [HM.out];have:=HLe.out;omega),HS6⟩
      case measure=>simp [gX];omega
    ·obtain rfl:k=i:=by omega
     have hcv:=o9 HS.out.o
     go_wp2_with fail
     go_ret2
     exact ⟨bT L,0,rfl,.inr ⟨HYes.out,.inr ⟨HNm.out,.inr ⟨by rw [<-HL.out];exact HLn.out,by rw [HL.out],rfl⟩⟩⟩,by rw [HZ.out];exact HS.out.b⟩
end Go.Proofs.YtjibjahfbblieaaGreatDoor
