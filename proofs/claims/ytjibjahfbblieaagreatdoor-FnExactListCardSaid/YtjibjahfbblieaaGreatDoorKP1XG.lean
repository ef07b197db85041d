import Derived.Test.YtjibjahfbblieaaGreatDoorKBR
import Derived.Test.YtjibjahfbblieaaGreatDoorKLO
import Derived.Test.YtjibjahfbblieaaGreatDoorKP1Z9
import Derived.Test.YtjibjahfbblieaaGreatDoorKMC1
namespace Go.Proofs.YtjibjahfbblieaaGreatDoor
open Go Go.RowKit
set_option linter.unusedVariables false
def FU (w:World) (g:Nat) (s:ByteArray):Prop:=∃ C m,w.heap[g]?=some (.cells C 5 (m,m+1))/\∀ j,j<s.size->C[j]?=some (.int .u8 ((s.data.toList.getD j 0).toNat:Nat))
theorem FU.same {w w':World} {g:Nat} {s:ByteArray} (h:FU w g s) (e:w'.heap[g]?=w.heap[g]?):FU w' g s:=by
 obtain ⟨C,m,h1,h2⟩:=h
 exact ⟨C,m,e.trans h1,h2⟩
theorem FU.lt {w:World} {g:Nat} {s:ByteArray} (h:FU w g s):g<w.heap.size:=by
 obtain ⟨C,m,h1,h2⟩:=h
 exact (Array.getElem?_eq_some_iff.1 h1).1
theorem FU.cell {w:World} {g:Nat} {s:ByteArray} (h:FU w g s) {j:Nat} (hj:j<s.size):w.cell? ⟨g,j,none⟩=some (.int .u8 ((s.data.toList.getD j 0).toNat:Nat)):=by
 obtain ⟨C,m,h1,h2⟩:=h
 rw [cell_of_row w g j C _ _ h1]
 exact h2 j hj
theorem FU.apart {w:World} {g B:Nat} {s:ByteArray} {v:Value} {L:List UInt8} (h:FU w g s) (ho:nA w B v L):v.ownBlock≠some g:=by
 obtain ⟨C,m,h1,h2⟩:=h
 rcases ho.2 with ⟨rfl,_⟩|⟨g',cap,cur,rfl,hb,hg,_⟩
 ·simp [Value.ownBlock]
 ·intro hq
  simp [Value.ownBlock] at hq
  subst hq
  rw [h1] at hg
  simp only [Option.some.injEq,Obj.cells.injEq,Prod.mk.injEq] at hg
  omega
theorem FU.conv (w:World) (s:ByteArray):FU (Lib.bytesWorld w 5 s) w.heap.size s:=by
 refine ⟨_,_,Lib.bytesWorld_at_new w 5 s,fun j hj=>?_⟩
 have h:=Lib.bytesWorld_cell w 5 s j hj
 rw [cell_of_row _ w.heap.size j _ _ _ (Lib.bytesWorld_at_new w 5 s)] at h
 exact h
theorem getD_at {s:ByteArray} {j:Nat} {b:UInt8} (h:s.data.toList[j]?=some b):s.data.toList.getD j 0=b:=by
 rw [List.getD_eq_getElem?_getD,h];rfl
set_option maxHeartbeats 3200000 in
set_option maxRecDepth 100000 in
theorem Az (s:ByteArray) (w:World) (hs:s.size<=1000000000):Calls Tryz.prog 94 #[.string s] w fun e w'=>e=.returned (.string (bT (yg s.data.toList)))/\Below w.heap.size w w':=by
 have HB0:=hide (b_1 w (.cells #[.int .u8 34] 5))
 have HO0:=hide (show nA (w.alloc (.cells #[.int .u8 34] 5)) w.heap.size (.slice (some ⟨w.heap.size,0,none⟩) 1 1) [34] from JH w 34)
 go_enter Tryz.func94,Tryz.ntmps94
 have hcv:=fun (w:World)=>rT s w
 go_wp2_with fail
 obtain ⟨Z,hZ⟩:∃ Z,w.heap.size=Z:=⟨_,rfl⟩
 have HC0:=hide (FU.conv (w.alloc (.cells #[.int .u8 34] 5)) s)
 have hcb:=iX (w.alloc (.cells #[.int .u8 34] 5)) s
 have HO1:Hid (nA (Lib.bytesWorld (w.alloc (.cells #[.int .u8 34] 5)) 5 s) w.heap.size (.slice (some ⟨w.heap.size,0,none⟩) 1 1) [34]):=hide (zR HO0.out hcb)
 have HB1:=hide (HB0.out.trans (hcb.mono (by simp)))
 have hsz:(w.alloc (.cells #[.int .u8 34] 5)).heap.size=w.heap.size+1:=by simp
 rw [hsz] at HC0
 clear hcb hsz HO0 HB0 hcv
 have hs2:(s.size:Int)<=1000000000:=by omega
 generalize Lib.bytesWorld (w.alloc (.cells #[.int .u8 34] 5)) 5 s=w2 at *
 rw [hZ] at HB1 HO1 HC0 ⊢
 have HZ:=hide hZ
 clear hZ
 have HB0:=HB1
 have HO0:=HO1
 clear HB1 HO1
 go_loopw [3,10] (fun ov iv wr=>∃ (j:Nat) (L:List UInt8),j<=s.size/\iv=.int .i64 (j:Int)/\Hid (L=34::(s.data.toList.take j).flatMap pW)/\Hid (nA wr Z ov L)/\Hid (FU wr (Z+1) s)/\Hid (Below Z w wr)) (fun _ iv _=>s.size-gX iv)
 case atStart=>exact ⟨0,_,Nat.zero_le _,rfl,hide rfl,by simpa using HO0,HC0,HB0⟩
 case round=>
  clear HO0 HB0 HC0
  obtain ⟨j,L,hj,rfl,HL,HO,HC,HB⟩:=hrel
  obtain ⟨oa,oc,rfl⟩:=eH HO.out
  have HLn:Hid (L.length<=4000000001):=hide (by
   have:=vG (s.data.toList.take j)
   have h2:(s.data.toList.take j).length<=j:=by simp;omega
   rw [HL.out,List.length_cons]
   omega)
  have hZr:Z<=wr.heap.size:=by have:=HB.out.size;have:=HZ.out;omega
  by_cases hjn:j<s.size
  ·obtain ⟨b,hb1,hb2⟩:=MR hjn
   have hix:=HC.out.cell hjn
   rw [getD_at hb2] at hix
   have hbl:=b.toNat_lt
   have HT:=hide (Im hb2)
   obtain ⟨N,hN⟩:∃ N,b.toNat=N:=⟨_,rfl⟩
   have HN:=hide hN
   rw [hN] at hix hbl
   clear hb1 hb2 hN
   have HF:Hid (∀ (cs:List UInt8),pW b=cs->L++cs=34::(s.data.toList.take (j+1)).flatMap pW):=hide (by
    intro cs h
    rw [HT.out,HL.out,List.cons_append,h])
   have HCl:Hid (∀ (cs:List UInt8),cs.length<=4->L.length+cs.length<=140737488355328):=hide (by intro cs h;have:=HLn.out;omega)
   by_cases h1:N=34∨N=92
   ·have HQ:Hid (pW b=[92,b]):=hide (ML (by rw [HN.out];exact h1))
    have HCs:Hid (#[.int .u8 92,.int .u8 (N:Int)]=(Lib.byteCells [92,b]).toArray):=hide (by
     rw [<-HN.out];rfl)
    rcases h1 with rfl|rfl
    all_goals
     go_wp2_with (first
      |(at_builtin
        refine lH rfl _ _ rfl Z _ L [92,b] _ HCs.out HO.out rfl rfl (HCl.out _ (by simp)) hZr (by simp) ?_
        intro oa' oc' w' L' HL' HO' HB' HK' HS'
        replace HB':=hide (HB'.out Z w HB.out (Nat.le_refl _))
        have HC':=hide (HC.out.same (HK'.out _ HC.out.lt (HC.out.apart HO.out)))
        clear HK' HS')
      |fail)
     go_roundw
     case rel=>exact ⟨j+1,L',by omega,by simp,hide (by rw [HL'.out];exact HF.out _ HQ.out),HO',HC',HB'⟩
     case measure=>simp [gX];omega
   ·have hq1:¬ (b.toNat=34∨b.toNat=92):=by rw [HN.out];exact h1
    have he1:((N:Int)==34)=false:=beq_false_of_ne (by omega)
    have he2:((N:Int)==92)=false:=beq_false_of_ne (by omega)
    by_cases h2:32<=N/\N<=126
    ·have HQ:Hid (pW b=[b]):=hide (Mi (fun e=>hq1 (.inl e)) (fun e=>hq1 (.inr e)) (by rw [HN.out];exact h2))
     have HCs:Hid (#[.int .u8 (N:Int)]=(Lib.byteCells [b]).toArray):=hide (by
      rw [<-HN.out];rfl)
     clear hq1
     have hl1:decide ((32:Int)<=(N:Int))=true:=decide_eq_true (by omega)
     have hl2:decide ((N:Int)<=126)=true:=decide_eq_true (by omega)
     go_wp2_with (first
      |(at_builtin
        refine lH rfl _ _ rfl Z _ L [b] _ HCs.out HO.out rfl rfl (HCl.out _ (by simp)) hZr (by simp) ?_
        intro oa' oc' w' L' HL' HO' HB' HK' HS'
        replace HB':=hide (HB'.out Z w HB.out (Nat.le_refl _))
        have HC':=hide (HC.out.same (HK'.out _ HC.out.lt (HC.out.apart HO.out)))
        clear HK' HS')
      |fail)
     go_roundw
     case rel=>exact ⟨j+1,L',by omega,by simp,hide (by rw [HL'.out];exact HF.out _ HQ.out),HO',HC',HB'⟩
     case measure=>simp [gX];omega
    ·have HQ:Hid (pW b=[92,UInt8.ofNat (48+N/100),UInt8.ofNat (48+N/10%10),UInt8.ofNat (48+N%10)]):=hide (by rw [<-HN.out];exact MP (by rw [HN.out];exact h2))
     have HCs:Hid (#[.int .u8 92,.int .u8 (48+(N:Int)/100),.int .u8 (48+(N:Int)/10%10),.int .u8 (48+(N:Int)%10)]=(Lib.byteCells [92,UInt8.ofNat (48+N/100),UInt8.ofNat (48+N/10%10),UInt8.ofNat (48+N%10)]).toArray):=hide (by
      simp only [Lib.byteCells,List.map_cons,List.map_nil]
      rw [jE (by omega),jE (by omega),jE (by omega)]
      rfl)
     clear hq1
     go_wp2_with (first
      |(at_builtin
        refine lH rfl _ _ rfl Z _ L [92,UInt8.ofNat (48+N/100),UInt8.ofNat (48+N/10%10),UInt8.ofNat (48+N%10)] _ HCs.out HO.out rfl rfl (HCl.out _ (by simp)) hZr (by simp) ?_
        intro oa' oc' w' L' HL' HO' HB' HK' HS'
        replace HB':=hide (HB'.out Z w HB.out (Nat.le_refl _))
        have HC':=hide (HC.out.same (HK'.out _ HC.out.lt (HC.out.apart HO.out)))
        clear HK' HS')
      |fail)
     all_goals
      go_roundw
      case rel=>exact ⟨j+1,L',by omega,by simp,hide (by rw [HL'.out];exact HF.out _ HQ.out),HO',HC',HB'⟩
      case measure=>simp [gX];omega
  ·obtain rfl:j=s.size:=by omega
   have HFu:Hid (L++[34]=yg s.data.toList):=hide (by
    rw [HL.out,List.take_of_length_le (by simp),yg])
   go_wp2_with (first
    |(at_builtin
      refine lH rfl _ _ rfl Z _ L [34] _ rfl HO.out rfl rfl (by have:=HLn.out;simp only [List.length_cons,List.length_nil];omega) hZr (by simp) ?_
      intro oa' oc' w' L' HL' HO' HB' HK' HS'
      replace HB':=hide (HB'.out Z w HB.out (Nat.le_refl _))
      have HZ1:=HZ
      have hcv:=o9 HO'.out
      clear HK' HS')
    |fail)
   go_ret
   refine ⟨?_,?_⟩
   ·rw [HL'.out,HFu.out];rfl
   ·rw [HZ.out];exact HB'.out
structure FltP (T:Int->List UInt8):Prop where
 len:∀ u,(T u).length<=1000
 run:∀ (u:Int) (w:World),0<=u->u<18446744073709551616->kI u=u->F.FE w->Calls Tryz.prog 93 #[.agg #[.bool true,.int .i64 0,.int .u64 u]] w fun e w'=>e=.returned (.string (bT (T u)))/\Below w.heap.size w w'
def kV (T:Int->List UInt8) (k a b:Int) (s:ByteArray):List (List UInt8):=if k=4 then [[99,111,110,115,116],[105,110,116],aW a] else if k=5 then [[99,111,110,115,116],[102,108,111,97,116],T b] else [[99,111,110,115,116],[115,116,114,105,110,103],yg s.data.toList]
set_option maxHeartbeats 1600000 in
set_option maxRecDepth 100000 in
theorem sj (T:Int->List UInt8) (hT:FltP T) (k a b:Int) (s:ByteArray) (w:World) (ha:lD a) (hb0:0<=b) (hb1:b<18446744073709551616) (hs:s.size<=65536) (hn:k=5->kI b=b) (hE:PE w) (hF:F.FE w):
 Calls Tryz.prog 74 #[.agg #[.int .i64 k,.int .i64 a,.int .u64 b,.string s]] w fun e w'=>e=.returned (.string (bT (([32,32]:List UInt8)++bG (kV T k a b s))))/\Below w.heap.size w w':=by
 have hB0:=b_1 w (.cells #[.int .i64 k,.int .i64 a,.int .u64 b,.string s] 86)
 have HE:=hide (hE.low hB0)
 have HF:=hide (hF.below hB0)
 have HB0:=hide hB0
 have HT:=hide hT
 have HA:=hide ha
 have HS:=hide hs
 have HBb:=hide (And.intro hb0 hb1)
 have HN:=hide hn
 clear hE hF hB0 hT ha hs hb0 hb1 hn
 by_cases h4:k=4
 ·subst h4
  have e:kV T 4 a b s=[[99,111,110,115,116],[105,110,116],aW a]:=if_pos rfl
  rw [e]
  have HLn:Hid ((bG [[99,111,110,115,116],[105,110,116],aW a]).length<=1000000):=hide (by
   have:=eZ HA.out
   simp [bG,Lib.join]
   omega)
  clear e
  go_enter Tryz.func74,Tryz.ntmps74
  go_wp2_with (first
   |(go_at_call 92
     refine (bW HA.out _ HE.out.tab).mono ?_
     rintro e w2 ⟨rfl,hb2⟩
     have HB2:=hide (HB0.out.trans (hb2.mono HB0.out.size))
     clear hb2)
   |(go_at_call 91
     refine (lK [32,32] [99,111,110,115,116] [105,110,116] (aW a) w2 (by simp) HLn.out).mono ?_
     rintro e w3 ⟨rfl,hb3⟩
     have HB3:=hide (HB2.out.trans (hb3.mono HB2.out.size))
     clear hb3)
   |fail)
  go_ret
  exact ⟨rfl,HB3.out⟩
 ·by_cases h5:k=5
  ·subst h5
   have e:kV T 5 a b s=[[99,111,110,115,116],[102,108,111,97,116],T b]:=by unfold kV;rw [if_neg (by decide),if_pos rfl]
   rw [e]
   have HLn:Hid ((bG [[99,111,110,115,116],[102,108,111,97,116],T b]).length<=1000000):=hide (by
    have:=HT.out.len b
    simp [bG,Lib.join]
    omega)
   clear e
   go_enter Tryz.func74,Tryz.ntmps74
   go_wp2_with (first
    |(go_at_call 93
      refine (HT.out.run b _ HBb.out.1 HBb.out.2 (HN.out rfl) HF.out).mono ?_
      rintro e w2 ⟨rfl,hb2⟩
      have HB2:=hide (HB0.out.trans (hb2.mono HB0.out.size))
      clear hb2)
    |(go_at_call 91
      refine (lK [32,32] [99,111,110,115,116] [102,108,111,97,116] (T b) w2 (by simp) HLn.out).mono ?_
      rintro e w3 ⟨rfl,hb3⟩
      have HB3:=hide (HB2.out.trans (hb3.mono HB2.out.size))
      clear hb3)
    |fail)
   go_ret
   exact ⟨rfl,HB3.out⟩
  ·have hk4:(k==4)=false:=beq_false_of_ne h4
   have hk5:(k==5)=false:=beq_false_of_ne h5
   have e:kV T k a b s=[[99,111,110,115,116],[115,116,114,105,110,103],yg s.data.toList]:=by unfold kV;rw [if_neg h4,if_neg h5]
   rw [e]
   have HLn:Hid ((bG [[99,111,110,115,116],[115,116,114,105,110,103],yg s.data.toList]).length<=1000000):=hide (by
    have:=wO HS.out
    simp [bG,Lib.join]
    omega)
   clear e h4 h5
   go_enter Tryz.func74,Tryz.ntmps74
   go_wp2_with (first
    |(go_at_call 94
      refine (Az s _ (by have:=HS.out;omega)).mono ?_
      rintro e w2 ⟨rfl,hb2⟩
      have HB2:=hide (HB0.out.trans (hb2.mono HB0.out.size))
      clear hb2)
    |(go_at_call 91
      refine (lK [32,32] [99,111,110,115,116] [115,116,114,105,110,103] (yg s.data.toList) w2 (by simp) HLn.out).mono ?_
      rintro e w3 ⟨rfl,hb3⟩
      have HB3:=hide (HB2.out.trans (hb3.mono HB2.out.size))
      clear hb3)
    |fail)
   go_ret
   exact ⟨rfl,HB3.out⟩
end Go.Proofs.YtjibjahfbblieaaGreatDoor
namespace Go.Proofs.YtjibjahfbblieaaGreatDoor.F
open Go Go.RowKit
set_option linter.unusedVariables false
def sgL (s:Bool):List Int:=if s then [45] else []
def mX (r c:Nat) (L:List Int):Prop:=(r=0/\L=[48,46,48])∨(0<r/\∃ n d q,First r c n d q/\L=FT d n ((n:Int)-1-q))
theorem mX.unique {r c:Nat} {L L':List Int} (h:mX r c L) (h':mX r c L'):L=L':=by
 rcases h with ⟨h0,rfl⟩|⟨h0,n,d,q,hf,rfl⟩
 ·rcases h' with ⟨_,rfl⟩|⟨h0',_⟩
  ·rfl
  ·omega
 ·rcases h' with ⟨h0',rfl⟩|⟨_,n',d',q',hf',rfl⟩
  ·omega
  ·obtain ⟨rfl,rfl,rfl⟩:=hf.unique hf'
   rfl
def tu (s:Bool) (r c:Nat) (T:ByteArray):Prop:=
 (ak<r/\T=av [110,97,110])∨(r=ak/\T=av (sgL s++[105,110,102]))∨(r<ak/\∃ L,mX r c L/\T=av (sgL s++L))
theorem tu.unique {s:Bool} {r c:Nat} {T T':ByteArray} (h:tu s r c T) (h':tu s r c T'):T=T':=by
 rcases h with ⟨h0,rfl⟩|⟨h0,rfl⟩|⟨h0,L,hL,rfl⟩
 ·rcases h' with ⟨_,rfl⟩|⟨h1,_⟩|⟨h1,_⟩
  ·rfl
  ·omega
  ·omega
 ·rcases h' with ⟨h1,_⟩|⟨_,rfl⟩|⟨h1,_⟩
  ·omega
  ·rfl
  ·omega
 ·rcases h' with ⟨h1,_⟩|⟨h1,_⟩|⟨_,L',hL',rfl⟩
  ·omega
  ·omega
  ·rw [hL.unique hL']
theorem dJ {w w2:World} {o:Obj} (h:Below (w.alloc o).heap.size (w.alloc o) w2):Below w.heap.size w w2:=
 ((Below.refl _ _).alloc (Nat.le_refl _) o).trans (h.mono (by simp))
theorem iH (W:Nat) (i:Int) (w:World):
 Calls Tryz.prog 111 #[.agg #[.bool true,.int .i64 i,.int .u64 W]] w fun e w'=>e=.returned (.float .f64 W)/\Below w.heap.size w w':=by
 have ht:=rZ W
 go_enter Tryz.func111,Tryz.ntmps111
 go_wp2
 all_goals go_ret
 all_goals exact ⟨rfl,(Below.refl _ _).alloc (Nat.le_refl _) _⟩
theorem Dl (r c:Nat) (w:World) (hc:c=1074) (hr:r<ak) (hF:FE w):
 Calls Tryz.prog 114 #[.float .f64 r] w fun e w'=>∃ L,e=.returned (.string (av L))/\mX r c L/\Below w.heap.size w w'/\L.length<=100:=by
 by_cases h0:r=0
 ·subst h0
  refine (Gn w hF).mono ?_
  rintro e w' ⟨rfl,hb⟩
  exact ⟨_,rfl,.inl ⟨rfl,rfl⟩,hb,by decide⟩
 ·refine (J7 r c w hc (by omega) hr hF).mono ?_
  rintro e w' ⟨n,d,q,rfl,hfirst,hX1,hX2,hb⟩
  refine ⟨_,rfl,.inr ⟨by omega,n,d,q,hfirst,rfl⟩,hb,?_⟩
  have h1:=hfirst.n1
  have h2:=hfirst.n17
  unfold FT
  split
  ·have:=eTxt_len (d:=d) (X:=(n:Int)-1-q) h1 h2
   omega
  ·rename_i hX
   unfold plainL
   split
   ·simp [digL_len];omega
   ·split
    ·simp [digL_len];omega
    ·simp [digL_len];omega
def nJ (T:ByteArray->Prop) (w:World) (e:Ending) (w':World):Prop:=∃ t,e=.returned (.string t)/\T t/\Below w.heap.size w w'
theorem GU {s:Bool} {r:Nat} (h:r<=ak):FloatKind.f64.format.order (aI s r) (aI s r)=some .eq:=by
 have:=tq (s:=s) (t:=s) h h
 rw [nT rfl] at this
 exact this
theorem rW {s:Bool} {r:Nat} (h1:ak<r) (h2:r<9223372036854775808):FloatKind.f64.format.order (aI s r) (aI s r)=none:=by
 show Ieee.Datum.order (Ieee.double.read (aI s r)) (Ieee.double.read (aI s r))=none
 rw [Fb h1 h2]
 rfl
def CB (f:Nat) (args:Array Value) (b:Bool):Prop:=∀ w,Calls Tryz.prog f args w fun e w'=>e=.returned (.bool b)/\w'=w
theorem QU {s:Bool} {r:Nat} (h2:r<9223372036854775808):CB 105 #[.float .f64 (aI s r)] (decide (ak<r)):=by
 intro w
 have:=zX (aI s r) w
 by_cases h:ak<r
 ·rw [rW h h2] at this
  rw [decide_eq_true h]
  exact this
 ·rw [GU (by omega)] at this
  rw [decide_eq_false h]
  exact this
theorem O6 {s:Bool} {r:Nat} (h:r<=ak):CB 112 #[.float .f64 (aI s r),.int .i64 1] (!s&&decide (r=ak)):=by
 intro w
 have:=BI (aI s r) w
 rw [Ci h] at this
 exact this
theorem Pv {s:Bool} {r:Nat} (h:r<=ak):CB 112 #[.float .f64 (aI s r),.int .i64 (-1)] (s&&decide (r=ak)):=by
 intro w
 have hr:r<9223372036854775808:=by unfold ak at h;omega
 have:=A_ (aI s r) (aI (!s) r) w (zI s r hr)
 rw [Ci h,Bool.not_not] at this
 exact this
theorem Pm {s:Bool} {r:Nat} (h:r<9223372036854775808):CB 113 #[.float .f64 (aI s r)] s:=fun w=>zK _ s w (Dy h)
set_option maxHeartbeats 1600000 in
set_option maxRecDepth 100000 in
theorem Np (i:Int) (W:Nat) (w:World) (h1:CB 105 #[.float .f64 W] true):
 Calls Tryz.prog 93 #[.agg #[.bool true,.int .i64 i,.int .u64 W]] w fun e w'=>nJ (fun t=>t=av [110,97,110]) w e w':=by
 have H1:=hide (fun w=>iH W i w)
 have G1:=hide h1
 clear h1
 go_enter Tryz.func93,Tryz.ntmps93
 go_wp2_with fail
 refine (H1.out _).mono ?_
 rintro e w1 ⟨rfl,hb1⟩
 have Hb1:=hide hb1
 clear hb1
 go_wp2_with fail
 refine (G1.out _).mono ?_
 rintro e w2 ⟨rfl,rfl⟩
 go_wp2
 go_ret
 exact ⟨_,rfl,rfl,dJ Hb1.out⟩
set_option maxHeartbeats 1600000 in
set_option maxRecDepth 100000 in
theorem NG (i:Int) (W:Nat) (w:World) (h1:CB 105 #[.float .f64 W] false) (h2:CB 112 #[.float .f64 W,.int .i64 1] true):
 Calls Tryz.prog 93 #[.agg #[.bool true,.int .i64 i,.int .u64 W]] w fun e w'=>nJ (fun t=>t=av [105,110,102]) w e w':=by
 have H1:=hide (fun w=>iH W i w)
 have G1:=hide h1
 have G2:=hide h2
 clear h1 h2
 go_enter Tryz.func93,Tryz.ntmps93
 go_wp2_with fail
 refine (H1.out _).mono ?_
 rintro e w1 ⟨rfl,hb1⟩
 have Hb1:=hide hb1
 clear hb1
 go_wp2_with fail
 refine (G1.out _).mono ?_
 rintro e w2 ⟨rfl,rfl⟩
 go_wp2_with fail
 refine (G2.out _).mono ?_
 rintro e w2 ⟨rfl,rfl⟩
 go_wp2
 go_ret
 exact ⟨_,rfl,rfl,dJ Hb1.out⟩
set_option maxHeartbeats 1600000 in
set_option maxRecDepth 100000 in
theorem KY (i:Int) (W:Nat) (w:World) (h1:CB 105 #[.float .f64 W] false) (h2:CB 112 #[.float .f64 W,.int .i64 1] false) (h3:CB 112 #[.float .f64 W,.int .i64 (-1)] true):
 Calls Tryz.prog 93 #[.agg #[.bool true,.int .i64 i,.int .u64 W]] w fun e w'=>nJ (fun t=>t=av [45,105,110,102]) w e w':=by
 have H1:=hide (fun w=>iH W i w)
 have G1:=hide h1
 have G2:=hide h2
 have G3:=hide h3
 clear h1 h2 h3
 go_enter Tryz.func93,Tryz.ntmps93
 go_wp2_with fail
 refine (H1.out _).mono ?_
 rintro e w1 ⟨rfl,hb1⟩
 have Hb1:=hide hb1
 clear hb1
 go_wp2_with fail
 refine (G1.out _).mono ?_
 rintro e w2 ⟨rfl,rfl⟩
 go_wp2_with fail
 refine (G2.out _).mono ?_
 rintro e w2 ⟨rfl,rfl⟩
 go_wp2_with fail
 refine (G3.out _).mono ?_
 rintro e w2 ⟨rfl,rfl⟩
 go_wp2
 go_ret
 exact ⟨_,rfl,rfl,dJ Hb1.out⟩
set_option maxHeartbeats 1600000 in
set_option maxRecDepth 100000 in
theorem OJ (i:Int) (W:Nat) (M:List Int->Prop) (w:World) (HM:∀ w1,Below w.heap.size w w1->Calls Tryz.prog 114 #[.float .f64 W] w1 fun e w'=>∃ L,e=.returned (.string (av L))/\M L/\Below w1.heap.size w1 w'/\L.length<=100) (h1:CB 105 #[.float .f64 W] false) (h2:CB 112 #[.float .f64 W,.int .i64 1] false) (h3:CB 112 #[.float .f64 W,.int .i64 (-1)] false) (h4:CB 113 #[.float .f64 W] false):
 Calls Tryz.prog 93 #[.agg #[.bool true,.int .i64 i,.int .u64 W]] w fun e w'=>nJ (fun t=>∃ L,M L/\t=av L) w e w':=by
 have H1:=hide (fun w=>iH W i w)
 have G1:=hide h1
 have G2:=hide h2
 have G3:=hide h3
 have G4:=hide h4
 have GM:=hide HM
 clear h1 h2 h3 h4 HM
 go_enter Tryz.func93,Tryz.ntmps93
 go_wp2_with fail
 refine (H1.out _).mono ?_
 rintro e w1 ⟨rfl,hb1⟩
 have Hb1:=hide hb1
 clear hb1
 go_wp2_with fail
 refine (G1.out _).mono ?_
 rintro e w2 ⟨rfl,rfl⟩
 go_wp2_with fail
 refine (G2.out _).mono ?_
 rintro e w2 ⟨rfl,rfl⟩
 go_wp2_with fail
 refine (G3.out _).mono ?_
 rintro e w2 ⟨rfl,rfl⟩
 go_wp2_with fail
 refine (G4.out _).mono ?_
 rintro e w2 ⟨rfl,rfl⟩
 go_wp2_with fail
 refine (GM.out _ (dJ Hb1.out)).mono ?_
 rintro e w3 ⟨L,rfl,hL,hb3,hlen⟩
 have HL:=hide hL
 have Hb3:=hide ((dJ Hb1.out).trans (hb3.mono (dJ Hb1.out).size))
 clear hb3 hL
 have hsz:=strL_size L
 go_wp2
 go_ret
 exact ⟨_,rfl,⟨L,HL.out,rfl⟩,Hb3.out⟩
set_option maxHeartbeats 1600000 in
set_option maxRecDepth 100000 in
theorem NT (i:Int) (W:Nat) (r:Nat) (hneg:∀ w,Sem.run Tryz.prog (Op.unary UnOp.neg (Value.float FloatKind.f64 W)) w=Result.ok (Value.float FloatKind.f64 r) w) (M:List Int->Prop) (w:World) (HM:∀ w1,Below w.heap.size w w1->Calls Tryz.prog 114 #[.float .f64 r] w1 fun e w'=>∃ L,e=.returned (.string (av L))/\M L/\Below w1.heap.size w1 w'/\L.length<=100) (h1:CB 105 #[.float .f64 W] false) (h2:CB 112 #[.float .f64 W,.int .i64 1] false) (h3:CB 112 #[.float .f64 W,.int .i64 (-1)] false) (h4:CB 113 #[.float .f64 W] true):
 Calls Tryz.prog 93 #[.agg #[.bool true,.int .i64 i,.int .u64 W]] w fun e w'=>nJ (fun t=>∃ L,M L/\t=av ([45]++L)) w e w':=by
 have H1:=hide (fun w=>iH W i w)
 have G1:=hide h1
 have G2:=hide h2
 have G3:=hide h3
 have G4:=hide h4
 have GM:=hide HM
 clear h1 h2 h3 h4 HM
 go_enter Tryz.func93,Tryz.ntmps93
 go_wp2_with fail
 refine (H1.out _).mono ?_
 rintro e w1 ⟨rfl,hb1⟩
 have Hb1:=hide hb1
 clear hb1
 go_wp2_with fail
 refine (G1.out _).mono ?_
 rintro e w2 ⟨rfl,rfl⟩
 go_wp2_with fail
 refine (G2.out _).mono ?_
 rintro e w2 ⟨rfl,rfl⟩
 go_wp2_with fail
 refine (G3.out _).mono ?_
 rintro e w2 ⟨rfl,rfl⟩
 go_wp2_with fail
 refine (G4.out _).mono ?_
 rintro e w2 ⟨rfl,rfl⟩
 go_wp2_with fail
 refine (GM.out _ (dJ Hb1.out)).mono ?_
 rintro e w3 ⟨L,rfl,hL,hb3,hlen⟩
 have HL:=hide hL
 have Hb3:=hide ((dJ Hb1.out).trans (hb3.mono (dJ Hb1.out).size))
 clear hb3 hL
 have hsz:=strL_size L
 go_wp2
 go_ret
 exact ⟨_,rfl,⟨L,HL.out,ay [45] L⟩,Hb3.out⟩
set_option maxHeartbeats 1600000 in
set_option maxRecDepth 100000 in
theorem OM (i u:Int) (w:World) (h0: -9223372036854775808<=i) (h1:i<=9223372036854775807) (hF:FE w):
 Calls Tryz.prog 93 #[.agg #[.bool false,.int .i64 i,.int .u64 u]] w fun e w'=>nJ (fun t=>t=⟨(Lib.itoa i).toArray⟩) w e w':=by
 have HI:=hide (fun (w1:World) (hb:Below w.heap.size w w1)=>Ik i h0 h1 w1 ((hF.below hb).f.tab))
 clear hF
 go_enter Tryz.func93,Tryz.ntmps93
 go_wp2_with fail
 refine (HI.out _ ((Below.refl _ _).alloc (Nat.le_refl _) _)).mono ?_
 rintro e w1 ⟨rfl,hb1⟩
 have Hb1:=hide hb1
 clear hb1
 go_wp2
 go_ret
 exact ⟨_,rfl,rfl,dJ Hb1.out⟩
theorem Js (i:Int) (s:Bool) (r c:Nat) (w:World) (hc:c=1074) (hr:r<9223372036854775808) (hF:FE w):
 Calls Tryz.prog 93 #[.agg #[.bool true,.int .i64 i,.int .u64 (aI s r:Nat)]] w fun e w'=>nJ (tu s r c) w e w':=by
 have c1:=QU (s:=s) hr
 by_cases hn:ak<r
 ·rw [decide_eq_true hn] at c1
  refine (Np i _ w c1).mono ?_
  rintro e w' ⟨t,rfl,rfl,hb⟩
  exact ⟨_,rfl,.inl ⟨hn,rfl⟩,hb⟩
 ·rw [decide_eq_false hn] at c1
  have c2:=O6 (s:=s) (r:=r) (by omega)
  have c3:=Pv (s:=s) (r:=r) (by omega)
  by_cases hi:r=ak
  ·rw [decide_eq_true hi] at c2 c3
   cases s with
   |false=>
    refine (NG i _ w c1 c2).mono ?_
    rintro e w' ⟨t,rfl,rfl,hb⟩
    exact ⟨_,rfl,.inr (.inl ⟨hi,rfl⟩),hb⟩
   |true=>
    refine (KY i _ w c1 c2 c3).mono ?_
    rintro e w' ⟨t,rfl,rfl,hb⟩
    exact ⟨_,rfl,.inr (.inl ⟨hi,rfl⟩),hb⟩
  ·rw [decide_eq_false hi,Bool.and_false] at c2 c3
   have c4:=Pm (s:=s) hr
   have hlt:r<ak:=by omega
   cases s with
   |false=>
    refine (OJ i _ (mX r c) w (fun w1 hb=>Dl r c w1 hc hlt (hF.below hb)) c1 c2 c3 c4).mono ?_
    rintro e w' ⟨t,rfl,⟨L,hL,rfl⟩,hb⟩
    exact ⟨_,rfl,.inr (.inr ⟨hlt,L,hL,rfl⟩),hb⟩
   |true=>
    refine (NT i _ r (zI true r hr) (mX r c) w (fun w1 hb=>Dl r c w1 hc hlt (hF.below hb)) c1 c2 c3 c4).mono ?_
    rintro e w' ⟨t,rfl,⟨L,hL,rfl⟩,hb⟩
    exact ⟨_,rfl,.inr (.inr ⟨hlt,L,hL,rfl⟩),hb⟩
end Go.Proofs.YtjibjahfbblieaaGreatDoor.F
namespace Go.Proofs.YtjibjahfbblieaaGreatDoor.F
open Go Go.RowKit
set_option linter.unusedVariables false
set_option maxHeartbeats 1600000 in
set_option maxRecDepth 100000 in
theorem Nb (i u:Int) (w:World) (h0: -9223372036854775808<=i) (h1:i<=9223372036854775807):
 Calls Tryz.prog 32 #[.agg #[.bool false,.int .i64 i,.int .u64 u]] w fun e w'=>nJ (fun t=>t=⟨(Lib.itoa i).toArray⟩) w e w':=by
 have HI:=hide (fun (w1:World)=>dec_any i w1 h0 h1)
 go_enter Tryz.func32,Tryz.ntmps32
 go_wp2_with fail
 refine (HI.out _).mono ?_
 rintro e w1 ⟨rfl,hb1⟩
 have Hb1:=hide hb1
 clear hb1
 go_wp2
 go_ret
 exact ⟨_,rfl,rfl,dJ Hb1.out⟩
set_option maxHeartbeats 1600000 in
set_option maxRecDepth 100000 in
theorem OI (i:Int) (W:Nat) (w:World) (h1:CB 53 #[.int .u64 W] true):
 Calls Tryz.prog 32 #[.agg #[.bool true,.int .i64 i,.int .u64 W]] w fun e w'=>nJ (fun t=>t=av [110,97,110]) w e w':=by
 have G1:=hide h1
 clear h1
 go_enter Tryz.func32,Tryz.ntmps32
 go_wp2_with fail
 refine (G1.out _).mono ?_
 rintro e w2 ⟨rfl,rfl⟩
 go_wp2
 go_ret
 exact ⟨_,rfl,rfl,(Below.refl _ _).alloc (Nat.le_refl _) _⟩
set_option maxHeartbeats 1600000 in
set_option maxRecDepth 100000 in
theorem N7 (i:Int) (W:Nat) (s:Bool) (w:World) (h1:CB 53 #[.int .u64 W] false) (h2:CB 54 #[.int .u64 W] s) (h3:CB 55 #[.int .u64 W] true):
 Calls Tryz.prog 32 #[.agg #[.bool true,.int .i64 i,.int .u64 W]] w fun e w'=>nJ (fun t=>t=av (sgL s++[105,110,102])) w e w':=by
 have G1:=hide h1
 have G2:=hide h2
 have G3:=hide h3
 clear h1 h2 h3
 go_enter Tryz.func32,Tryz.ntmps32
 go_wp2_with fail
 refine (G1.out _).mono ?_
 rintro e w2 ⟨rfl,rfl⟩
 go_wp2_with fail
 refine (G2.out _).mono ?_
 rintro e w2 ⟨rfl,rfl⟩
 cases s with
 |false=>
  go_wp2_with fail
  refine (G3.out _).mono ?_
  rintro e w2 ⟨rfl,rfl⟩
  go_wp2
  go_ret
  exact ⟨_,rfl,rfl,(Below.refl _ _).alloc (Nat.le_refl _) _⟩
 |true=>
  go_wp2_with fail
  refine (G3.out _).mono ?_
  rintro e w2 ⟨rfl,rfl⟩
  go_wp2
  go_ret
  exact ⟨_,rfl,rfl,(Below.refl _ _).alloc (Nat.le_refl _) _⟩
set_option maxHeartbeats 1600000 in
set_option maxRecDepth 100000 in
theorem Oo (i:Int) (W r:Nat) (s:Bool) (M:List Int->Prop) (w:World) (h1:CB 53 #[.int .u64 W] false) (h2:CB 54 #[.int .u64 W] s) (h3:CB 55 #[.int .u64 W] false) (hm:(W:Int)%9223372036854775808=r)
 (HM:∀ w1,Calls Tryz.prog 56 #[.int .u64 r] w1 fun e w'=>∃ L,e=.returned (.string (av L))/\M L/\Below w1.heap.size w1 w') (hML:∀ L,M L->L.length<=1000):
 Calls Tryz.prog 32 #[.agg #[.bool true,.int .i64 i,.int .u64 W]] w fun e w'=>nJ (fun t=>∃ L,M L/\t=av (sgL s++L)) w e w':=by
 have G1:=hide h1
 have G2:=hide h2
 have G3:=hide h3
 have GM:=hide HM
 have GL:=hide hML
 clear h1 h2 h3 HM hML
 go_enter Tryz.func32,Tryz.ntmps32
 go_wp2_with fail
 refine (G1.out _).mono ?_
 rintro e w2 ⟨rfl,rfl⟩
 go_wp2_with fail
 refine (G2.out _).mono ?_
 rintro e w2 ⟨rfl,rfl⟩
 cases s with
 |false=>
  go_wp2_with fail
  refine (G3.out _).mono ?_
  rintro e w2 ⟨rfl,rfl⟩
  go_wp2_with fail
  refine (GM.out _).mono ?_
  rintro e w3 ⟨L,rfl,hL,hb3⟩
  have HL:=hide hL
  have Hb3:=hide (dJ hb3)
  have hsz:=strL_size L
  have hl1:=GL.out L hL
  clear hb3 hL
  go_wp2
  go_ret
  exact ⟨_,rfl,⟨L,HL.out,ay [] L⟩,Hb3.out⟩
 |true=>
  go_wp2_with fail
  refine (G3.out _).mono ?_
  rintro e w2 ⟨rfl,rfl⟩
  go_wp2_with fail
  refine (GM.out _).mono ?_
  rintro e w3 ⟨L,rfl,hL,hb3⟩
  have HL:=hide hL
  have Hb3:=hide (dJ hb3)
  have hsz:=strL_size L
  have hl1:=GL.out L hL
  clear hb3 hL
  go_wp2
  go_ret
  exact ⟨_,rfl,⟨L,HL.out,ay [45] L⟩,Hb3.out⟩
theorem mX.len {r c:Nat} {L:List Int} (h:mX r c L):L.length<=1000:=by
 rcases h with ⟨_,rfl⟩|⟨_,n,d,q,hf,rfl⟩
 ·decide
 ·have h1:=hf.n1
  have h2:=hf.n17
  unfold FT
  split
  ·have:=eTxt_len (d:=d) (X:=(n:Int)-1-q) h1 h2
   omega
  ·rename_i hX
   unfold plainL
   split
   ·simp [digL_len];omega
   ·split
    ·simp [digL_len];omega
    ·simp [digL_len];omega
theorem Jr (i:Int) (s:Bool) (r c:Nat) (w:World) (hr:r<9223372036854775808)
 (HM:r<ak->∀ w1,Calls Tryz.prog 56 #[.int .u64 r] w1 fun e w'=>∃ L,e=.returned (.string (av L))/\mX r c L/\Below w1.heap.size w1 w'):
 Calls Tryz.prog 32 #[.agg #[.bool true,.int .i64 i,.int .u64 (aI s r:Nat)]] w fun e w'=>nJ (tu s r c) w e w':=by
 have hA:=Lb (s:=s) hr
 have c1:CB 53 #[.int .u64 (aI s r:Nat)] (decide (ak<r)):=hA.c1
 have c3:CB 55 #[.int .u64 (aI s r:Nat)] (decide (r=ak)):=hA.c2
 have c2:CB 54 #[.int .u64 (aI s r:Nat)] s:=fun w=>by
  have:=EB ((aI s r:Nat):Int) w
  rw [yU hr] at this
  exact this
 by_cases hn:ak<r
 ·rw [decide_eq_true hn] at c1
  refine (OI i _ w c1).mono ?_
  rintro e w' ⟨t,rfl,rfl,hb⟩
  exact ⟨_,rfl,.inl ⟨hn,rfl⟩,hb⟩
 ·rw [decide_eq_false hn] at c1
  by_cases hi:r=ak
  ·rw [decide_eq_true hi] at c3
   refine (N7 i _ s w c1 c2 c3).mono ?_
   rintro e w' ⟨t,rfl,rfl,hb⟩
   exact ⟨_,rfl,.inr (.inl ⟨hi,rfl⟩),hb⟩
  ·rw [decide_eq_false hi] at c3
   have hlt:r<ak:=by omega
   refine (Oo i _ r s (mX r c) w c1 c2 c3 (pE hr) (HM hlt) (fun L h=>h.len)).mono ?_
   rintro e w' ⟨t,rfl,⟨L,hL,rfl⟩,hb⟩
   exact ⟨_,rfl,.inr (.inr ⟨hlt,L,hL,rfl⟩),hb⟩
end Go.Proofs.YtjibjahfbblieaaGreatDoor.F
