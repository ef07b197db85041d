import Derived.Test.YtlgodacccilabaaGreatDoorJQH
import Derived.Deep.RegionLaw
import Derived.Deep.RegionHeld
namespace Go.Proofs.YtlgodacccilabaaGreatDoor
open Go Go.RowKit Go.Shelf
set_option linter.unusedVariables false
theorem cl_val {w:World} {g:Nat} {f:Nat→Bool} (h:ClF w g f):w.rangeAt g 0 (clC f).toList:=row_range h
set_option maxHeartbeats 3200000 in
set_option maxRecDepth 100000 in
theorem turnedOver_any (f:Nat→Bool) (q:Array Value) (hq:q=clC f) (w:World):
 Calls Tryz.prog 88 #[.agg q] w fun e w'=>e=.returned (.agg (clC (fun j=>!f j)))∧Below w.heap.size w w':=by
 have hz:=zero_cl
 obtain ⟨z,hze⟩:∃ z,clC (fun _=>false)=z:=⟨_,rfl⟩
 rw [hze] at hz
 have HZ:=hide hze
 have HQ:=hide hq
 clear hze hq
 go_enter Tryz.func88,Tryz.ntmps88
 go_wp2
 have hb0:=b_2 w (.cells q 136) (.cells z 136)
 have hA:ClF ((w.alloc (.cells q 136)).alloc (.cells z 136)) (w.heap.size+1) (fun _=>false):=
  clC_row (by rw [HZ.out];have:=heap_alloc_new (w.alloc (.cells q 136)) (.cells z 136);simpa using this)
 have hB:ClF ((w.alloc (.cells q 136)).alloc (.cells z 136)) w.heap.size (fun j=>if j<0 then !f j else f j):=by
  have h0:ClF ((w.alloc (.cells q 136)).alloc (.cells z 136)) w.heap.size f:=clC_row (by rw [←HQ.out];exact (Below.heap_alloc _ _ _ (by simp)).trans (heap_alloc_new w _))
  exact RowF.congr h0 (fun j hj=>by simp)
 generalize (w.alloc (.cells q 136)).alloc (.cells z 136)=w0 at hA hB hb0 ⊢
 have H0:=hide (And.intro hA (And.intro hB hb0))
 clear hA hB hb0 hz
 go_loopw [4] (fun iv wr=>∃ i:Nat,i≤256∧iv=.int .i64 i∧Hid (ClF wr (w.heap.size+1) (fun _=>false)∧ClF wr w.heap.size (fun j=>if j<i then !f j else f j)∧Below w.heap.size w wr)) (fun iv _=>match iv with | .int _ x=>257-x.toNat|_=>0)
 case atStart=>exact ⟨0,by omega,rfl,H0⟩
 case round=>
  obtain ⟨i,hi,rfl,HR⟩:=hrel
  by_cases hin:i<256
  ·have h1:(i:Int)<256:=by omega
   have hcell:wr.cell? ⟨w.heap.size,i,none⟩=some (.bool (f i)):=by have:=HR.out.2.1.cell hin;simpa using this
   have hfrz:=HR.out.2.1.frz i
   go_wp2
   go_roundw
   case rel=>
    refine ⟨i+1,by omega,by simp,HR.out.1.other (by omega),?_,?_⟩
    ·refine (HR.out.2.1.set hin _).congr (fun j hj=>?_)
     by_cases e:j=i
     ·subst e;simp
     ·rw [if_neg e];simp only [show (j<i+1)=(j<i) from propext ⟨fun h=>by omega,fun h=>by omega⟩]
    ·exact HR.out.2.2.setCell (Nat.le_refl _) _
   case measure=>simp;omega
  ·obtain rfl:i=256:=by omega
   have hcl:=RowF.congr (f':=fun j=>Value.bool (!f j)) HR.out.2.1 (fun j hj=>by simp [hj])
   have HA:=hide HR.out.1
   have HL:=hide HR.out.2.2
   have HC:=hide hcl
   clear hcl HR
   go_wp2
   rename_i K1 a1 K0 a0
   refine wp_load_mid 136 (.tmp 1) rfl w.heap.size 0 rfl _ (.array 256 4) (row_range HC.out) (by kernel_rfl) rfl (by rw [info_cl];simp) ?_
   refine a0 _ _ ?_
   clear a0
   have hth:=row_there HA.out
   rw [show ((List.range 256).map (fun j=>Value.bool (!f j))).toArray=clC (fun j=>!f j) from rfl]
   have hqs:=clC_size (fun j=>!f j)
   have hq1:=clC_one (fun j=>!f j)
   obtain ⟨p,hpe⟩:∃ p,clC (fun j=>!f j)=p:=⟨_,rfl⟩
   rw [hpe] at hqs hq1 ⊢
   have HE:=hide hpe
   clear hpe
   have HS:=hide hqs
   refine wpList_store_mid rfl 136 (.tmp 2) (.tmp 14) rfl (w.heap.size+1) 0 p rfl rfl (by rw [hqs];exact hth) (by rw [info_cl,hqs]) hq1 ?_
   have HT:=hide hth
   have HQ1:=hide hq1
   clear hth hqs hq1
   go_wp2
   refine bodyPost_ret (v:=.agg p) ?_ rfl ⟨by rw [HE.out],?_⟩
   ·have hr:=World.rangeAt_setCells_same wr (w.heap.size+1) 0 p.toList (by rw [Array.length_toList,HS.out];exact HT.out)
    have hld:=run_loadVar_mid (P:=Tryz.prog) _ _ _ 136 _ (.array 256 4) hr (by kernel_rfl) rfl (by rw [info_cl,Array.length_toList,HS.out])
    rw [Array.toArray_toList] at hld
    simp [results,Tryz.f88,asAddr,Act.put,hld]
   ·exact below_setCells w.heap.size p.toList 0 _ (by omega) HL.out
end Go.Proofs.YtlgodacccilabaaGreatDoor
namespace Go.Proofs.YtlgodacccilabaaGreatDoor
open Go Go.RowKit Go.Shelf
set_option linter.unusedVariables false
set_option maxHeartbeats 3200000 in
set_option maxRecDepth 100000 in
theorem joined_any (f g:Nat→Bool) (q r:Array Value) (hq:q=clC f) (hr:r=clC g) (w:World):
 Calls Tryz.prog 87 #[.agg q,.agg r] w fun e w'=>e=.returned (.agg (clC (fun j=>(f j||g j))))∧Below w.heap.size w w':=by
 have hz:=zero_cl
 obtain ⟨z,hze⟩:∃ z,clC (fun _=>false)=z:=⟨_,rfl⟩
 rw [hze] at hz
 have HZ:=hide hze
 have HQ:=hide hq
 have HR0:=hide hr
 clear hze hq hr
 go_enter Tryz.func87,Tryz.ntmps87
 go_wp2
 have hb0:=b_3 w (.cells q 136) (.cells r 136) (.cells z 136)
 have hA:ClF (((w.alloc (.cells q 136)).alloc (.cells r 136)).alloc (.cells z 136)) (w.heap.size+1+1) (fun _=>false):=
  clC_row (by rw [HZ.out];have:=heap_alloc_new ((w.alloc (.cells q 136)).alloc (.cells r 136)) (.cells z 136);simpa using this)
 have hB:ClF (((w.alloc (.cells q 136)).alloc (.cells r 136)).alloc (.cells z 136)) w.heap.size (fun j=>if j<0 then (f j||g j) else f j):=by
  have h0:ClF (((w.alloc (.cells q 136)).alloc (.cells r 136)).alloc (.cells z 136)) w.heap.size f:=clC_row (by rw [←HQ.out];exact (Below.heap_alloc _ _ _ (by simp;omega)).trans ((Below.heap_alloc _ _ _ (by simp)).trans (heap_alloc_new w _)))
  exact RowF.congr h0 (fun j hj=>by simp)
 have hG:ClF (((w.alloc (.cells q 136)).alloc (.cells r 136)).alloc (.cells z 136)) (w.heap.size+1) g:=clC_row (by rw [←HR0.out];refine (Below.heap_alloc _ _ _ (by simp)).trans ?_;have:=heap_alloc_new (w.alloc (.cells q 136)) (.cells r 136);simpa using this)
 generalize ((w.alloc (.cells q 136)).alloc (.cells r 136)).alloc (.cells z 136)=w0 at hA hB hG hb0 ⊢
 have H0:=hide (And.intro hA (And.intro hB (And.intro hG hb0)))
 clear hA hB hG hb0 hz
 go_loopw [6] (fun iv wr=>∃ i:Nat,i≤256∧iv=.int .i64 i∧Hid (ClF wr (w.heap.size+1+1) (fun _=>false)∧ClF wr w.heap.size (fun j=>if j<i then (f j||g j) else f j)∧ClF wr (w.heap.size+1) g∧Below w.heap.size w wr)) (fun iv _=>match iv with | .int _ x=>257-x.toNat|_=>0)
 case atStart=>exact ⟨0,by omega,rfl,H0⟩
 case round=>
  obtain ⟨i,hi,rfl,HR⟩:=hrel
  by_cases hin:i<256
  ·have h1:(i:Int)<256:=by omega
   have hcell:wr.cell? ⟨w.heap.size,i,none⟩=some (.bool (f i)):=by have:=HR.out.2.1.cell hin;simpa using this
   have hfrz:=HR.out.2.1.frz i
   have hcel2:=HR.out.2.2.1.cell hin
   have hx:(f i=true∧(f i||g i)=true)∨(f i=false∧(f i||g i)=g i):=by cases f i<;>simp
   obtain ⟨fi,hfi⟩:∃ b,f i=b:=⟨_,rfl⟩
   obtain ⟨gi,hgi⟩:∃ b,g i=b:=⟨_,rfl⟩
   rw [hfi] at hcell
   rw [hgi] at hcel2
   have HF:=hide hfi
   have HG:=hide hgi
   clear hfi hgi hx
   cases fi
   ·go_wp2
    go_roundw
    case rel=>
     refine ⟨i+1,by omega,by simp,HR.out.1.other (by omega),?_,HR.out.2.2.1.other (by omega),HR.out.2.2.2.setCell (Nat.le_refl _) _⟩
     refine (HR.out.2.1.set hin _).congr (fun j hj=>?_)
     by_cases e:j=i
     ·subst e;simp [HF.out,HG.out]
     ·rw [if_neg e];simp only [show (j<i+1)=(j<i) from propext ⟨fun h=>by omega,fun h=>by omega⟩]
    case measure=>simp;omega
   ·go_wp2
    go_roundw
    case rel=>
     refine ⟨i+1,by omega,by simp,HR.out.1.other (by omega),?_,HR.out.2.2.1.other (by omega),HR.out.2.2.2.setCell (Nat.le_refl _) _⟩
     refine (HR.out.2.1.set hin _).congr (fun j hj=>?_)
     by_cases e:j=i
     ·subst e;simp [HF.out,HG.out]
     ·rw [if_neg e];simp only [show (j<i+1)=(j<i) from propext ⟨fun h=>by omega,fun h=>by omega⟩]
    case measure=>simp;omega
  ·obtain rfl:i=256:=by omega
   have hcl:=RowF.congr (f':=fun j=>Value.bool ((f j||g j))) HR.out.2.1 (fun j hj=>by simp [hj])
   have HA:=hide HR.out.1
   have HL:=hide HR.out.2.2.2
   have HC:=hide hcl
   clear hcl HR
   go_wp2
   rename_i K1 a1 K0 a0
   refine wp_load_mid 136 (.tmp 2) rfl w.heap.size 0 rfl _ (.array 256 4) (row_range HC.out) (by kernel_rfl) rfl (by rw [info_cl];simp) ?_
   refine a0 _ _ ?_
   clear a0
   have hth:=row_there HA.out
   rw [show ((List.range 256).map (fun j=>Value.bool ((f j||g j)))).toArray=clC (fun j=>(f j||g j)) from rfl]
   have hqs:=clC_size (fun j=>(f j||g j))
   have hq1:=clC_one (fun j=>(f j||g j))
   obtain ⟨p,hpe⟩:∃ p,clC (fun j=>(f j||g j))=p:=⟨_,rfl⟩
   rw [hpe] at hqs hq1 ⊢
   have HE:=hide hpe
   clear hpe
   have HS:=hide hqs
   refine wpList_store_mid rfl 136 (.tmp 4) (.tmp 20) rfl (w.heap.size+1+1) 0 p rfl rfl (by rw [hqs];exact hth) (by rw [info_cl,hqs]) hq1 ?_
   have HT:=hide hth
   have HQ1:=hide hq1
   clear hth hqs hq1
   go_wp2
   refine bodyPost_ret (v:=.agg p) ?_ rfl ⟨by rw [HE.out],?_⟩
   ·have hr:=World.rangeAt_setCells_same wr (w.heap.size+1+1) 0 p.toList (by rw [Array.length_toList,HS.out];exact HT.out)
    have hld:=run_loadVar_mid (P:=Tryz.prog) _ _ _ 136 _ (.array 256 4) hr (by kernel_rfl) rfl (by rw [info_cl,Array.length_toList,HS.out])
    rw [Array.toArray_toList] at hld
    simp [results,Tryz.f87,asAddr,Act.put,hld]
   ·exact below_setCells w.heap.size p.toList 0 _ (by omega) HL.out
end Go.Proofs.YtlgodacccilabaaGreatDoor
namespace Go.Proofs.YtlgodacccilabaaGreatDoor
open Go Go.RowKit Go.Shelf
set_option linter.unusedVariables false
def ltTab:List (Int × List UInt8):=[(97,[97,122,65,90]),(100,[48,57]),(108,[97,122]),(115,[9,13,32,32]),(117,[65,90]),(119,[97,122,65,90,48,57]),(120,[48,57,97,102,65,70]),(112,[33,47,58,64,91,96,123,126]),(99,[0,31,127,127])]
def ltC (i:Nat):Int:=(ltTab.getD i (0,[])).1
def ltS (i:Nat):ByteArray:=⟨(ltTab.getD i (0,[])).2.toArray⟩
def ltL:List Value:=ltTab.flatMap (fun r=>[.int .u8 r.1,.string ⟨r.2.toArray⟩])
def LtT (w:World):Prop:=w.rangeAt 1 0 ltL
theorem LtT.low {w w':World} {B:Nat} (h:LtT w) (hb:Below B w w') (hB:1<B):LtT w':=fun j v hv=>(hb.cell (p:=⟨1,0+j,none⟩) hB).trans (h j v hv)
def ltP (s:ByteArray) (m:Nat):Nat→Bool:=fun c=>(List.range m).any (fun k=>btw (hb s (2*k)).toNat (hb s (2*k+1)).toNat c)
theorem ltP_succ (s:ByteArray) (m c:Nat):ltP s (m+1) c=(ltP s m c||btw (hb s (2*m)).toNat (hb s (2*m+1)).toNat c):=by
 simp [ltP,List.range_succ,List.any_append]
theorem lt_cases {i:Nat} (h:i<9):i=0∨i=1∨i=2∨i=3∨i=4∨i=5∨i=6∨i=7∨i=8:=by omega
theorem ltS_even {i:Nat} (h:i<9):∃ n,(ltS i).size=2*n∧n≤4:=by
 rcases lt_cases h with rfl|rfl|rfl|rfl|rfl|rfl|rfl|rfl|rfl
 ·exact ⟨2,rfl,by omega⟩
 ·exact ⟨1,rfl,by omega⟩
 ·exact ⟨1,rfl,by omega⟩
 ·exact ⟨2,rfl,by omega⟩
 ·exact ⟨1,rfl,by omega⟩
 ·exact ⟨3,rfl,by omega⟩
 ·exact ⟨3,rfl,by omega⟩
 ·exact ⟨4,rfl,by omega⟩
 ·exact ⟨2,rfl,by omega⟩
theorem lt_index {i:Nat} (h:i<9) (w:World):(Instr.index 165 (.agg ltL.toArray) (.int .i64 (i:Int))).run Tryz.prog w=.ok (.agg #[.int .u8 (ltC i),.string (ltS i)]) w:=by
 rcases lt_cases h with rfl|rfl|rfl|rfl|rfl|rfl|rfl|rfl|rfl<;>kernel_rfl
theorem size_lit (l:List UInt8):(⟨l.toArray⟩:ByteArray).size=l.length:=rfl
theorem hb_lit (l:List UInt8) (k:Nat):hb ⟨l.toArray⟩ k=(((l.getD k 0).toNat:Nat):Int):=by
 unfold hb
 by_cases h:k<l.length
 ·rw [dif_pos (show k<(⟨l.toArray⟩:ByteArray).size from h)]
  rw [List.getD_eq_getElem?_getD,List.getElem?_eq_getElem h]
  rfl
 ·rw [dif_neg (show ¬ k<(⟨l.toArray⟩:ByteArray).size from h)]
  rw [List.getD_eq_getElem?_getD,List.getElem?_eq_none (by omega)]
  rfl
theorem lt_cls {i:Nat} (h:i<9) (c:Nat) (hc:c<256):ltP (ltS i) ((ltS i).size/2) c=cls (ltC i) (c:Int):=by
 rcases lt_cases h with rfl|rfl|rfl|rfl|rfl|rfl|rfl|rfl|rfl
 all_goals (
  rw [Bool.eq_iff_iff]
  simp only [ltP,ltS,ltC,ltTab,List.getD_cons_zero,List.getD_cons_succ,size_lit,hb_lit]
  simp [btw,cls,isLow,isUp,isDg,List.range_succ]
  try omega)
theorem lt_is (x:Int):(∀ i,i<9→ltC i≠x)→clsIs x=false:=by
 intro h
 have h0:=h 0 (by omega);have h1:=h 1 (by omega);have h2:=h 2 (by omega);have h3:=h 3 (by omega);have h4:=h 4 (by omega)
 have h5:=h 5 (by omega);have h6:=h 6 (by omega);have h7:=h 7 (by omega);have h8:=h 8 (by omega)
 simp [ltC,ltTab] at h0 h1 h2 h3 h4 h5 h6 h7 h8
 simp [clsIs]
 omega
theorem lt_yes {i:Nat} (h:i<9):clsIs (ltC i)=true:=by
 rcases lt_cases h with rfl|rfl|rfl|rfl|rfl|rfl|rfl|rfl|rfl<;>decide
end Go.Proofs.YtlgodacccilabaaGreatDoor
namespace Go.Proofs.YtlgodacccilabaaGreatDoor
open Go Go.RowKit Go.Shelf
set_option linter.unusedVariables false
theorem info_lt:(Tryz.prog.info? 165).map (·.size)=some 18:=by kernel_rfl
theorem ld_cl {w:World} {g:Nat} {f:Nat→Bool} (h:ClF w g f):(loadVar 136 ⟨g,0,none⟩).run Tryz.prog w=.ok (.agg (clC f)) w:=
 run_loadVar_mid (P:=Tryz.prog) w g 0 136 _ (.array 256 4) (row_range h) (by kernel_rfl) rfl (by rw [info_cl];simp)
theorem row_setCells {T g N:Nat}:∀ (vs:List Value) (o:Nat) (w:World) (f:Nat→Value),RowF w T g N f→o+vs.length≤N→RowF (w.setCells g o vs) T g N (fun j=>if o≤j∧j<o+vs.length then vs.getD (j-o) (.bool false) else f j)
 | [],o,w,f,h,hl=>h.congr (fun j hj=>by rw [if_neg (by simp)])
 |v::r,o,w,f,h,hl=>by
  rw [World.setCells]
  rw [List.length_cons] at hl
  refine (row_setCells r (o+1) _ _ (h.set (j:=o) (by omega) v) (by omega)).congr (fun j hj=>?_)
  rw [List.length_cons]
  by_cases e:j=o
  ·subst e
   rw [if_neg (by omega),if_pos rfl,if_pos (by omega)]
   simp
  ·rw [if_neg e]
   by_cases e2:o+1≤j∧j<o+1+r.length
   ·rw [if_pos e2,if_pos (by omega)]
    obtain ⟨k,rfl⟩:∃ k,j=o+1+k:=⟨j-(o+1),by omega⟩
    rw [show o+1+k-(o+1)=k by omega,show o+1+k-o=k+1 by omega]
    rfl
   ·rw [if_neg e2,if_neg (by omega)]
theorem row_setCells_other {T g N:Nat} {f:Nat→Value} (g':Nat) (hn:g≠g'):∀ (vs:List Value) (o:Nat) (w:World),RowF w T g N f→RowF (w.setCells g' o vs) T g N f
 | [],o,w,h=>h
 |v::r,o,w,h=>by
  rw [World.setCells]
  exact row_setCells_other g' hn r (o+1) _ (h.other hn)
theorem cl_set {w:World} {g:Nat} {f:Nat→Bool} (h:ClF w g f) (f':Nat→Bool):ClF (w.setCells g 0 (clC f').toList) g f':=by
 refine (row_setCells _ 0 w _ h (by rw [Array.length_toList,clC_size];omega)).congr (fun j hj=>?_)
 rw [Array.length_toList,clC_size,if_pos (by omega)]
 simp [clC,hj]
end Go.Proofs.YtlgodacccilabaaGreatDoor
namespace Go.Proofs.YtlgodacccilabaaGreatDoor
open Go Go.RowKit Go.Shelf
set_option linter.unusedVariables false
theorem cell_setCells_other {g g' j:Nat} (hn:g≠g'):∀ (vs:List Value) (o:Nat) (w:World),(w.setCells g' o vs).cell? ⟨g,j,none⟩=w.cell? ⟨g,j,none⟩
 | [],o,w=>rfl
 |v::r,o,w=>by
  rw [World.setCells,cell_setCells_other hn r (o+1)]
  exact World.cell?_setCell_far w _ _ v (fun e=>hn e.symm)
theorem below_of_drew {w w':World} (h:Below w.drew.heap.size w.drew w'):Below w.heap.size w w':=⟨h.os,h.tape,h.output,h.size,h.block⟩
def r9:Array Oper:=#[{ dst:=some 23,op:=Op.load 136 (Operand.tmp 6),type:=136,pos:= "l10_pattern.go:143",after:=#[],guard:=none },{ dst:=some 24,op:=Op.fieldAddr 164 (Operand.tmp 5) 1,type:=0,pos:= "l10_pattern.go:143",after:=#[],guard:=none },{ dst:=some 25,op:=Op.load 9 (Operand.tmp 24),type:=9,pos:= "l10_pattern.go:143",after:=#[{ on:=1,ground:=Ground.data }],guard:=none },{ dst:=some 26,op:=Op.move (Operand.tmp 7),type:=3,pos:= "l10_pattern.go:143",after:=#[],guard:=none },{ dst:=some 27,op:=Op.index 9 (Operand.tmp 25) (Operand.tmp 26),type:=5,pos:= "l10_pattern.go:143",after:=#[{ on:=2,ground:=Ground.data },{ on:=3,ground:=Ground.data }],guard:=none },{ dst:=some 28,op:=Op.fieldAddr 164 (Operand.tmp 5) 1,type:=0,pos:= "l10_pattern.go:143",after:=#[],guard:=none },{ dst:=some 29,op:=Op.load 9 (Operand.tmp 28),type:=9,pos:= "l10_pattern.go:143",after:=#[{ on:=5,ground:=Ground.data }],guard:=none },{ dst:=some 30,op:=Op.move (Operand.tmp 7),type:=3,pos:= "l10_pattern.go:143",after:=#[],guard:=none },{ dst:=some 31,op:=Op.binOp BinOp.add 3 (Operand.tmp 30) (Operand.const (Value.int IntKind.i64 1)) 3,type:=3,pos:= "l10_pattern.go:143",after:=#[{ on:=7,ground:=Ground.data }],guard:=none },{ dst:=some 32,op:=Op.index 9 (Operand.tmp 29) (Operand.tmp 31),type:=5,pos:= "l10_pattern.go:143",after:=#[{ on:=6,ground:=Ground.data },{ on:=8,ground:=Ground.data }],guard:=none },{ dst:=some 33,op:=Op.call { callee:=Callee.value (Operand.func 91),args:=#[Operand.tmp 27,Operand.tmp 32],argTypes:=#[5,5] },type:=136,pos:= "l10_pattern.go:143",after:=#[{ on:=4,ground:=Ground.data },{ on:=9,ground:=Ground.data }],guard:=none },{ dst:=some 34,op:=Op.call { callee:=Callee.value (Operand.func 87),args:=#[Operand.tmp 23,Operand.tmp 33],argTypes:=#[136,136] },type:=136,pos:= "l10_pattern.go:143",after:=#[{ on:=0,ground:=Ground.data },{ on:=10,ground:=Ground.data },{ on:=10,ground:=Ground.chain }],guard:=none },{ dst:=none,op:=Op.store 136 (Operand.tmp 6) (Operand.tmp 34),type:=0,pos:= "l10_pattern.go:143",after:=#[{ on:=11,ground:=Ground.data },{ on:=11,ground:=Ground.chain },{ on:=0,ground:=Ground.phase },{ on:=1,ground:=Ground.phase },{ on:=2,ground:=Ground.phase },{ on:=3,ground:=Ground.phase },{ on:=4,ground:=Ground.phase },{ on:=5,ground:=Ground.phase },{ on:=6,ground:=Ground.phase },{ on:=7,ground:=Ground.phase },{ on:=8,ground:=Ground.phase },{ on:=9,ground:=Ground.phase },{ on:=10,ground:=Ground.phase },{ on:=11,ground:=Ground.phase }],guard:=none }]
set_option maxHeartbeats 3200000 in
set_option maxRecDepth 100000 in
theorem reg9 (R1 j:Nat) (s:ByteArray) (f:Nat→Bool) (cs ls:List Value) (t0 t1 t2 t3 t4 t8 t9 t10 t11 t12 t13 t14 t15 t16 t17 t18 t19 t20 t21 t22 t23 t24 t25 t26 t27 t28 t29 t30 t31 t32 t33 t34 t35 t36 t37:Value) (Q:Exit→Act→World→Prop) (w:World) (hj6:j≤6) (hj1:j+1<s.size)
 (hcs:cs.toArray=clC f) (hls:clC (fun c=>(f c||btw (hb s j).toNat (hb s (j+1)).toNat c))=ls.toArray)
 (hc1:w.cell? ⟨R1,1,none⟩=some (.string s)) (hR:R1<w.heap.size) (hcl:ClF w (R1+1) f)
 (hQp:∀ c a (d:Nat) v w,Q (.panic c) (Act.put a (some d) v) w→Q (.panic c) a w) (hpost:∀ w2,Below w.heap.size w w2→Q .normal ⟨#[t0,t1,t2,t3,t4,.pointer (some ⟨R1,0,none⟩),.pointer (some ⟨R1+1,0,none⟩),.int .i64 (j:Int),t8,t9,t10,t11,t12,t13,t14,t15,t16,t17,t18,t19,t20,t21,t22,.agg cs.toArray,.pointer (some ⟨R1,1,none⟩),.string s,.int .i64 (j:Int),.int .u8 (hb s j),.pointer (some ⟨R1,1,none⟩),.string s,.int .i64 (j:Int),.int .i64 ((j:Int)+1),.int .u8 (hb s (j+1)),.agg (clC (btw (hb s j).toNat (hb s (j+1)).toNat)),.agg ls.toArray,t35,t36,t37],[]⟩ (w2.setCells (R1+1) 0 ls)):
 (Code.region 9 r9 true).wp Tryz.prog Q ⟨#[t0,t1,t2,t3,t4,.pointer (some ⟨R1,0,none⟩),.pointer (some ⟨R1+1,0,none⟩),.int .i64 (j:Int),t8,t9,t10,t11,t12,t13,t14,t15,t16,t17,t18,t19,t20,t21,t22,t23,t24,t25,t26,t27,t28,t29,t30,t31,t32,t33,t34,t35,t36,t37],[]⟩ w:=by
 have hr0:=hb_rng s j
 have hr1:=hb_rng s (j+1)
 have hi0:∀ w':World,(Instr.index 9 (.string s) (.int .i64 (j:Int))).run Tryz.prog w'=.ok (.int .u8 (hb s j)) w':=fun w'=>by
  have:=idx_str s (i:=(j:Int)) w' (by omega) (by omega)
  simpa using this
 have hi1:∀ w':World,(Instr.index 9 (.string s) (.int .i64 ((j:Int)+1))).run Tryz.prog w'=.ok (.int .u8 (hb s (j+1))) w':=fun w'=>by
  have:=idx_str s (i:=(j:Int)+1) w' (by omega) (by omega)
  rwa [show ((j:Int)+1).toNat=j+1 by omega] at this
 have hwr:IntKind.i64.wrap ((j:Int)+1)=(j:Int)+1:=by rw [IntKind.wrap_i64];omega
 have hcq:cs=(clC f).toList:=by rw [←hcs]
 have hll:ls.length=256:=by have:=congrArg Array.size hls;rw [clC_size] at this;simpa using this.symm
 have hl1:∀ v∈ls,v.oneCell'=true:=fun v hv=>(Array.all_eq_true_iff_forall_mem.1 (show ls.toArray.all (·.oneCell')=true by rw [←hls];exact clC_one _)) v (by simpa using hv)
 have hrg:w.rangeAt (R1+1) 0 cs:=by rw [hcq];exact cl_val hcl
 have hth:w.there (R1+1) 0 256:=row_there hcl
 have hu:Tryz.prog.underlying 136=some (.array 256 4):=by kernel_rfl
 have hin1:(Tryz.prog.info? 136).map (·.size)=some cs.length:=by rw [info_cl,hcq,Array.length_toList,clC_size]
 have hin2:(Tryz.prog.info? 136).map (·.size)=some ls.length:=by rw [info_cl,hll]
 have HBt:=hide (fun W=>between_any (hb s j).toNat (hb s (j+1)).toNat (hb s j) (hb s (j+1)) (by omega) (by omega) (by omega) (by omega) W)
 have HJo:=hide (fun W=>joined_any f (btw (hb s j).toNat (hb s (j+1)).toNat) cs.toArray (clC (btw (hb s j).toNat (hb s (j+1)).toNat)) hcs rfl W)
 have HK:=hide (fun W (hb:Below w.heap.size w W)=>(⟨(hb.cell (p:=⟨R1,1,none⟩) hR).trans hc1,row_there (hcl.low hb hcl.lt),by rw [hcq];exact cl_val (hcl.low hb hcl.lt)⟩:W.cell? ⟨R1,1,none⟩=some (.string s)∧W.there (R1+1) 0 256∧W.rangeAt (R1+1) 0 cs))
 have HLS:=hide hls
 clear hls hcs hcq hr0 hr1
 refine wp_region_held_drew (S:=(fun w':World=>w'.cell? ⟨R1,1,none⟩=some (.string s)∧w'.there (R1+1) 0 256)) (by kernel_rfl) ⟨hc1,hth⟩ (fun hHeld=>?_)
 show wpAnyH Tryz.prog .any r9 Q (fun w':World=>w'.cell? ⟨R1,1,none⟩=some (.string s)∧w'.there (R1+1) 0 256) 13 #[false,false,false,false,false,false,false,false,false,false,false,false,false] ⟨#[t0,t1,t2,t3,t4,.pointer (some ⟨R1,0,none⟩),.pointer (some ⟨R1+1,0,none⟩),.int .i64 (j:Int),t8,t9,t10,t11,t12,t13,t14,t15,t16,t17,t18,t19,t20,t21,t22,t23,t24,t25,t26,t27,t28,t29,t30,t31,t32,t33,t34,t35,t36,t37],[]⟩ w.drew
 refine wpAnyH_take (i:=1) (oi:={ dst:=some 24,op:=Op.fieldAddr 164 (Operand.tmp 5) 1,type:=0,pos:= "l10_pattern.go:143",after:=#[],guard:=none }) (v:=.pointer (some ⟨R1,1,none⟩)) rfl (by kernel_rfl) (by kernel_rfl) (by kernel_rfl) (fun c a w h=>hQp c a _ _ w h) (Or.inl ⟨by rfl,fun w' hSw=>by have hSw1:=hSw.1;clear hSw;go_simp⟩) hHeld ?_
 show wpAnyH Tryz.prog .any r9 Q (fun w':World=>w'.cell? ⟨R1,1,none⟩=some (.string s)∧w'.there (R1+1) 0 256) 12 #[false,true,false,false,false,false,false,false,false,false,false,false,false] ⟨#[t0,t1,t2,t3,t4,.pointer (some ⟨R1,0,none⟩),.pointer (some ⟨R1+1,0,none⟩),.int .i64 (j:Int),t8,t9,t10,t11,t12,t13,t14,t15,t16,t17,t18,t19,t20,t21,t22,t23,.pointer (some ⟨R1,1,none⟩),t25,t26,t27,t28,t29,t30,t31,t32,t33,t34,t35,t36,t37],[]⟩ w.drew
 refine wpAnyH_take (i:=2) (oi:={ dst:=some 25,op:=Op.load 9 (Operand.tmp 24),type:=9,pos:= "l10_pattern.go:143",after:=#[{ on:=1,ground:=Ground.data }],guard:=none }) (v:=.string s) rfl (by kernel_rfl) (by kernel_rfl) (by kernel_rfl) (fun c a w h=>hQp c a _ _ w h) (Or.inl ⟨by rfl,fun w' hSw=>by have hSw1:=hSw.1;clear hSw;go_simp⟩) hHeld ?_
 show wpAnyH Tryz.prog .any r9 Q (fun w':World=>w'.cell? ⟨R1,1,none⟩=some (.string s)∧w'.there (R1+1) 0 256) 11 #[false,true,true,false,false,false,false,false,false,false,false,false,false] ⟨#[t0,t1,t2,t3,t4,.pointer (some ⟨R1,0,none⟩),.pointer (some ⟨R1+1,0,none⟩),.int .i64 (j:Int),t8,t9,t10,t11,t12,t13,t14,t15,t16,t17,t18,t19,t20,t21,t22,t23,.pointer (some ⟨R1,1,none⟩),.string s,t26,t27,t28,t29,t30,t31,t32,t33,t34,t35,t36,t37],[]⟩ w.drew
 refine wpAnyH_take (i:=3) (oi:={ dst:=some 26,op:=Op.move (Operand.tmp 7),type:=3,pos:= "l10_pattern.go:143",after:=#[],guard:=none }) (v:=.int .i64 (j:Int)) rfl (by kernel_rfl) (by kernel_rfl) (by kernel_rfl) (fun c a w h=>hQp c a _ _ w h) (Or.inl ⟨by rfl,fun w' hSw=>by have hSw1:=hSw.1;clear hSw;go_simp⟩) hHeld ?_
 show wpAnyH Tryz.prog .any r9 Q (fun w':World=>w'.cell? ⟨R1,1,none⟩=some (.string s)∧w'.there (R1+1) 0 256) 10 #[false,true,true,true,false,false,false,false,false,false,false,false,false] ⟨#[t0,t1,t2,t3,t4,.pointer (some ⟨R1,0,none⟩),.pointer (some ⟨R1+1,0,none⟩),.int .i64 (j:Int),t8,t9,t10,t11,t12,t13,t14,t15,t16,t17,t18,t19,t20,t21,t22,t23,.pointer (some ⟨R1,1,none⟩),.string s,.int .i64 (j:Int),t27,t28,t29,t30,t31,t32,t33,t34,t35,t36,t37],[]⟩ w.drew
 refine wpAnyH_take (i:=4) (oi:={ dst:=some 27,op:=Op.index 9 (Operand.tmp 25) (Operand.tmp 26),type:=5,pos:= "l10_pattern.go:143",after:=#[{ on:=2,ground:=Ground.data },{ on:=3,ground:=Ground.data }],guard:=none }) (v:=.int .u8 (hb s j)) rfl (by kernel_rfl) (by kernel_rfl) (by kernel_rfl) (fun c a w h=>hQp c a _ _ w h) (Or.inl ⟨by rfl,fun w' hSw=>by have hSw1:=hSw.1;clear hSw;go_simp⟩) hHeld ?_
 show wpAnyH Tryz.prog .any r9 Q (fun w':World=>w'.cell? ⟨R1,1,none⟩=some (.string s)∧w'.there (R1+1) 0 256) 9 #[false,true,true,true,true,false,false,false,false,false,false,false,false] ⟨#[t0,t1,t2,t3,t4,.pointer (some ⟨R1,0,none⟩),.pointer (some ⟨R1+1,0,none⟩),.int .i64 (j:Int),t8,t9,t10,t11,t12,t13,t14,t15,t16,t17,t18,t19,t20,t21,t22,t23,.pointer (some ⟨R1,1,none⟩),.string s,.int .i64 (j:Int),.int .u8 (hb s j),t28,t29,t30,t31,t32,t33,t34,t35,t36,t37],[]⟩ w.drew
 refine wpAnyH_take (i:=5) (oi:={ dst:=some 28,op:=Op.fieldAddr 164 (Operand.tmp 5) 1,type:=0,pos:= "l10_pattern.go:143",after:=#[],guard:=none }) (v:=.pointer (some ⟨R1,1,none⟩)) rfl (by kernel_rfl) (by kernel_rfl) (by kernel_rfl) (fun c a w h=>hQp c a _ _ w h) (Or.inl ⟨by rfl,fun w' hSw=>by have hSw1:=hSw.1;clear hSw;go_simp⟩) hHeld ?_
 show wpAnyH Tryz.prog .any r9 Q (fun w':World=>w'.cell? ⟨R1,1,none⟩=some (.string s)∧w'.there (R1+1) 0 256) 8 #[false,true,true,true,true,true,false,false,false,false,false,false,false] ⟨#[t0,t1,t2,t3,t4,.pointer (some ⟨R1,0,none⟩),.pointer (some ⟨R1+1,0,none⟩),.int .i64 (j:Int),t8,t9,t10,t11,t12,t13,t14,t15,t16,t17,t18,t19,t20,t21,t22,t23,.pointer (some ⟨R1,1,none⟩),.string s,.int .i64 (j:Int),.int .u8 (hb s j),.pointer (some ⟨R1,1,none⟩),t29,t30,t31,t32,t33,t34,t35,t36,t37],[]⟩ w.drew
 refine wpAnyH_take (i:=6) (oi:={ dst:=some 29,op:=Op.load 9 (Operand.tmp 28),type:=9,pos:= "l10_pattern.go:143",after:=#[{ on:=5,ground:=Ground.data }],guard:=none }) (v:=.string s) rfl (by kernel_rfl) (by kernel_rfl) (by kernel_rfl) (fun c a w h=>hQp c a _ _ w h) (Or.inl ⟨by rfl,fun w' hSw=>by have hSw1:=hSw.1;clear hSw;go_simp⟩) hHeld ?_
 show wpAnyH Tryz.prog .any r9 Q (fun w':World=>w'.cell? ⟨R1,1,none⟩=some (.string s)∧w'.there (R1+1) 0 256) 7 #[false,true,true,true,true,true,true,false,false,false,false,false,false] ⟨#[t0,t1,t2,t3,t4,.pointer (some ⟨R1,0,none⟩),.pointer (some ⟨R1+1,0,none⟩),.int .i64 (j:Int),t8,t9,t10,t11,t12,t13,t14,t15,t16,t17,t18,t19,t20,t21,t22,t23,.pointer (some ⟨R1,1,none⟩),.string s,.int .i64 (j:Int),.int .u8 (hb s j),.pointer (some ⟨R1,1,none⟩),.string s,t30,t31,t32,t33,t34,t35,t36,t37],[]⟩ w.drew
 refine wpAnyH_take (i:=7) (oi:={ dst:=some 30,op:=Op.move (Operand.tmp 7),type:=3,pos:= "l10_pattern.go:143",after:=#[],guard:=none }) (v:=.int .i64 (j:Int)) rfl (by kernel_rfl) (by kernel_rfl) (by kernel_rfl) (fun c a w h=>hQp c a _ _ w h) (Or.inl ⟨by rfl,fun w' hSw=>by have hSw1:=hSw.1;clear hSw;go_simp⟩) hHeld ?_
 show wpAnyH Tryz.prog .any r9 Q (fun w':World=>w'.cell? ⟨R1,1,none⟩=some (.string s)∧w'.there (R1+1) 0 256) 6 #[false,true,true,true,true,true,true,true,false,false,false,false,false] ⟨#[t0,t1,t2,t3,t4,.pointer (some ⟨R1,0,none⟩),.pointer (some ⟨R1+1,0,none⟩),.int .i64 (j:Int),t8,t9,t10,t11,t12,t13,t14,t15,t16,t17,t18,t19,t20,t21,t22,t23,.pointer (some ⟨R1,1,none⟩),.string s,.int .i64 (j:Int),.int .u8 (hb s j),.pointer (some ⟨R1,1,none⟩),.string s,.int .i64 (j:Int),t31,t32,t33,t34,t35,t36,t37],[]⟩ w.drew
 refine wpAnyH_take (i:=8) (oi:={ dst:=some 31,op:=Op.binOp BinOp.add 3 (Operand.tmp 30) (Operand.const (Value.int IntKind.i64 1)) 3,type:=3,pos:= "l10_pattern.go:143",after:=#[{ on:=7,ground:=Ground.data }],guard:=none }) (v:=.int .i64 ((j:Int)+1)) rfl (by kernel_rfl) (by kernel_rfl) (by kernel_rfl) (fun c a w h=>hQp c a _ _ w h) (Or.inl ⟨by rfl,fun w' hSw=>by have hSw1:=hSw.1;clear hSw;go_simp⟩) hHeld ?_
 show wpAnyH Tryz.prog .any r9 Q (fun w':World=>w'.cell? ⟨R1,1,none⟩=some (.string s)∧w'.there (R1+1) 0 256) 5 #[false,true,true,true,true,true,true,true,true,false,false,false,false] ⟨#[t0,t1,t2,t3,t4,.pointer (some ⟨R1,0,none⟩),.pointer (some ⟨R1+1,0,none⟩),.int .i64 (j:Int),t8,t9,t10,t11,t12,t13,t14,t15,t16,t17,t18,t19,t20,t21,t22,t23,.pointer (some ⟨R1,1,none⟩),.string s,.int .i64 (j:Int),.int .u8 (hb s j),.pointer (some ⟨R1,1,none⟩),.string s,.int .i64 (j:Int),.int .i64 ((j:Int)+1),t32,t33,t34,t35,t36,t37],[]⟩ w.drew
 refine wpAnyH_take (i:=9) (oi:={ dst:=some 32,op:=Op.index 9 (Operand.tmp 29) (Operand.tmp 31),type:=5,pos:= "l10_pattern.go:143",after:=#[{ on:=6,ground:=Ground.data },{ on:=8,ground:=Ground.data }],guard:=none }) (v:=.int .u8 (hb s (j+1))) rfl (by kernel_rfl) (by kernel_rfl) (by kernel_rfl) (fun c a w h=>hQp c a _ _ w h) (Or.inl ⟨by rfl,fun w' hSw=>by have hSw1:=hSw.1;clear hSw;go_simp⟩) hHeld ?_
 show wpAnyH Tryz.prog .any r9 Q (fun w':World=>w'.cell? ⟨R1,1,none⟩=some (.string s)∧w'.there (R1+1) 0 256) 4 #[false,true,true,true,true,true,true,true,true,true,false,false,false] ⟨#[t0,t1,t2,t3,t4,.pointer (some ⟨R1,0,none⟩),.pointer (some ⟨R1+1,0,none⟩),.int .i64 (j:Int),t8,t9,t10,t11,t12,t13,t14,t15,t16,t17,t18,t19,t20,t21,t22,t23,.pointer (some ⟨R1,1,none⟩),.string s,.int .i64 (j:Int),.int .u8 (hb s j),.pointer (some ⟨R1,1,none⟩),.string s,.int .i64 (j:Int),.int .i64 ((j:Int)+1),.int .u8 (hb s (j+1)),t33,t34,t35,t36,t37],[]⟩ w.drew
 refine wpAnyH_ready (rs:=[0,10]) (by kernel_rfl) (by simp) ?_
 refine AllReadyH.cons (o:={ dst:=some 23,op:=Op.load 136 (Operand.tmp 6),type:=136,pos:= "l10_pattern.go:143",after:=#[],guard:=none }) rfl (fun K hK=>?_) (AllReadyH.cons (o:={ dst:=some 33,op:=Op.call { callee:=Callee.value (Operand.func 91),args:=#[Operand.tmp 27,Operand.tmp 32],argTypes:=#[5,5] },type:=136,pos:= "l10_pattern.go:143",after:=#[{ on:=4,ground:=Ground.data },{ on:=9,ground:=Ground.data }],guard:=none }) rfl (fun K hK=>?_) AllReadyH.nil)
 ·rw [if_pos (by rfl)]
  refine wp_load_mid 136 (.tmp 6) rfl (R1+1) 0 rfl cs (.array 256 4) hrg hu rfl hin1 ?_
  refine hK.out _ _ ⟨hc1,hth⟩ (fun hHeld=>?_)
  clear hK K
  show wpAnyH Tryz.prog .any r9 Q (fun w':World=>w'.cell? ⟨R1,1,none⟩=some (.string s)∧w'.there (R1+1) 0 256) 3 #[true,true,true,true,true,true,true,true,true,true,false,false,false] ⟨#[t0,t1,t2,t3,t4,.pointer (some ⟨R1,0,none⟩),.pointer (some ⟨R1+1,0,none⟩),.int .i64 (j:Int),t8,t9,t10,t11,t12,t13,t14,t15,t16,t17,t18,t19,t20,t21,t22,.agg cs.toArray,.pointer (some ⟨R1,1,none⟩),.string s,.int .i64 (j:Int),.int .u8 (hb s j),.pointer (some ⟨R1,1,none⟩),.string s,.int .i64 (j:Int),.int .i64 ((j:Int)+1),.int .u8 (hb s (j+1)),t33,t34,t35,t36,t37],[]⟩ w.drew
  refine wpAnyH_ready (rs:=[10]) (by kernel_rfl) (by simp) ?_
  refine AllReadyH.cons (o:={ dst:=some 33,op:=Op.call { callee:=Callee.value (Operand.func 91),args:=#[Operand.tmp 27,Operand.tmp 32],argTypes:=#[5,5] },type:=136,pos:= "l10_pattern.go:143",after:=#[{ on:=4,ground:=Ground.data },{ on:=9,ground:=Ground.data }],guard:=none }) rfl (fun K hK=>?_) AllReadyH.nil
  rw [if_pos (by rfl)]
  go_wp2_with (go_at_call 91;fail)
  refine (HBt.out _).mono ?_
  rintro e w1 ⟨rfl,hb0⟩
  have hb1:=below_of_drew hb0
  clear hb0
  obtain ⟨hk1,ht1,hr1⟩:=HK.out _ hb1
  have HB1:=hide hb1
  clear hb1
  go_wp2_with fail
  refine hK.out _ _ ⟨hk1,ht1⟩ (fun hHeld=>?_)
  clear hK K
  show wpAnyH Tryz.prog .any r9 Q (fun w':World=>w'.cell? ⟨R1,1,none⟩=some (.string s)∧w'.there (R1+1) 0 256) 2 #[true,true,true,true,true,true,true,true,true,true,true,false,false] ⟨#[t0,t1,t2,t3,t4,.pointer (some ⟨R1,0,none⟩),.pointer (some ⟨R1+1,0,none⟩),.int .i64 (j:Int),t8,t9,t10,t11,t12,t13,t14,t15,t16,t17,t18,t19,t20,t21,t22,.agg cs.toArray,.pointer (some ⟨R1,1,none⟩),.string s,.int .i64 (j:Int),.int .u8 (hb s j),.pointer (some ⟨R1,1,none⟩),.string s,.int .i64 (j:Int),.int .i64 ((j:Int)+1),.int .u8 (hb s (j+1)),.agg (clC (btw (hb s j).toNat (hb s (j+1)).toNat)),t34,t35,t36,t37],[]⟩ w1
  refine wpAnyH_ready (rs:=[11]) (by kernel_rfl) (by simp) ?_
  refine AllReadyH.cons (o:={ dst:=some 34,op:=Op.call { callee:=Callee.value (Operand.func 87),args:=#[Operand.tmp 23,Operand.tmp 33],argTypes:=#[136,136] },type:=136,pos:= "l10_pattern.go:143",after:=#[{ on:=0,ground:=Ground.data },{ on:=10,ground:=Ground.data },{ on:=10,ground:=Ground.chain }],guard:=none }) rfl (fun K hK=>?_) AllReadyH.nil
  rw [if_pos (by rfl)]
  go_wp2_with (go_at_call 87;fail)
  refine (HJo.out _).mono ?_
  rintro e w2 ⟨rfl,hb2⟩
  rw [HLS.out]
  have HB2:=hide (HB1.out.trans (hb2.mono HB1.out.size))
  obtain ⟨hk2,ht2,hr2⟩:=HK.out _ HB2.out
  clear hb2
  go_wp2_with fail
  refine hK.out _ _ ⟨hk2,ht2⟩ (fun hHeld=>?_)
  clear hK K
  show wpAnyH Tryz.prog .any r9 Q (fun w':World=>w'.cell? ⟨R1,1,none⟩=some (.string s)∧w'.there (R1+1) 0 256) 1 #[true,true,true,true,true,true,true,true,true,true,true,true,false] ⟨#[t0,t1,t2,t3,t4,.pointer (some ⟨R1,0,none⟩),.pointer (some ⟨R1+1,0,none⟩),.int .i64 (j:Int),t8,t9,t10,t11,t12,t13,t14,t15,t16,t17,t18,t19,t20,t21,t22,.agg cs.toArray,.pointer (some ⟨R1,1,none⟩),.string s,.int .i64 (j:Int),.int .u8 (hb s j),.pointer (some ⟨R1,1,none⟩),.string s,.int .i64 (j:Int),.int .i64 ((j:Int)+1),.int .u8 (hb s (j+1)),.agg (clC (btw (hb s j).toNat (hb s (j+1)).toNat)),.agg ls.toArray,t35,t36,t37],[]⟩ w2
  refine wpAnyH_ready (rs:=[12]) (by kernel_rfl) (by simp) ?_
  refine AllReadyH.cons (o:={ dst:=none,op:=Op.store 136 (Operand.tmp 6) (Operand.tmp 34),type:=0,pos:= "l10_pattern.go:143",after:=#[{ on:=11,ground:=Ground.data },{ on:=11,ground:=Ground.chain },{ on:=0,ground:=Ground.phase },{ on:=1,ground:=Ground.phase },{ on:=2,ground:=Ground.phase },{ on:=3,ground:=Ground.phase },{ on:=4,ground:=Ground.phase },{ on:=5,ground:=Ground.phase },{ on:=6,ground:=Ground.phase },{ on:=7,ground:=Ground.phase },{ on:=8,ground:=Ground.phase },{ on:=9,ground:=Ground.phase },{ on:=10,ground:=Ground.phase },{ on:=11,ground:=Ground.phase }],guard:=none }) rfl (fun K hK=>?_) AllReadyH.nil
  rw [if_pos (by rfl)]
  refine wp_store_mid 136 (.tmp 6) (.tmp 34) rfl (R1+1) 0 ls.toArray rfl rfl (by rw [List.size_toArray,hll];exact ht2) (by rw [List.size_toArray];exact hin2) (all_oneCell_toArray hl1) ?_
  refine hK.out _ _ ⟨(cell_setCells_other (by omega) _ _ _).trans hk2,World.there_setCells ht2 _ _ _⟩ (fun hHeld=>?_)
  clear hK K
  refine wpAnyH_done (by kernel_rfl) ?_ _
  exact hpost _ HB2.out
 ·rw [if_pos (by rfl)]
  go_wp2_with (go_at_call 91;fail)
  refine (HBt.out _).mono ?_
  rintro e w1 ⟨rfl,hb0⟩
  have hb1:=below_of_drew hb0
  clear hb0
  obtain ⟨hk1,ht1,hr1⟩:=HK.out _ hb1
  have HB1:=hide hb1
  clear hb1
  go_wp2_with fail
  refine hK.out _ _ ⟨hk1,ht1⟩ (fun hHeld=>?_)
  clear hK K
  show wpAnyH Tryz.prog .any r9 Q (fun w':World=>w'.cell? ⟨R1,1,none⟩=some (.string s)∧w'.there (R1+1) 0 256) 3 #[false,true,true,true,true,true,true,true,true,true,true,false,false] ⟨#[t0,t1,t2,t3,t4,.pointer (some ⟨R1,0,none⟩),.pointer (some ⟨R1+1,0,none⟩),.int .i64 (j:Int),t8,t9,t10,t11,t12,t13,t14,t15,t16,t17,t18,t19,t20,t21,t22,t23,.pointer (some ⟨R1,1,none⟩),.string s,.int .i64 (j:Int),.int .u8 (hb s j),.pointer (some ⟨R1,1,none⟩),.string s,.int .i64 (j:Int),.int .i64 ((j:Int)+1),.int .u8 (hb s (j+1)),.agg (clC (btw (hb s j).toNat (hb s (j+1)).toNat)),t34,t35,t36,t37],[]⟩ w1
  refine wpAnyH_ready (rs:=[0]) (by kernel_rfl) (by simp) ?_
  refine AllReadyH.cons (o:={ dst:=some 23,op:=Op.load 136 (Operand.tmp 6),type:=136,pos:= "l10_pattern.go:143",after:=#[],guard:=none }) rfl (fun K hK=>?_) AllReadyH.nil
  rw [if_pos (by rfl)]
  refine wp_load_mid 136 (.tmp 6) rfl (R1+1) 0 rfl cs (.array 256 4) hr1 hu rfl hin1 ?_
  refine hK.out _ _ ⟨hk1,ht1⟩ (fun hHeld=>?_)
  clear hK K
  show wpAnyH Tryz.prog .any r9 Q (fun w':World=>w'.cell? ⟨R1,1,none⟩=some (.string s)∧w'.there (R1+1) 0 256) 2 #[true,true,true,true,true,true,true,true,true,true,true,false,false] ⟨#[t0,t1,t2,t3,t4,.pointer (some ⟨R1,0,none⟩),.pointer (some ⟨R1+1,0,none⟩),.int .i64 (j:Int),t8,t9,t10,t11,t12,t13,t14,t15,t16,t17,t18,t19,t20,t21,t22,.agg cs.toArray,.pointer (some ⟨R1,1,none⟩),.string s,.int .i64 (j:Int),.int .u8 (hb s j),.pointer (some ⟨R1,1,none⟩),.string s,.int .i64 (j:Int),.int .i64 ((j:Int)+1),.int .u8 (hb s (j+1)),.agg (clC (btw (hb s j).toNat (hb s (j+1)).toNat)),t34,t35,t36,t37],[]⟩ w1
  refine wpAnyH_ready (rs:=[11]) (by kernel_rfl) (by simp) ?_
  refine AllReadyH.cons (o:={ dst:=some 34,op:=Op.call { callee:=Callee.value (Operand.func 87),args:=#[Operand.tmp 23,Operand.tmp 33],argTypes:=#[136,136] },type:=136,pos:= "l10_pattern.go:143",after:=#[{ on:=0,ground:=Ground.data },{ on:=10,ground:=Ground.data },{ on:=10,ground:=Ground.chain }],guard:=none }) rfl (fun K hK=>?_) AllReadyH.nil
  rw [if_pos (by rfl)]
  go_wp2_with (go_at_call 87;fail)
  refine (HJo.out _).mono ?_
  rintro e w2 ⟨rfl,hb2⟩
  rw [HLS.out]
  have HB2:=hide (HB1.out.trans (hb2.mono HB1.out.size))
  obtain ⟨hk2,ht2,hr2⟩:=HK.out _ HB2.out
  clear hb2
  go_wp2_with fail
  refine hK.out _ _ ⟨hk2,ht2⟩ (fun hHeld=>?_)
  clear hK K
  show wpAnyH Tryz.prog .any r9 Q (fun w':World=>w'.cell? ⟨R1,1,none⟩=some (.string s)∧w'.there (R1+1) 0 256) 1 #[true,true,true,true,true,true,true,true,true,true,true,true,false] ⟨#[t0,t1,t2,t3,t4,.pointer (some ⟨R1,0,none⟩),.pointer (some ⟨R1+1,0,none⟩),.int .i64 (j:Int),t8,t9,t10,t11,t12,t13,t14,t15,t16,t17,t18,t19,t20,t21,t22,.agg cs.toArray,.pointer (some ⟨R1,1,none⟩),.string s,.int .i64 (j:Int),.int .u8 (hb s j),.pointer (some ⟨R1,1,none⟩),.string s,.int .i64 (j:Int),.int .i64 ((j:Int)+1),.int .u8 (hb s (j+1)),.agg (clC (btw (hb s j).toNat (hb s (j+1)).toNat)),.agg ls.toArray,t35,t36,t37],[]⟩ w2
  refine wpAnyH_ready (rs:=[12]) (by kernel_rfl) (by simp) ?_
  refine AllReadyH.cons (o:={ dst:=none,op:=Op.store 136 (Operand.tmp 6) (Operand.tmp 34),type:=0,pos:= "l10_pattern.go:143",after:=#[{ on:=11,ground:=Ground.data },{ on:=11,ground:=Ground.chain },{ on:=0,ground:=Ground.phase },{ on:=1,ground:=Ground.phase },{ on:=2,ground:=Ground.phase },{ on:=3,ground:=Ground.phase },{ on:=4,ground:=Ground.phase },{ on:=5,ground:=Ground.phase },{ on:=6,ground:=Ground.phase },{ on:=7,ground:=Ground.phase },{ on:=8,ground:=Ground.phase },{ on:=9,ground:=Ground.phase },{ on:=10,ground:=Ground.phase },{ on:=11,ground:=Ground.phase }],guard:=none }) rfl (fun K hK=>?_) AllReadyH.nil
  rw [if_pos (by rfl)]
  refine wp_store_mid 136 (.tmp 6) (.tmp 34) rfl (R1+1) 0 ls.toArray rfl rfl (by rw [List.size_toArray,hll];exact ht2) (by rw [List.size_toArray];exact hin2) (all_oneCell_toArray hl1) ?_
  refine hK.out _ _ ⟨(cell_setCells_other (by omega) _ _ _).trans hk2,World.there_setCells ht2 _ _ _⟩ (fun hHeld=>?_)
  clear hK K
  refine wpAnyH_done (by kernel_rfl) ?_ _
  exact hpost _ HB2.out
end Go.Proofs.YtlgodacccilabaaGreatDoor
