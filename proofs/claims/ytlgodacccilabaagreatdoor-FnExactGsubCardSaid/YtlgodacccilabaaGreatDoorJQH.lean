import Derived.Test.YtlgodacccilabaaGreatDoorPP0
import Derived.Shelf.Abstract
import Derived.Deep.WholeRow
import Derived.Deep.MidRow
import Derived.Laws.ResultCell
namespace Go.Proofs.YtlgodacccilabaaGreatDoor
open Go Go.RowKit Go.Shelf
set_option linter.unusedVariables false
abbrev Nt:=Nat→Bool × Nat × Nat
def scells (s:ByteArray) (fx:Bool) (cn:Nat) (wh:Value) (n:Nat) (nt:Nt) (to_:Nat) (j:Nat):Value:=
 if j=0 then .string s else if j=1 then .bool fx else if j=2 then .int .i64 cn else if j=3 then wh else if j=4 then .int .i64 n
 else if j=53 then .int .i64 to_
 else if (j-5)%3=0 then .bool (nt ((j-5)/3)).1 else if (j-5)%3=1 then .int .i64 (nt ((j-5)/3)).2.1 else .int .i64 (nt ((j-5)/3)).2.2
def SB (w:World) (S:Nat) (s:ByteArray) (fx:Bool) (cn:Nat) (wh:Value) (n:Nat) (nt:Nt) (to_:Nat):Prop:=RowF w 59 S 54 (scells s fx cn wh n nt to_)
section
variable {w w' : World} {S : Nat} {s : ByteArray} {fx : Bool} {cn : Nat} {wh : Value} {n : Nat} {nt : Nt} {to_ : Nat}
theorem SB.keep {T:Nat→Prop} (h:SB w S s fx cn wh n nt to_) (k:Keeps w w' T) (hn:¬ T S):SB w' S s fx cn wh n nt to_:=RowF.keep h k hn
theorem SB.subj (h:SB w S s fx cn wh n nt to_):w.cell? ⟨S,0,none⟩=some (.string s):=RowF.cell h (j:=0) (by omega)
theorem SB.fix (h:SB w S s fx cn wh n nt to_):w.cell? ⟨S,1,none⟩=some (.bool fx):=RowF.cell h (j:=1) (by omega)
theorem SB.cnt (h:SB w S s fx cn wh n nt to_):w.cell? ⟨S,2,none⟩=some (.int .i64 cn):=RowF.cell h (j:=2) (by omega)
theorem SB.who (h:SB w S s fx cn wh n nt to_):w.cell? ⟨S,3,none⟩=some wh:=RowF.cell h (j:=3) (by omega)
theorem SB.stp (h:SB w S s fx cn wh n nt to_):w.cell? ⟨S,4,none⟩=some (.int .i64 n):=RowF.cell h (j:=4) (by omega)
theorem SB.end_ (h:SB w S s fx cn wh n nt to_):w.cell? ⟨S,53,none⟩=some (.int .i64 to_):=RowF.cell h (j:=53) (by omega)
theorem SB.n0 (h:SB w S s fx cn wh n nt to_) {k:Nat} (hk:k<16):w.cell? ⟨S,5+k*3,none⟩=some (.bool (nt k).1):=by
 rw [RowF.cell h (j:=5+k*3) (by omega),scells,if_neg (by omega),if_neg (by omega),if_neg (by omega),if_neg (by omega),if_neg (by omega),if_neg (by omega),if_pos (by omega),show (5+k*3-5)/3=k by omega]
theorem SB.n1 (h:SB w S s fx cn wh n nt to_) {k:Nat} (hk:k<16):w.cell? ⟨S,5+k*3+1,none⟩=some (.int .i64 (nt k).2.1):=by
 rw [RowF.cell h (j:=5+k*3+1) (by omega),scells,if_neg (by omega),if_neg (by omega),if_neg (by omega),if_neg (by omega),if_neg (by omega),if_neg (by omega),if_neg (by omega),if_pos (by omega),show (5+k*3+1-5)/3=k by omega]
theorem SB.n2 (h:SB w S s fx cn wh n nt to_) {k:Nat} (hk:k<16):w.cell? ⟨S,5+k*3+2,none⟩=some (.int .i64 (nt k).2.2):=by
 rw [RowF.cell h (j:=5+k*3+2) (by omega),scells,if_neg (by omega),if_neg (by omega),if_neg (by omega),if_neg (by omega),if_neg (by omega),if_neg (by omega),if_neg (by omega),if_neg (by omega),show (5+k*3+2-5)/3=k by omega]
theorem SB.setS (h:SB w S s fx cn wh n nt to_) (m:Nat):SB (w.setCell ⟨S,4,none⟩ (.int .i64 m)) S s fx cn wh m nt to_:=
 (RowF.set h (j:=4) (by omega) _).congr fun j hj=>by
   by_cases e:j=4
   ·subst e;rfl
   ·rw [if_neg e];simp only [scells,e,if_false]
theorem SB.setE (h:SB w S s fx cn wh n nt to_) (m:Nat):SB (w.setCell ⟨S,53,none⟩ (.int .i64 m)) S s fx cn wh n nt m:=
 (RowF.set h (j:=53) (by omega) _).congr fun j hj=>by
   by_cases e:j=53
   ·subst e;rfl
   ·rw [if_neg e];simp only [scells,e,if_false]
theorem SB.kS (x:Value) (j:Nat):Keeps w (w.setCell ⟨S,j,none⟩ x) (fun b=>b=S):=(Keeps.refl w _).setCell (S:=fun b=>b=S) (j:=j) rfl _
end
def updN (nt:Nt) (k:Nat) (v:Bool × Nat × Nat):Nt:=fun j=>if j=k then v else nt j
theorem updN_same (nt:Nt) (k:Nat) (v:Bool × Nat × Nat):updN nt k v k=v:=by simp [updN]
theorem updN_other (nt:Nt) {k j:Nat} (v:Bool × Nat × Nat) (h:j≠k):updN nt k v j=nt j:=by simp [updN,h]
theorem SB.setN {w:World} {S:Nat} {s:ByteArray} {fx:Bool} {cn:Nat} {wh:Value} {n:Nat} {nt:Nt} {to_:Nat} (h:SB w S s fx cn wh n nt to_) {k:Nat} (hk:k<16) (b:Bool) (x y:Nat):
 SB (((w.setCell ⟨S,5+k*3,none⟩ (.bool b)).setCell ⟨S,5+k*3+1,none⟩ (.int .i64 x)).setCell ⟨S,5+k*3+2,none⟩ (.int .i64 y)) S s fx cn wh n (updN nt k (b,x,y)) to_:=
 (((RowF.set h (j:=5+k*3) (by omega) _).set (j:=5+k*3+1) (by omega) _).set (j:=5+k*3+2) (by omega) _).congr fun j hj=>by
   by_cases e2:j=5+k*3+2
   ·rw [if_pos e2];subst e2
    simp only [scells]
    rw [if_neg (by omega),if_neg (by omega),if_neg (by omega),if_neg (by omega),if_neg (by omega),if_neg (by omega),if_neg (by omega),if_neg (by omega),show (5+k*3+2-5)/3=k by omega,updN_same]
   rw [if_neg e2]
   by_cases e1:j=5+k*3+1
   ·rw [if_pos e1];subst e1
    simp only [scells]
    rw [if_neg (by omega),if_neg (by omega),if_neg (by omega),if_neg (by omega),if_neg (by omega),if_neg (by omega),if_neg (by omega),if_pos (by omega),show (5+k*3+1-5)/3=k by omega,updN_same]
   rw [if_neg e1]
   by_cases e0:j=5+k*3
   ·rw [if_pos e0];subst e0
    simp only [scells]
    rw [if_neg (by omega),if_neg (by omega),if_neg (by omega),if_neg (by omega),if_neg (by omega),if_neg (by omega),if_pos (by omega),show (5+k*3-5)/3=k by omega,updN_same]
   rw [if_neg e0]
   simp only [scells]
   by_cases h5:j<5
   ·have:j=0∨j=1∨j=2∨j=3∨j=4:=by omega
    rcases this with rfl|rfl|rfl|rfl|rfl<;>rfl
   ·by_cases h53:j=53
    ·subst h53;rfl
    ·rw [updN_other nt _ (show (j-5)/3≠k by omega)]
set_option maxHeartbeats 800000 in
set_option maxRecDepth 100000 in
theorem ispent_any {S:Nat} {s:ByteArray} {fx:Bool} {cn:Nat} {wh:Value} {n:Nat} {nt:Nt} {to_:Nat} (w:World) (h:SB w S s fx cn wh n nt to_):
 Calls Tryz.prog 13 #[.pointer (some ⟨S,0,none⟩)] w fun e w'=>e=.returned (.bool (decide (50000<n)))∧w'=w:=by
 have c:=h.stp
 clear h
 go_enter Tryz.func13,Tryz.ntmps13
 go_wp2_with fail
 go_ret
 exact ⟨ret_b (decide_eq_decide.2 (by omega)),rfl⟩
set_option maxHeartbeats 800000 in
set_option maxRecDepth 100000 in
theorem step_any {S:Nat} {s:ByteArray} {fx:Bool} {cn:Nat} {wh:Value} {n:Nat} {nt:Nt} {to_:Nat} (w:World) (hn:n≤1000000) (h:SB w S s fx cn wh n nt to_):
 Calls Tryz.prog 33 #[.pointer (some ⟨S,0,none⟩)] w fun e w'=>e=.returned (.bool (decide (n+1≤50000)))∧SB w' S s fx cn wh (n+1) nt to_∧Keeps w w' (fun b=>b=S):=by
 have c:=h.stp
 have z:w.frozen? ⟨S,4,none⟩=false:=RowF.frz h 4
 have H:=hide (h.setS (n+1))
 have HK:=hide (SB.kS (w:=w) (S:=S) (.int .i64 ((n+1:Nat):Int)) 4)
 rw [show ((n+1:Nat):Int)=(n:Int)+1 by omega] at H HK
 clear h
 go_enter Tryz.func33,Tryz.ntmps33
 go_wp2_with fail
 refine (ispent_any _ H.out).mono ?_
 rintro e w1 ⟨rfl,hw⟩
 obtain rfl:=hw.symm
 by_cases hs:50000<n+1
 ·have hb:decide (50000<n+1)=true:=decide_eq_true hs
  have HD:=hide (show decide (n+1≤50000)=false from decide_eq_false (by omega))
  go_wp2_with fail
  go_ret
  exact ⟨ret_b HD.out.symm,H.out,HK.out⟩
 ·have hb:decide (50000<n+1)=false:=decide_eq_false hs
  have HD:=hide (show decide (n+1≤50000)=true from decide_eq_true (by omega))
  go_wp2_with fail
  go_ret
  exact ⟨ret_b HD.out.symm,H.out,HK.out⟩
def ClF (w:World) (C:Nat) (f:Nat→Bool):Prop:=RowF w 136 C 256 (fun j=>.bool (f j))
set_option maxHeartbeats 800000 in
set_option maxRecDepth 100000 in
theorem stands_any (C:Nat) (f:Nat→Bool) (s:ByteArray) (at_:Nat) (w:World) (ha:at_≤1000000) (hs:s.size≤65536) (h:ClF w C f):
 Calls Tryz.prog 93 #[.pointer (some ⟨C,0,none⟩),.string s,.int .i64 at_] w fun e w'=>e=.returned (.bool (has s f at_))∧Keeps w w' (fun _=>False):=by
 by_cases hin:at_<s.size
 ·have hx:∀ w':World,(Instr.index 9 (.string s) (.int .i64 (at_:Int))).run Tryz.prog w'=.ok (.int .u8 (hb s at_)) w':=fun w'=>by
   rw [idx_str s (i:=(at_:Int)) w' (by omega) (by omega),Int.toNat_natCast]
  have hlt:(at_:Int)<(s.size:Int):=by omega
  have b0:=(hb_rng s at_).1
  have b1:=(hb_rng s at_).2
  have c1:=RowF.cell h (j:=(hb s at_).toNat) (by omega)
  have HH:=hide (show has s f at_=f (hb s at_).toNat by rw [has,decide_eq_true hin];rfl)
  clear h
  go_enter Tryz.func93,Tryz.ntmps93
  go_wp2_with fail
  go_quiet (fail)
  go_wp2_with fail
  go_ret
  exact ⟨ret_b HH.out.symm,(Keeps.refl w _).drewN nq⟩
 ·have hlt:¬ ((at_:Int)<(s.size:Int)):=by omega
  have HH:=hide (show has s f at_=false by rw [has,decide_eq_false hin];rfl)
  clear h
  go_enter Tryz.func93,Tryz.ntmps93
  go_wp2_with fail
  go_quiet (fail)
  go_wp2_with fail
  go_ret
  exact ⟨ret_b HH.out.symm,(Keeps.refl w _).drewN nq⟩
end Go.Proofs.YtlgodacccilabaaGreatDoor
namespace Go.Proofs.YtlgodacccilabaaGreatDoor
open Go Go.RowKit Go.Shelf
set_option linter.unusedVariables false
def clC (f:Nat→Bool):Array Value:=((List.range 256).map (fun j=>Value.bool (f j))).toArray
theorem clC_size (f:Nat→Bool):(clC f).size=256:=by simp [clC]
theorem clC_one (f:Nat→Bool):(clC f).all (·.oneCell')=true:=by
 refine all_oneCell_toArray (fun v hv=>?_)
 obtain ⟨j,_,rfl⟩:=List.mem_map.1 hv
 rfl
theorem clC_congr {f g:Nat→Bool} (h:∀ j,j<256→f j=g j):clC f=clC g:=by
 unfold clC
 congr 1
 exact List.map_congr_left (fun j hj=>by rw [h j (List.mem_range.1 hj)])
theorem clC_row {w:World} {g:Nat} {f:Nat→Bool} (h:w.heap[g]?=some (.cells (clC f) 136)):ClF w g f:=by
 refine ⟨clC f,h,by rw [clC_size];exact Nat.le_refl _,fun j hj=>?_⟩
 simp [clC,hj]
theorem zero_cl (w:World):(zeroValue 136).run Tryz.prog w=.ok (.agg (clC (fun _=>false))) w:=
 (zero_of_info (P:=Tryz.prog) (t:=136) (v:=.agg (clC (fun _=>false))) (n:=256) (by kernel_rfl)).1 w
theorem info_cl:(Tryz.prog.info? 136).map (·.size)=some 256:=by kernel_rfl
theorem row_range {w:World} {T g N:Nat} {f:Nat→Value} (h:RowF w T g N f):w.rangeAt g 0 ((List.range N).map f):=by
 intro j v hv
 rw [List.getElem?_map] at hv
 rcases Nat.lt_or_ge j N with hj|hj
 ·rw [List.getElem?_range hj] at hv
  cases hv
  rw [Nat.zero_add]
  exact h.cell hj
 ·rw [List.getElem?_eq_none (by simpa using hj)] at hv
  cases hv
theorem row_there {w:World} {T g N:Nat} {f:Nat→Value} (h:RowF w T g N f):w.there g 0 N:=by
 intro j hj
 rw [Nat.zero_add]
 exact ⟨by rw [h.cell hj];rfl,h.frz j⟩
theorem below_setCells {w:World} (b:Nat):∀ (vs:List Value) (o g:Nat) {w':World},b≤g→Below b w w'→Below b w (w'.setCells g o vs)
 | [],_,_,_,_,h=>h
 |v::r,o,g,w',hg,h=>by
  rw [World.setCells]
  exact below_setCells b r (o+1) g hg (h.setCell (by exact hg) v)
def btw (a b:Nat):Nat→Bool:=fun j=>decide (a≤j)&&decide (j≤b)
def btw' (a i:Nat):Nat→Bool:=fun j=>decide (a≤j)&&decide (j<i)
set_option maxHeartbeats 3200000 in
set_option maxRecDepth 100000 in
theorem between_any (a b:Nat) (ai bi:Int) (hai:ai=a) (hbi:bi=b) (ha:a<256) (hb:b<256) (w:World):
 Calls Tryz.prog 91 #[.int .u8 ai,.int .u8 bi] w fun e w'=>e=.returned (.agg (clC (btw a b)))∧Below w.heap.size w w':=by
 subst hai hbi
 have hz:=zero_cl
 go_enter Tryz.func91,Tryz.ntmps91
 go_wp2
 have hb0:=b_2 w (.cells (clC (fun _=>false)) 136) (.cells (clC (fun _=>false)) 136)
 have hA:ClF ((w.alloc (.cells (clC (fun _=>false)) 136)).alloc (.cells (clC (fun _=>false)) 136)) w.heap.size (fun _=>false):=by
  exact clC_row ((Below.heap_alloc _ _ _ (by simp)).trans (heap_alloc_new w _))
 have hB:ClF ((w.alloc (.cells (clC (fun _=>false)) 136)).alloc (.cells (clC (fun _=>false)) 136)) (w.heap.size+1) (btw' a a):=by
  have h0:ClF ((w.alloc (.cells (clC (fun _=>false)) 136)).alloc (.cells (clC (fun _=>false)) 136)) (w.heap.size+1) (fun _=>false):=
   clC_row (by have:=heap_alloc_new (w.alloc (.cells (clC (fun _=>false)) 136)) (.cells (clC (fun _=>false)) 136);simpa using this)
  exact RowF.congr h0 (fun j hj=>by simp [btw'])
 generalize (w.alloc (.cells (clC (fun _=>false)) 136)).alloc (.cells (clC (fun _=>false)) 136)=w0 at hA hB hb0 ⊢
 have H0:=hide (And.intro hA (And.intro hB hb0))
 clear hA hB hb0 hz
 go_loopw [6] (fun iv wr=>∃ i:Nat,a≤i∧i≤256∧(i≤b+1∨i=a)∧iv=.int .i64 i∧Hid (ClF wr w.heap.size (fun _=>false)∧ClF wr (w.heap.size+1) (btw' a i)∧Below w.heap.size w wr)) (fun iv _=>match iv with | .int _ x=>257-x.toNat|_=>0)
 case atStart=>exact ⟨a,by omega,by omega,.inr rfl,rfl,H0⟩
 case round=>
  obtain ⟨i,hi0,hi,hi1,rfl,HR⟩:=hrel
  by_cases hin:i≤b
  ·have h1:(i:Int)≤b:=by omega
   have hcell:=HR.out.2.1.cell (show i<256 by omega)
   have hfrz:=HR.out.2.1.frz i
   have hi2:i<256:=by omega
   go_wp2
   go_roundw
   case rel=>
    refine ⟨i+1,by omega,by omega,by omega,by simp,HR.out.1.other (by omega),?_,?_⟩
    ·refine (HR.out.2.1.set (show i<256 by omega) _).congr (fun j hj=>?_)
     by_cases e:j=i
     ·subst e;simp [btw',hi0]
     ·rw [if_neg e];congr 1;unfold btw';rw [show decide (j<i+1)=decide (j<i) by simp;omega]
    ·exact HR.out.2.2.setCell (by show w.heap.size≤w.heap.size+1;omega) _
   case measure=>simp;omega
  ·have h1:¬ (i:Int)≤b:=by omega
   have hcl:=RowF.congr (f':=fun j=>Value.bool (btw a b j)) HR.out.2.1 (fun j hj=>by congr 1;unfold btw' btw;rw [Bool.eq_iff_iff];simp;omega)
   have HA:=hide HR.out.1
   have HL:=hide HR.out.2.2
   have HC:=hide hcl
   clear hcl HR
   go_wp2
   rename_i K1 a1 K0 a0
   refine wp_load_mid 136 (.tmp 5) rfl (w.heap.size+1) 0 rfl _ (.array 256 4) (row_range HC.out) (by kernel_rfl) rfl (by rw [info_cl];simp) ?_
   refine a0 _ _ ?_
   clear a0
   have hth:=row_there HA.out
   rw [show ((List.range 256).map (fun j=>Value.bool (btw a b j))).toArray=clC (btw a b) from rfl]
   have hqs:=clC_size (btw a b)
   have hq1:=clC_one (btw a b)
   obtain ⟨q,hqe⟩:∃ q,clC (btw a b)=q:=⟨_,rfl⟩
   rw [hqe] at hqs hq1 ⊢
   have HE:=hide hqe
   clear hqe
   have HQ:=hide hqs
   refine wpList_store_mid rfl 136 (.tmp 4) (.tmp 17) rfl w.heap.size 0 q rfl rfl (by rw [hqs];exact hth) (by rw [info_cl,hqs]) hq1 ?_
   have HT:=hide hth
   have HQ1:=hide hq1
   clear hth hqs hq1
   go_wp2
   refine bodyPost_ret (v:=.agg q) ?_ rfl ⟨by rw [HE.out],?_⟩
   ·have hr:=World.rangeAt_setCells_same wr w.heap.size 0 q.toList (by rw [Array.length_toList,HQ.out];exact HT.out)
    have hld:=run_loadVar_mid (P:=Tryz.prog) _ _ _ 136 _ (.array 256 4) hr (by kernel_rfl) rfl (by rw [info_cl,Array.length_toList,HQ.out])
    rw [Array.toArray_toList] at hld
    simp [results,Tryz.f91,asAddr,hld]
   ·exact below_setCells w.heap.size q.toList 0 _ (Nat.le_refl _) HL.out
end Go.Proofs.YtlgodacccilabaaGreatDoor
