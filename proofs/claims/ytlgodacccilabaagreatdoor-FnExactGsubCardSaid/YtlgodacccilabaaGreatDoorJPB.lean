import Derived.Test.YtlgodacccilabaaGreatDoorRows
import Derived.WalkKit
import Derived.ProofKit
import Derived.OpenShut
import Derived.WalkSpells
import Derived.WalkSmall
import Derived.BigQuiet
import Derived.BigRegion
import Derived.Deep.QuietTactic
import Derived.Deep.RegionHeld3
import Derived.Deep.DeepCutAuto
import Derived.Deep.Slices
import Derived.OwnWalk
import Derived.Laws.OwnMore
import Derived.Lib.ConvBytes
import Derived.Tactics
import Derived.Tactics2
namespace Go.Proofs.YtlgodacccilabaaGreatDoor
open Go Go.RowKit
set_option linter.unusedVariables false
theorem hide {p:Prop} (h:p):Hid p:=h
theorem below_drw {B:Nat} {a w:World} (h:Below B a w) (n:Nat):Below B a (w.drewN n):=⟨h.os,h.tape,h.output,h.size,h.block⟩
def RowF (w:World) (T g N:Nat) (f:Nat→Value):Prop:=∃ cur:Array Value,w.heap[g]?=some (.cells cur T (0,0))∧N≤cur.size∧∀ j,j<N→cur[j]?=some (f j)
theorem RowF.cell {w:World} {T g N:Nat} {f:Nat→Value} (h:RowF w T g N f) {j:Nat} (hj:j<N):w.cell? ⟨g,j,none⟩=some (f j):=by
 obtain ⟨cur,h1,h2,h3⟩:=h
 have:=h3 j hj
 simp [World.cell?,h1,this]
theorem RowF.frz {w:World} {T g N:Nat} {f:Nat→Value} (h:RowF w T g N f) (j:Nat):w.frozen? ⟨g,j,none⟩=false:=by
 obtain ⟨cur,h1,h2,h3⟩:=h
 simp [World.frozen?,h1]
theorem RowF.low {w w':World} {T g N b:Nat} {f:Nat→Value} (h:RowF w T g N f) (hb:Below b w w') (hg:g<b):RowF w' T g N f:=by
 obtain ⟨cur,h1,h2,h3⟩:=h
 exact ⟨cur,(hb.block g hg).trans h1,h2,h3⟩
theorem RowF.lt {w:World} {T g N:Nat} {f:Nat→Value} (h:RowF w T g N f):g<w.heap.size:=by
 obtain ⟨cur,h1,h2,h3⟩:=h
 rcases Nat.lt_or_ge g w.heap.size with c|c
 ·exact c
 ·rw [Array.getElem?_eq_none c] at h1;cases h1
theorem RowF.set {w:World} {T g N:Nat} {f:Nat→Value} (h:RowF w T g N f) {j:Nat} (hj:j<N) (x:Value):RowF (w.setCell ⟨g,j,none⟩ x) T g N (fun i=>if i=j then x else f i):=by
 obtain ⟨cur,h1,h2,h3⟩:=h
 have e:=heap_setCell_same w g j _ _ x h1
 refine ⟨_,e,by simpa using h2,fun i hi=>?_⟩
 by_cases hij:i=j
 ·subst hij
  have h9:i<cur.size:=by omega
  simp [h9]
 ·have:=h3 i hi
  simp [hij,Ne.symm hij,this]
theorem RowF.congr {w:World} {T g N:Nat} {f f':Nat→Value} (h:RowF w T g N f) (hf:∀ j,j<N→f j=f' j):RowF w T g N f':=by
 obtain ⟨cur,h1,h2,h3⟩:=h
 exact ⟨cur,h1,h2,fun j hj=>by rw [h3 j hj,hf j hj]⟩
theorem RowF.kept {w w':World} {T g N:Nat} {f:Nat→Value} {row:Option Nat} (h:RowF w T g N f) (hg:w.grownBy w' row) (hn:some g≠row):RowF w' T g N f:=by
 obtain ⟨cur,h1,h2,h3⟩:=h
 exact ⟨cur,(hg.block g (RowF.lt ⟨cur,h1,h2,h3⟩) hn).trans h1,h2,h3⟩
theorem rowF_owns {w:World} {B T s g n cap:Nat} {xs:List Value} (h:w.ownsRow B T s (.slice (some ⟨g,0,none⟩) n cap) n xs):RowF w T g (n*s) (fun j=>xs.getD j (.bool false)):=by
 rcases h.2 with ⟨h',_⟩|⟨g',cap',cur,h',hb,hg,hnc,hcm,hcs,htake⟩
 ·simp at h'
 ·simp only [Value.slice.injEq,Option.some.injEq,Addr.mk.injEq,and_true,true_and] at h'
  obtain ⟨rfl,rfl⟩:=h'
  refine ⟨cur,hg,by rw [hcs];exact Nat.mul_le_mul_right _ hnc,fun j hj=>?_⟩
  have hc:j<cur.size:=by rw [hcs];exact Nat.lt_of_lt_of_le hj (Nat.mul_le_mul_right _ hnc)
  show cur[j]?=some (xs.getD j (.bool false))
  rw [←htake,List.getD_eq_getElem?_getD,List.getElem?_take,if_pos hj]
  simp [hc]
theorem RowF.other {w:World} {T g g' N j:Nat} {f:Nat→Value} {x:Value} (h:RowF w T g N f) (hn:g≠g'):RowF (w.setCell ⟨g',j,none⟩ x) T g N f:=by
 obtain ⟨cur,h1,h2,h3⟩:=h
 exact ⟨cur,(heap_setCell_other w ⟨g',j,none⟩ g x (fun e=>hn e)).trans h1,h2,h3⟩
theorem RowF.mk' (w:World) (T:Nat) (arr:Array Value):RowF (w.alloc (.cells arr T)) T w.heap.size arr.size (fun j=>arr.getD j (.bool false)):=by
 refine ⟨arr,heap_alloc_new w _,Nat.le_refl _,fun j hj=>?_⟩
 simp [hj]
theorem b_1 (w:World) (o:Obj):Below w.heap.size w (w.alloc o):=(Below.refl _ _).alloc (Nat.le_refl _) _
theorem b_2 (w:World) (o o':Obj):Below w.heap.size w ((w.alloc o).alloc o'):=(b_1 w o).alloc (by simp) _
theorem b_3 (w:World) (o o' o2:Obj):Below w.heap.size w (((w.alloc o).alloc o').alloc o2):=(b_2 w o o').alloc (by simp;omega) _
theorem RowF.same {w w':World} {T g N:Nat} {f:Nat→Value} (h:RowF w T g N f) (e:w'.heap[g]?=w.heap[g]?):RowF w' T g N f:=by
 obtain ⟨cur,h1,h2,h3⟩:=h
 exact ⟨cur,e.trans h1,h2,h3⟩
def ivN:Value→Nat
 | .int _ x=>x.toNat
 |_=>0
structure Keeps (w w':World) (S:Nat→Prop):Prop where
 os:w'.os=w.os
 tape:w'.tape=w.tape
 output:w'.output=w.output
 size:w.heap.size≤w'.heap.size
 block:∀ b,b<w.heap.size→¬ S b→w'.heap[b]?=w.heap[b]?
theorem Keeps.refl (w:World) (S:Nat→Prop):Keeps w w S:=⟨rfl,rfl,rfl,Nat.le_refl _,fun _ _ _=>rfl⟩
theorem Keeps.trans {w w' w'':World} {S:Nat→Prop} (h:Keeps w w' S) (k:Keeps w' w'' S):Keeps w w'' S:=
 ⟨k.os.trans h.os,k.tape.trans h.tape,k.output.trans h.output,Nat.le_trans h.size k.size,fun b hb hs=>(k.block b (Nat.lt_of_lt_of_le hb h.size) hs).trans (h.block b hb hs)⟩
theorem Keeps.mono {w w':World} {S S':Nat→Prop} (h:Keeps w w' S) (hs:∀ b,S b→S' b):Keeps w w' S':=⟨h.os,h.tape,h.output,h.size,fun b hb hn=>h.block b hb (fun x=>hn (hs b x))⟩
theorem Keeps.of {w w':World} {B:Nat} (h:Below B w w') (hB:w.heap.size≤B) (S:Nat→Prop):Keeps w w' S:=⟨h.os,h.tape,h.output,h.size,fun b hb _=>h.block b (Nat.lt_of_lt_of_le hb hB)⟩
theorem Keeps.below {w w':World} {S:Nat→Prop} {B:Nat} (h:Keeps w w' S) (hB:B≤w.heap.size) (hS:∀ b,S b→B≤b):Below B w w':=
 ⟨h.os,h.tape,h.output,h.size,fun b hb=>h.block b (by omega) (fun x=>by have:=hS b x;omega)⟩
theorem Keeps.setCell {w w':World} {S:Nat→Prop} (h:Keeps w w' S) {g j:Nat} (hg:S g) (x:Value):Keeps w (w'.setCell ⟨g,j,none⟩ x) S:=by
 have e:Below g w' (w'.setCell ⟨g,j,none⟩ x):=(Below.refl g w').setCell (Nat.le_refl _) x
 refine ⟨e.os.trans h.os,e.tape.trans h.tape,e.output.trans h.output,Nat.le_trans h.size e.size,fun b hb hn=>?_⟩
 rw [heap_setCell_other w' ⟨g,j,none⟩ b x (fun e=>hn (by subst e;exact hg))]
 exact h.block b hb hn
theorem RowF.keep {w w':World} {T g N:Nat} {f:Nat→Value} {S:Nat→Prop} (h:RowF w T g N f) (k:Keeps w w' S) (hn:¬ S g):RowF w' T g N f:=h.same (k.block g h.lt hn)
theorem Keeps.past {w w':World} {S:Nat→Prop} (h:Keeps w w' S) {g j:Nat} (hg:w.heap.size≤g) (x:Value):Keeps w (w'.setCell ⟨g,j,none⟩ x) S:=by
 have e:Below g w' (w'.setCell ⟨g,j,none⟩ x):=(Below.refl g w').setCell (Nat.le_refl _) x
 exact ⟨e.os.trans h.os,e.tape.trans h.tape,e.output.trans h.output,Nat.le_trans h.size e.size,fun b hb hn=>(e.block b (by omega)).trans (h.block b hb hn)⟩
theorem owns_keep {w w':World} {base e size n:Nat} {v:Value} {xs:List Value} {S:Nat→Prop} (h:w.ownsRow base e size v n xs) (k:Keeps w w' S) (hS:∀ b,S b→b<base):w'.ownsRow base e size v n xs:=by
 obtain ⟨h1,h2⟩:=h
 rcases h2 with h2|⟨g,cap,cur,rfl,hBg,hh,hr⟩
 ·exact ⟨h1,.inl h2⟩
 ·have hg:g<w.heap.size:=by
   rcases Nat.lt_or_ge g w.heap.size with c|c
   ·exact c
   ·rw [Array.getElem?_eq_none c] at hh;cases hh
  exact ⟨h1,.inr ⟨g,cap,cur,rfl,hBg,(k.block g hg (fun x=>by have:=hS g x;omega)).trans hh,hr⟩⟩
theorem owns_less {w:World} {base base' e size n:Nat} {v:Value} {xs:List Value} (h:w.ownsRow base e size v n xs) (hb:base'≤base):w.ownsRow base' e size v n xs:=by
 obtain ⟨h1,h2|⟨g,cap,cur,h3,h4,h5⟩⟩:=h
 ·exact ⟨h1,.inl h2⟩
 ·exact ⟨h1,.inr ⟨g,cap,cur,h3,Nat.le_trans hb h4,h5⟩⟩
theorem owns_val {w:World} {base e size n:Nat} {v:Value} {xs:List Value} (h:w.ownsRow base e size v n xs):∃ a cap,v=.slice a n cap:=by
 obtain ⟨-,⟨rfl,h2⟩|⟨g,cap,cur,rfl,_⟩⟩:=h
 ·exact ⟨none,0,by rw [h2]⟩
 ·exact ⟨_,_,rfl⟩
theorem owns_stay {w w':World} {base e size n:Nat} {v:Value} {xs:List Value} (h:w.ownsRow base e size v n xs) (hs:∀ g,v.ownBlock=some g→w'.heap[g]?=w.heap[g]?):w'.ownsRow base e size v n xs:=by
 obtain ⟨h1,h2|⟨g,cap,cur,rfl,hBg,hh,hr⟩⟩:=h
 ·exact ⟨h1,.inl h2⟩
 ·exact ⟨h1,.inr ⟨g,cap,cur,rfl,hBg,(hs g (by simp [Value.ownBlock])).trans hh,hr⟩⟩
def SlF (w:World) (T s:Nat) (v:Value) (n:Nat) (f:Nat→Value):Prop:=∃ a cap,v=.slice a n cap∧n≤cap∧((a=none∧n=0)∨∃ g,a=some ⟨g,0,none⟩∧RowF w T g (n*s) f)
theorem SlF.keep {w w':World} {T s n:Nat} {v:Value} {f:Nat→Value} {S:Nat→Prop} (h:SlF w T s v n f) (k:Keeps w w' S) (hn:∀ b,v.ownBlock=some b→¬ S b):SlF w' T s v n f:=by
 obtain ⟨a,cap,rfl,h1,h2|⟨g,rfl,h3⟩⟩:=h
 ·exact ⟨a,cap,rfl,h1,.inl h2⟩
 ·exact ⟨_,cap,rfl,h1,.inr ⟨g,rfl,h3.keep k (hn g (by simp [Value.ownBlock]))⟩⟩
theorem SlF.low {w w':World} {T s n B:Nat} {v:Value} {f:Nat→Value} (h:SlF w T s v n f) (hb:Below B w w') (hB:w.heap.size≤B):SlF w' T s v n f:=h.keep (Keeps.of hb hB (fun _=>False)) (fun _ _ x=>x)
theorem SlF.congr {w:World} {T s n:Nat} {v:Value} {f f':Nat→Value} (h:SlF w T s v n f) (hf:∀ j,j<n*s→f j=f' j):SlF w T s v n f':=by
 obtain ⟨a,cap,rfl,h1,h2|⟨g,rfl,h3⟩⟩:=h
 ·exact ⟨a,cap,rfl,h1,.inl h2⟩
 ·exact ⟨_,cap,rfl,h1,.inr ⟨g,rfl,h3.congr hf⟩⟩
theorem SlF.form {w:World} {T s n:Nat} {v:Value} {f:Nat→Value} (h:SlF w T s v n f):∃ a cap,v=.slice a n cap:=by
 obtain ⟨a,cap,rfl,_⟩:=h
 exact ⟨a,cap,rfl⟩
theorem SlF.of {w:World} {B T s n:Nat} {v:Value} {xs:List Value} (h:w.ownsRow B T s v n xs):∃ f,SlF w T s v n f:=by
 obtain ⟨h1,⟨rfl,h2⟩|⟨g,cap,cur,rfl,hb,hg,hnc,hr⟩⟩:=h
 ·subst h2
  exact ⟨fun _=>.bool false,none,0,rfl,Nat.le_refl _,.inl ⟨rfl,rfl⟩⟩
 ·exact ⟨_,_,cap,rfl,hnc,.inr ⟨g,rfl,rowF_owns ⟨h1,.inr ⟨g,cap,cur,rfl,hb,hg,hnc,hr⟩⟩⟩⟩
theorem RowF.apart {w:World} {T T' g g' N N':Nat} {f f':Nat→Value} (h:RowF w T g N f) (h':RowF w T' g' N' f') (hT:T≠T'):g≠g':=by
 rintro rfl
 obtain ⟨c,h1,_⟩:=h
 obtain ⟨c',h1',_⟩:=h'
 rw [h1] at h1'
 simp at h1'
 exact hT h1'.2
theorem SlF.own {w:World} {T s n b:Nat} {v:Value} {f:Nat→Value} (h:SlF w T s v n f) (hb:v.ownBlock=some b):RowF w T b (n*s) f:=by
 obtain ⟨a,cap,rfl,h1,⟨rfl,h2⟩|⟨g,rfl,h3⟩⟩:=h
 ·simp [Value.ownBlock] at hb
 ·have e:g=b:=by simpa [Value.ownBlock] using hb
  subst e
  exact h3
theorem SlF.past {w w':World} {T s n T' s' n':Nat} {v v':Value} {f f':Nat→Value} (h:SlF w T s v n f) (k:Keeps w w' (fun b=>v'.ownBlock=some b)) (h':SlF w T' s' v' n' f') (hT:T≠T'):SlF w' T s v n f:=
 h.keep k (fun b hb hb'=>(h.own hb).apart (h'.own hb') hT rfl)
theorem SlF.pastG {w w':World} {T s n T' G N:Nat} {v:Value} {f f':Nat→Value} (h:SlF w T s v n f) (k:Keeps w w' (fun b=>b=G)) (h':RowF w T' G N f') (hT:T≠T'):SlF w' T s v n f:=
 h.keep k (fun b hb hb'=>(h.own hb).apart h' hT hb')
theorem RowF.past {w w':World} {T g N T' s' n':Nat} {v':Value} {f f':Nat→Value} (h:RowF w T g N f) (k:Keeps w w' (fun b=>v'.ownBlock=some b)) (h':SlF w T' s' v' n' f') (hT:T≠T'):RowF w' T g N f:=
 h.keep k (fun hb'=>h.apart (h'.own hb') hT rfl)
theorem add_none' (b o k:Nat):(⟨b,o,none⟩:Addr).add k=⟨b,o+k,none⟩:=by
 unfold Addr.add
 split
 ·rename_i h;subst h;rfl
 ·rfl
theorem app_new {wr:World} {ops:Array Oper} {rest:List Oper} {o:Oper} {a:Act} {Q:Exit→Act→World→Prop} (hgd:o.guard=none) (s x:Operand) (TS T size bytes:Nat) (z:Value)
 (ho:o.op=.call { callee:=.builtin .append,args:=#[s,x],argTypes:=#[TS,TS] }) (hU:Tryz.prog.underlying TS=some (.slice T)) (hI:(Tryz.prog.info? T).map (fun i=>(i.zero,i.size,i.bytes))=some (some z,size,bytes)) (hz:z.cells.size=size) (hsz:0<size)
 (base:Nat) (v:Value) (n:Nat) (xs cs:List Value) (hown:wr.ownsRow base T size v n xs) (hs:a.eval s=v) (hx:a.eval x=.slice (some ⟨wr.heap.size,0,none⟩) 1 1) (hcs:cs.length=size) (h1:∀ u∈cs,u.oneCell'=true)
 (hlen:(n+1)*bytes≤140737488355328) (hb0:0<bytes) (hbase:base≤wr.heap.size)
 (h:∀ v' w',w'.ownsRow base T size v' (n+1) (xs++cs)→v'≠ .slice none 0 0→(∀ B w0,Below B w0 wr→B≤base→Below B w0 w')→(∀ gx,gx<wr.heap.size→v.ownBlock≠some gx→w'.heap[gx]?=wr.heap[gx]?)→wpList Tryz.prog ops Q rest (a.put o.dst v') w'):
 wpList Tryz.prog ops Q (o::rest) a (wr.alloc (.cells cs.toArray T)):=by
 obtain ⟨i0,hi,hz0,hz1,hz2⟩:=info_parts hI
 have hn:n+1≤140737488355328:=Nat.le_trans (Nat.le_mul_of_pos_right _ hb0) hlen
 refine wpList_append_own _ hgd s x TS ho base T i0 z size bytes hU hi hz0 hz1 hz2 hz hsz v n xs hs (hown.alloc _) ⟨wr.heap.size,0,none⟩ 1 1 cs hx (by omega)
  (fun j u hj=>?_) h1 (by unfold maxLen;omega) hlen (by simp;omega) ?_
 ·rw [add_none',Nat.zero_add]
  obtain ⟨hl,rfl⟩:=List.getElem?_eq_some_iff.1 hj
  have:=(RowF.mk' wr T cs.toArray).cell (j:=j) (by simpa using hl)
  rw [this]
  simp [hl]
 ·intro v' w' h1 h2 h3
  refine h v' w' h1 (fun hh=>by have:=(h3.1 hh).2;omega) (fun B w0 hb hB=>(hb.alloc (by omega) _).grown h2 (by simp;omega) (fun q hq=>?_))
   (fun gx hgx hne=>(h2.block gx (by simp;omega) (fun e=>hne e.symm)).trans ((b_1 wr _).block gx hgx))
  have:=(hown.lt q hq).1
  omega
theorem app_new_op {wr:World} {o:Oper} {a:Act} {K:Act→World→Prop} {Q:Exit→Act→World→Prop} (s x:Operand) (TS T size bytes:Nat) (z:Value)
 (ho:o.op=.call { callee:=.builtin .append,args:=#[s,x],argTypes:=#[TS,TS] }) (hU:Tryz.prog.underlying TS=some (.slice T)) (hI:(Tryz.prog.info? T).map (fun i=>(i.zero,i.size,i.bytes))=some (some z,size,bytes)) (hz:z.cells.size=size) (hsz:0<size)
 (base:Nat) (v:Value) (n:Nat) (xs cs:List Value) (hown:wr.ownsRow base T size v n xs) (hs:a.eval s=v) (hx:a.eval x=.slice (some ⟨wr.heap.size,0,none⟩) 1 1) (hcs:cs.length=size) (h1:∀ u∈cs,u.oneCell'=true)
 (hlen:(n+1)*bytes≤140737488355328) (hb0:0<bytes) (hbase:base≤wr.heap.size)
 (h:∀ v' w',w'.ownsRow base T size v' (n+1) (xs++cs)→(∀ B w0,Below B w0 wr→B≤base→Below B w0 w')→(∀ gx,gx<wr.heap.size→v.ownBlock≠some gx→w'.heap[gx]?=wr.heap[gx]?)→K (a.put o.dst v') w'):
 Oper.wp Tryz.prog o a (wr.alloc (.cells cs.toArray T)) K Q:=by
 obtain ⟨i0,hi,hz0,hz1,hz2⟩:=info_parts hI
 have hn:n+1≤140737488355328:=Nat.le_trans (Nat.le_mul_of_pos_right _ hb0) hlen
 refine wp_append_own _ s x TS ho base T i0 z size bytes hU hi hz0 hz1 hz2 hz hsz v n xs hs (hown.alloc _) ⟨wr.heap.size,0,none⟩ 1 1 cs hx (by omega)
  (fun j u hj=>?_) h1 (by unfold maxLen;omega) hlen (by simp;omega) ?_
 ·rw [add_none',Nat.zero_add]
  obtain ⟨hl,rfl⟩:=List.getElem?_eq_some_iff.1 hj
  have:=(RowF.mk' wr T cs.toArray).cell (j:=j) (by simpa using hl)
  rw [this]
  simp [hl]
 ·intro v' w' h1 h2 h3
  refine h v' w' h1 (fun B w0 hb hB=>(hb.alloc (by omega) _).grown h2 (by simp;omega) (fun q hq=>?_))
   (fun gx hgx hne=>(h2.block gx (by simp;omega) (fun e=>hne e.symm)).trans ((b_1 wr _).block gx hgx))
  have:=(hown.lt q hq).1
  omega
def hb (s:ByteArray) (k:Nat):Int:=if h:k<s.size then ((s[k].toNat:Nat):Int) else 0
theorem hb_in {s:ByteArray} {k:Nat} (h:k<s.size):hb s k=((s[k].toNat:Nat):Int):=by rw [hb,dif_pos h]
theorem hb_out {s:ByteArray} {k:Nat} (h:s.size≤k):hb s k=0:=by rw [hb,dif_neg (by omega)]
theorem hb_rng (s:ByteArray) (k:Nat):0≤hb s k∧hb s k<256:=by
 rcases Nat.lt_or_ge k s.size with g|g
 ·rw [hb_in g]
  have:=(s[k]).toNat_lt
  omega
 ·rw [hb_out g];omega
theorem idx_str (s:ByteArray) {i:Int} (w:World) (h0:0≤i) (h1:i<s.size):(Instr.index 9 (.string s) (.int .i64 i)).run Tryz.prog w=.ok (.int .u8 (hb s i.toNat)) w:=by
 rw [run_index_string w 9 s .i64 i Tryz.underlying9,dif_pos ⟨h0,h1⟩,hb_in (by omega)]
end Go.Proofs.YtlgodacccilabaaGreatDoor
namespace Go.Proofs.YtlgodacccilabaaGreatDoor
open Go Go.RowKit
set_option linter.unusedVariables false
def isLow (c:Int):Bool:=decide (97≤c)&&decide (c≤122)
def isUp (c:Int):Bool:=decide (65≤c)&&decide (c≤90)
def isDg (c:Int):Bool:=decide (48≤c)&&decide (c≤57)
def clsIs (k:Int):Bool:=decide (k=97)||decide (k=100)||decide (k=108)||decide (k=115)||decide (k=117)||decide (k=119)||decide (k=120)||decide (k=112)||decide (k=99)
def cls (k c:Int):Bool:=
 if k=97 then isLow c||isUp c
 else if k=100 then isDg c
 else if k=108 then isLow c
 else if k=115 then (decide (9≤c)&&decide (c≤13))||decide (c=32)
 else if k=117 then isUp c
 else if k=119 then isLow c||isUp c||isDg c
 else if k=120 then isDg c||(decide (97≤c)&&decide (c≤102))||(decide (65≤c)&&decide (c≤70))
 else if k=112 then decide (33≤c)&&decide (c≤126)&&!isLow c&&!isUp c&&!isDg c
 else if k=99 then decide (c≤31)||decide (c=127)
 else false
def lowK (k:Int):Int:=if 65≤k∧k≤90 then k+32 else k
def escIn (k c:Int):Bool:=if clsIs (lowK k) then (cls (lowK k) c==decide (lowK k=k)) else decide (c=k)
def escOk (k:Int):Bool:=clsIs (lowK k)||(!isLow (lowK k)&&!isDg k)
structure It where
 kind:Nat
 set:Nat→Bool
 sign:Int
 n:Nat
 x:Int
 y:Int
def it0:It:=⟨0,fun _=>false,0,0,0,0⟩
def itPlace (n:Nat):It:={ it0 with kind:=1,n:=n }
def itOpen (n:Nat):It:={ it0 with kind:=2,n:=n }
def itShut (n:Nat):It:={ it0 with kind:=3,n:=n }
def itBack (n:Nat):It:={ it0 with kind:=4,n:=n }
def itPair (x y:Int):It:={ it0 with kind:=5,x:=x,y:=y }
def itEdge (f:Nat→Bool):It:={ it0 with kind:=6,set:=f }
def itEnd:It:={ it0 with kind:=7 }
def itOne (f:Nat→Bool) (q:Int):It:={ it0 with set:=f,sign:=q }
def setL (p:ByteArray):Nat→(Nat→Bool)→Nat→Bool→Option ((Nat→Bool) × Nat)
 |0,_,_,_=>none
 |k+1,f,at_,first=>
  if ¬ at_<p.size then none
  else if hb p at_=93∧first=false then some (f,at_+1)
  else if hb p at_=37 then
   if at_+1<p.size∧escOk (hb p (at_+1))=true then setL p k (fun c=>f c||escIn (hb p (at_+1)) c) (at_+2) false else none
  else if at_+2<p.size∧hb p (at_+1)=45∧hb p (at_+2)≠93∧hb p (at_+2)≠37 then
   setL p k (fun c=>f c||(decide (hb p at_≤c)&&decide ((c:Int)≤hb p (at_+2)))) (at_+3) false
  else setL p k (fun c=>f c||decide ((c:Int)=hb p at_)) (at_+1) false
def rdSet (p:ByteArray) (at_:Nat):Option ((Nat→Bool) × Nat):=
 if hb p (at_+1)=94 then (setL p (p.size+1) (fun _=>false) (at_+2) true).map (fun r=>(fun c=>!r.1 c,r.2))
 else setL p (p.size+1) (fun _=>false) (at_+1) true
def rdOne (p:ByteArray) (at_:Nat):Option ((Nat→Bool) × Nat):=
 if hb p at_=91 then rdSet p at_
 else if hb p at_=46 then some (fun _=>true,at_+1)
 else if hb p at_=37 then
  if at_+1<p.size∧escOk (hb p (at_+1))=true then some (fun c=>escIn (hb p (at_+1)) c,at_+2) else none
 else some (fun c=>decide ((c:Int)=hb p at_),at_+1)
structure Rd where
 pos:Nat
 items:List It
 opn:List Nat
 done:List Bool
def isSign (q:Int):Bool:=decide (q=42)||decide (q=43)||decide (q=45)||decide (q=63)
def rdItem (p:ByteArray) (R:Rd):Option Rd:=
 if hb p R.pos=40 then
  if R.pos+1<p.size∧hb p (R.pos+1)=41 then some ⟨R.pos+2,R.items++[itPlace R.done.length],R.opn,R.done++[true]⟩
  else some ⟨R.pos+1,R.items++[itOpen R.done.length],R.opn++[R.done.length],R.done++[false]⟩
 else if hb p R.pos=41 then
  match R.opn.getLast? with
  |none=>none
  |some n=>some ⟨R.pos+1,R.items++[itShut n],R.opn.dropLast,R.done.set n true⟩
 else if hb p R.pos=37∧R.pos+1<p.size∧isDg (hb p (R.pos+1))=true then
  if hb p (R.pos+1)=48∨R.done.getD (hb p (R.pos+1)-49).toNat false=false then none
  else some ⟨R.pos+2,R.items++[itBack (hb p (R.pos+1)-49).toNat],R.opn,R.done⟩
 else if hb p R.pos=37∧R.pos+1<p.size∧hb p (R.pos+1)=98 then
  if R.pos+3<p.size then some ⟨R.pos+4,R.items++[itPair (hb p (R.pos+2)) (hb p (R.pos+3))],R.opn,R.done⟩ else none
 else if hb p R.pos=37∧R.pos+1<p.size∧hb p (R.pos+1)=102 then
  if R.pos+2<p.size∧hb p (R.pos+2)=91 then (rdSet p (R.pos+2)).map (fun r=>⟨r.2,R.items++[itEdge r.1],R.opn,R.done⟩) else none
 else if hb p R.pos=36∧¬ R.pos+1<p.size then some ⟨R.pos+1,R.items++[itEnd],R.opn,R.done⟩
 else (rdOne p R.pos).map (fun r=>if r.2<p.size∧isSign (hb p r.2)=true then ⟨r.2+1,R.items++[itOne r.1 (hb p r.2)],R.opn,R.done⟩ else ⟨r.2,R.items++[itOne r.1 0],R.opn,R.done⟩)
def rdAll (p:ByteArray):Nat→Rd→Option Rd
 |0,R=>if R.pos<p.size then none else some R
 |k+1,R=>if R.pos<p.size then (rdItem p R).bind (rdAll p k) else some R
structure Pt where
 items:List It
 caps:Nat
 place:Nat→Bool
 start:Bool
def isPl (its:List It) (n:Nat):Bool:=its.any (fun it=>decide (it.kind=1)&&decide (it.n=n))
def rdPat (p:ByteArray):Option Pt:=
 if 200<p.size then none
 else (rdAll p 200 ⟨if hb p 0=94 then 1 else 0,[],[],[]⟩).bind (fun R=>if R.opn=[]∧R.done.length≤16 then some ⟨R.items,R.done.length,isPl R.items,decide (hb p 0=94)⟩ else none)
structure Ms where
 steps:Nat
 fr:Nat→Nat
 tt:Nat→Nat
def Ms.more (σ:Ms) (n:Nat):Ms:={ σ with steps:=σ.steps+n }
def Ms.spent (σ:Ms):Bool:=decide (50000<σ.steps)
def upd (f:Nat→Nat) (n v:Nat):Nat→Nat:=fun j=>if j=n then v else f j
def has (s:ByteArray) (f:Nat→Bool) (k:Nat):Bool:=decide (k<s.size)&&f (hb s k).toNat
abbrev Nx:=Nat→Ms→Option Nat × Ms
def lazyM (s:ByteArray) (f:Nat→Bool) (nx:Nx):Nat→Nat→Ms→Option Nat × Ms
 |0,_,σ=>(none,σ)
 |k+1,n,σ=>
  if σ.spent=true then (none,σ)
  else match nx n σ with
   |(some e,σ')=>(some e,σ')
   |(none,σ')=>if has s f n=true then lazyM s f nx k (n+1) (σ'.more 1) else (none,σ')
def downM (nx:Nx) (at_ least:Nat):Nat→Ms→Option Nat × Ms
 |0,σ=>if 0<least∨σ.spent=true then (none,σ) else nx at_ σ
 |n+1,σ=>
  if n+1<least∨σ.spent=true then (none,σ)
  else match nx (at_+(n+1)) σ with
   |(some e,σ')=>(some e,σ')
   |(none,σ')=>downM nx at_ least n σ'
def runL (s:ByteArray) (f:Nat→Bool):Nat→Nat→Nat
 |0,_=>0
 |n+1,k=>if has s f k=true then runL s f n (k+1)+1 else 0
def oneM (s:ByteArray) (it:It) (nx:Nx) (at_:Nat) (σ:Ms):Option Nat × Ms:=
 if it.sign=0 then (if has s it.set at_=true then nx (at_+1) σ else (none,σ))
 else if it.sign=63 then downM nx at_ 0 (if has s it.set at_=true then 1 else 0) σ
 else if it.sign=45 then lazyM s it.set nx (s.size+1) at_ σ
 else downM nx at_ (if it.sign=43 then 1 else 0) (runL s it.set s.size at_) (σ.more (runL s it.set s.size at_))
def pairM (s:ByteArray) (x y:Int) (nx:Nx):Nat→Nat→Nat→Ms→Option Nat × Ms
 |0,_,_,σ=>(none,σ)
 |k+1,i,n,σ=>
  if ¬ i<s.size then (none,σ)
  else if hb s i=y then
   if n=1 then (if (σ.more 1).spent=true then (none,σ.more 1) else nx (i+1) (σ.more 1)) else pairM s x y nx k (i+1) (n-1) (σ.more 1)
  else if hb s i=x then pairM s x y nx k (i+1) (n+1) (σ.more 1)
  else pairM s x y nx k (i+1) n (σ.more 1)
def hbB (s:ByteArray) (k:Nat):Int:=if 0<k then hb s (k-1) else 0
def tryM (s:ByteArray) (pl:Nat→Bool):List It→Nx
 | []=>fun at_ σ=>(some at_,σ)
 |it::rest=>fun at_ σ0=>
  if (σ0.more 1).spent=true then (none,σ0.more 1)
  else if it.kind=0 then oneM s it (tryM s pl rest) at_ (σ0.more 1)
  else if it.kind=1∨it.kind=2 then
   match tryM s pl rest at_ { σ0.more 1 with fr:=upd σ0.fr it.n at_ } with
   |(some e,σ')=>(some e,σ')
   |(none,σ')=>(none,{ σ' with fr:=upd σ'.fr it.n (σ0.fr it.n) })
  else if it.kind=3 then
   match tryM s pl rest at_ { σ0.more 1 with tt:=upd σ0.tt it.n at_ } with
   |(some e,σ')=>(some e,σ')
   |(none,σ')=>(none,{ σ' with tt:=upd σ'.tt it.n (σ0.tt it.n) })
  else if it.kind=4 then
   if pl it.n=true then (none,σ0.more 1)
   else if s.size<at_+(σ0.tt it.n-σ0.fr it.n)∨s.extract at_ (at_+(σ0.tt it.n-σ0.fr it.n))≠s.extract (σ0.fr it.n) (σ0.tt it.n) then (none,σ0.more 1)
   else tryM s pl rest (at_+(σ0.tt it.n-σ0.fr it.n)) (σ0.more 1)
  else if it.kind=5 then
   if ¬ at_<s.size∨hb s at_≠it.x then (none,σ0.more 1)
   else pairM s it.x it.y (tryM s pl rest) s.size (at_+1) 1 (σ0.more 1)
  else if it.kind=6 then
   if it.set (hbB s at_).toNat=true∨it.set (hb s at_).toNat=false then (none,σ0.more 1)
   else tryM s pl rest at_ (σ0.more 1)
  else if at_≠s.size then (none,σ0.more 1)
  else tryM s pl rest at_ (σ0.more 1)
end Go.Proofs.YtlgodacccilabaaGreatDoor
namespace Go.Proofs.YtlgodacccilabaaGreatDoor
open Go Go.RowKit
set_option linter.unusedVariables false
theorem upd_same (f:Nat→Nat) (n v:Nat):upd f n v n=v:=by simp [upd]
theorem upd_other (f:Nat→Nat) {n j:Nat} (v:Nat) (h:j≠n):upd f n v j=f j:=by simp [upd,h]
theorem upd_back (f:Nat→Nat) (n v:Nat):upd (upd f n v) n (f n)=f:=by
 funext j
 by_cases h:j=n
 ·subst h;rw [upd_same]
 ·rw [upd_other _ _ h,upd_other _ _ h]
def Rest (nx:Nx):Prop:=∀ at_ σ,(nx at_ σ).1=none→(nx at_ σ).2.fr=σ.fr∧(nx at_ σ).2.tt=σ.tt
theorem lazyM_rest {s:ByteArray} {f:Nat→Bool} {nx:Nx} (h:Rest nx):∀ k n σ,(lazyM s f nx k n σ).1=none→(lazyM s f nx k n σ).2.fr=σ.fr∧(lazyM s f nx k n σ).2.tt=σ.tt
 |0,n,σ=>fun _=>⟨rfl,rfl⟩
 |k+1,n,σ=>by
  intro hn
  rw [lazyM] at hn ⊢
  split at hn
  ·rename_i hs;rw [if_pos hs];exact ⟨rfl,rfl⟩
  ·rename_i hs
   rw [if_neg hs]
   have hr:=h n σ
   generalize nx n σ=r at *
   obtain ⟨o,σ'⟩:=r
   cases o with
   |some e=>simp at hn
   |none=>
    simp only at hn hr ⊢
    obtain ⟨r1,r2⟩:=hr trivial
    split at hn
    ·rename_i hh
     rw [if_pos hh]
     have:=lazyM_rest h k (n+1) (σ'.more 1) hn
     exact ⟨this.1.trans r1,this.2.trans r2⟩
    ·rename_i hh
     rw [if_neg hh]
     exact ⟨r1,r2⟩
theorem downM_rest {nx:Nx} (h:Rest nx) (at_ least:Nat):∀ n σ,(downM nx at_ least n σ).1=none→(downM nx at_ least n σ).2.fr=σ.fr∧(downM nx at_ least n σ).2.tt=σ.tt
 |0,σ=>by
  intro hn
  rw [downM] at hn ⊢
  split at hn
  ·rename_i hs;rw [if_pos hs];exact ⟨rfl,rfl⟩
  ·rename_i hs;rw [if_neg hs];exact h _ _ hn
 |n+1,σ=>by
  intro hn
  rw [downM] at hn ⊢
  split at hn
  ·rename_i hs;rw [if_pos hs];exact ⟨rfl,rfl⟩
  ·rename_i hs
   rw [if_neg hs]
   have hr:=h (at_+(n+1)) σ
   generalize nx (at_+(n+1)) σ=r at *
   obtain ⟨o,σ'⟩:=r
   cases o with
   |some e=>simp at hn
   |none=>
    simp only at hn hr ⊢
    obtain ⟨r1,r2⟩:=hr trivial
    have:=downM_rest h at_ least n σ' hn
    exact ⟨this.1.trans r1,this.2.trans r2⟩
theorem pairM_rest {s:ByteArray} {x y:Int} {nx:Nx} (h:Rest nx):∀ k i n σ,(pairM s x y nx k i n σ).1=none→(pairM s x y nx k i n σ).2.fr=σ.fr∧(pairM s x y nx k i n σ).2.tt=σ.tt
 |0,i,n,σ=>fun _=>⟨rfl,rfl⟩
 |k+1,i,n,σ=>by
  intro hn
  rw [pairM] at hn ⊢
  split at hn
  ·rename_i h1;rw [if_pos h1];exact ⟨rfl,rfl⟩
  ·rename_i h1
   rw [if_neg h1]
   split at hn
   ·rename_i h2
    rw [if_pos h2]
    split at hn
    ·rename_i h3
     rw [if_pos h3]
     split at hn
     ·rename_i h4;rw [if_pos h4];exact ⟨rfl,rfl⟩
     ·rename_i h4
      rw [if_neg h4]
      exact h _ (σ.more 1) hn
    ·rename_i h3
     rw [if_neg h3]
     exact pairM_rest h k _ _ (σ.more 1) hn
   ·rename_i h2
    rw [if_neg h2]
    split at hn
    ·rename_i h3;rw [if_pos h3];exact pairM_rest h k _ _ (σ.more 1) hn
    ·rename_i h3;rw [if_neg h3];exact pairM_rest h k _ _ (σ.more 1) hn
theorem oneM_rest {s:ByteArray} {it:It} {nx:Nx} (h:Rest nx) (at_:Nat) (σ:Ms) (hn:(oneM s it nx at_ σ).1=none):(oneM s it nx at_ σ).2.fr=σ.fr∧(oneM s it nx at_ σ).2.tt=σ.tt:=by
 unfold oneM at hn ⊢
 split at hn
 ·rename_i h1
  rw [if_pos h1]
  split at hn
  ·rename_i h2;rw [if_pos h2];exact h _ _ hn
  ·rename_i h2;rw [if_neg h2];exact ⟨rfl,rfl⟩
 ·rename_i h1
  rw [if_neg h1]
  split at hn
  ·rename_i h2;rw [if_pos h2];exact downM_rest h _ _ _ _ hn
  ·rename_i h2
   rw [if_neg h2]
   split at hn
   ·rename_i h3;rw [if_pos h3];exact lazyM_rest h _ _ _ hn
   ·rename_i h3;rw [if_neg h3];exact downM_rest h _ _ _ (σ.more _) hn
theorem tryM_rest (s:ByteArray) (pl:Nat→Bool):∀ its,Rest (tryM s pl its)
 | []=>fun at_ σ hn=>by simp [tryM] at hn
 |it::rest=>fun at_ σ0 hn=>by
  have ih:=tryM_rest s pl rest
  rw [tryM] at hn ⊢
  simp only at hn ⊢
  split at hn
  ·rename_i h1;rw [if_pos h1];exact ⟨rfl,rfl⟩
  rename_i h1
  rw [if_neg h1]
  split at hn
  ·rename_i h2;rw [if_pos h2];exact oneM_rest ih _ (σ0.more 1) hn
  rename_i h2
  rw [if_neg h2]
  split at hn
  ·rename_i h3
   rw [if_pos h3]
   have hr:=ih at_ { σ0.more 1 with fr:=upd σ0.fr it.n at_ }
   generalize tryM s pl rest at_ { σ0.more 1 with fr:=upd σ0.fr it.n at_ }=r at *
   obtain ⟨o,σ'⟩:=r
   cases o with
   |some e=>simp at hn
   |none=>
    simp only at hr ⊢
    obtain ⟨r1,r2⟩:=hr trivial
    exact ⟨by rw [r1,upd_back],r2⟩
  rename_i h3
  rw [if_neg h3]
  split at hn
  ·rename_i h4
   rw [if_pos h4]
   have hr:=ih at_ { σ0.more 1 with tt:=upd σ0.tt it.n at_ }
   generalize tryM s pl rest at_ { σ0.more 1 with tt:=upd σ0.tt it.n at_ }=r at *
   obtain ⟨o,σ'⟩:=r
   cases o with
   |some e=>simp at hn
   |none=>
    simp only at hr ⊢
    obtain ⟨r1,r2⟩:=hr trivial
    exact ⟨r1,by rw [r2,upd_back]⟩
  rename_i h4
  rw [if_neg h4]
  split at hn
  ·rename_i h5
   rw [if_pos h5]
   split at hn
   ·rename_i h6;rw [if_pos h6];exact ⟨rfl,rfl⟩
   ·rename_i h6
    rw [if_neg h6]
    split at hn
    ·rename_i h7;rw [if_pos h7];exact ⟨rfl,rfl⟩
    ·rename_i h7;rw [if_neg h7];exact ih _ (σ0.more 1) hn
  rename_i h5
  rw [if_neg h5]
  split at hn
  ·rename_i h6
   rw [if_pos h6]
   split at hn
   ·rename_i h7;rw [if_pos h7];exact ⟨rfl,rfl⟩
   ·rename_i h7;rw [if_neg h7];exact pairM_rest ih _ _ _ (σ0.more 1) hn
  rename_i h6
  rw [if_neg h6]
  split at hn
  ·rename_i h7
   rw [if_pos h7]
   split at hn
   ·rename_i h8;rw [if_pos h8];exact ⟨rfl,rfl⟩
   ·rename_i h8;rw [if_neg h8];exact ih _ (σ0.more 1) hn
  rename_i h7
  rw [if_neg h7]
  split at hn
  ·rename_i h8;rw [if_pos h8];exact ⟨rfl,rfl⟩
  ·rename_i h8;rw [if_neg h8];exact ih _ (σ0.more 1) hn
end Go.Proofs.YtlgodacccilabaaGreatDoor
