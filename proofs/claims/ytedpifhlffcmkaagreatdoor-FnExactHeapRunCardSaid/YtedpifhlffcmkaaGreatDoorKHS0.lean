import Derived.Test.YtedpifhlffcmkaaGreatDoorRows
import Derived.WalkKit
import Derived.ProofKit
import Derived.OpenShut
import Derived.WalkSpells
import Derived.WalkSmall
import Derived.BigQuiet
import Derived.BigRegion
import Derived.Deep.QuietTactic
import Derived.Deep.RegionHeld3
import Derived.Deep.DeepCutAuto
import Derived.Deep.Slices
import Derived.OwnWalk
import Derived.Laws.OwnMore
import Derived.Tactics
import Derived.Tactics2
namespace Go.Proofs.YtedpifhlffcmkaaGreatDoor
open Go Go.RowKit
set_option linter.unusedVariables false
variable {B N N' T T' b base base' cap g g' j n n' s s':Nat} {Q:Exit->Act->World->Prop} {S S':Nat->Prop} {a:Act} {f f':Nat->Value} {ops:Array Oper} {rest:List Oper} {v v':Value} {w w' wr:World} {xs:List Value}
def Hq (p:Prop):Prop:=p
theorem Hq.o {p:Prop} (h:Hq p):p:=h
theorem Hq.out {p:Prop} (h:Hq p):p:=h
theorem ah {p:Prop} (h:p):Hq p:=h
theorem ay {a:World} (h:Below B a w) (n:Nat):Below B a (w.drewN n):=⟨h.os,h.tape,h.output,h.size,h.block⟩
def aD (w:World) (T g N:Nat) (f:Nat->Value):Prop:=∃ cur:Array Value,w.heap[g]?=some (.cells cur T (0,0))/\N<=cur.size/\∀ j,j<N->cur[j]?=some (f j)
theorem aD.cell {w:World} {T g N:Nat} {f:Nat->Value} (h:aD w T g N f) {j:Nat} (hj:j<N):w.cell? ⟨g,j,none⟩=some (f j):=by
 obtain ⟨cur,h1,h2,h3⟩:=h
 have:=h3 j hj
 simp [World.cell?,h1,this]
theorem aD.Jv (h:aD w T g N f) (j:Nat):w.frozen? ⟨g,j,none⟩=false:=by
 obtain ⟨cur,h1,h2,h3⟩:=h
 simp [World.frozen?,h1]
theorem aD.low (h:aD w T g N f) (hb:Below b w w') (hg:g<b):aD w' T g N f:=by
 obtain ⟨cur,h1,h2,h3⟩:=h
 exact ⟨cur,(hb.block g hg).trans h1,h2,h3⟩
theorem aD.lt (h:aD w T g N f):g<w.heap.size:=by
 obtain ⟨cur,h1,h2,h3⟩:=h
 rcases Nat.lt_or_ge g w.heap.size with c|c
 ·exact c
 ·rw [Array.getElem?_eq_none c] at h1;cases h1
theorem aD.set (h:aD w T g N f) (hj:j<N) (x:Value):aD (w.setCell ⟨g,j,none⟩ x) T g N (fun i=>if i=j then x else f i):=by
 obtain ⟨cur,h1,h2,h3⟩:=h
 have e:=heap_setCell_same w g j _ _ x h1
 refine ⟨_,e,by simpa using h2,fun i hi=>?_⟩
 by_cases hij:i=j
 ·subst hij
  have h9:i<cur.size:=by omega
  simp [h9]
 ·have:=h3 i hi
  simp [hij,Ne.symm hij,this]
theorem aD.congr (h:aD w T g N f) (hf:∀ j,j<N->f j=f' j):aD w T g N f':=by
 obtain ⟨cur,h1,h2,h3⟩:=h
 exact ⟨cur,h1,h2,fun j hj=>by rw [h3 j hj,hf j hj]⟩
theorem aD.kept {row:Option Nat} (h:aD w T g N f) (hg:w.grownBy w' row) (hn:some g≠row):aD w' T g N f:=by
 obtain ⟨cur,h1,h2,h3⟩:=h
 exact ⟨cur,(hg.block g (aD.lt ⟨cur,h1,h2,h3⟩) hn).trans h1,h2,h3⟩
theorem fQ (h:w.ownsRow B T s (.slice (some ⟨g,0,none⟩) n cap) n xs):aD w T g (n*s) (fun j=>xs.getD j (.bool false)):=by
 rcases h.2 with ⟨h',_⟩|⟨g',cap',cur,h',hb,hg,hnc,hcm,hcs,htake⟩
 ·simp at h'
 ·simp only [Value.slice.injEq,Option.some.injEq,Addr.mk.injEq,and_true,true_and] at h'
  obtain ⟨rfl,rfl⟩:=h'
  refine ⟨cur,hg,by rw [hcs];exact Nat.mul_le_mul_right _ hnc,fun j hj=>?_⟩
  have hc:j<cur.size:=by rw [hcs];exact Nat.lt_of_lt_of_le hj (Nat.mul_le_mul_right _ hnc)
  show cur[j]?=some (xs.getD j (.bool false))
  rw [<-htake,List.getD_eq_getElem?_getD,List.getElem?_take,if_pos hj]
  simp [hc]
theorem aD.other {x:Value} (h:aD w T g N f) (hn:g≠g'):aD (w.setCell ⟨g',j,none⟩ x) T g N f:=by
 obtain ⟨cur,h1,h2,h3⟩:=h
 exact ⟨cur,(heap_setCell_other w ⟨g',j,none⟩ g x (fun e=>hn e)).trans h1,h2,h3⟩
theorem aD.mk' (w:World) (T:Nat) (arr:Array Value):aD (w.alloc (.cells arr T)) T w.heap.size arr.size (fun j=>arr.getD j (.bool false)):=by
 refine ⟨arr,heap_alloc_new w _,Nat.le_refl _,fun j hj=>?_⟩
 simp [hj]
theorem aJ (w:World) (o:Obj):Below w.heap.size w (w.alloc o):=(Below.refl _ _).alloc (Nat.le_refl _) _
theorem zO (w:World) (o o':Obj):Below w.heap.size w ((w.alloc o).alloc o'):=(aJ w o).alloc (by simp) _
theorem Dt (w:World) (o o' o2:Obj):Below w.heap.size w (((w.alloc o).alloc o').alloc o2):=(zO w o o').alloc (by simp;omega) _
theorem aD.same (h:aD w T g N f) (e:w'.heap[g]?=w.heap[g]?):aD w' T g N f:=by
 obtain ⟨cur,h1,h2,h3⟩:=h
 exact ⟨cur,e.trans h1,h2,h3⟩
def aU:Value->Nat
 | .int _ x=>x.toNat
 |_=>0
structure Keeps (w w':World) (S:Nat->Prop):Prop where
 os:w'.os=w.os
 tape:w'.tape=w.tape
 output:w'.output=w.output
 size:w.heap.size<=w'.heap.size
 block:∀ b,b<w.heap.size->¬ S b->w'.heap[b]?=w.heap[b]?
theorem Keeps.refl (w:World) (S:Nat->Prop):Keeps w w S:=⟨rfl,rfl,rfl,Nat.le_refl _,fun _ _ _=>rfl⟩
theorem Keeps.trans {w w' w'':World} {S:Nat->Prop} (h:Keeps w w' S) (k:Keeps w' w'' S):Keeps w w'' S:=
 ⟨k.os.trans h.os,k.tape.trans h.tape,k.output.trans h.output,Nat.le_trans h.size k.size,fun b hb hs=>(k.block b (Nat.lt_of_lt_of_le hb h.size) hs).trans (h.block b hb hs)⟩
theorem Keeps.mono (h:Keeps w w' S) (hs:∀ b,S b->S' b):Keeps w w' S':=⟨h.os,h.tape,h.output,h.size,fun b hb hn=>h.block b hb (fun x=>hn (hs b x))⟩
theorem Keeps.of (h:Below B w w') (hB:w.heap.size<=B) (S:Nat->Prop):Keeps w w' S:=⟨h.os,h.tape,h.output,h.size,fun b hb _=>h.block b (Nat.lt_of_lt_of_le hb hB)⟩
theorem Keeps.below (h:Keeps w w' S) (hB:B<=w.heap.size) (hS:∀ b,S b->B<=b):Below B w w':=
 ⟨h.os,h.tape,h.output,h.size,fun b hb=>h.block b (by omega) (fun x=>by have:=hS b x;omega)⟩
theorem Keeps.setCell {w w':World} {S:Nat->Prop} (h:Keeps w w' S) {g j:Nat} (hg:S g) (x:Value):Keeps w (w'.setCell ⟨g,j,none⟩ x) S:=by
 have e:Below g w' (w'.setCell ⟨g,j,none⟩ x):=(Below.refl g w').setCell (Nat.le_refl _) x
 refine ⟨e.os.trans h.os,e.tape.trans h.tape,e.output.trans h.output,Nat.le_trans h.size e.size,fun b hb hn=>?_⟩
 rw [heap_setCell_other w' ⟨g,j,none⟩ b x (fun e=>hn (by subst e;exact hg))]
 exact h.block b hb hn
theorem aD.keep (h:aD w T g N f) (k:Keeps w w' S) (hn:¬ S g):aD w' T g N f:=h.same (k.block g h.lt hn)
theorem Keeps.past (h:Keeps w w' S) (hg:w.heap.size<=g) (x:Value):Keeps w (w'.setCell ⟨g,j,none⟩ x) S:=by
 have e:Below g w' (w'.setCell ⟨g,j,none⟩ x):=(Below.refl g w').setCell (Nat.le_refl _) x
 exact ⟨e.os.trans h.os,e.tape.trans h.tape,e.output.trans h.output,Nat.le_trans h.size e.size,fun b hb hn=>(e.block b (by omega)).trans (h.block b hb hn)⟩
theorem fq {e size:Nat} (h:w.ownsRow base e size v n xs) (hb:base'<=base):w.ownsRow base' e size v n xs:=by
 obtain ⟨h1,h2|⟨g,cap,cur,h3,h4,h5⟩⟩:=h
 ·exact ⟨h1,.inl h2⟩
 ·exact ⟨h1,.inr ⟨g,cap,cur,h3,Nat.le_trans hb h4,h5⟩⟩
theorem aF {e size:Nat} (h:w.ownsRow base e size v n xs):∃ a cap,v=.slice a n cap:=by
 obtain ⟨-,⟨rfl,h2⟩|⟨g,cap,cur,rfl,_⟩⟩:=h
 ·exact ⟨none,0,by rw [h2]⟩
 ·exact ⟨_,_,rfl⟩
def iN (w:World) (T s:Nat) (v:Value) (n:Nat) (f:Nat->Value):Prop:=∃ a cap,v=.slice a n cap/\n<=cap/\((a=none/\n=0)∨∃ g,a=some ⟨g,0,none⟩/\aD w T g (n*s) f)
theorem iN.keep {w w':World} {T s n:Nat} {v:Value} {f:Nat->Value} {S:Nat->Prop} (h:iN w T s v n f) (k:Keeps w w' S) (hn:∀ b,v.ownBlock=some b->¬ S b):iN w' T s v n f:=by
 obtain ⟨a,cap,rfl,h1,h2|⟨g,rfl,h3⟩⟩:=h
 ·exact ⟨a,cap,rfl,h1,.inl h2⟩
 ·exact ⟨_,cap,rfl,h1,.inr ⟨g,rfl,h3.keep k (hn g (by simp [Value.ownBlock]))⟩⟩
theorem iN.low (h:iN w T s v n f) (hb:Below B w w') (hB:w.heap.size<=B):iN w' T s v n f:=h.keep (Keeps.of hb hB (fun _=>False)) (fun _ _ x=>x)
theorem iN.congr {w:World} {T s n:Nat} {v:Value} {f f':Nat->Value} (h:iN w T s v n f) (hf:∀ j,j<n*s->f j=f' j):iN w T s v n f':=by
 obtain ⟨a,cap,rfl,h1,h2|⟨g,rfl,h3⟩⟩:=h
 ·exact ⟨a,cap,rfl,h1,.inl h2⟩
 ·exact ⟨_,cap,rfl,h1,.inr ⟨g,rfl,h3.congr hf⟩⟩
theorem iN.form (h:iN w T s v n f):∃ a cap,v=.slice a n cap:=by
 obtain ⟨a,cap,rfl,_⟩:=h
 exact ⟨a,cap,rfl⟩
theorem iN.of (h:w.ownsRow B T s v n xs):∃ f,iN w T s v n f:=by
 obtain ⟨h1,⟨rfl,h2⟩|⟨g,cap,cur,rfl,hb,hg,hnc,hr⟩⟩:=h
 ·subst h2
  exact ⟨fun _=>.bool false,none,0,rfl,Nat.le_refl _,.inl ⟨rfl,rfl⟩⟩
 ·exact ⟨_,_,cap,rfl,hnc,.inr ⟨g,rfl,fQ ⟨h1,.inr ⟨g,cap,cur,rfl,hb,hg,hnc,hr⟩⟩⟩⟩
theorem aD.apart (h:aD w T g N f) (h':aD w T' g' N' f') (hT:T≠T'):g≠g':=by
 rintro rfl
 obtain ⟨c,h1,_⟩:=h
 obtain ⟨c',h1',_⟩:=h'
 rw [h1] at h1'
 simp at h1'
 exact hT h1'.2
theorem iN.own (h:iN w T s v n f) (hb:v.ownBlock=some b):aD w T b (n*s) f:=by
 obtain ⟨a,cap,rfl,h1,⟨rfl,h2⟩|⟨g,rfl,h3⟩⟩:=h
 ·simp [Value.ownBlock] at hb
 ·have e:g=b:=by simpa [Value.ownBlock] using hb
  subst e
  exact h3
theorem iN.past (h:iN w T s v n f) (k:Keeps w w' (fun b=>v'.ownBlock=some b)) (h':iN w T' s' v' n' f') (hT:T≠T'):iN w' T s v n f:=
 h.keep k (fun b hb hb'=>(h.own hb).apart (h'.own hb') hT rfl)
theorem iN.Ir {G:Nat} (h:iN w T s v n f) (k:Keeps w w' (fun b=>b=G)) (h':aD w T' G N f') (hT:T≠T'):iN w' T s v n f:=
 h.keep k (fun b hb hb'=>(h.own hb).apart h' hT hb')
theorem aD.past (h:aD w T g N f) (k:Keeps w w' (fun b=>v'.ownBlock=some b)) (h':iN w T' s' v' n' f') (hT:T≠T'):aD w' T g N f:=
 h.keep k (fun hb'=>h.apart (h'.own hb') hT rfl)
theorem aY (b o k:Nat):(⟨b,o,none⟩:Addr).add k=⟨b,o+k,none⟩:=by
 unfold Addr.add
 split
 ·rename_i h;subst h;rfl
 ·rfl
theorem Dq {o:Oper} (hgd:o.guard=none) (s x:Operand) (TS T size bytes:Nat) (z:Value)
 (ho:o.op=.call { callee:=.builtin .append,args:=#[s,x],argTypes:=#[TS,TS] }) (hU:Tryz.prog.underlying TS=some (.slice T)) (hI:(Tryz.prog.info? T).map (fun i=>(i.zero,i.size,i.bytes))=some (some z,size,bytes)) (hz:z.cells.size=size) (hsz:0<size)
 (base:Nat) (v:Value) (n:Nat) (xs cs:List Value) (hown:wr.ownsRow base T size v n xs) (hs:a.eval s=v) (hx:a.eval x=.slice (some ⟨wr.heap.size,0,none⟩) 1 1) (hcs:cs.length=size) (h1:∀ u∈cs,u.oneCell'=true)
 (hlen:(n+1)*bytes<=140737488355328) (hb0:0<bytes) (hbase:base<=wr.heap.size)
 (h:∀ v' w',w'.ownsRow base T size v' (n+1) (xs++cs)->v'≠ .slice none 0 0->(∀ B w0,Below B w0 wr->B<=base->Below B w0 w')->(∀ gx,gx<wr.heap.size->v.ownBlock≠some gx->w'.heap[gx]?=wr.heap[gx]?)->wpList Tryz.prog ops Q rest (a.put o.dst v') w'):
 wpList Tryz.prog ops Q (o::rest) a (wr.alloc (.cells cs.toArray T)):=by
 obtain ⟨i0,hi,hz0,hz1,hz2⟩:=info_parts hI
 have hn:n+1<=140737488355328:=Nat.le_trans (Nat.le_mul_of_pos_right _ hb0) hlen
 refine wpList_append_own _ hgd s x TS ho base T i0 z size bytes hU hi hz0 hz1 hz2 hz hsz v n xs hs (hown.alloc _) ⟨wr.heap.size,0,none⟩ 1 1 cs hx (by omega)
  (fun j u hj=>?_) h1 (by unfold maxLen;omega) hlen (by simp;omega) ?_
 ·rw [aY,Nat.zero_add]
  obtain ⟨hl,rfl⟩:=List.getElem?_eq_some_iff.1 hj
  have:=(aD.mk' wr T cs.toArray).cell (j:=j) (by simpa using hl)
  rw [this]
  simp [hl]
 ·intro v' w' h1 h2 h3
  refine h v' w' h1 (fun hh=>by have:=(h3.1 hh).2;omega) (fun B w0 hb hB=>(hb.alloc (by omega) _).grown h2 (by simp;omega) (fun q hq=>?_))
   (fun gx hgx hne=>(h2.block gx (by simp;omega) (fun e=>hne e.symm)).trans ((aJ wr _).block gx hgx))
  have:=(hown.lt q hq).1
  omega
theorem dG {P:Program} (w:World) (base:Nat) (t ty e:TypeId) (i:TypeInfo) (z:Value) (size bytes:Nat) (ht:P.underlying t=some (.slice e)) (hi:P.info? e=some i) (hz:i.zero=some z)
 (hsize:i.size=size) (hby:i.bytes=bytes) (hzs:z.cells.size=size) (hsz:0<size)
 (v:Value) (n:Nat) (xs:List Value) (hown:w.ownsRow base e size v n xs)
 (a:Addr) (m c:Nat) (news:List Value) (hl:news.length=m*size) (hnews:∀ j u,news[j]?=some u->w.cell? (a.add j)=some u) (h1:∀ u∈news,u.oneCell'=true)
 (h63:n+m<=maxLen) (hbytes:(n+m)*bytes<=140737488355328) (hm:0<m) {v':Value} {w':World} (hr:(Builtin.append_ #[t,t] ty #[v,.slice (some a) m c]).run P w=.ok v' w'):
 ∀ g,v'.ownBlock=some g->v.ownBlock=some g∨w.heap.size<=g:=by
 subst hsize
 subst hby
 have hsmall:n+m<=9223372036854775807:=by simp only [maxLen] at h63;omega
 intro g hg
 rcases hown.2 with ⟨rfl,rfl⟩|⟨g',cap,cur,rfl,hbg,hgg,hnc,hcm,hcs,htake⟩
 ·have hr2:=run_append_nil (P:=P) w t ty e i z ht hi hz a m c news hl hnews (by omega) (by omega) (by have hb:=hbytes;simp only [Nat.zero_add] at hb;omega)
  rw [hr2] at hr
  simp only [Result.ok.injEq] at hr
  obtain ⟨rfl,-⟩:=hr
  right
  simp [Value.ownBlock] at hg
  omega
 ·by_cases hroom:n+m<=cap
  ·have hfit:n*i.size+news.length<=cur.size:=by rw [hl,hcs,<-Nat.add_mul];exact Nat.mul_le_mul_right _ hroom
   have hr2:=run_append_room (P:=P) w t ty e i ht hi g' n cap cur hgg a m c news hl hnews h1 hroom hfit
   rw [hr2] at hr
   simp only [Result.ok.injEq] at hr
   obtain ⟨rfl,-⟩:=hr
   left
   simpa [Value.ownBlock] using hg
  ·have holds:∀ j u,xs[j]?=some u->w.cell? ((⟨g',0,none⟩:Addr).add j)=some u:=hown.cells (g:=g') rfl
   have hr2:=run_append_grow (P:=P) w t ty e i z ht hi hz ⟨g',0,none⟩ n cap xs hown.1 holds a m c news hl hnews (by omega) (by omega) (growslice_fits (by omega) hbytes)
   rw [hr2] at hr
   simp only [Result.ok.injEq] at hr
   obtain ⟨rfl,-⟩:=hr
   right
   simp [Value.ownBlock] at hg
   omega
theorem jV {P:Program} (w:World) {o:Oper} (hgd:o.guard=none) (s x:Operand) (t:TypeId)
 (ho:o.op=.call { callee:=.builtin .append,args:=#[s,x],argTypes:=#[t,t] })
 (base:Nat) (e:TypeId) (i:TypeInfo) (z:Value) (size bytes:Nat) (ht:P.underlying t=some (.slice e)) (hi:P.info? e=some i) (hz:i.zero=some z)
 (hsize:i.size=size) (hby:i.bytes=bytes) (hzs:z.cells.size=size) (hsz:0<size)
 (v:Value) (n:Nat) (xs:List Value) (hs:a.eval s=v) (hown:w.ownsRow base e size v n xs)
 (ad:Addr) (m c:Nat) (news:List Value) (hx:a.eval x=.slice (some ad) m c) (hl:news.length=m*size) (hnews:∀ j u,news[j]?=some u->w.cell? (ad.add j)=some u) (h1:∀ u∈news,u.oneCell'=true)
 (h63:n+m<=maxLen) (hbytes:(n+m)*bytes<=140737488355328) (hbase:base<=w.heap.size) (hm:0<m)
 (h:∀ v' w',w'.ownsRow base e size v' (n+m) (xs++news)->w.grownBy w' v.ownBlock->(∀ g,v'.ownBlock=some g->v.ownBlock=some g∨w.heap.size<=g)->wpList P ops Q rest (a.put o.dst v') w'):wpList P ops Q (o::rest) a w:=
 wpList_plain hgd fun _ hK=>by
  obtain ⟨v',w',hr,h2,h3,h4⟩:=run_append_own (P:=P) w base t o.type e i z size bytes ht hi hz hsize hby hzs hsz v n xs hown ad m c news hl hnews h1 h63 hbytes hbase
  have h5:=dG w base t o.type e i z size bytes ht hi hz hsize hby hzs hsz v n xs hown ad m c news hl hnews h1 h63 hbytes hm hr
  unfold Oper.wp execOp
  simp only [ho,resolve,invoke,builtin,Sem.run_bind,Sem.run_pure,Result.andThen_ok,List.map_toArray,List.map_cons,List.map_nil,hs,hx,hr]
  exact hK _ _ (h v' w' h2 h3 h5)
theorem iF {o:Oper} (hgd:o.guard=none) (s x:Operand) (TS T size bytes:Nat) (z:Value)
 (ho:o.op=.call { callee:=.builtin .append,args:=#[s,x],argTypes:=#[TS,TS] }) (hU:Tryz.prog.underlying TS=some (.slice T)) (hI:(Tryz.prog.info? T).map (fun i=>(i.zero,i.size,i.bytes))=some (some z,size,bytes)) (hz:z.cells.size=size) (hsz:0<size)
 (base:Nat) (v:Value) (n:Nat) (xs cs:List Value) (hown:wr.ownsRow base T size v n xs) (hs:a.eval s=v) (hx:a.eval x=.slice (some ⟨wr.heap.size,0,none⟩) 1 1) (hcs:cs.length=size) (h1:∀ u∈cs,u.oneCell'=true)
 (hlen:(n+1)*bytes<=140737488355328) (hb0:0<bytes) (hbase:base<=wr.heap.size)
 (h:∀ v' w',w'.ownsRow base T size v' (n+1) (xs++cs)->(∀ B w0,Below B w0 wr->B<=base->Below B w0 w')->(∀ gx,gx<wr.heap.size->v.ownBlock≠some gx->w'.heap[gx]?=wr.heap[gx]?)->(∀ gx,gx<wr.heap.size->v.ownBlock≠some gx->v'.ownBlock≠some gx)->wpList Tryz.prog ops Q rest (a.put o.dst v') w'):
 wpList Tryz.prog ops Q (o::rest) a (wr.alloc (.cells cs.toArray T)):=by
 obtain ⟨i0,hi,hz0,hz1,hz2⟩:=info_parts hI
 have hn:n+1<=140737488355328:=Nat.le_trans (Nat.le_mul_of_pos_right _ hb0) hlen
 refine jV _ hgd s x TS ho base T i0 z size bytes hU hi hz0 hz1 hz2 hz hsz v n xs hs (hown.alloc _) ⟨wr.heap.size,0,none⟩ 1 1 cs hx (by omega)
  (fun j u hj=>?_) h1 (by unfold maxLen;omega) hlen (by simp;omega) (by omega) ?_
 ·rw [aY,Nat.zero_add]
  obtain ⟨hl,rfl⟩:=List.getElem?_eq_some_iff.1 hj
  have:=(aD.mk' wr T cs.toArray).cell (j:=j) (by simpa using hl)
  rw [this]
  simp [hl]
 ·intro v' w' h1 h2 h3
  refine h v' w' h1 (fun B w0 hb hB=>(hb.alloc (by omega) _).grown h2 (by simp;omega) (fun q hq=>?_))
   (fun gx hgx hne=>(h2.block gx (by simp;omega) (fun e=>hne e.symm)).trans ((aJ wr _).block gx hgx)) (fun gx hgx hne e=>?_)
  ·have:=(hown.lt q hq).1
   omega
  ·rcases h3 gx e with x|x
   ·exact hne x
   ·simp at x;omega
end Go.Proofs.YtedpifhlffcmkaaGreatDoor
