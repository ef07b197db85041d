import Derived.Test.YtbpcdfbmnklcjaaGreatDoorKHG
import Derived.Test.YtbpcdfbmnklcjaaGreatDoorRows
import Derived.WalkKit
import Derived.ProofKit
import Derived.OpenShut
import Derived.WalkSpells
import Derived.WalkSmall
import Derived.BigQuiet
import Derived.BigRegion
import Derived.Deep.QuietTactic
import Derived.Deep.RegionHeld3
import Derived.Deep.DeepCutAuto
import Derived.Deep.Slices
import Derived.OwnWalk
import Derived.Laws.OwnMore
import Derived.Tactics
import Derived.Tactics2
namespace Go.Proofs.YtbpcdfbmnklcjaaGreatDoor
open Go Go.RowKit
set_option linter.unusedVariables false
variable {B N N' T T' base base' cap g' j n n' s s':Nat} {Q:Exit->Act->World->Prop} {S S':Nat->Prop} {a:Act} {f f':Nat->Value} {ops:Array Oper} {rest:List Oper} {v v':Value} {w w' wr:World} {xs:List Value}
def Hq (p:Prop):Prop:=p
theorem Hq.o {p:Prop} (h:Hq p):p:=h
theorem Hq.out {p:Prop} (h:Hq p):p:=h
theorem ah {p:Prop} (h:p):Hq p:=h
theorem aC {a:World} (h:Below B a w) (n:Nat):Below B a (w.drewN n):=⟨h.os,h.tape,h.output,h.size,h.block⟩
def aD (w:World) (T g N:Nat) (f:Nat->Value):Prop:=∃ cur:Array Value,w.heap[g]?=some (.cells cur T (0,0))/\N<=cur.size/\∀ j,j<N->cur[j]?=some (f j)
theorem aD.cell {w:World} {T g N:Nat} {f:Nat->Value} (h:aD w T g N f) {j:Nat} (b:j<N):w.cell? ⟨g,j,none⟩=some (f j):=by
 obtain ⟨e,d,i,c⟩:=h;have:=c j b;simp [World.cell?,d,this]
theorem aD.c {w:World} {T g N:Nat} {f:Nat->Value} (h:aD w T g N f) (j:Nat) (b:j<N:=by omega):w.cell? ⟨g,j,none⟩=some (f j):=h.cell b
theorem aD.ME {g:Nat} (h:aD w T g N f) (j:Nat):w.frozen? ⟨g,j,none⟩=false:=by
 obtain ⟨c,b,e,d⟩:=h;simp [World.frozen?,b]
theorem aD.low {g b:Nat} (h:aD w T g N f) (hb:Below b w w') (d:g<b):aD w' T g N f:=by
 obtain ⟨c,k,i,e⟩:=h;exact ⟨c,(hb.block g d).trans k,i,e⟩
theorem aD.lt {g:Nat} (h:aD w T g N f):g<w.heap.size:=by
 obtain ⟨d,b,i,e⟩:=h;rcases Nat.lt_or_ge g w.heap.size with c|c
 ·exact c
 ·rw [Array.getElem?_eq_none c] at b;cases b
theorem aD.set {g:Nat} (h:aD w T g N f) (o:j<N) (x:Value):aD (w.setCell ⟨g,j,none⟩ x) T g N (fun i=>if i=j then x else f i):=by
 obtain ⟨c,m,l,k⟩:=h;have e:=heap_setCell_same w g j _ _ x m;refine ⟨_,e,by simpa using l,fun i hi=>?_⟩;by_cases b:i=j
 ·subst b
  have d:i<c.size:=by omega
  simp [d]
 ·have:=k i hi
  simp [b,Ne.symm b,this]
theorem aD.congr {g:Nat} (h:aD w T g N f) (c:∀ j,j<N->f j=f' j):aD w T g N f':=by
 obtain ⟨b,i,e,d⟩:=h;exact ⟨b,i,e,fun j hj=>by rw [d j hj,c j hj]⟩
theorem aD.kept {g:Nat} {row:Option Nat} (h:aD w T g N f) (k:w.grownBy w' row) (i:some g≠row):aD w' T g N f:=by
 obtain ⟨b,e,d,c⟩:=h;exact ⟨b,(k.block g (aD.lt ⟨b,e,d,c⟩) i).trans e,d,c⟩
theorem mF {g:Nat} (h:w.ownsRow B T s (.slice (some ⟨g,0,none⟩) n cap) n xs):aD w T g (n*s) (fun j=>xs.getD j (.bool false)):=by
 rcases h.2 with ⟨h',_⟩|⟨g',i,c,h',hb,k,d,l,e,b⟩
 ·simp at h'
 ·simp only [Value.slice.injEq,Option.some.injEq,Addr.mk.injEq,and_true,true_and] at h'
  obtain ⟨rfl,rfl⟩:=h';refine ⟨c,k,by rw [e];exact Nat.mul_le_mul_right _ d,fun j hj=>?_⟩;have m:j<c.size:=by rw [e];exact aW hj (Nat.mul_le_mul_right _ d)
  show c[j]?=some (xs.getD j (.bool false));rw [<-b,bq,List.getElem?_take,if_pos hj];simp [m]
theorem aD.other {g:Nat} {x:Value} (h:aD w T g N f) (c:g≠g'):aD (w.setCell ⟨g',j,none⟩ x) T g N f:=by
 obtain ⟨b,k,i,d⟩:=h;exact ⟨b,(heap_setCell_other w ⟨g',j,none⟩ g x (fun e=>c e)).trans k,i,d⟩
theorem aD.mk' (w:World) (T:Nat) (b:Array Value):aD (w.alloc (.cells b T)) T w.heap.size b.size (fun j=>b.getD j (.bool false)):=by
 refine ⟨b,heap_alloc_new w _,au _,fun j hj=>?_⟩;simp [hj]
theorem aU (w:World) (o:Obj):Below w.heap.size w (w.alloc o):=(aT _ _).alloc (au _) _
theorem EP (w:World) (o b:Obj):Below w.heap.size w ((w.alloc o).alloc b):=(aU w o).alloc (by simp) _
theorem Gw (w:World) (o b o2:Obj):Below w.heap.size w (((w.alloc o).alloc b).alloc o2):=(EP w o b).alloc (by simp;omega) _
theorem aD.same {g:Nat} (h:aD w T g N f) (e:w'.heap[g]?=w.heap[g]?):aD w' T g N f:=by
 obtain ⟨b,i,d,c⟩:=h;exact ⟨b,e.trans i,d,c⟩
def bF:Value->Nat
 | .int _ x=>x.toNat
 |_=>0
structure Keeps (w w':World) (S:Nat->Prop):Prop where
 os:w'.os=w.os
 tape:w'.tape=w.tape
 output:w'.output=w.output
 size:w.heap.size<=w'.heap.size
 block:∀ b,b<w.heap.size->¬ S b->w'.heap[b]?=w.heap[b]?
theorem Keeps.refl (w:World) (S:Nat->Prop):Keeps w w S:=⟨rfl,rfl,rfl,au _,fun _ _ _=>rfl⟩
theorem Keeps.trans {w w' w'':World} {S:Nat->Prop} (h:Keeps w w' S) (k:Keeps w' w'' S):Keeps w w'' S:=
 ⟨k.os.trans h.os,k.tape.trans h.tape,k.output.trans h.output,aI h.size k.size,fun b hb hs=>(k.block b (aW hb h.size) hs).trans (h.block b hb hs)⟩
theorem Keeps.mono (h:Keeps w w' S) (c:∀ b,S b->S' b):Keeps w w' S':=⟨h.os,h.tape,h.output,h.size,fun b hb hn=>h.block b hb (fun x=>hn (c b x))⟩
theorem Keeps.of (h:Below B w w') (c:w.heap.size<=B) (S:Nat->Prop):Keeps w w' S:=⟨h.os,h.tape,h.output,h.size,fun b hb _=>h.block b (aW hb c)⟩
theorem Keeps.below (h:Keeps w w' S) (d:B<=w.heap.size) (c:∀ b,S b->B<=b):Below B w w':=
 ⟨h.os,h.tape,h.output,h.size,fun b hb=>h.block b (by omega) (fun x=>by have:=c b x;omega)⟩
theorem Keeps.setCell {w w':World} {S:Nat->Prop} (h:Keeps w w' S) {g j:Nat} (c:S g) (x:Value):Keeps w (w'.setCell ⟨g,j,none⟩ x) S:=by
 have e:Below g w' (w'.setCell ⟨g,j,none⟩ x):=(aT g w').setCell (au _) x;refine ⟨e.os.trans h.os,e.tape.trans h.tape,e.output.trans h.output,aI h.size e.size,fun b hb hn=>?_⟩;rw [heap_setCell_other w' ⟨g,j,none⟩ b x (fun e=>hn (by subst e;exact c))];exact h.block b hb hn
theorem aD.keep {g:Nat} (h:aD w T g N f) (k:Keeps w w' S) (b:¬ S g):aD w' T g N f:=h.same (k.block g h.lt b)
theorem Keeps.past (h:Keeps w w' S) {g:Nat} (c:w.heap.size<=g) (x:Value):Keeps w (w'.setCell ⟨g,j,none⟩ x) S:=by
 have e:Below g w' (w'.setCell ⟨g,j,none⟩ x):=(aT g w').setCell (au _) x;exact ⟨e.os.trans h.os,e.tape.trans h.tape,e.output.trans h.output,aI h.size e.size,fun b hb hn=>(e.block b (by omega)).trans (h.block b hb hn)⟩
theorem iq {e size:Nat} (h:w.ownsRow base e size v n xs) (hb:base'<=base):w.ownsRow base' e size v n xs:=by
 obtain ⟨c,l|⟨g,cap,b,k,i,d⟩⟩:=h
 ·exact ⟨c,.inl l⟩
 ·exact ⟨c,.inr ⟨g,cap,b,k,aI hb i,d⟩⟩
theorem aF {e size:Nat} (h:w.ownsRow base e size v n xs):∃ a cap,v=.slice a n cap:=by
 obtain ⟨-,⟨rfl,b⟩|⟨g,cap,c,rfl,_⟩⟩:=h
 ·exact ⟨none,0,by rw [b]⟩
 ·exact ⟨_,_,rfl⟩
def lZ (w:World) (T s:Nat) (v:Value) (n:Nat) (f:Nat->Value):Prop:=∃ a cap,v=.slice a n cap/\n<=cap/\((a=none/\n=0)∨∃ g,a=some ⟨g,0,none⟩/\aD w T g (n*s) f)
theorem lZ.keep {w w':World} {T s n:Nat} {v:Value} {f:Nat->Value} {S:Nat->Prop} (h:lZ w T s v n f) (k:Keeps w w' S) (d:∀ b,v.ownBlock=some b->¬ S b):lZ w' T s v n f:=by
 obtain ⟨a,cap,rfl,c,i|⟨g,rfl,e⟩⟩:=h
 ·exact ⟨a,cap,rfl,c,.inl i⟩
 ·exact ⟨_,cap,rfl,c,.inr ⟨g,rfl,e.keep k (d g (by simp [Value.ownBlock]))⟩⟩
theorem lZ.low (h:lZ w T s v n f) (hb:Below B w w') (b:w.heap.size<=B):lZ w' T s v n f:=h.keep (Keeps.of hb b (fun _=>False)) (fun _ _ x=>x)
theorem lZ.congr {w:World} {T s n:Nat} {v:Value} {f f':Nat->Value} (h:lZ w T s v n f) (c:∀ j,j<n*s->f j=f' j):lZ w T s v n f':=by
 obtain ⟨a,cap,rfl,b,e|⟨g,rfl,d⟩⟩:=h
 ·exact ⟨a,cap,rfl,b,.inl e⟩
 ·exact ⟨_,cap,rfl,b,.inr ⟨g,rfl,d.congr c⟩⟩
theorem lZ.form (h:lZ w T s v n f):∃ a cap,v=.slice a n cap:=by
 obtain ⟨a,cap,rfl,_⟩:=h;exact ⟨a,cap,rfl⟩
theorem lZ.of (h:w.ownsRow B T s v n xs):∃ f,lZ w T s v n f:=by
 obtain ⟨i,⟨rfl,e⟩|⟨g,cap,c,rfl,hb,d,b,hr⟩⟩:=h
 ·subst e
  exact ⟨fun _=>.bool false,none,0,rfl,au _,.inl ⟨rfl,rfl⟩⟩
 ·exact ⟨_,_,cap,rfl,b,.inr ⟨g,rfl,mF ⟨i,.inr ⟨g,cap,c,rfl,hb,d,b,hr⟩⟩⟩⟩
theorem aD.apart {g:Nat} (h:aD w T g N f) (h':aD w T' g' N' f') (d:T≠T'):g≠g':=by
 rintro rfl;obtain ⟨c,e,_⟩:=h;obtain ⟨i,b,_⟩:=h';rw [e] at b;simp at b;exact d b.2
theorem lZ.own {b:Nat} (h:lZ w T s v n f) (hb:v.ownBlock=some b):aD w T b (n*s) f:=by
 obtain ⟨a,cap,rfl,i,⟨rfl,d⟩|⟨g,rfl,c⟩⟩:=h
 ·simp [Value.ownBlock] at hb
 ·have e:g=b:=by simpa [Value.ownBlock] using hb
  subst e;exact c
theorem lZ.past (h:lZ w T s v n f) (k:Keeps w w' (fun b=>v'.ownBlock=some b)) (h':lZ w T' s' v' n' f') (c:T≠T'):lZ w' T s v n f:=
 h.keep k (fun b hb hb'=>(h.own hb).apart (h'.own hb') c rfl)
theorem lZ.Lp {G:Nat} (h:lZ w T s v n f) (k:Keeps w w' (fun b=>b=G)) (h':aD w T' G N f') (c:T≠T'):lZ w' T s v n f:=
 h.keep k (fun b hb hb'=>(h.own hb).apart h' c hb')
theorem aD.past {g:Nat} (h:aD w T g N f) (k:Keeps w w' (fun b=>v'.ownBlock=some b)) (h':lZ w T' s' v' n' f') (c:T≠T'):aD w' T g N f:=
 h.keep k (fun hb'=>h.apart (h'.own hb') c rfl)
theorem bL (b o k:Nat):(⟨b,o,none⟩:Addr).add k=⟨b,o+k,none⟩:=by
 unfold Addr.add;split
 ·rename_i h;subst h;rfl
 ·rfl
theorem fG {P:Program} (w:World) (base:Nat) (t x e:TypeId) (i:TypeInfo) (z:Value) (size bytes:Nat) (D:P.underlying t=some (.slice e)) (hi:P.info? e=some i) (K:i.zero=some z)
 (o:i.size=size) (H:i.bytes=bytes) (L:z.cells.size=size) (M:0<size)
 (v:Value) (n:Nat) (xs:List Value) (hown:w.ownsRow base e size v n xs)
 (a:Addr) (m c:Nat) (b:List Value) (A:b.length=m*size) (d:∀ j u,b[j]?=some u->w.cell? (a.add j)=some u) (W:∀ u∈b,u.oneCell'=true)
 (J:n+m<=maxLen) (h:(n+m)*bytes<=140737488355328) (hm:0<m) {v':Value} {w':World} (hr:(Builtin.append_ #[t,t] x #[v,.slice (some a) m c]).run P w=.ok v' w'):
 ∀ g,v'.ownBlock=some g->v.ownBlock=some g∨w.heap.size<=g:=by
 subst o;subst H;have y:n+m<=9223372036854775807:=by simp only [maxLen] at J;omega
 intro g F;rcases hown.2 with ⟨rfl,rfl⟩|⟨g',cap,r,rfl,V,E,R,U,G,C⟩
 ·have l:=run_append_nil (P:=P) w t x e i z D hi K a m c b A d (by omega) (by omega) (by have hb:=h;simp only [Nat.zero_add] at hb;omega)
  rw [l] at hr;simp only [Result.ok.injEq] at hr;obtain ⟨rfl,-⟩:=hr;right;simp [Value.ownBlock] at F;omega
 ·by_cases k:n+m<=cap
  ·have q:n*i.size+b.length<=r.size:=by rw [A,G,<-Nat.add_mul];exact Nat.mul_le_mul_right _ k
   have l:=run_append_room (P:=P) w t x e i D hi g' n cap r E a m c b A d W k q;rw [l] at hr;simp only [Result.ok.injEq] at hr;obtain ⟨rfl,-⟩:=hr;left
   simpa [Value.ownBlock] using F
  ·have p:∀ j u,xs[j]?=some u->w.cell? ((⟨g',0,none⟩:Addr).add j)=some u:=hown.cells (g:=g') rfl
   have l:=run_append_grow (P:=P) w t x e i z D hi K ⟨g',0,none⟩ n cap xs hown.1 p a m c b A d (by omega) (by omega) (growslice_fits (by omega) h);rw [l] at hr;simp only [Result.ok.injEq] at hr;obtain ⟨rfl,-⟩:=hr;right;simp [Value.ownBlock] at F;omega
theorem jf {P:Program} (w:World) {o:Oper} (D:o.guard=none) (s x:Operand) (t:TypeId)
 (ho:o.op=.call { callee:=.builtin .append,args:=#[s,x],argTypes:=#[t,t] })
 (base:Nat) (e:TypeId) (i:TypeInfo) (z:Value) (size bytes:Nat) (F:P.underlying t=some (.slice e)) (hi:P.info? e=some i) (E:i.zero=some z)
 (k:i.size=size) (y:i.bytes=bytes) (q:z.cells.size=size) (r:0<size)
 (v:Value) (n:Nat) (xs:List Value) (J:a.eval s=v) (hown:w.ownsRow base e size v n xs)
 (C:Addr) (m c:Nat) (b:List Value) (hx:a.eval x=.slice (some C) m c) (G:b.length=m*size) (l:∀ j u,b[j]?=some u->w.cell? (C.add j)=some u) (H:∀ u∈b,u.oneCell'=true)
 (A:n+m<=maxLen) (d:(n+m)*bytes<=140737488355328) (p:base<=w.heap.size) (hm:0<m)
 (h:∀ v' w',w'.ownsRow base e size v' (n+m) (xs++b)->w.grownBy w' v.ownBlock->(∀ g,v'.ownBlock=some g->v.ownBlock=some g∨w.heap.size<=g)->wpList P ops Q rest (a.put o.dst v') w'):wpList P ops Q (o::rest) a w:=
 wpList_plain D fun _ hK=>by
  obtain ⟨v',w',hr,M,L,R⟩:=run_append_own (P:=P) w base t o.type e i z size bytes F hi E k y q r v n xs hown C m c b G l H A d p;have K:=fG w base t o.type e i z size bytes F hi E k y q r v n xs hown C m c b G l H A d hm hr;unfold Oper.wp execOp;simp only [ho,resolve,invoke,builtin,Sem.run_bind,Sem.run_pure,Result.andThen_ok,List.map_toArray,List.map_cons,List.map_nil,J,hx,hr];exact hK _ _ (h v' w' M L K)
theorem fE {o:Oper} (p:o.guard=none) (s x:Operand) (d T size bytes:Nat) (z:Value)
 (ho:o.op=.call { callee:=.builtin .append,args:=#[s,x],argTypes:=#[d,d] }) (H:Tryz.prog.underlying d=some (.slice T)) (J:(Tryz.prog.info? T).map (fun i=>(i.zero,i.size,i.bytes))=some (some z,size,bytes)) (E:z.cells.size=size) (m:0<size)
 (base:Nat) (v:Value) (n:Nat) (xs c:List Value) (hown:wr.ownsRow base T size v n xs) (F:a.eval s=v) (hx:a.eval x=.slice (some ⟨wr.heap.size,0,none⟩) 1 1) (G:c.length=size) (y:∀ u∈c,u.oneCell'=true)
 (b:(n+1)*bytes<=140737488355328) (t:0<bytes) (r:base<=wr.heap.size)
 (h:∀ v' w',w'.ownsRow base T size v' (n+1) (xs++c)->(∀ B w0,Below B w0 wr->B<=base->Below B w0 w')->(∀ gx,gx<wr.heap.size->v.ownBlock≠some gx->w'.heap[gx]?=wr.heap[gx]?)->(∀ gx,gx<wr.heap.size->v.ownBlock≠some gx->v'.ownBlock≠some gx)->wpList Tryz.prog ops Q rest (a.put o.dst v') w'):
 wpList Tryz.prog ops Q (o::rest) a (wr.alloc (.cells c.toArray T)):=by
 obtain ⟨D,hi,l,k,g⟩:=info_parts J;have L:n+1<=140737488355328:=aI (Nat.le_mul_of_pos_right _ t) b;refine jf _ p s x d ho base T D z size bytes H hi l k g E m v n xs F (hown.alloc _) ⟨wr.heap.size,0,none⟩ 1 1 c hx (by omega)
  (fun j u hj=>?_) y (by unfold maxLen;omega) b (by simp;omega) (by omega) ?_
 ·rw [bL,Nat.zero_add]
  obtain ⟨A,rfl⟩:=aJ.1 hj;have:=(aD.mk' wr T c.toArray).cell (j:=j) (by simpa using A);rw [this];simp [A]
 ·intro v' w' y C K
  refine h v' w' y (fun B w0 hb hB=>(hb.alloc (by omega) _).grown C (by simp;omega) (fun q hq=>?_))
   (fun gx hgx hne=>(C.block gx (by simp;omega) (fun e=>hne e.symm)).trans ((aU wr _).block gx hgx)) (fun gx hgx hne e=>?_)
  ·have:=(hown.lt q hq).1
   omega
  ·rcases K gx e with x|x
   ·exact hne x
   ·simp at x;omega
end Go.Proofs.YtbpcdfbmnklcjaaGreatDoor
