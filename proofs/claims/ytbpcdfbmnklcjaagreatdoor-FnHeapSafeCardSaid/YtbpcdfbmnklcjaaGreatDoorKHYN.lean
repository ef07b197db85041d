import Derived.Test.YtbpcdfbmnklcjaaGreatDoorKHYL0
namespace Go.Proofs.YtbpcdfbmnklcjaaGreatDoor
open Go Go.RowKit Go.WideMaps
open Go.ChangeMaps (setBlock)
set_option linter.unusedVariables false
section
variable {e:En} {es:List En} {i:Nat} {v:Value} {w:World}
theorem lT {a b:HV} (h:jR a=jR b):a=b:=by
 unfold jR at h;simp only [Value.agg.injEq,Array.mk.injEq,List.cons.injEq,Value.int.injEq,true_and,and_true] at h;cases a with
 |none=>cases b with
  |none=>rfl
  |some y=>cases y<;>simp [vk] at h
 |some x=>cases x with
  |inl z=>cases b with
   |none=>simp [vk] at h
   |some y=>cases y with
    |inl z'=>simp [vi] at h;rw [h.2.1]
    |inr m=>simp [vk] at h
  |inr n=>cases b with
   |none=>simp [vk] at h
   |some y=>cases y with
    |inl z'=>simp [vk] at h
    |inr m=>
     have c:(n:Int)=(m:Int):=h.2.2;rw [show n=m by omega]
theorem M_.keys {ents:List MapEntry} (c:M_ ents es):∀ m∈ents,∃ l,keyOf Tryz.prog 194 m.key=some l:=by
 intro m hm;obtain ⟨i,e,b,_,a,_⟩:=c.tt m hm;rw [a];exact Dw (c.kk e (aX b))
theorem M_.find {ents:List MapEntry} {es:List En} (c:M_ ents es) (w:World) {k:HV} (hk:oW k):
 ((Instr.findKey 194 (jR k) ents).run Tryz.prog w=.ok none w/\∀ e∈es,e.1=k->k=none)∨∃ j m i e,(Instr.findKey 194 (jR k) ents).run Tryz.prog w=.ok (some (j,m.val)) w/\ents[j]?=some m/\m.key=jR k/\m.val=.int .i64 (i:Nat)/\es[i]?=some e/\e.1=k/\k.isSome=true:=by
 obtain ⟨l,h⟩:=Dw hk;rcases qV.find w h ents c.keys with ⟨f,b⟩|⟨j,m,f,b,g⟩
 ·refine .inl ⟨f,fun e he a=>?_⟩
  cases hs:k with
  |none=>rfl
  |some x=>
   obtain ⟨i,hi,rfl⟩:=List.getElem_of_mem he;obtain ⟨m,hm,d⟩:=c.Mv i _ (aN hi) (by rw [a,hs];rfl);exact absurd (d.trans (by rw [a])) (b m hm)
 ·obtain ⟨i,e,q,p,o,n⟩:=c.tt m (aX b)
  have a:e.1=k:=lT (o.symm.trans g);exact .inr ⟨j,m,i,e,f,b,g,n,q,a,by rw [<-a];exact p⟩
theorem Kd.LJ (h:Kd es) (i:Nat) (v:HV):Kd (es.set i (none,v)):=by
 intro a b x y hx c d f;rw [bX] at hx c;split at hx
 ·split at hx
  ·simp at hx;subst hx;simp at d
  ·cases hx
 ·split at c
  ·split at c
   ·simp at c;subst c;rw [f] at d;simp at d
   ·cases c
  ·exact h a b x y hx c d f
theorem eD (w:World) (b:Nat) (o:Obj):Keeps w (setBlock w b o) (fun c=>c=b):=by
 refine ⟨rfl,rfl,rfl,by simp [setBlock],fun c hc hn=>?_⟩;simp only [setBlock];rw [Array.getElem?_setIfInBounds,if_neg (fun e=>hn e.symm)]
theorem fT {b:Nat} {o o':Obj} (h:w.heap[b]?=some o'):(setBlock w b o).heap[b]?=some o:=by
 simp only [setBlock];have a:b<w.heap.size:=by
  rcases Nat.lt_or_ge b w.heap.size with c|c
  ·exact c
  ·rw [Array.getElem?_eq_none c] at h;cases h
 simp [a]
theorem El (h:ni w v es) (hi:es[i]?=some e) (P:TypeId):∃ w1,(Builtin.delete_ #[132,194] P #[v,jR e.1]).run Tryz.prog w=.ok (.tuple #[]) w1/\ni w1 v (es.set i (none,e.2))/\Keeps w w1 (fun b=>dx v=some b)/\w1.heap.size=w.heap.size:=by
 have z:=(aJ.1 hi).1;rcases h with ⟨rfl,G⟩|⟨b,a,n,rfl,hb,f⟩
 ·rw [G] at z;simp at z
 ·have hk:=f.kk e (aX hi)
  obtain ⟨l,S⟩:=Dw hk;have A:=qV.check w a.isEmpty S;rcases f.find w hk with ⟨J,r⟩|⟨j,m,C,V,J,r,M,Z,U,L,T⟩
  ·refine ⟨setBlock w b (.map a n),?_,?_,(eD w b _).mono (fun c e=>by rw [e];rfl),by simp [setBlock]⟩
   ·simp [Builtin.delete_,run_underlying Tryz.underlying132,MapKept.run_getObj_map hb,A,J,MapKept.run_setObj_map _ hb,Result.andThen,setBlock]
   ·have H:e.1=none:=r e (aX hi) rfl
    have:es.set i (none,e.2)=es:=by
     refine List.ext_getElem? (fun q=>?_);rw [bX];split
     ·rename_i c;subst c;rw [hi,<-H]
     ·rfl
    rw [this];exact .inr ⟨b,a,n,rfl,fT hb,f⟩
  ·have F:C=i:=f.kd C i V e U hi (by rw [L];exact T) L
   subst F;have o:=(aJ.1 r).1;refine ⟨setBlock w b (.map (a.eraseIdxIfInBounds j) n),?_,.inr ⟨b,_,n,rfl,fT hb,?_⟩,(eD w b _).mono (fun c e=>by rw [e];rfl),by simp [setBlock]⟩
   ·simp [Builtin.delete_,run_underlying Tryz.underlying132,MapKept.run_getObj_map hb,A,J,MapKept.run_setObj_map _ hb,Result.andThen,setBlock]
   ·have D:(a.eraseIdxIfInBounds j).toList=a.toList.eraseIdx j:=by
     have y:j<a.size:=by simpa using o
     rw [Array.eraseIdxIfInBounds,dif_pos y,Array.toList_eraseIdx]
    rw [D];have p:∀ q g,q≠j->a.toList[q]?=some g->g.key≠m.key:=by
     intro q g d k x;have s:=(aJ.1 k).1;have e1:a.toList[q]=g:=(aJ.1 k).2;have B:a.toList[j]=m:=(aJ.1 r).2;have hp:=List.pairwise_iff_getElem.1 f.nd;rcases Nat.lt_or_ge q j with c|c
     ·exact hp q j s o c (by rw [e1,B];exact x)
     ·exact hp j q o s (by omega) (by rw [e1,B];exact x.symm)
    refine ⟨fun g k=>?_,fun q e9 d hs=>?_,f.nd.sublist (List.eraseIdx_sublist _ _),fun e9 he9=>?_,f.kd.LJ _ _⟩
    ·obtain ⟨q,E,t⟩:=List.mem_eraseIdx_iff_getElem?.1 k
     obtain ⟨R,B,K,Y,N,X⟩:=f.tt g (aX t);refine ⟨R,B,?_,Y,N,X⟩;rw [bX,if_neg ?_]
     ·exact K
     ·intro c
      subst c;rw [hi] at K;cases K;exact p q g E t (N.trans M.symm)
    ·rw [bX] at d
     split at d
     ·simp at d;subst d;simp at hs
     ·rename_i c
      obtain ⟨g,b1,b2⟩:=f.Mv q e9 d hs;refine ⟨g,?_,b2⟩;obtain ⟨Q,u,rfl⟩:=List.getElem_of_mem b1;refine List.mem_eraseIdx_iff_getElem?.2 ⟨Q,?_,aN u⟩;intro W;subst W;rw [aN u] at r;cases r;have:=lT (b2.symm.trans M);exact c (f.kd q C e9 e d hi hs this).symm
    ·rw [List.mem_iff_getElem?] at he9
     obtain ⟨q,d⟩:=he9;rw [bX] at d;split at d
     ·simp at d;subst d;trivial
     ·exact f.kk e9 (aX d)
end
end Go.Proofs.YtbpcdfbmnklcjaaGreatDoor
namespace Go.Proofs.YtbpcdfbmnklcjaaGreatDoor
open Go Go.RowKit
set_option linter.unusedVariables false
section
variable {G:Gh} {S:Nat->Prop} {base n:Nat} {h h':Hp} {o:Ob} {w w1:World}
def PM.M8 (L:PM) (n:Nat) (ev mv:Value):PM:={ L with es:=fun m=>if m=n then ev else L.es m,mp:=fun m=>if m=n then mv else L.mp m }
theorem PM.Ke (L:PM) (n:Nat):L.M8 n (L.es n) (L.mp n)=L:=by
 obtain ⟨H,tb,es,mp,li⟩:=L;unfold PM.M8;simp only [PM.mk.injEq,true_and,and_true];refine ⟨funext fun m=>?_,funext fun m=>?_⟩
 ·split
  ·rename_i c;rw [c]
  ·rfl
 ·split
  ·rename_i c;rw [c]
  ·rfl
theorem M0.K_ {L:PM} (a:M0 base S h G L w) (f:Ob->Ob) (ho:h.ob n=some o) (ev mv:Value)
 (kk:Keeps w w1 (fun b=>b=L.H∨b=L.tb n∨(L.es n).ownBlock=some b∨dx (L.mp n)=some b))
 (R:aD w1 77 L.H 19 (kK h' G L)) (E:∀ m,h'.ob m=(h.upd n f).ob m) (F:∀ k,eF k->eU h' G k=eU h G k)
 (Y:aD w1 136 (L.tb n) 13 (nM (f o) n ev mv)) (X:w1.ownsRow base 167 10 ev (f o).es.length (jg L.tb (f o).es)) (W:ni w1 mv (f o).es)
 (J:∀ g,ev.ownBlock=some g->(L.es n).ownBlock=some g∨w.heap.size<=g) (hm:∀ g,dx mv=some g->dx (L.mp n)=some g∨w.heap.size<=g):
 M0 base S h' G (L.M8 n ev mv) w1/\Keeps w w1 S:=by
 have hr:=a.ob n o ho;have M:=a.en n o ho;have K:=a.mp n o ho;have l:∀ m i,h'.ob m=some i->∃ o2,h.ob m=some o2/\(m=n->o2=o/\i=f o)/\(m≠n->i=o2):=by
  intro m i e;rw [E,Hp.Ho] at e;split at e
  ·rename_i c
   subst c;rw [ho] at e;simp at e;subst e;exact ⟨o,ho,fun _=>⟨rfl,rfl⟩,fun c=>absurd rfl c⟩
  ·rename_i c
   exact ⟨i,e,fun d=>absurd d.symm c,fun _=>rfl⟩
 have V:∀ {T g N:Nat} {f:Nat->Value},aD w T g N f->T≠77->T≠136->T≠167->¬ (g=L.H∨g=L.tb n∨(L.es n).ownBlock=some g∨dx (L.mp n)=some g):=by
  intro T g N f q1 Q s P v;rcases v with v|v|v|v
  ·exact q1.apart a.hp Q v
  ·exact q1.apart hr s v
  ·exact ak M q1 (Ne.symm P) v
  ·exact K.apart q1 v
 have U:∀ b,(b=L.H∨b=L.tb n∨(L.es n).ownBlock=some b∨dx (L.mp n)=some b)->S b:=by
  intro b e;rcases e with e|e|e|e
  ·exact e ▸ a.sH
  ·exact e ▸ a.st n o ho
  ·exact a.se n o b ho e
  ·exact a.sm n o b ho e
 have A:∀ m i,h.ob m=some i->∀ g,(L.es m).ownBlock=some g->g<w.heap.size:=fun m i e g hg=>(ay (a.en m i e) hg).lt;have z:∀ m i,h.ob m=some i->∀ g,dx (L.mp m)=some g->g<w.heap.size:=fun m i e g hg=>(a.mp m i e).lt hg;have D:∀ b,w1.heap.size<=b->S b:=fun b hb=>a.up b (aI kk.size hb);refine ⟨⟨R,fun m i e=>?_,fun m i e=>?_,fun m i e=>?_,fun j hj=>?_,?_,?_,?_,a.lj,a.bH,?_,?_,aI a.bs kk.size,a.sH,?_,?_,?_,a.sl,D⟩,kk.mono U⟩
 ·obtain ⟨o2,p,C,B⟩:=l m i e
  by_cases c:m=n
  ·subst c
   obtain ⟨rfl,rfl⟩:=C rfl;show aD w1 _ (L.tb m) 13 (nM (f o2) m (if m=m then ev else _) (if m=m then mv else _));rw [if_pos rfl,if_pos rfl];exact Y
  ·obtain rfl:=B c
   show aD w1 _ (L.tb m) 13 (nM i m (if m=n then ev else L.es m) (if m=n then mv else L.mp m));rw [if_neg c,if_neg c];refine (a.ob m i p).keep kk (fun y=>?_);rcases y with y|y|y|y
   ·exact (a.ob m i p).apart a.hp (by decide) y
   ·exact c (a.ij m n _ _ p ho y)
   ·exact ak M (a.ob m i p) (by decide) y
   ·exact K.apart (a.ob m i p) y
 ·obtain ⟨o2,p,C,B⟩:=l m i e
  by_cases c:m=n
  ·subst c
   obtain ⟨rfl,rfl⟩:=C rfl;show w1.ownsRow base _ 10 (if m=m then ev else _) _ _;rw [if_pos rfl];exact X
  ·obtain rfl:=B c
   show w1.ownsRow base _ 10 (if m=n then ev else L.es m) _ _;rw [if_neg c];refine aj (a.en m i p) kk (fun g hg y=>?_);rcases y with y|y|y|y
   ·exact ak (a.en m i p) a.hp (by decide) (y ▸ hg)
   ·exact ak (a.en m i p) hr (by decide) (y ▸ hg)
   ·exact c (a.ei m n _ _ g p ho hg y)
   ·exact K.apart (ay (a.en m i p) hg) y
 ·obtain ⟨o2,p,C,B⟩:=l m i e
  by_cases c:m=n
  ·subst c
   obtain ⟨rfl,rfl⟩:=C rfl;show ni w1 (if m=m then mv else _) _;rw [if_pos rfl];exact W
  ·obtain rfl:=B c
   show ni w1 (if m=n then mv else L.mp m) _;rw [if_neg c];refine (a.mp m i p).keep kk (fun g hg y=>?_);rcases y with y|y|y|y
   ·exact (a.mp m i p).apart a.hp (y ▸ hg)
   ·exact (a.mp m i p).apart hr (y ▸ hg)
   ·exact (a.mp m i p).apart (ay M y) hg
   ·exact c (a.mi m n _ _ g p ho hg y)
 ·rw [F j hj];exact aj (a.li j hj) kk (fun g hg=>V (ay (a.li j hj) hg) (iH hj).1 (iH hj).2.1 (iH hj).2.2)
 ·intro m r o1 o2 e1 p
  obtain ⟨p1,q1,_⟩:=l m o1 e1;obtain ⟨x,s,_⟩:=l r o2 p;exact a.ij m r p1 x q1 s
 ·intro m r o1 o2 g e1 p x1 q
  obtain ⟨p1,q1,_⟩:=l m o1 e1;obtain ⟨x,s,_⟩:=l r o2 p;simp only [PM.M8] at x1 q;by_cases u:m=n<;>by_cases t:r=n
  ·rw [u,t]
  ·rw [if_pos u] at x1;rw [if_neg t] at q
   rcases J g x1 with y|y
   ·rw [u];exact a.ei n r o x g ho s y q
   ·have:=A r x s g q;omega
  ·rw [if_neg u] at x1;rw [if_pos t] at q
   rcases J g q with y|y
   ·rw [t];exact a.ei m n p1 o g q1 ho x1 y
   ·have:=A m p1 q1 g x1;omega
  ·rw [if_neg u] at x1;rw [if_neg t] at q
   exact a.ei m r p1 x g q1 s x1 q
 ·intro m r o1 o2 g e1 p x1 q
  obtain ⟨p1,q1,_⟩:=l m o1 e1;obtain ⟨x,s,_⟩:=l r o2 p;simp only [PM.M8] at x1 q;by_cases u:m=n<;>by_cases t:r=n
  ·rw [u,t]
  ·rw [if_pos u] at x1;rw [if_neg t] at q
   rcases hm g x1 with y|y
   ·rw [u];exact a.mi n r o x g ho s y q
   ·have:=z r x s g q;omega
  ·rw [if_neg u] at x1;rw [if_pos t] at q
   rcases hm g q with y|y
   ·rw [t];exact a.mi m n p1 o g q1 ho x1 y
   ·have:=z m p1 q1 g x1;omega
  ·rw [if_neg u] at x1;rw [if_neg t] at q
   exact a.mi m r p1 x g q1 s x1 q
 ·intro m o1 e1
  obtain ⟨p1,q1,_⟩:=l m o1 e1;exact a.bt m p1 q1
 ·intro m o1 g e1 x1
  obtain ⟨p1,q1,_⟩:=l m o1 e1;simp only [PM.M8] at x1;split at x1
  ·rcases hm g x1 with y|y
   ·exact a.bm n o g ho y
   ·exact aI a.bs y
  ·exact a.bm m p1 g q1 x1
 ·intro m o1 e1
  obtain ⟨p1,q1,_⟩:=l m o1 e1;exact a.st m p1 q1
 ·intro m o1 g e1 x1
  obtain ⟨p1,q1,_⟩:=l m o1 e1;simp only [PM.M8] at x1;split at x1
  ·rcases J g x1 with y|y
   ·exact a.se n o g ho y
   ·exact a.up g y
  ·exact a.se m p1 g q1 x1
 ·intro m o1 g e1 x1
  obtain ⟨p1,q1,_⟩:=l m o1 e1;simp only [PM.M8] at x1;split at x1
  ·rcases hm g x1 with y|y
   ·exact a.sm n o g ho y
   ·exact a.up g y
  ·exact a.sm m p1 g q1 x1
theorem M0.LD {L:PM} (a:M0 base S h G L w) (f:Ob->Ob) (ho:h.ob n=some o) (ev mv:Value)
 (kk:Keeps w w1 (fun b=>b=L.tb n∨(L.es n).ownBlock=some b∨dx (L.mp n)=some b))
 (l:aD w1 136 (L.tb n) 13 (nM (f o) n ev mv)) (j:w1.ownsRow base 167 10 ev (f o).es.length (jg L.tb (f o).es)) (d:ni w1 mv (f o).es)
 (c:∀ g,ev.ownBlock=some g->(L.es n).ownBlock=some g∨w.heap.size<=g) (hm:∀ g,dx mv=some g->dx (L.mp n)=some g∨w.heap.size<=g):
 M0 base S (h.upd n f) G (L.M8 n ev mv) w1/\Keeps w w1 S:=by
 refine a.K_ f ho ev mv (kk.mono fun b e=>.inr e) ((a.hp.keep kk (fun q=>?_)).congr (fun i _=>?_)) (fun _=>rfl) (fun k hk=>rfl) l j d c hm
 ·rcases q with q|q|q
  ·exact a.hp.apart (a.ob n o ho) (by decide) q
  ·exact ak (a.en n o ho) a.hp (by decide) q
  ·exact (a.mp n o ho).apart a.hp q
 ·unfold kK
  rw [h.Hz n f];rfl
end
section
variable {G:Gh} {L:PM} {S:Nat->Prop} {base cap i j n:Nat} {e:En} {es:List En} {h:Hp} {o:Ob} {v:Value} {w w0:World}
theorem bK {α:Type} (f:α->List Value) (l r:List α) (X:List Value) (j a:Nat) (c:Value) (b:(l.flatMap f).length=j*10) (d:a<X.length):(l.flatMap f++(X++r.flatMap f)).set (j*10+a) c=l.flatMap f++(X.set a c++r.flatMap f):=by
 rw [List.set_append_right _ _ (by omega),b,Nat.add_sub_cancel_left,List.set_append_left _ _ d]
theorem kS {α:Type} (f:α->List Value) {es:List α} {e:α} (h:es[j]?=some e) (b:α):es.flatMap f=(es.take j).flatMap f++(f e++(es.drop (j+1)).flatMap f)/\(es.set j b).flatMap f=(es.take j).flatMap f++(f b++(es.drop (j+1)).flatMap f):=by
 have a:=(aJ.1 h).1;have c:=(aJ.1 h).2;constructor
 ·conv=>lhs;rw [<-List.take_append_drop j es,List.drop_eq_getElem_cons a,c]
  rw [List.flatMap_append,List.flatMap_cons]
 ·rw [List.set_eq_take_append_cons_drop,if_pos a,List.flatMap_append,List.flatMap_cons]
theorem qQ (tb:Nat->Nat) (es:List En) (a:j<es.length):((es.take j).flatMap (jG tb)).length=j*10:=by
 rw [show (es.take j).flatMap (jG tb)=jg tb (es.take j) from rfl,qD,bY,Nat.min_eq_left (by omega)]
theorem yZ (tb:Nat->Nat) (v:HV) (h:es[j]?=some e):(((((jg tb es).set (j*10+5) (.int .i64 (vk v))).set (j*10+6) (.int .i64 (vi v))).set (j*10+7) (.int .u64 0)).set (j*10+8) (.string ByteArray.empty)).set (j*10+9) (aK tb v)=jg tb (es.set j (e.1,v)):=by
 obtain ⟨c,b⟩:=kS (jG tb) h (e.1,v);have a:=qQ tb es (aJ.1 h).1;unfold jg;rw [c,b,bK _ _ _ _ _ _ _ a (by simp [jG,kE]),bK _ _ _ _ _ _ _ a (by simp [jG,kE]),bK _ _ _ _ _ _ _ a (by simp [jG,kE]),bK _ _ _ _ _ _ _ a (by simp [jG,kE]),bK _ _ _ _ _ _ _ a (by simp [jG,kE])];rfl
theorem rR (tb:Nat->Nat) (h:es[j]?=some e):(((((jg tb es).set (j*10) (.int .i64 0)).set (j*10+1) (.int .i64 0)).set (j*10+2) (.int .u64 0)).set (j*10+3) (.string ByteArray.empty)).set (j*10+4) .nilIface=jg tb (es.set j (none,e.2)):=by
 obtain ⟨c,b⟩:=kS (jG tb) h (none,e.2);have a:=qQ tb es (aJ.1 h).1;unfold jg;rw [c,b,show j*10=j*10+0 from rfl,bK _ _ _ _ _ _ _ a (by simp [jG,kE]),show j*10+0+1=j*10+1 from rfl,show j*10+0+2=j*10+2 from rfl,show j*10+0+3=j*10+3 from rfl,show j*10+0+4=j*10+4 from rfl,bK _ _ _ _ _ _ _ a (by simp [jG,kE]),bK _ _ _ _ _ _ _ a (by simp [jG,kE]),bK _ _ _ _ _ _ _ a (by simp [jG,kE]),bK _ _ _ _ _ _ _ a (by simp [jG,kE])];rfl
theorem eZ (h:es[i]?=some e) (a:En):aZ (es.set i a)+(if e.2.isNone then 1 else 0)=aZ es+(if a.2.isNone then 1 else 0):=by
 have b:=(aJ.1 h).1;have c:=(aJ.1 h).2;have f:es=es.take i++e::es.drop (i+1):=by conv=>lhs;rw [<-List.take_append_drop i es,List.drop_eq_getElem_cons b,c]
 have d:es.set i a=es.take i++a::es.drop (i+1):=by rw [List.set_eq_take_append_cons_drop,if_pos b]
 unfold aZ;rw [d]
 conv=>rhs;rw [f]
 rw [List.filter_append,List.filter_append,List.filter_cons,List.filter_cons];cases e.2.isNone<;>cases a.2.isNone<;>simp<;>omega
theorem ni.val (h:ni w v es) (hi:es[i]?=some e) (x:HV):ni w v (es.set i (e.1,x)):=by
 have g:=(aJ.1 hi).1;rcases h with ⟨rfl,y⟩|⟨b,l,z,rfl,hb,k⟩
 ·rw [y] at g;simp at g
 ·have r:∀ (q:Nat) (d:En),(es.set i (e.1,x))[q]?=some d->∃ f:En,es[q]?=some f/\f.1=d.1:=by
   intro q d a;rw [bX] at a;split at a
   ·rename_i c;subst c;simp at a;subst a;exact ⟨e,hi,rfl⟩
   ·exact ⟨d,a,rfl⟩
  have u:∀ (q:Nat) (d:En),es[q]?=some d->∃ f:En,(es.set i (e.1,x))[q]?=some f/\f.1=d.1:=by
   intro q d a;rw [bX];split
   ·rename_i c;subst c;rw [hi] at a;cases a;exact ⟨_,rfl,rfl⟩
   ·exact ⟨d,a,rfl⟩
  refine .inr ⟨b,l,z,rfl,hb,fun m hm=>?_,fun q d a t=>?_,k.nd,fun d he9=>?_,?_⟩
  ·obtain ⟨C,J,P,N,M,K⟩:=k.tt m hm
   obtain ⟨f,b1,b2⟩:=u C J P;exact ⟨C,f,b1,by rw [b2];exact N,by rw [b2];exact M,K⟩
  ·obtain ⟨f,b1,b2⟩:=r q d a
   obtain ⟨m,B,A⟩:=k.Mv q f b1 (by rw [b2];exact t);exact ⟨m,B,by rw [A,b2]⟩
  ·obtain ⟨q,a⟩:=List.mem_iff_getElem?.1 he9
   obtain ⟨f,b1,b2⟩:=r q d a;rw [<-b2];exact k.kk f (aX b1)
  ·intro p q x1 E hx H t s
   obtain ⟨F,b1,b2⟩:=r p x1 hx;obtain ⟨D,B,A⟩:=r q E H;exact k.kd p q F D b1 B (by rw [b2];exact t) (by rw [b2,A,s])
theorem M0.KZ (a:M0 base S h G L w) (ho:h.ob n=some o) {g:Nat} (hi:o.es[i]?=some e) (v:HV) (d:L.es n=.slice (some ⟨g,0,none⟩) o.es.length cap)
 (k0:Keeps w w0 (fun b=>b=L.tb n)) (y:aD w0 136 (L.tb n) 13 (fun k=>if k=9 then .int .i64 (aZ (o.es.set i (e.1,v)):Nat) else nM o n (L.es n) (L.mp n) k)):
 M0 base S (h.ents n (o.es.set i (e.1,v))) G L (((((w0.setCell ⟨g,i*10+5,none⟩ (.int .i64 (vk v))).setCell ⟨g,i*10+6,none⟩ (.int .i64 (vi v))).setCell ⟨g,i*10+7,none⟩ (.int .u64 0)).setCell ⟨g,i*10+8,none⟩ (.string ByteArray.empty)).setCell ⟨g,i*10+9,none⟩ (aK L.tb v))/\
 Keeps w (((((w0.setCell ⟨g,i*10+5,none⟩ (.int .i64 (vk v))).setCell ⟨g,i*10+6,none⟩ (.int .i64 (vi v))).setCell ⟨g,i*10+7,none⟩ (.int .u64 0)).setCell ⟨g,i*10+8,none⟩ (.string ByteArray.empty)).setCell ⟨g,i*10+9,none⟩ (aK L.tb v)) S:=by
 have u:=(aJ.1 hi).1;have s:=a.en n o ho;have f:=ay s (g:=g) (by rw [d];simp [Value.ownBlock]);have l:g≠L.tb n:=fun c=>f.apart (a.ob n o ho) (by decide) c;have m:=aj s k0 (fun b hb c=>by
  rw [d] at hb;simp [Value.ownBlock] at hb;exact l (hb.trans c))
 rw [d] at m;have t:=aL (aL (aL (aL (aL m (show i*10+5<o.es.length*10 by omega) (.int .i64 (vk v))) (show i*10+6<o.es.length*10 by omega) (.int .i64 (vi v))) (show i*10+7<o.es.length*10 by omega) (.int .u64 0)) (show i*10+8<o.es.length*10 by omega) (.string ByteArray.empty)) (show i*10+9<o.es.length*10 by omega) (aK L.tb v);rw [yZ L.tb v hi] at t;have p:Keeps w0 (((((w0.setCell ⟨g,i*10+5,none⟩ (.int .i64 (vk v))).setCell ⟨g,i*10+6,none⟩ (.int .i64 (vi v))).setCell ⟨g,i*10+7,none⟩ (.int .u64 0)).setCell ⟨g,i*10+8,none⟩ (.string ByteArray.empty)).setCell ⟨g,i*10+9,none⟩ (aK L.tb v)) (fun b=>b=g):=
  Keeps.setCell (S:=fun b=>b=g) (Keeps.setCell (S:=fun b=>b=g) (Keeps.setCell (S:=fun b=>b=g) (Keeps.setCell (S:=fun b=>b=g) (Keeps.setCell (S:=fun b=>b=g) (Keeps.refl w0 (fun b=>b=g)) rfl (.int .i64 (vk v))) rfl (.int .i64 (vi v))) rfl (.int .u64 0)) rfl (.string ByteArray.empty)) rfl (aK L.tb v)
 have x:=((a.mp n o ho).keep (k0.trans (w':=w0) (Keeps.refl w0 _)) (fun b hb c=>(a.mp n o ho).apart (a.ob n o ho) (c ▸ hb)))
 have r:=x.keep p (fun b hb c=>(a.mp n o ho).apart f (c ▸ hb));generalize (((((w0.setCell ⟨g,i*10+5,none⟩ (.int .i64 (vk v))).setCell ⟨g,i*10+6,none⟩ (.int .i64 (vi v))).setCell ⟨g,i*10+7,none⟩ (.int .u64 0)).setCell ⟨g,i*10+8,none⟩ (.string ByteArray.empty)).setCell ⟨g,i*10+9,none⟩ (aK L.tb v))=w1 at *;have q:Keeps w w1 (fun b=>b=L.tb n∨(L.es n).ownBlock=some b∨dx (L.mp n)=some b):=(k0.mono (fun b c=>.inl c)).trans (p.mono (fun b c=>.inr (.inl (by rw [d,c];simp [Value.ownBlock]))));have:=a.LD (w1:=w1) (fun o'=>{ o' with es:=o.es.set i (e.1,v) }) ho (L.es n) (L.mp n) q ((y.keep p (fun c=>l c.symm)).congr (fun k hk=>?_)) (by rw [d,bN];exact t) (r.val hi v) (fun b hb=>.inl hb) (fun b hb=>.inl hb)
 ·rw [PM.Ke] at this
  exact this
 ·refine dz (fun k=>(if k=9 then _ else nM o n (L.es n) (L.mp n) k)=nM { o with es:=o.es.set i (e.1,v) } n (L.es n) (L.mp n) k) rfl rfl ?_ rfl rfl rfl rfl rfl rfl rfl rfl rfl rfl k hk
  simp [nM]
theorem M0.tkey (a:M0 base S h G L w) (ho:h.ob n=some o) {g:Nat} (hi:o.es[i]?=some e) (l:L.es n=.slice (some ⟨g,0,none⟩) o.es.length cap)
 (k0:Keeps w w0 (fun b=>dx (L.mp n)=some b)) (y:ni w0 (L.mp n) (o.es.set i (none,e.2))):
 M0 base S (h.ents n (o.es.set i (none,e.2))) G L (((((w0.setCell ⟨g,i*10,none⟩ (.int .i64 0)).setCell ⟨g,i*10+1,none⟩ (.int .i64 0)).setCell ⟨g,i*10+2,none⟩ (.int .u64 0)).setCell ⟨g,i*10+3,none⟩ (.string ByteArray.empty)).setCell ⟨g,i*10+4,none⟩ .nilIface)/\
 Keeps w (((((w0.setCell ⟨g,i*10,none⟩ (.int .i64 0)).setCell ⟨g,i*10+1,none⟩ (.int .i64 0)).setCell ⟨g,i*10+2,none⟩ (.int .u64 0)).setCell ⟨g,i*10+3,none⟩ (.string ByteArray.empty)).setCell ⟨g,i*10+4,none⟩ .nilIface) S:=by
 have u:=(aJ.1 hi).1;have s:=a.en n o ho;have d:=ay s (g:=g) (by rw [l];simp [Value.ownBlock]);have p:g≠L.tb n:=fun c=>d.apart (a.ob n o ho) (by decide) c;have f:=aj s k0 (fun b hb c=>(a.mp n o ho).apart (ay s hb) c);rw [l] at f;have t:=aL (aL (aL (aL (aL f (show i*10<o.es.length*10 by omega) (.int .i64 0)) (show i*10+1<o.es.length*10 by omega) (.int .i64 0)) (show i*10+2<o.es.length*10 by omega) (.int .u64 0)) (show i*10+3<o.es.length*10 by omega) (.string ByteArray.empty)) (show i*10+4<o.es.length*10 by omega) .nilIface;rw [rR L.tb hi] at t;have m:Keeps w0 (((((w0.setCell ⟨g,i*10,none⟩ (.int .i64 0)).setCell ⟨g,i*10+1,none⟩ (.int .i64 0)).setCell ⟨g,i*10+2,none⟩ (.int .u64 0)).setCell ⟨g,i*10+3,none⟩ (.string ByteArray.empty)).setCell ⟨g,i*10+4,none⟩ .nilIface) (fun b=>b=g):=
  Keeps.setCell (S:=fun b=>b=g) (Keeps.setCell (S:=fun b=>b=g) (Keeps.setCell (S:=fun b=>b=g) (Keeps.setCell (S:=fun b=>b=g) (Keeps.setCell (S:=fun b=>b=g) (Keeps.refl w0 (fun b=>b=g)) rfl (.int .i64 0)) rfl (.int .i64 0)) rfl (.int .u64 0)) rfl (.string ByteArray.empty)) rfl .nilIface
 have r:=y.keep m (fun b hb c=>(a.mp n o ho).apart d (c ▸ hb));have x:=((a.ob n o ho).keep k0 (fun c=>(a.mp n o ho).apart (a.ob n o ho) c)).keep m (fun c=>p c.symm);generalize (((((w0.setCell ⟨g,i*10,none⟩ (.int .i64 0)).setCell ⟨g,i*10+1,none⟩ (.int .i64 0)).setCell ⟨g,i*10+2,none⟩ (.int .u64 0)).setCell ⟨g,i*10+3,none⟩ (.string ByteArray.empty)).setCell ⟨g,i*10+4,none⟩ .nilIface)=w1 at *;have q:Keeps w w1 (fun b=>b=L.tb n∨(L.es n).ownBlock=some b∨dx (L.mp n)=some b):=(k0.mono (fun b c=>.inr (.inr c))).trans (m.mono (fun b c=>.inr (.inl (by rw [l,c];simp [Value.ownBlock]))));have:=a.LD (w1:=w1) (fun o'=>{ o' with es:=o.es.set i (none,e.2) }) ho (L.es n) (L.mp n) q (x.congr (fun k hk=>?_)) (by rw [l,bN];exact t) r (fun b hb=>.inl hb) (fun b hb=>.inl hb)
 ·rw [PM.Ke] at this
  exact this
 ·have hb:aZ (o.es.set i (none,e.2))=aZ o.es:=by
   have:=eZ hi (none,e.2);simp only at this;omega
  refine dz (fun k=>nM o n (L.es n) (L.mp n) k=nM { o with es:=o.es.set i (none,e.2) } n (L.es n) (L.mp n) k) rfl rfl ?_ rfl rfl rfl rfl rfl rfl ?_ rfl rfl rfl k hk
  ·simp [nM]
  ·simp [nM,hb]
end
set_option maxHeartbeats 6400000
set_option maxRecDepth 100000
attribute [local go_sem] bW
theorem gI (w:World) (x lo hi:Int):Calls Tryz.prog 67 #[.int .i64 x,.int .i64 lo,.int .i64 hi] w fun e w'=>e=.returned (.bool (decide (lo<=x)&&decide (x<=hi)))/\w'=w:=by
 by_cases c:lo<=x
 ·have a:decide (lo<=x)=true:=by simp [c]
  go_enter Tryz.func67,Tryz.ntmps67;go_wp2;go_ret;exact ⟨by simp [c],rfl⟩
 ·have a:decide (lo<=x)=false:=by simp;omega
  go_enter Tryz.func67,Tryz.ntmps67;go_wp2;go_ret;exact ⟨by simp,rfl⟩
theorem pO (w:World) (t:Nat) (k:Int) (g:w.cell? ⟨t,10,none⟩=some (.int .i64 0)) (f:w.cell? ⟨t,11,none⟩=some (.int .i64 0)) (d:w.cell? ⟨t,12,none⟩=some (.int .i64 0)):Calls Tryz.prog 136 #[.pointer (some ⟨t,10,none⟩),.int .i64 k] w fun e w'=>e=.returned (.tuple #[])/\w'=w:=by
 have a:=ah (gI w k 1 0);rw [show (decide ((1:Int)<=k)&&decide (k<=0))=false by simp;omega] at a;by_cases c:(0:Int)<k
 ·have b:¬ k<=0:=by omega
  go_enter Tryz.func136,Tryz.ntmps136;go_wp2_with fail;refine a.o.mono ?_;rintro e1 w1 ⟨rfl,rfl⟩;go_wp2;go_end0;exact ⟨rfl,rfl⟩
 ·have b:¬ k > 0:=by omega
  go_enter Tryz.func136,Tryz.ntmps136;go_wp2_with fail;refine a.o.mono ?_;rintro e1 w1 ⟨rfl,rfl⟩;go_wp2;go_end0;exact ⟨rfl,rfl⟩
section
variable {G:Gh} {L:PM} {S:Nat->Prop} {base i n t:Nat} {e:En} {ev mv:Value} {h:Hp} {o:Ob} {w:World}
attribute [local go_sem] bW
def pq (o:Ob) (n:Nat) (ev mv:Value) (B:Int) (k:Nat):Value:=if k=9 then .int .i64 B else nM o n ev mv k
theorem jo {B:Int} (h:aD w 136 t 13 (pq o n ev mv B)) (a:Int):aD (w.setCell ⟨t,9,none⟩ (.int .i64 a)) 136 t 13 (pq o n ev mv a):=by
 refine (h.set (by decide) _).congr (fun k hk=>?_);unfold pq;by_cases c:k=9
 ·subst c;rfl
 ·rw [if_neg c,if_neg c,if_neg c]
theorem Cx (a:M0 base S h G L w) (ho:h.ob n=some o) (hi:o.es[i]?=some e) (v:HV) (a5:o.es.length<=5000) (z:e.2.isNone=false) (x:v.isNone=false):
 Calls Tryz.prog 123 #[.pointer (some ⟨L.tb n,0,none⟩),.int .i64 (i:Int),.agg #[.int .i64 (vk v),.int .i64 (vi v),.int .u64 0,.string ByteArray.empty,aK L.tb v]] w fun e' w'=>e'=.returned (.tuple #[])/\M0 base S (h.ents n (o.es.set i (e.1,v))) G L w'/\Keeps w w' S:=by
 have a9:i<o.es.length:=(aJ.1 hi).1;have a6:(i:Int)<(o.es.length:Int):=by omega
 have HX:=ah (d_ w L.tb v);have HB:=ah (aU w (.cells #[.int .i64 (vk v),.int .i64 (vi v),.int .u64 0,.string ByteArray.empty,aK L.tb v] 143));have K:=ah (a.low (aU w (.cells #[.int .i64 (vk v),.int .i64 (vi v),.int .u64 0,.string ByteArray.empty,aK L.tb v] 143)));have a8:(w.alloc (.cells #[.int .i64 (vk v),.int .i64 (vi v),.int .u64 0,.string ByteArray.empty,aK L.tb v] 143)).heap.size=w.heap.size+1:=bM _;have b0:w.heap.size≠L.tb n:=by have:=(a.ob n o ho).lt;omega
 obtain ⟨A,Q,N,a7,u⟩:=K.o.ents ho;obtain ⟨g,rfl,f,d⟩:=u i e hi;have P:=fZ o.es;obtain ⟨B,hB⟩:∃ B:Int,B=(aZ o.es:Int):=⟨_,rfl⟩
 have b2:0<=B:=by omega
 have b1:B<=5000:=by omega
 have C:=eZ hi (e.1,v);have HR:Hq (aD (w.alloc (.cells #[.int .i64 (vk v),.int .i64 (vi v),.int .u64 0,.string ByteArray.empty,aK L.tb v] 143)) 136 (L.tb n) 13 (pq o n (L.es n) (L.mp n) B)):=ah ((K.o.ob n o ho).congr (fun k hk=>by
  unfold pq;by_cases c:k=9
  ·subst c;rw [if_pos rfl,hB];rfl
  ·rw [if_neg c]))
 have a4:Hq (B=(aZ (o.es.set i (e.1,v)):Int)):=ah (by
  rw [z,x] at C;simp at C;omega)
 have HO:=ah ho;have HI:=ah hi;have M:=ah N;have F:=ah (bT (w.alloc (.cells #[.int .i64 (vk v),.int .i64 (vi v),.int .u64 0,.string ByteArray.empty,aK L.tb v] 143)) L.tb e.2);rw [show e.2.isNone=false from z] at F;have V:=ah x;clear a ho hi u C hB P z x;go_enter Tryz.func123,Tryz.ntmps123;go_upto_region 1 with (fail)
 generalize w.alloc (.cells #[.int .i64 (vk v),.int .i64 (vi v),.int .u64 0,.string ByteArray.empty,aK L.tb v] 143)=w1 at *;generalize hX:w.heap.size=X at *;have R:=ah hX;clear hX;have c7:w1.cell? ⟨L.tb n,7,none⟩=some (.slice (some ⟨g,0,none⟩) o.es.length Q):=by rw [<-M.o];exact HR.o.c 7
 have d5:=d 5 _ rfl;have d6:=d 6 _ rfl;have d7:=d 7 _ rfl;have d8:=d 8 _ rfl;have d9:=d 9 _ rfl;have J:=ah d;clear d;go_wp2_with fail;refine F.o.mono ?_;rintro e2 w2 ⟨rfl,s⟩;have a3:=ah (Keeps.of s (au _) (fun b=>b=L.tb n));have U:=ah (HX.o.keep (Keeps.of s (au _) (fun _=>False)) (fun y=>y));have a0:=ah (HR.o.keep (Keeps.of s (au _) (fun _=>False)) (fun y=>y));clear s c7 d5 d6 d7 d8 d9;go_upto_region 4 with (fail)
 have Z:=ah a0.o;have p:=ah U.o;have a2:=ah a3.o;generalize w2=w3 at *;have x0:w3.cell? ⟨X,0,none⟩=some (.int .i64 (vk v)):=p.o.c 0;have x1:w3.cell? ⟨X,1,none⟩=some (.int .i64 (vi v)):=p.o.c 1;have x2:w3.cell? ⟨X,2,none⟩=some (.int .u64 0):=p.o.c 2;have x3:w3.cell? ⟨X,3,none⟩=some (.string ByteArray.empty):=p.o.c 3;have x4:w3.cell? ⟨X,4,none⟩=some (aK L.tb v):=p.o.c 4;have E:=ah (bT w3 L.tb v);rw [V.o] at E;go_wp2_with fail;refine E.o.mono ?_;rintro e4 w4 ⟨rfl,r⟩;have a1:=ah (a2.o.trans (Keeps.of r (au _) (fun b=>b=L.tb n)));have T:=ah (p.o.keep (Keeps.of r (au _) (fun _=>False)) (fun y=>y));have Y:=ah (Z.o.keep (Keeps.of r (au _) (fun _=>False)) (fun y=>y));clear r x0 x1 x2 x3 x4;go_upto_region 8 with (fail)
 have l:=ah a1.o;have q:=ah T.o;have W:=ah Y.o;generalize w4=w6 at *;have H:=ah (K.o.en n o HO.o);have m:g≠L.tb n:=fun c=>(ay H.o (g:=g) (by rw [M.o];simp [Value.ownBlock])).apart (K.o.ob n o HO.o) (by decide) c;have x0:w6.cell? ⟨X,0,none⟩=some (.int .i64 (vk v)):=q.o.c 0;have x1:w6.cell? ⟨X,1,none⟩=some (.int .i64 (vi v)):=q.o.c 1;have x2:w6.cell? ⟨X,2,none⟩=some (.int .u64 0):=q.o.c 2;have x3:w6.cell? ⟨X,3,none⟩=some (.string ByteArray.empty):=q.o.c 3;have x4:w6.cell? ⟨X,4,none⟩=some (aK L.tb v):=q.o.c 4;have y5:w6.cell? ⟨g,i*10+5,none⟩=some (.int .i64 (vk e.2)):=(aM (a:=⟨g,i*10+5,none⟩) (l.o.block g f m)).trans (J.o 5 _ rfl);have y6:w6.cell? ⟨g,i*10+6,none⟩=some (.int .i64 (vi e.2)):=(aM (a:=⟨g,i*10+6,none⟩) (l.o.block g f m)).trans (J.o 6 _ rfl);have y7:w6.cell? ⟨g,i*10+7,none⟩=some (.int .u64 0):=(aM (a:=⟨g,i*10+7,none⟩) (l.o.block g f m)).trans (J.o 7 _ rfl);have y8:w6.cell? ⟨g,i*10+8,none⟩=some (.string ByteArray.empty):=(aM (a:=⟨g,i*10+8,none⟩) (l.o.block g f m)).trans (J.o 8 _ rfl);have y9:w6.cell? ⟨g,i*10+9,none⟩=some (aK L.tb e.2):=(aM (a:=⟨g,i*10+9,none⟩) (l.o.block g f m)).trans (J.o 9 _ rfl);have D:=ay H.o (g:=g) (by rw [M.o];simp [Value.ownBlock]);have zz:∀ j,w6.frozen? ⟨g,j,none⟩=false:=fun j=>(D.keep l.o m).ME j;clear D;have HT:=ah (K.o.KZ HO.o HI.out v M.o l.o (W.o.congr (fun k hk=>by
  unfold pq;by_cases c:k=9
  ·rw [if_pos c,if_pos c,a4.o]
  ·rw [if_neg c,if_neg c])))
 go_wp2;go_end0;exact ⟨rfl,HT.o.1,(Keeps.of HB.o (aO R.o) S).trans HT.o.2⟩
theorem Bv (a:M0 base S h G L w) (ho:h.ob n=some o) (hi:o.es[i]?=some e) (v:HV) (a7:o.es.length<=5000) (r:e.2.isNone=true) (z:v.isNone=false):
 Calls Tryz.prog 123 #[.pointer (some ⟨L.tb n,0,none⟩),.int .i64 (i:Int),.agg #[.int .i64 (vk v),.int .i64 (vi v),.int .u64 0,.string ByteArray.empty,aK L.tb v]] w fun e' w'=>e'=.returned (.tuple #[])/\M0 base S (h.ents n (o.es.set i (e.1,v))) G L w'/\Keeps w w' S:=by
 have b1:i<o.es.length:=(aJ.1 hi).1;have a8:(i:Int)<(o.es.length:Int):=by omega
 have HX:=ah (d_ w L.tb v);have HB:=ah (aU w (.cells #[.int .i64 (vk v),.int .i64 (vi v),.int .u64 0,.string ByteArray.empty,aK L.tb v] 143));have M:=ah (a.low (aU w (.cells #[.int .i64 (vk v),.int .i64 (vi v),.int .u64 0,.string ByteArray.empty,aK L.tb v] 143)));have b0:(w.alloc (.cells #[.int .i64 (vk v),.int .i64 (vi v),.int .u64 0,.string ByteArray.empty,aK L.tb v] 143)).heap.size=w.heap.size+1:=bM _;have T:w.heap.size≠L.tb n:=by have:=(a.ob n o ho).lt;omega
 obtain ⟨A,U,Q,a9,x⟩:=M.o.ents ho;obtain ⟨g,rfl,f,d⟩:=x i e hi;have R:=fZ o.es;obtain ⟨B,hB⟩:∃ B:Int,B=(aZ o.es:Int):=⟨_,rfl⟩
 have b4:0<=B:=by omega
 have b3:B<=5000:=by omega
 have C:=eZ hi (e.1,v);have HR:Hq (aD (w.alloc (.cells #[.int .i64 (vk v),.int .i64 (vi v),.int .u64 0,.string ByteArray.empty,aK L.tb v] 143)) 136 (L.tb n) 13 (pq o n (L.es n) (L.mp n) B)):=ah ((M.o.ob n o ho).congr (fun k hk=>by
  unfold pq;by_cases c:k=9
  ·subst c;rw [if_pos rfl,hB];rfl
  ·rw [if_neg c]))
 have a6:Hq ((B-1)=(aZ (o.es.set i (e.1,v)):Int)):=ah (by
  rw [r,z] at C;simp at C;omega)
 have b2:1<=B:=by
  have h9:=eZ hi (e.1,some (.inl 0));rw [r] at h9;simp at h9;omega
 have HO:=ah ho;have HI:=ah hi;have N:=ah Q;have H:=ah (bT (w.alloc (.cells #[.int .i64 (vk v),.int .i64 (vi v),.int .u64 0,.string ByteArray.empty,aK L.tb v] 143)) L.tb e.2);rw [show e.2.isNone=true from r] at H;have Z:=ah z;clear a ho hi x C hB R r z;go_enter Tryz.func123,Tryz.ntmps123;go_upto_region 1 with (fail)
 generalize w.alloc (.cells #[.int .i64 (vk v),.int .i64 (vi v),.int .u64 0,.string ByteArray.empty,aK L.tb v] 143)=w1 at *;generalize hX:w.heap.size=X at *;have V:=ah hX;clear hX;have c7:w1.cell? ⟨L.tb n,7,none⟩=some (.slice (some ⟨g,0,none⟩) o.es.length U):=by rw [<-N.o];exact HR.o.c 7
 have d5:=d 5 _ rfl;have d6:=d 6 _ rfl;have d7:=d 7 _ rfl;have d8:=d 8 _ rfl;have d9:=d 9 _ rfl;have K:=ah d;clear d;go_wp2_with fail;refine H.o.mono ?_;rintro e2 P ⟨rfl,u⟩;have a5:=ah (Keeps.of u (au _) (fun b=>b=L.tb n));have Y:=ah (HX.o.keep (Keeps.of u (au _) (fun _=>False)) (fun y=>y));have D:=ah (HR.o.keep (Keeps.of u (au _) (fun _=>False)) (fun y=>y));clear u c7 d5 d6 d7 d8 d9;have c9:P.cell? ⟨L.tb n,9,none⟩=some (.int .i64 B):=D.o.c 9;have z9:=D.o.ME 9;go_upto_region 4 with (fail)
 have a2:=ah (jo D.o (B-1));have p:=ah (Y.o.keep (Keeps.setCell (S:=fun b=>b=L.tb n) (j:=9) (Keeps.refl P _) rfl (.int .i64 (B-1))) (fun y=>T y));have a4:=ah (a5.o.setCell (g:=L.tb n) (j:=9) rfl (.int .i64 (B-1)));generalize P.setCell ⟨L.tb n,9,none⟩ (.int .i64 (B-1))=w3 at *;clear c9 z9;have x0:w3.cell? ⟨X,0,none⟩=some (.int .i64 (vk v)):=p.o.c 0;have x1:w3.cell? ⟨X,1,none⟩=some (.int .i64 (vi v)):=p.o.c 1;have x2:w3.cell? ⟨X,2,none⟩=some (.int .u64 0):=p.o.c 2;have x3:w3.cell? ⟨X,3,none⟩=some (.string ByteArray.empty):=p.o.c 3;have x4:w3.cell? ⟨X,4,none⟩=some (aK L.tb v):=p.o.c 4;have F:=ah (bT w3 L.tb v);rw [Z.o] at F;go_wp2_with fail;refine F.o.mono ?_;rintro e4 w4 ⟨rfl,s⟩;have a3:=ah (a4.o.trans (Keeps.of s (au _) (fun b=>b=L.tb n)));have W:=ah (p.o.keep (Keeps.of s (au _) (fun _=>False)) (fun y=>y));have a1:=ah (a2.o.keep (Keeps.of s (au _) (fun _=>False)) (fun y=>y));clear s x0 x1 x2 x3 x4;go_upto_region 8 with (fail)
 have l:=ah a3.o;have q:=ah W.o;have a0:=ah a1.o;generalize w4=w6 at *;have J:=ah (M.o.en n o HO.o);have m:g≠L.tb n:=fun c=>(ay J.o (g:=g) (by rw [N.o];simp [Value.ownBlock])).apart (M.o.ob n o HO.o) (by decide) c;have x0:w6.cell? ⟨X,0,none⟩=some (.int .i64 (vk v)):=q.o.c 0;have x1:w6.cell? ⟨X,1,none⟩=some (.int .i64 (vi v)):=q.o.c 1;have x2:w6.cell? ⟨X,2,none⟩=some (.int .u64 0):=q.o.c 2;have x3:w6.cell? ⟨X,3,none⟩=some (.string ByteArray.empty):=q.o.c 3;have x4:w6.cell? ⟨X,4,none⟩=some (aK L.tb v):=q.o.c 4;have y5:w6.cell? ⟨g,i*10+5,none⟩=some (.int .i64 (vk e.2)):=(aM (a:=⟨g,i*10+5,none⟩) (l.o.block g f m)).trans (K.o 5 _ rfl);have y6:w6.cell? ⟨g,i*10+6,none⟩=some (.int .i64 (vi e.2)):=(aM (a:=⟨g,i*10+6,none⟩) (l.o.block g f m)).trans (K.o 6 _ rfl);have y7:w6.cell? ⟨g,i*10+7,none⟩=some (.int .u64 0):=(aM (a:=⟨g,i*10+7,none⟩) (l.o.block g f m)).trans (K.o 7 _ rfl);have y8:w6.cell? ⟨g,i*10+8,none⟩=some (.string ByteArray.empty):=(aM (a:=⟨g,i*10+8,none⟩) (l.o.block g f m)).trans (K.o 8 _ rfl);have y9:w6.cell? ⟨g,i*10+9,none⟩=some (aK L.tb e.2):=(aM (a:=⟨g,i*10+9,none⟩) (l.o.block g f m)).trans (K.o 9 _ rfl);have E:=ay J.o (g:=g) (by rw [N.o];simp [Value.ownBlock]);have zz:∀ j,w6.frozen? ⟨g,j,none⟩=false:=fun j=>(E.keep l.o m).ME j;clear E;have HT:=ah (M.o.KZ HO.o HI.out v N.o l.o (a0.o.congr (fun k hk=>by
  unfold pq;by_cases c:k=9
  ·rw [if_pos c,if_pos c,a6.o]
  ·rw [if_neg c,if_neg c])))
 go_wp2;go_end0;exact ⟨rfl,HT.o.1,(Keeps.of HB.o (aO V.o) S).trans HT.o.2⟩
theorem yR (a:M0 base S h G L w) (ho:h.ob n=some o) (hi:o.es[i]?=some e) (v:HV) (b2:o.es.length<=5000) (z:e.2.isNone=false) (x:v.isNone=true) (J:(vk e.1==2)=false):
 Calls Tryz.prog 123 #[.pointer (some ⟨L.tb n,0,none⟩),.int .i64 (i:Int),.agg #[.int .i64 (vk v),.int .i64 (vi v),.int .u64 0,.string ByteArray.empty,aK L.tb v]] w fun e' w'=>e'=.returned (.tuple #[])/\M0 base S (h.ents n (o.es.set i (e.1,v))) G L w'/\Keeps w w' S:=by
 have b6:i<o.es.length:=(aJ.1 hi).1;have b3:(i:Int)<(o.es.length:Int):=by omega
 have HX:=ah (d_ w L.tb v);have HB:=ah (aU w (.cells #[.int .i64 (vk v),.int .i64 (vi v),.int .u64 0,.string ByteArray.empty,aK L.tb v] 143));have P:=ah (a.low (aU w (.cells #[.int .i64 (vk v),.int .i64 (vi v),.int .u64 0,.string ByteArray.empty,aK L.tb v] 143)));have b5:(w.alloc (.cells #[.int .i64 (vk v),.int .i64 (vi v),.int .u64 0,.string ByteArray.empty,aK L.tb v] 143)).heap.size=w.heap.size+1:=bM _;have V:w.heap.size≠L.tb n:=by have:=(a.ob n o ho).lt;omega
 obtain ⟨A,W,T,b4,u⟩:=P.o.ents ho;obtain ⟨g,rfl,f,d⟩:=u i e hi;have U:=fZ o.es;obtain ⟨B,hB⟩:∃ B:Int,B=(aZ o.es:Int):=⟨_,rfl⟩
 have b8:0<=B:=by omega
 have b7:B<=5000:=by omega
 have C:=eZ hi (e.1,v);have HR:Hq (aD (w.alloc (.cells #[.int .i64 (vk v),.int .i64 (vi v),.int .u64 0,.string ByteArray.empty,aK L.tb v] 143)) 136 (L.tb n) 13 (pq o n (L.es n) (L.mp n) B)):=ah ((P.o.ob n o ho).congr (fun k hk=>by
  unfold pq;by_cases c:k=9
  ·subst c;rw [if_pos rfl,hB];rfl
  ·rw [if_neg c]))
 have b1:Hq ((B+1)=(aZ (o.es.set i (e.1,v)):Int)):=ah (by
  rw [z,x] at C;simp at C;omega)
 have HO:=ah ho;have HI:=ah hi;have Q:=ah T;have M:=ah (bT (w.alloc (.cells #[.int .i64 (vk v),.int .i64 (vi v),.int .u64 0,.string ByteArray.empty,aK L.tb v] 143)) L.tb e.2);rw [show e.2.isNone=false from z] at M;have a2:=ah x;have a7:=ah J;clear a ho hi u C hB U z x J;go_enter Tryz.func123,Tryz.ntmps123;go_upto_region 1 with (fail)
 generalize w.alloc (.cells #[.int .i64 (vk v),.int .i64 (vi v),.int .u64 0,.string ByteArray.empty,aK L.tb v] 143)=w1 at *;generalize hX:w.heap.size=X at *;have Y:=ah hX;clear hX;have c7:w1.cell? ⟨L.tb n,7,none⟩=some (.slice (some ⟨g,0,none⟩) o.es.length W):=by rw [<-Q.o];exact HR.o.c 7
 have d5:=d 5 _ rfl;have d6:=d 6 _ rfl;have d7:=d 7 _ rfl;have d8:=d 8 _ rfl;have d9:=d 9 _ rfl;have F:=ah d;clear d;go_wp2_with fail;refine M.o.mono ?_;rintro e2 w2 ⟨rfl,s⟩;have b0:=ah (Keeps.of s (au _) (fun b=>b=L.tb n));have a1:=ah (HX.o.keep (Keeps.of s (au _) (fun _=>False)) (fun y=>y));have a6:=ah (HR.o.keep (Keeps.of s (au _) (fun _=>False)) (fun y=>y));clear s c7 d5 d6 d7 d8 d9;go_upto_region 4 with (fail)
 have a5:=ah a6.o;have p:=ah a1.o;have a9:=ah b0.o;generalize w2=w3 at *;have x0:w3.cell? ⟨X,0,none⟩=some (.int .i64 (vk v)):=p.o.c 0;have x1:w3.cell? ⟨X,1,none⟩=some (.int .i64 (vi v)):=p.o.c 1;have x2:w3.cell? ⟨X,2,none⟩=some (.int .u64 0):=p.o.c 2;have x3:w3.cell? ⟨X,3,none⟩=some (.string ByteArray.empty):=p.o.c 3;have x4:w3.cell? ⟨X,4,none⟩=some (aK L.tb v):=p.o.c 4;have K:=ah (bT w3 L.tb v);rw [a2.o] at K;go_wp2_with fail;refine K.o.mono ?_;rintro e4 w4 ⟨rfl,r⟩;have a8:=ah (a9.o.trans (Keeps.of r (au _) (fun b=>b=L.tb n)));have a0:=ah (p.o.keep (Keeps.of r (au _) (fun _=>False)) (fun y=>y));have D:=ah (a5.o.keep (Keeps.of r (au _) (fun _=>False)) (fun y=>y));clear r x0 x1 x2 x3 x4;have c9:w4.cell? ⟨L.tb n,9,none⟩=some (.int .i64 B):=D.o.c 9;have z9:=D.o.ME 9;go_upto_region 6 with (fail)
 have a4:=ah (jo D.o (B+1));have Z:=ah (a0.o.keep (Keeps.setCell (S:=fun b=>b=L.tb n) (j:=9) (Keeps.refl w4 _) rfl (.int .i64 (B+1))) (fun y=>V y));have E:=ah (a8.o.setCell (g:=L.tb n) (j:=9) rfl (.int .i64 (B+1)));generalize w4.setCell ⟨L.tb n,9,none⟩ (.int .i64 (B+1))=w5 at *;clear c9 z9;have N:=ah (P.o.en n o HO.o);have l:g≠L.tb n:=fun c=>(ay N.o (g:=g) (by rw [Q.o];simp [Value.ownBlock])).apart (P.o.ob n o HO.o) (by decide) c;have k0:w5.cell? ⟨g,i*10,none⟩=some (.int .i64 (vk e.1)):=(aM (a:=⟨g,i*10,none⟩) (E.o.block g f l)).trans (F.o 0 _ rfl);have k1:w5.cell? ⟨g,i*10+1,none⟩=some (.int .i64 (vi e.1)):=(aM (a:=⟨g,i*10+1,none⟩) (E.o.block g f l)).trans (F.o 1 _ rfl);have R:=a7.o;go_upto_region 8 with (fail)
 have m:=ah E.o;have q:=ah Z.o;have a3:=ah a4.o;clear k0 k1 R;generalize w5=w6 at *;have x0:w6.cell? ⟨X,0,none⟩=some (.int .i64 (vk v)):=q.o.c 0;have x1:w6.cell? ⟨X,1,none⟩=some (.int .i64 (vi v)):=q.o.c 1;have x2:w6.cell? ⟨X,2,none⟩=some (.int .u64 0):=q.o.c 2;have x3:w6.cell? ⟨X,3,none⟩=some (.string ByteArray.empty):=q.o.c 3;have x4:w6.cell? ⟨X,4,none⟩=some (aK L.tb v):=q.o.c 4;have y5:w6.cell? ⟨g,i*10+5,none⟩=some (.int .i64 (vk e.2)):=(aM (a:=⟨g,i*10+5,none⟩) (m.o.block g f l)).trans (F.o 5 _ rfl);have y6:w6.cell? ⟨g,i*10+6,none⟩=some (.int .i64 (vi e.2)):=(aM (a:=⟨g,i*10+6,none⟩) (m.o.block g f l)).trans (F.o 6 _ rfl);have y7:w6.cell? ⟨g,i*10+7,none⟩=some (.int .u64 0):=(aM (a:=⟨g,i*10+7,none⟩) (m.o.block g f l)).trans (F.o 7 _ rfl);have y8:w6.cell? ⟨g,i*10+8,none⟩=some (.string ByteArray.empty):=(aM (a:=⟨g,i*10+8,none⟩) (m.o.block g f l)).trans (F.o 8 _ rfl);have y9:w6.cell? ⟨g,i*10+9,none⟩=some (aK L.tb e.2):=(aM (a:=⟨g,i*10+9,none⟩) (m.o.block g f l)).trans (F.o 9 _ rfl);have H:=ay N.o (g:=g) (by rw [Q.o];simp [Value.ownBlock]);have zz:∀ j,w6.frozen? ⟨g,j,none⟩=false:=fun j=>(H.keep m.o l).ME j;clear H;have HT:=ah (P.o.KZ HO.o HI.out v Q.o m.o (a3.o.congr (fun k hk=>by
  unfold pq;by_cases c:k=9
  ·rw [if_pos c,if_pos c,b1.o]
  ·rw [if_neg c,if_neg c])))
 go_wp2;go_end0;exact ⟨rfl,HT.o.1,(Keeps.of HB.o (aO Y.o) S).trans HT.o.2⟩
theorem Bj (a:M0 base S h G L w) (ho:h.ob n=some o) (hi:o.es[i]?=some e) (v:HV) (b4:o.es.length<=5000) (E:e.2.isNone=false) (D:v.isNone=true) (N:(vk e.1==2)=true):
 Calls Tryz.prog 123 #[.pointer (some ⟨L.tb n,0,none⟩),.int .i64 (i:Int),.agg #[.int .i64 (vk v),.int .i64 (vi v),.int .u64 0,.string ByteArray.empty,aK L.tb v]] w fun e' w'=>e'=.returned (.tuple #[])/\M0 base S (h.ents n (o.es.set i (e.1,v))) G L w'/\Keeps w w' S:=by
 have b8:i<o.es.length:=(aJ.1 hi).1;have b5:(i:Int)<(o.es.length:Int):=by omega
 have HX:=ah (d_ w L.tb v);have HB:=ah (aU w (.cells #[.int .i64 (vk v),.int .i64 (vi v),.int .u64 0,.string ByteArray.empty,aK L.tb v] 143));have T:=ah (a.low (aU w (.cells #[.int .i64 (vk v),.int .i64 (vi v),.int .u64 0,.string ByteArray.empty,aK L.tb v] 143)));have b7:(w.alloc (.cells #[.int .i64 (vk v),.int .i64 (vi v),.int .u64 0,.string ByteArray.empty,aK L.tb v] 143)).heap.size=w.heap.size+1:=bM _;have Z:w.heap.size≠L.tb n:=by have:=(a.ob n o ho).lt;omega
 obtain ⟨A,a0,W,b6,C⟩:=T.o.ents ho;obtain ⟨g,rfl,f,d⟩:=C i e hi;have Y:=fZ o.es;obtain ⟨B,hB⟩:∃ B:Int,B=(aZ o.es:Int):=⟨_,rfl⟩
 have c0:0<=B:=by omega
 have b9:B<=5000:=by omega
 have F:=eZ hi (e.1,v);have HR:Hq (aD (w.alloc (.cells #[.int .i64 (vk v),.int .i64 (vi v),.int .u64 0,.string ByteArray.empty,aK L.tb v] 143)) 136 (L.tb n) 13 (pq o n (L.es n) (L.mp n) B)):=ah ((T.o.ob n o ho).congr (fun k hk=>by
  unfold pq;by_cases c:k=9
  ·subst c;rw [if_pos rfl,hB];rfl
  ·rw [if_neg c]))
 have b3:Hq ((B+1)=(aZ (o.es.set i (e.1,v)):Int)):=ah (by
  rw [E,D] at F;simp at F;omega)
 have HO:=ah ho;have HI:=ah hi;have U:=ah W;have Q:=ah (bT (w.alloc (.cells #[.int .i64 (vk v),.int .i64 (vi v),.int .u64 0,.string ByteArray.empty,aK L.tb v] 143)) L.tb e.2);rw [show e.2.isNone=false from E] at Q;have a5:=ah D;have a9:=ah N;clear a ho hi C F hB Y E D N;go_enter Tryz.func123,Tryz.ntmps123;go_upto_region 1 with (fail)
 generalize w.alloc (.cells #[.int .i64 (vk v),.int .i64 (vi v),.int .u64 0,.string ByteArray.empty,aK L.tb v] 143)=w1 at *;generalize hX:w.heap.size=X at *;have a1:=ah hX;clear hX;have c7:w1.cell? ⟨L.tb n,7,none⟩=some (.slice (some ⟨g,0,none⟩) o.es.length a0):=by rw [<-U.o];exact HR.o.c 7
 have d5:=d 5 _ rfl;have d6:=d 6 _ rfl;have d7:=d 7 _ rfl;have d8:=d 8 _ rfl;have d9:=d 9 _ rfl;have K:=ah d;clear d;go_wp2_with fail;refine Q.o.mono ?_;rintro e2 w2 ⟨rfl,x⟩;have b2:=ah (Keeps.of x (au _) (fun b=>b=L.tb n));have a4:=ah (HX.o.keep (Keeps.of x (au _) (fun _=>False)) (fun y=>y));have a8:=ah (HR.o.keep (Keeps.of x (au _) (fun _=>False)) (fun y=>y));clear x c7 d5 d6 d7 d8 d9;go_upto_region 4 with (fail)
 have a7:=ah a8.o;have q:=ah a4.o;have b1:=ah b2.o;generalize w2=w3 at *;have x0:w3.cell? ⟨X,0,none⟩=some (.int .i64 (vk v)):=q.o.c 0;have x1:w3.cell? ⟨X,1,none⟩=some (.int .i64 (vi v)):=q.o.c 1;have x2:w3.cell? ⟨X,2,none⟩=some (.int .u64 0):=q.o.c 2;have x3:w3.cell? ⟨X,3,none⟩=some (.string ByteArray.empty):=q.o.c 3;have x4:w3.cell? ⟨X,4,none⟩=some (aK L.tb v):=q.o.c 4;have P:=ah (bT w3 L.tb v);rw [a5.o] at P;go_wp2_with fail;refine P.o.mono ?_;rintro e4 w4 ⟨rfl,u⟩;have b0:=ah (b1.o.trans (Keeps.of u (au _) (fun b=>b=L.tb n)));have a3:=ah (q.o.keep (Keeps.of u (au _) (fun _=>False)) (fun y=>y));have H:=ah (a7.o.keep (Keeps.of u (au _) (fun _=>False)) (fun y=>y));clear u x0 x1 x2 x3 x4;have c9:w4.cell? ⟨L.tb n,9,none⟩=some (.int .i64 B):=H.o.c 9;have z9:=H.o.ME 9;go_upto_region 6 with (fail)
 have z:=ah (jo H.o (B+1));have a2:=ah (a3.o.keep (Keeps.setCell (S:=fun b=>b=L.tb n) (j:=9) (Keeps.refl w4 _) rfl (.int .i64 (B+1))) (fun y=>Z y));have J:=ah (b0.o.setCell (g:=L.tb n) (j:=9) rfl (.int .i64 (B+1)));generalize w4.setCell ⟨L.tb n,9,none⟩ (.int .i64 (B+1))=w5 at *;clear c9 z9;have R:=ah (T.o.en n o HO.o);have l:g≠L.tb n:=fun c=>(ay R.o (g:=g) (by rw [U.o];simp [Value.ownBlock])).apart (T.o.ob n o HO.o) (by decide) c;have k0:w5.cell? ⟨g,i*10,none⟩=some (.int .i64 (vk e.1)):=(aM (a:=⟨g,i*10,none⟩) (J.o.block g f l)).trans (K.o 0 _ rfl);have k1:w5.cell? ⟨g,i*10+1,none⟩=some (.int .i64 (vi e.1)):=(aM (a:=⟨g,i*10+1,none⟩) (J.o.block g f l)).trans (K.o 1 _ rfl);have V:=a9.o;have HL:=ah (fun m=>pO (w5.drewN m) (L.tb n) (vi e.1) (z.o.c 10) (z.o.c 11) (z.o.c 12));go_wp2_with fail;go_quiet ((go_at_call 136;exact Calls.quiet_of_same (HL.o _)));go_upto_region 8 with (fail)
 have s:=aC (aG w5.heap.size w5) nq;have p:=ah (J.o.trans (Keeps.of s (au _) (fun b=>b=L.tb n)));have r:=ah (a2.o.keep (Keeps.of s (au _) (fun _=>False)) (fun y=>y));have a6:=ah (z.o.keep (Keeps.of s (au _) (fun _=>False)) (fun y=>y));clear s k0 k1 V HL;generalize w5.drewN nq=w6 at *;have x0:w6.cell? ⟨X,0,none⟩=some (.int .i64 (vk v)):=r.o.c 0;have x1:w6.cell? ⟨X,1,none⟩=some (.int .i64 (vi v)):=r.o.c 1;have x2:w6.cell? ⟨X,2,none⟩=some (.int .u64 0):=r.o.c 2;have x3:w6.cell? ⟨X,3,none⟩=some (.string ByteArray.empty):=r.o.c 3;have x4:w6.cell? ⟨X,4,none⟩=some (aK L.tb v):=r.o.c 4;have y5:w6.cell? ⟨g,i*10+5,none⟩=some (.int .i64 (vk e.2)):=(aM (a:=⟨g,i*10+5,none⟩) (p.o.block g f l)).trans (K.o 5 _ rfl);have y6:w6.cell? ⟨g,i*10+6,none⟩=some (.int .i64 (vi e.2)):=(aM (a:=⟨g,i*10+6,none⟩) (p.o.block g f l)).trans (K.o 6 _ rfl);have y7:w6.cell? ⟨g,i*10+7,none⟩=some (.int .u64 0):=(aM (a:=⟨g,i*10+7,none⟩) (p.o.block g f l)).trans (K.o 7 _ rfl);have y8:w6.cell? ⟨g,i*10+8,none⟩=some (.string ByteArray.empty):=(aM (a:=⟨g,i*10+8,none⟩) (p.o.block g f l)).trans (K.o 8 _ rfl);have y9:w6.cell? ⟨g,i*10+9,none⟩=some (aK L.tb e.2):=(aM (a:=⟨g,i*10+9,none⟩) (p.o.block g f l)).trans (K.o 9 _ rfl);have M:=ay R.o (g:=g) (by rw [U.o];simp [Value.ownBlock]);have zz:∀ j,w6.frozen? ⟨g,j,none⟩=false:=fun j=>(M.keep p.o l).ME j;clear M;have HT:=ah (T.o.KZ HO.o HI.out v U.o p.o (a6.o.congr (fun k hk=>by
  unfold pq;by_cases c:k=9
  ·rw [if_pos c,if_pos c,b3.o]
  ·rw [if_neg c,if_neg c])))
 go_wp2;go_end0;exact ⟨rfl,HT.o.1,(Keeps.of HB.o (aO a1.o) S).trans HT.o.2⟩
theorem za (a:M0 base S h G L w) (ho:h.ob n=some o) (hi:o.es[i]?=some e) (v:HV) (b4:o.es.length<=5000) (r:e.2.isNone=true) (z:v.isNone=true) (K:(vk e.1==2)=false):
 Calls Tryz.prog 123 #[.pointer (some ⟨L.tb n,0,none⟩),.int .i64 (i:Int),.agg #[.int .i64 (vk v),.int .i64 (vi v),.int .u64 0,.string ByteArray.empty,aK L.tb v]] w fun e' w'=>e'=.returned (.tuple #[])/\M0 base S (h.ents n (o.es.set i (e.1,v))) G L w'/\Keeps w w' S:=by
 have b8:i<o.es.length:=(aJ.1 hi).1;have b5:(i:Int)<(o.es.length:Int):=by omega
 have HX:=ah (d_ w L.tb v);have HB:=ah (aU w (.cells #[.int .i64 (vk v),.int .i64 (vi v),.int .u64 0,.string ByteArray.empty,aK L.tb v] 143));have R:=ah (a.low (aU w (.cells #[.int .i64 (vk v),.int .i64 (vi v),.int .u64 0,.string ByteArray.empty,aK L.tb v] 143)));have b7:(w.alloc (.cells #[.int .i64 (vk v),.int .i64 (vi v),.int .u64 0,.string ByteArray.empty,aK L.tb v] 143)).heap.size=w.heap.size+1:=bM _;have M:w.heap.size≠L.tb n:=by have:=(a.ob n o ho).lt;omega
 obtain ⟨A,a0,Y,b6,x⟩:=R.o.ents ho;obtain ⟨g,rfl,f,d⟩:=x i e hi;have Z:=fZ o.es;obtain ⟨B,hB⟩:∃ B:Int,B=(aZ o.es:Int):=⟨_,rfl⟩
 have c1:0<=B:=by omega
 have c0:B<=5000:=by omega
 have C:=eZ hi (e.1,v);have HR:Hq (aD (w.alloc (.cells #[.int .i64 (vk v),.int .i64 (vi v),.int .u64 0,.string ByteArray.empty,aK L.tb v] 143)) 136 (L.tb n) 13 (pq o n (L.es n) (L.mp n) B)):=ah ((R.o.ob n o ho).congr (fun k hk=>by
  unfold pq;by_cases c:k=9
  ·subst c;rw [if_pos rfl,hB];rfl
  ·rw [if_neg c]))
 have b3:Hq (B=(aZ (o.es.set i (e.1,v)):Int)):=ah (by
  rw [r,z] at C;simp at C;omega)
 have b9:1<=B:=by
  have h9:=eZ hi (e.1,some (.inl 0));rw [r] at h9;simp at h9;omega
 have HO:=ah ho;have HI:=ah hi;have T:=ah Y;have P:=ah (bT (w.alloc (.cells #[.int .i64 (vk v),.int .i64 (vi v),.int .u64 0,.string ByteArray.empty,aK L.tb v] 143)) L.tb e.2);rw [show e.2.isNone=true from r] at P;have a5:=ah z;have a9:=ah K;clear a ho hi x C hB Z r z K;go_enter Tryz.func123,Tryz.ntmps123;go_upto_region 1 with (fail)
 generalize w.alloc (.cells #[.int .i64 (vk v),.int .i64 (vi v),.int .u64 0,.string ByteArray.empty,aK L.tb v] 143)=w1 at *;generalize hX:w.heap.size=X at *;have a1:=ah hX;clear hX;have c7:w1.cell? ⟨L.tb n,7,none⟩=some (.slice (some ⟨g,0,none⟩) o.es.length a0):=by rw [<-T.o];exact HR.o.c 7
 have d5:=d 5 _ rfl;have d6:=d 6 _ rfl;have d7:=d 7 _ rfl;have d8:=d 8 _ rfl;have d9:=d 9 _ rfl;have H:=ah d;clear d;go_wp2_with fail;refine P.o.mono ?_;rintro e2 V ⟨rfl,u⟩;have b2:=ah (Keeps.of u (au _) (fun b=>b=L.tb n));have a4:=ah (HX.o.keep (Keeps.of u (au _) (fun _=>False)) (fun y=>y));have E:=ah (HR.o.keep (Keeps.of u (au _) (fun _=>False)) (fun y=>y));clear u c7 d5 d6 d7 d8 d9;have c9:V.cell? ⟨L.tb n,9,none⟩=some (.int .i64 B):=E.o.c 9;have U:=E.o.ME 9;go_upto_region 4 with (fail)
 have a8:=ah (jo E.o (B-1));have p:=ah (a4.o.keep (Keeps.setCell (S:=fun b=>b=L.tb n) (j:=9) (Keeps.refl V _) rfl (.int .i64 (B-1))) (fun y=>M y));have b1:=ah (b2.o.setCell (g:=L.tb n) (j:=9) rfl (.int .i64 (B-1)));generalize V.setCell ⟨L.tb n,9,none⟩ (.int .i64 (B-1))=w3 at *;clear c9 U;have x0:w3.cell? ⟨X,0,none⟩=some (.int .i64 (vk v)):=p.o.c 0;have x1:w3.cell? ⟨X,1,none⟩=some (.int .i64 (vi v)):=p.o.c 1;have x2:w3.cell? ⟨X,2,none⟩=some (.int .u64 0):=p.o.c 2;have x3:w3.cell? ⟨X,3,none⟩=some (.string ByteArray.empty):=p.o.c 3;have x4:w3.cell? ⟨X,4,none⟩=some (aK L.tb v):=p.o.c 4;have N:=ah (bT w3 L.tb v);rw [a5.o] at N;go_wp2_with fail;refine N.o.mono ?_;rintro e4 w4 ⟨rfl,s⟩;have b0:=ah (b1.o.trans (Keeps.of s (au _) (fun b=>b=L.tb n)));have a3:=ah (p.o.keep (Keeps.of s (au _) (fun _=>False)) (fun y=>y));have D:=ah (a8.o.keep (Keeps.of s (au _) (fun _=>False)) (fun y=>y));clear s x0 x1 x2 x3 x4;have c9:w4.cell? ⟨L.tb n,9,none⟩=some (.int .i64 (B-1)):=D.o.c 9;have U:=D.o.ME 9;go_upto_region 6 with (fail)
 have a7:=ah (jo D.o B);have a2:=ah (a3.o.keep (Keeps.setCell (S:=fun b=>b=L.tb n) (j:=9) (Keeps.refl w4 _) rfl (.int .i64 B)) (fun y=>M y));have F:=ah (b0.o.setCell (g:=L.tb n) (j:=9) rfl (.int .i64 B));generalize w4.setCell ⟨L.tb n,9,none⟩ (.int .i64 B)=w5 at *;clear c9 U;have Q:=ah (R.o.en n o HO.o);have l:g≠L.tb n:=fun c=>(ay Q.o (g:=g) (by rw [T.o];simp [Value.ownBlock])).apart (R.o.ob n o HO.o) (by decide) c;have k0:w5.cell? ⟨g,i*10,none⟩=some (.int .i64 (vk e.1)):=(aM (a:=⟨g,i*10,none⟩) (F.o.block g f l)).trans (H.o 0 _ rfl);have k1:w5.cell? ⟨g,i*10+1,none⟩=some (.int .i64 (vi e.1)):=(aM (a:=⟨g,i*10+1,none⟩) (F.o.block g f l)).trans (H.o 1 _ rfl);have W:=a9.o;go_upto_region 8 with (fail)
 have m:=ah F.o;have q:=ah a2.o;have a6:=ah a7.o;clear k0 k1 W;generalize w5=w6 at *;have x0:w6.cell? ⟨X,0,none⟩=some (.int .i64 (vk v)):=q.o.c 0;have x1:w6.cell? ⟨X,1,none⟩=some (.int .i64 (vi v)):=q.o.c 1;have x2:w6.cell? ⟨X,2,none⟩=some (.int .u64 0):=q.o.c 2;have x3:w6.cell? ⟨X,3,none⟩=some (.string ByteArray.empty):=q.o.c 3;have x4:w6.cell? ⟨X,4,none⟩=some (aK L.tb v):=q.o.c 4;have y5:w6.cell? ⟨g,i*10+5,none⟩=some (.int .i64 (vk e.2)):=(aM (a:=⟨g,i*10+5,none⟩) (m.o.block g f l)).trans (H.o 5 _ rfl);have y6:w6.cell? ⟨g,i*10+6,none⟩=some (.int .i64 (vi e.2)):=(aM (a:=⟨g,i*10+6,none⟩) (m.o.block g f l)).trans (H.o 6 _ rfl);have y7:w6.cell? ⟨g,i*10+7,none⟩=some (.int .u64 0):=(aM (a:=⟨g,i*10+7,none⟩) (m.o.block g f l)).trans (H.o 7 _ rfl);have y8:w6.cell? ⟨g,i*10+8,none⟩=some (.string ByteArray.empty):=(aM (a:=⟨g,i*10+8,none⟩) (m.o.block g f l)).trans (H.o 8 _ rfl);have y9:w6.cell? ⟨g,i*10+9,none⟩=some (aK L.tb e.2):=(aM (a:=⟨g,i*10+9,none⟩) (m.o.block g f l)).trans (H.o 9 _ rfl);have J:=ay Q.o (g:=g) (by rw [T.o];simp [Value.ownBlock]);have zz:∀ j,w6.frozen? ⟨g,j,none⟩=false:=fun j=>(J.keep m.o l).ME j;clear J;have HT:=ah (R.o.KZ HO.o HI.out v T.o m.o (a6.o.congr (fun k hk=>by
  unfold pq;by_cases c:k=9
  ·rw [if_pos c,if_pos c,b3.o]
  ·rw [if_neg c,if_neg c])))
 go_wp2;go_end0;exact ⟨rfl,HT.o.1,(Keeps.of HB.o (aO a1.o) S).trans HT.o.2⟩
theorem zm (a:M0 base S h G L w) (ho:h.ob n=some o) (hi:o.es[i]?=some e) (v:HV) (b6:o.es.length<=5000) (s:e.2.isNone=true) (E:v.isNone=true) (P:(vk e.1==2)=true):
 Calls Tryz.prog 123 #[.pointer (some ⟨L.tb n,0,none⟩),.int .i64 (i:Int),.agg #[.int .i64 (vk v),.int .i64 (vi v),.int .u64 0,.string ByteArray.empty,aK L.tb v]] w fun e' w'=>e'=.returned (.tuple #[])/\M0 base S (h.ents n (o.es.set i (e.1,v))) G L w'/\Keeps w w' S:=by
 have c0:i<o.es.length:=(aJ.1 hi).1;have b7:(i:Int)<(o.es.length:Int):=by omega
 have HX:=ah (d_ w L.tb v);have HB:=ah (aU w (.cells #[.int .i64 (vk v),.int .i64 (vi v),.int .u64 0,.string ByteArray.empty,aK L.tb v] 143));have V:=ah (a.low (aU w (.cells #[.int .i64 (vk v),.int .i64 (vi v),.int .u64 0,.string ByteArray.empty,aK L.tb v] 143)));have b9:(w.alloc (.cells #[.int .i64 (vk v),.int .i64 (vi v),.int .u64 0,.string ByteArray.empty,aK L.tb v] 143)).heap.size=w.heap.size+1:=bM _;have Q:w.heap.size≠L.tb n:=by have:=(a.ob n o ho).lt;omega
 obtain ⟨A,a3,a1,b8,D⟩:=V.o.ents ho;obtain ⟨g,rfl,f,d⟩:=D i e hi;have a2:=fZ o.es;obtain ⟨B,hB⟩:∃ B:Int,B=(aZ o.es:Int):=⟨_,rfl⟩
 have c3:0<=B:=by omega
 have c2:B<=5000:=by omega
 have F:=eZ hi (e.1,v);have HR:Hq (aD (w.alloc (.cells #[.int .i64 (vk v),.int .i64 (vi v),.int .u64 0,.string ByteArray.empty,aK L.tb v] 143)) 136 (L.tb n) 13 (pq o n (L.es n) (L.mp n) B)):=ah ((V.o.ob n o ho).congr (fun k hk=>by
  unfold pq;by_cases c:k=9
  ·subst c;rw [if_pos rfl,hB];rfl
  ·rw [if_neg c]))
 have b5:Hq (B=(aZ (o.es.set i (e.1,v)):Int)):=ah (by
  rw [s,E] at F;simp at F;omega)
 have c1:1<=B:=by
  have h9:=eZ hi (e.1,some (.inl 0));rw [s] at h9;simp at h9;omega
 have HO:=ah ho;have HI:=ah hi;have W:=ah a1;have T:=ah (bT (w.alloc (.cells #[.int .i64 (vk v),.int .i64 (vi v),.int .u64 0,.string ByteArray.empty,aK L.tb v] 143)) L.tb e.2);rw [show e.2.isNone=true from s] at T;have a8:=ah E;have b1:=ah P;clear a ho hi D F hB a2 s E P;go_enter Tryz.func123,Tryz.ntmps123;go_upto_region 1 with (fail)
 generalize w.alloc (.cells #[.int .i64 (vk v),.int .i64 (vi v),.int .u64 0,.string ByteArray.empty,aK L.tb v] 143)=w1 at *;generalize hX:w.heap.size=X at *;have a4:=ah hX;clear hX;have c7:w1.cell? ⟨L.tb n,7,none⟩=some (.slice (some ⟨g,0,none⟩) o.es.length a3):=by rw [<-W.o];exact HR.o.c 7
 have d5:=d 5 _ rfl;have d6:=d 6 _ rfl;have d7:=d 7 _ rfl;have d8:=d 8 _ rfl;have d9:=d 9 _ rfl;have M:=ah d;clear d;go_wp2_with fail;refine T.o.mono ?_;rintro e2 Z ⟨rfl,z⟩;have b4:=ah (Keeps.of z (au _) (fun b=>b=L.tb n));have a7:=ah (HX.o.keep (Keeps.of z (au _) (fun _=>False)) (fun y=>y));have J:=ah (HR.o.keep (Keeps.of z (au _) (fun _=>False)) (fun y=>y));clear z c7 d5 d6 d7 d8 d9;have c9:Z.cell? ⟨L.tb n,9,none⟩=some (.int .i64 B):=J.o.c 9;have Y:=J.o.ME 9;go_upto_region 4 with (fail)
 have b0:=ah (jo J.o (B-1));have q:=ah (a7.o.keep (Keeps.setCell (S:=fun b=>b=L.tb n) (j:=9) (Keeps.refl Z _) rfl (.int .i64 (B-1))) (fun y=>Q y));have b3:=ah (b4.o.setCell (g:=L.tb n) (j:=9) rfl (.int .i64 (B-1)));generalize Z.setCell ⟨L.tb n,9,none⟩ (.int .i64 (B-1))=w3 at *;clear c9 Y;have x0:w3.cell? ⟨X,0,none⟩=some (.int .i64 (vk v)):=q.o.c 0;have x1:w3.cell? ⟨X,1,none⟩=some (.int .i64 (vi v)):=q.o.c 1;have x2:w3.cell? ⟨X,2,none⟩=some (.int .u64 0):=q.o.c 2;have x3:w3.cell? ⟨X,3,none⟩=some (.string ByteArray.empty):=q.o.c 3;have x4:w3.cell? ⟨X,4,none⟩=some (aK L.tb v):=q.o.c 4;have R:=ah (bT w3 L.tb v);rw [a8.o] at R;go_wp2_with fail;refine R.o.mono ?_;rintro e4 w4 ⟨rfl,x⟩;have b2:=ah (b3.o.trans (Keeps.of x (au _) (fun b=>b=L.tb n)));have a6:=ah (q.o.keep (Keeps.of x (au _) (fun _=>False)) (fun y=>y));have H:=ah (b0.o.keep (Keeps.of x (au _) (fun _=>False)) (fun y=>y));clear x x0 x1 x2 x3 x4;have c9:w4.cell? ⟨L.tb n,9,none⟩=some (.int .i64 (B-1)):=H.o.c 9;have Y:=H.o.ME 9;go_upto_region 6 with (fail)
 have C:=ah (jo H.o B);have a5:=ah (a6.o.keep (Keeps.setCell (S:=fun b=>b=L.tb n) (j:=9) (Keeps.refl w4 _) rfl (.int .i64 B)) (fun y=>Q y));have K:=ah (b2.o.setCell (g:=L.tb n) (j:=9) rfl (.int .i64 B));generalize w4.setCell ⟨L.tb n,9,none⟩ (.int .i64 B)=w5 at *;clear c9 Y;have U:=ah (V.o.en n o HO.o);have l:g≠L.tb n:=fun c=>(ay U.o (g:=g) (by rw [W.o];simp [Value.ownBlock])).apart (V.o.ob n o HO.o) (by decide) c;have k0:w5.cell? ⟨g,i*10,none⟩=some (.int .i64 (vk e.1)):=(aM (a:=⟨g,i*10,none⟩) (K.o.block g f l)).trans (M.o 0 _ rfl);have k1:w5.cell? ⟨g,i*10+1,none⟩=some (.int .i64 (vi e.1)):=(aM (a:=⟨g,i*10+1,none⟩) (K.o.block g f l)).trans (M.o 1 _ rfl);have a0:=b1.o;have HL:=ah (fun m=>pO (w5.drewN m) (L.tb n) (vi e.1) (C.o.c 10) (C.o.c 11) (C.o.c 12));go_wp2_with fail;go_quiet ((go_at_call 136;exact Calls.quiet_of_same (HL.o _)));go_upto_region 8 with (fail)
 have u:=aC (aG w5.heap.size w5) nq;have p:=ah (K.o.trans (Keeps.of u (au _) (fun b=>b=L.tb n)));have r:=ah (a5.o.keep (Keeps.of u (au _) (fun _=>False)) (fun y=>y));have a9:=ah (C.o.keep (Keeps.of u (au _) (fun _=>False)) (fun y=>y));clear u k0 k1 a0 HL;generalize w5.drewN nq=w6 at *;have x0:w6.cell? ⟨X,0,none⟩=some (.int .i64 (vk v)):=r.o.c 0;have x1:w6.cell? ⟨X,1,none⟩=some (.int .i64 (vi v)):=r.o.c 1;have x2:w6.cell? ⟨X,2,none⟩=some (.int .u64 0):=r.o.c 2;have x3:w6.cell? ⟨X,3,none⟩=some (.string ByteArray.empty):=r.o.c 3;have x4:w6.cell? ⟨X,4,none⟩=some (aK L.tb v):=r.o.c 4;have y5:w6.cell? ⟨g,i*10+5,none⟩=some (.int .i64 (vk e.2)):=(aM (a:=⟨g,i*10+5,none⟩) (p.o.block g f l)).trans (M.o 5 _ rfl);have y6:w6.cell? ⟨g,i*10+6,none⟩=some (.int .i64 (vi e.2)):=(aM (a:=⟨g,i*10+6,none⟩) (p.o.block g f l)).trans (M.o 6 _ rfl);have y7:w6.cell? ⟨g,i*10+7,none⟩=some (.int .u64 0):=(aM (a:=⟨g,i*10+7,none⟩) (p.o.block g f l)).trans (M.o 7 _ rfl);have y8:w6.cell? ⟨g,i*10+8,none⟩=some (.string ByteArray.empty):=(aM (a:=⟨g,i*10+8,none⟩) (p.o.block g f l)).trans (M.o 8 _ rfl);have y9:w6.cell? ⟨g,i*10+9,none⟩=some (aK L.tb e.2):=(aM (a:=⟨g,i*10+9,none⟩) (p.o.block g f l)).trans (M.o 9 _ rfl);have N:=ay U.o (g:=g) (by rw [W.o];simp [Value.ownBlock]);have zz:∀ j,w6.frozen? ⟨g,j,none⟩=false:=fun j=>(N.keep p.o l).ME j;clear N;have HT:=ah (V.o.KZ HO.o HI.out v W.o p.o (a9.o.congr (fun k hk=>by
  unfold pq;by_cases c:k=9
  ·rw [if_pos c,if_pos c,b5.o]
  ·rw [if_neg c,if_neg c])))
 go_wp2;go_end0;exact ⟨rfl,HT.o.1,(Keeps.of HB.o (aO a4.o) S).trans HT.o.2⟩
theorem oL (a:M0 base S h G L w) (ho:h.ob n=some o) (hi:o.es[i]?=some e) (v:HV) (b:o.es.length<=5000):
 Calls Tryz.prog 123 #[.pointer (some ⟨L.tb n,0,none⟩),.int .i64 (i:Int),.agg #[.int .i64 (vk v),.int .i64 (vi v),.int .u64 0,.string ByteArray.empty,aK L.tb v]] w fun e' w'=>e'=.returned (.tuple #[])/\M0 base S (h.ents n (o.es.set i (e.1,v))) G L w'/\Keeps w w' S:=by
 cases h1:e.2.isNone<;>cases h2:v.isNone
 ·exact Cx a ho hi v b h1 h2
 ·cases h3:(vk e.1==2)
  ·exact yR a ho hi v b h1 h2 h3
  ·exact Bj a ho hi v b h1 h2 h3
 ·exact Bv a ho hi v b h1 h2
 ·cases h3:(vk e.1==2)
  ·exact za a ho hi v b h1 h2 h3
  ·exact zm a ho hi v b h1 h2 h3
end
end Go.Proofs.YtbpcdfbmnklcjaaGreatDoor
