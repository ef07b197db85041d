import Derived.Test.YtbpcdfbmnklcjaaGreatDoorKHZQ
import Derived.Test.YtbpcdfbmnklcjaaGreatDoorKHSP
import Derived.Test.YtbpcdfbmnklcjaaGreatDoorKHXB
import Derived.Test.YtbpcdfbmnklcjaaGreatDoorKHWG
import Derived.Test.YtbpcdfbmnklcjaaGreatDoorKHZD
import Derived.Test.YtbpcdfbmnklcjaaGreatDoorKLH6
import Derived.Deep.Slices
import Derived.Lib.SmallJoins
import Derived.Test.YtbpcdfbmnklcjaaGreatDoorRows
import Derived.LaidSub
import Derived.WalkKit
import Derived.ProofKit
import Derived.OpenShut
import Derived.Deep.DeepHandedRow
import Derived.ChangeMaps5
import Derived.Carry
import Derived.ChangeOld
namespace Go.Proofs.YtbpcdfbmnklcjaaGreatDoor
set_option linter.unusedVariables false
section
variable {es:List En} {h:Hp} {i t:Nat} {o:Ob}
theorem zS {q:HV} (h:kG es q=some i):∃ e,es[i]?=some e/\e.1=q:=by
 unfold kG at h;rw [List.findIdx?_eq_some_iff_getElem] at h;obtain ⟨hi,a,_⟩:=h;exact ⟨es[i],aN hi,by simpa [iG] using a⟩
theorem wB {q:HV} (h:kG es q=none):∀ e∈es,e.1≠q:=fun e he c=>by
 unfold kG at h;rw [List.findIdx?_eq_none_iff] at h;have:=h e he;simp [iG,c] at this
theorem nk {q v:HV} (ho:h.ob t=some o):
 ∃ c es',(∀ m,(h.put t q v).ob m=if t=m then some ⟨c,o.mode,es',o.fin⟩ else h.ob m)/\fU c=fU o.col/\(fU o.col=true->c=o.col)/\(v.isSome=true->(q,v)∈es')/\(∀ e∈o.es,e.1≠q->e.2.isSome=true->e∈es')/\
   (Kd o.es->q.isSome=true->∀ e∈es',e.2.isSome=true->(e∈o.es/\e.1≠q)∨(e.1=q/\e.2=v))/\
   (h.put t q v).objs.length=h.objs.length/\(h.put t q v).state=h.state/\(h.put t q v).white=h.white/\(h.put t q v).freed=h.freed/\(h.put t q v).weak=h.weak/\(h.put t q v).G8=h.G8/\(h.put t q v).roots=h.roots/\(h.put t q v).grey=h.grey/\(h.put t q v).live=h.live/\(h.put t q v).finals=h.finals/\(h.put t q v).pending=h.pending:=by
 have a:fU (if o.col=3/\h.state=1 then 2 else o.col)=fU o.col/\(fU o.col=true->(if o.col=3/\h.state=1 then 2 else o.col)=o.col):=by
  split
  ·rename_i x;rw [x.1];exact ⟨rfl,fun c=>by cases c⟩
  ·exact ⟨rfl,fun _=>rfl⟩
 unfold Hp.put;rw [ho];simp only;split
 ·rename_i i hi
  obtain ⟨J,b,g⟩:=zS hi;have D:∀ m,(h.upd t fun o=>{ o with es:=o.es.modify i fun e=>(e.1,v) }).ob m=if t=m then some { o with es:=o.es.modify i fun e=>(e.1,v) } else h.ob m:=by
   intro m;rw [Hp.Ho];by_cases x:t=m
   ·subst x;rw [if_pos rfl,if_pos rfl,ho];rfl
   ·rw [if_neg x,if_neg x]
  obtain ⟨E,H⟩:=Hp.JF ho D rfl;obtain ⟨C,u,s,r,k5,n,F,l,k,f,B,A,d,z,w⟩:=Hp.Ig (h.upd t fun o=>{ o with es:=o.es.modify i fun e=>(e.1,v) }) t;refine ⟨_,_,E,a.1,a.2,fun _=>?_,fun e he hne hs=>?_,fun kd hqs e he hs=>?_,C.trans (h.Hz t _),n,k5,?_,s,r,l,u,d,f,k⟩
  ·refine aX (i:=i) ?_
   rw [List.getElem?_modify,b];simp [g]
  ·obtain ⟨p,hp⟩:=List.mem_iff_getElem?.1 he
   refine aX (i:=p) ?_;rw [List.getElem?_modify,hp];have:i≠p:=by
    intro c;subst c;rw [b] at hp;cases hp;exact hne g
   simp [this]
  ·obtain ⟨p,hp⟩:=List.mem_iff_getElem?.1 he
   rw [List.getElem?_modify] at hp;cases hb:o.es[p]? with
   |none=>rw [hb] at hp;simp at hp
   |some e1=>
    rw [hb] at hp;by_cases x:i=p
    ·subst x
     rw [b] at hb;cases hb;simp at hp;subst hp;exact .inr ⟨g,rfl⟩
    ·simp [x] at hp
     subst hp;exact .inl ⟨aX hb,fun y=>x (kd i p J e1 b hb (by rw [g];exact hqs) (g.trans y.symm))⟩
  ·unfold Hp.putAt Hp.back
   split
   ·split<;>rfl
   ·rfl
 ·rename_i j
  split
  ·rename_i G
   refine ⟨o.col,o.es,fun m=>?_,rfl,fun _=>rfl,fun c=>?_,fun e he _ _=>he,fun _ _ e he hs=>.inl ⟨he,wB j e he⟩,rfl,rfl,rfl,rfl,rfl,rfl,rfl,rfl,rfl,rfl,rfl⟩
   ·by_cases x:t=m
    ·subst x;rw [if_pos rfl,ho]
    ·rw [if_neg x]
   ·cases v
    ·cases c
    ·cases G
  ·have D:∀ m,Hp.ob { h.upd t (fun o=>{ o with es:=aS o.es++[(q,v)] }) with bytes:=h.bytes-40*(o.es.length-(aS o.es).length)+40,G6:=h.G6+40 } m=if t=m then some { o with es:=aS o.es++[(q,v)] } else h.ob m:=by
    intro m;show (h.upd t fun o=>{ o with es:=aS o.es++[(q,v)] }).ob m=_;rw [Hp.Ho];by_cases x:t=m
    ·subst x;rw [if_pos rfl,if_pos rfl,ho];rfl
    ·rw [if_neg x,if_neg x]
   obtain ⟨E,H⟩:=Hp.JF ho D rfl;obtain ⟨C,u,s,r,k5,n,F,l,k,f,B,A,d,z,w⟩:=Hp.Ig { h.upd t (fun o=>{ o with es:=aS o.es++[(q,v)] }) with bytes:=h.bytes-40*(o.es.length-(aS o.es).length)+40,G6:=h.G6+40 } t;refine ⟨_,_,E,a.1,a.2,fun _=>List.mem_append_right _ (by simp),fun e he hne hs=>List.mem_append_left _ ?_,fun _ _ e he hs=>?_,C.trans (h.Hz t _),n,k5,?_,s,r,l,u,d,f,k⟩
   ·unfold aS
    split
    ·exact he
    ·exact List.mem_filter.2 ⟨he,hs⟩
   ·rcases eT.1 he with c|c
    ·exact .inl ⟨iT c,wB j e (iT c)⟩
    ·simp at c;subst c;exact .inr ⟨rfl,rfl⟩
   ·unfold Hp.Ic Hp.back
    split
    ·split<;>rfl
    ·rfl
theorem Ed.Ls {e x:Ed} (b:e.t=x.t) (a:(e.ob=true->e.num=0)/\(e.ob=false->e.key=0)) (hx:(x.ob=true->x.num=0)/\(x.ob=false->x.key=0)) (hk:e.k=x.k):e.sm x=true:=by
 unfold Ed.k at hk;unfold Ed.sm;cases h1:e.ob<;>cases h2:x.ob<;>simp [h1,h2] at hk a hx ⊢
 ·exact ⟨⟨b,by rw [a,hx]⟩,hk⟩
 ·exact ⟨⟨b,hk⟩,by rw [a,hx]⟩
theorem JM.put {b:Bk} {h:Hp} {root:List Bool} (x:JM b h root) {y:Ed} (L:(y.ob=true->y.num=0)/\(y.ob=false->y.key=0)) (J:h.Ok y.t) (hr:y.key<h.objs.length/\y.val<h.objs.length):
 JM ⟨b.modes,b.roots,iC b.edges y⟩ (h.put y.t y.k (cO y.val)) root/\(∀ n,(h.put y.t y.k (cO y.val)).Lv n↔h.Lv n):=by
 obtain ⟨o,ho,nd⟩:=J;obtain ⟨c,es',g,R,U,K,r,_,M,w,u,_⟩:=nk (q:=y.k) (v:=cO y.val) ho;have p:∀ n a,(h.put y.t y.k (cO y.val)).ob n=some a->∃ o2,h.ob n=some o2/\a.mode=o2.mode:=by
  intro n a e;rw [g] at e;split at e
  ·rename_i z;subst z;cases e;exact ⟨o,ho,rfl⟩
  ·exact ⟨a,e,rfl⟩
 have B:∀ n a o2,(h.put y.t y.k (cO y.val)).ob n=some a->h.ob n=some o2->(¬ (h.put y.t y.k (cO y.val)).IK a->¬ h.IK o2):=by
  intro n a o2 e s l d;apply l;rw [g] at e;split at e
  ·rename_i z;subst z;rw [ho] at s;cases s;cases e
   exact ⟨w.trans d.1,R.trans d.2.1,by rw [u];show c≠_;rw [U d.2.1];exact d.2.2⟩
  ·rw [s] at e;cases e
   exact ⟨w.trans d.1,d.2.1,by rw [u];exact d.2.2⟩
 have A:∀ n,(h.put y.t y.k (cO y.val)).Ok n->h.Ok n:=by
  rintro n ⟨a,e,l⟩;obtain ⟨o2,s,_⟩:=p n a e;exact ⟨o2,s,B n a o2 e s l⟩
 obtain ⟨N,G⟩:=Db (x:=y) x.uq;have H:=Hp.Ia ho;refine ⟨⟨x.ml.trans M.symm,x.rt,fun n a e=>?_,fun e he=>?_,fun e he=>?_,N,fun e he hv a e' l=>?_⟩,fun n=>?_⟩
 ·obtain ⟨o2,f,m⟩:=p n a e
  rw [m];exact x.md n o2 f
 ·rw [M]
  rcases G e he with ⟨f,_⟩|⟨f,m,D,C,F⟩
  ·exact x.rg e f
  ·rw [f,D,C];exact ⟨H,hr⟩
 ·rcases G e he with ⟨f,_⟩|⟨f,m,D,C,F⟩
  ·exact x.nf e f
  ·rw [m,D,F];exact L
 ·rcases G e he with ⟨f,m⟩|⟨f,m,D,C,F⟩
  ·obtain ⟨o2,E,W⟩:=p _ _ e'
   have T:=x.j e f hv o2 E (B _ _ _ e' E l);have S:(cO e.val).isSome=true:=by rw [gH hv];rfl
   rcases T with k|k|⟨V,Q,P⟩
   ·refine .inl ?_
    rw [g] at e';split at e'
    ·rename_i z
     rw [<-z,ho] at E;cases E;cases e';refine r _ k (fun q=>?_) S;rw [Ed.Ls z.symm (x.nf e f) L q] at m;cases m
    ·rw [E] at e';cases e';exact k
   ·exact .inr (.inl (by omega))
   ·exact .inr (.inr ⟨by omega,Q,fun z=>P (A _ z)⟩)
  ·refine .inl ?_
   rw [g,f,if_pos rfl] at e';cases e';have:e.k=y.k:=by unfold Ed.k;rw [F,D,m]
   rw [this,C];exact K (by rw [<-C,gH hv];rfl)
 ·unfold Hp.Lv
  rw [g];by_cases z:y.t=n
  ·subst z;rw [if_pos rfl,ho];exact ⟨fun _=>⟨_,rfl⟩,fun _=>⟨_,rfl⟩⟩
  ·rw [if_neg z]
theorem u7 (h:Hp) (m n:Nat):(h.make m).ob n=if n=h.objs.length then some ⟨h.white,m,[],false⟩ else h.ob n:=h.IY _ n
theorem JM.make {b:Bk} {h:Hp} {root:List Bool} (x:JM b h root) {m:Nat}:JM ⟨b.modes++[(m:Int)],b.roots++[true],b.edges⟩ (h.make m) (root++[true]):=by
 have d:(h.make m).objs.length=h.objs.length+1:=by show (h.objs++[_]).length=_;simp
 have c:∀ n,n<h.objs.length->(h.make m).Ok n->h.Ok n:=by
  rintro n p ⟨o,e,nd⟩;rw [u7,if_neg (by omega)] at e;exact ⟨o,e,nd⟩
 refine ⟨by rw [d,bI,x.ml];rfl,by rw [x.rt],fun n o e=>?_,fun e he=>?_,x.nf,x.uq,fun e he hv o e' nd=>?_⟩
 ·rw [u7] at e
  split at e
  ·rename_i z
   cases e;rw [z,<-x.ml];simp
  ·have:=Hp.Ia e
   rw [dF (by rw [x.ml];exact this)];exact x.md n o e
 ·have:=x.rg e he
  rw [d];omega
 ·have a:=x.rg e he
  rw [u7,if_neg (by omega)] at e';rcases x.j e he hv o e' nd with k|k|⟨l,g,f⟩
  ·exact .inl k
  ·exact .inr (.inl k)
  ·exact .inr (.inr ⟨l,g,fun z=>f (c _ a.2.1 z)⟩)
theorem JM.same {b:Bk} {h g:Hp} {root:List Bool} (x:JM b h root) (l:∀ n,(g.ob n).map (fun o=>(o.col,o.mode,o.es))=(h.ob n).map (fun o=>(o.col,o.mode,o.es))) (s:g.objs.length=h.objs.length) (r:g.state=h.state) (q:g.white=h.white):JM b g root:=by
 have f:∀ n a,g.ob n=some a->∃ o,h.ob n=some o/\a.col=o.col/\a.mode=o.mode/\a.es=o.es:=by
  intro n a e;have:=l n;rw [e] at this;cases e2:h.ob n with
  |none=>rw [e2] at this;simp at this
  |some o=>rw [e2] at this;simp at this;exact ⟨o,rfl,this.1,this.2.1,this.2.2⟩
 have hd:∀ o a:Ob,a.col=o.col->¬ g.IK a->¬ h.IK o:=fun o a c nd d=>nd ⟨r.trans d.1,by rw [c];exact d.2.1,by rw [c,q];exact d.2.2⟩;refine x.cs (g:={ g with freed:=h.freed }) (Cs.same s (fun n a e=>?_) (fun n k=>?_) rfl)|>fun y=>⟨y.ml,y.rt,y.md,y.rg,y.nf,y.uq,y.j⟩
 ·obtain ⟨o,p,_,m,u⟩:=f n a e
  exact ⟨o,p,m,u⟩
 ·obtain ⟨a,e,nd⟩:=k
  obtain ⟨o,p,m,_⟩:=f n a e;exact ⟨o,p,hd o a m nd⟩
end
section
variable {e:En} {g h:Hp} {k n:Nat} {o:Ob}
structure Sx (b:Bk) (h:Hp):Prop where
 c:∀ n o,h.ob n=some o->∀ e∈o.es,e.2.isSome=true->∃ x∈b.edges,x.t=n/\x.k=e.1/\x.val≠0/\cO x.val=e.2
 m:∀ n o,h.ob n=some o->b.modes[n]?=some (o.mode:Int)/\o.mode≠2
 f:h.finals.length+h.pending.length=0
theorem Sx.of {b:Bk} (x:Sx b h) (l:kJ h g) (hm:∀ n o',g.ob n=some o'->∃ o,h.ob n=some o/\o'.mode=o.mode) (i:g.finals.length+g.pending.length=h.finals.length+h.pending.length):Sx b g:=by
 refine ⟨fun n o e en hen hs=>?_,fun n o e=>?_,i.trans x.f⟩
 ·obtain ⟨o',a,_,r⟩:=l n o e
  obtain ⟨j,d⟩:=List.mem_iff_getElem?.1 hen;obtain ⟨t,q,p⟩:=r j en d;obtain rfl:=p.some hs;exact x.c n o' a en (aX q) hs
 ·obtain ⟨o',a,s⟩:=hm n o e
  rw [s];exact x.m n o' a
theorem Sx.MZ {b:Bk} (x:Sx b h) (m:M7 h g):Sx b g:=x.of m.MS m.Nl (by rw [m.finals,m.pending])
theorem Sx.cnt {b:Bk} (x:Sx b h) (m:Np h g):Sx b g:=x.of m.MS m.Nl (by rw [m.finals,m.pending])
theorem Sx.fin {b:Bk} (x:Sx b h):h.finals=[]/\h.pending=[]:=by
 have:=x.f;exact ⟨List.eq_nil_of_length_eq_zero (by omega),List.eq_nil_of_length_eq_zero (by omega)⟩
theorem Bk.Rc.root {b:Bk} (h:b.roots[n]?=some true):b.Rc n:=fun S c=>c.1 n h
theorem Bk.Rc.edge {b:Bk} {e:Ed} {m:Int} (i:e∈b.edges) (r:b.Rc e.t) (f:e.val≠0) (hm:b.modes[e.t]?=some m):(e.ob=true->m=0->b.Rc e.key)/\(m<2->m=0∨e.ob=false∨b.Rc e.key->b.Rc e.val):=
 ⟨fun a d S c=>(c.2 e i (r S c) f m hm).1 a d,fun a d S c=>(c.2 e i (r S c) f m hm).2 a (d.imp id (Or.imp id (fun q=>q S c)))⟩
structure Pb (b:Bk) (h:Hp):Prop where
 dk:∀ n,h.M5 n=false->b.Rc n
 gr:∀ n∈h.grey,b.Rc n
 ag:∀ n∈h.again,b.Rc n
 ep:∀ n∈h.G8,b.Rc n
theorem Pb.col {b:Bk} {h:Hp} {n:Nat} (x:Pb b h) (r:b.Rc n) (c:Nat):Pb b (h.upd n fun o=>{ o with col:=c }):=
 ⟨fun m e=>by
  rw [Hp.KT] at e;split at e
  ·rename_i z;subst z;exact r
  ·exact x.dk m e,x.gr,x.ag,x.ep⟩
theorem Pb.Hr {b:Bk} {h:Hp} {n:Nat} (x:Pb b h) (r:b.Rc n):Pb b (h.Hr n):=by
 have y:=x.col r 2;refine ⟨y.dk,fun m hm=>?_,y.ag,y.ep⟩;rcases eT.1 (show m∈h.grey++[n] from hm) with c|c
 ·exact x.gr m c
 ·simp at c;subst c;exact r
theorem Pb.mark {b:Bk} {h:Hp} {n:Nat} (x:Pb b h) (r:b.Rc n):Pb b (h.mark n):=by
 rcases h.mark_eq n with e|⟨_,_,e⟩
 ·rw [e];exact x
 ·rw [e];exact x.Hr r
theorem Pb.Ib {b:Bk} {h:Hp} {v:HV} (x:Pb b h) (r:∀ k∈bQ v,b.Rc k):Pb b (h.Ib v):=by
 unfold Hp.Ib;split
 ·exact x.mark (r _ (by simp [bQ]))
 ·exact x
theorem Pb.Hu {b:Bk}:∀ (l:List Nat) (h:Hp),Pb b h->(∀ n∈l,b.Rc n)->Pb b (h.Hu l)
 | [],h,x,_=>x
 |a::l,h,x,r=>Pb.Hu l _ (x.mark (r a (List.mem_cons_self))) (fun n hn=>r n (List.mem_cons_of_mem _ hn))
theorem Pb.both {b:Bk}:∀ (l:List En) (h:Hp),Pb b h->(∀ e∈l,e.2.isSome=true->∀ r∈dw e,b.Rc r)->Pb b (l.foldl Hp.H_ h)
 | [],h,x,_=>x
 |a::l,h,x,r=>by
  refine Pb.both l _ ?_ (fun e he=>r e (List.mem_cons_of_mem _ he));have ra:=r a (List.mem_cons_self);unfold Hp.H_ Hp.key1;cases hs:a.2 with
  |none=>exact x
  |some v=>
   have c:=ra (by rw [hs];rfl);rw [<-hs];refine Pb.Ib ?_ (fun k hk=>c k (List.mem_append_right _ hk));rw [if_pos (by rw [hs];rfl)];exact x.Ib (fun k hk=>c k (List.mem_append_left _ hk))
theorem Pb.Ja {b:Bk}:∀ (l:List En) (p:Hp × Bool),Pb b p.1->(∀ e∈l,e.2.isSome=true->∀ g,Pb b g->g.MO e.1=false->∀ r∈bQ e.2,b.Rc r)->Pb b (l.foldl Hp.Hl p).1
 | [],p,x,_=>x
 |a::l,p,x,r=>by
  refine Pb.Ja l _ ?_ (fun e he=>r e (List.mem_cons_of_mem _ he));unfold Hp.Hl;split
  ·rename_i c
   simp at c;refine x.Ib (fun k hk=>r a (List.mem_cons_self) ?_ p.1 x c.1 k hk);obtain ⟨q,h1,_⟩:=ow c.2;rw [h1];rfl
  ·exact x
theorem Sx.held {b:Bk} (s:Sx b h) (ho:h.ob n=some o) (r:b.Rc n) (u:e∈o.es) (t:e.2.isSome=true):
 (o.mode=0->∀ k∈dw e,b.Rc k)/\(o.mode=1->∀ g,Pb b g->g.MO e.1=false->∀ k∈bQ e.2,b.Rc k):=by
 obtain ⟨x,hx,w,j,i,v⟩:=s.c n o ho e u t;obtain ⟨hm,_⟩:=s.m n o ho;subst w;obtain ⟨p,f⟩:=Bk.Rc.edge hx r i hm;have a:∀ k∈bQ e.2,k=x.val:=fun k hk=>by
  rw [<-v,gH i] at hk
  simpa [bQ] using hk
 have d:∀ k∈bQ e.1,x.ob=true/\k=x.key:=fun k hk=>by
  rw [<-j] at hk;unfold Ed.k at hk;split at hk
  ·rename_i c;exact ⟨c,by simpa [bQ] using hk⟩
  ·simp [bQ] at hk
 constructor
 ·intro A k hk
  rcases eT.1 (show k∈bQ e.1++bQ e.2 from hk) with c|c
  ·obtain ⟨y,rfl⟩:=d k c
   exact p y (by omega)
  ·rw [a k c]
   exact f (by omega) (.inl (by omega))
 ·intro z g l q k hk
  rw [a k hk];refine f (by omega) (.inr ?_);cases hob:x.ob with
  |false=>exact .inl rfl
  |true=>
   refine .inr (l.dk _ (jh q x.key ?_));rw [<-j];simp [Ed.k,hob,bQ]
theorem Sx.spread {b:Bk} {h:Hp} (s:Sx b h) (x:Pb b h) {n:Nat} (r:b.Rc n) (hm:∀ o,h.ob n=some o->o.mode=1):Pb b (h.spread (h.Jj n)).1:=by
 refine Pb.Ja _ (h,false) x (fun e he hs=>?_);unfold Hp.Jj at he;cases ho:h.ob n with
 |none=>rw [ho] at he;simp at he
 |some o=>
  rw [ho] at he;exact (s.held ho r (by simpa using he) hs).2 (hm o ho)
theorem Sx.scan {b:Bk} {h:Hp} (s:Sx b h) (x:Pb b h) {n:Nat} (r:b.Rc n):Pb b (h.scan n).1:=by
 unfold Hp.scan;split
 ·rename_i o ho
  have x1:=x.col r 3;have hd:=fun e he hs=>s.held ho r (e:=e) he hs;have a:=(s.m n o ho).2;generalize (h.upd n fun o=>{ o with col:=3 })=q at x1;show Pb b (q.Ik n o);unfold Hp.Ik;split
  ·rename_i hm
   exact Pb.both _ _ x1 (fun e he hs=>(hd e he hs).1 hm)
  ·split
   ·rename_i hm
    refine Pb.Ja _ (_,false) ⟨x1.dk,x1.gr,x1.ag,fun k hk=>?_⟩ (fun e he hs=>(hd e he hs).2 hm);rcases eT.1 (show k∈q.G8++[n] from hk) with c|c
    ·exact x1.ep k c
    ·simp at c;subst c;exact r
   ·exact ⟨x1.dk,x1.gr,x1.ag,x1.ep⟩
 ·exact x
theorem Sx.take {b:Bk} {h:Hp} (s:Sx b h) (x:Pb b h):Pb b h.take.1:=by
 unfold Hp.take;split
 ·rename_i n a
  refine Sx.scan (h:={ h with grey:=h.grey.dropLast }) ⟨s.c,s.m,s.f⟩ ⟨x.dk,fun k hk=>x.gr k (List.dropLast_subset _ hk),x.ag,x.ep⟩ (x.gr n (List.mem_of_getLast? a))
 ·exact x
theorem Sx.drain {b:Bk} {h:Hp} (s:Sx b h) (x:Pb b h):Pb b h.drain:=
 Hp.Iq (P:=fun h g=>Sx b h->Pb b h->Pb b g) (fun h _ _ x=>x) (fun h g _ k s x=>k (s.MZ (M7.take h)) (s.take x)) h s x
theorem Sx.over {b:Bk} {k:Nat} {p:Hp × Bool} (s:Sx b p.1) (w:fu p.1) (x:Pb b p.1):Pb b (Hp.over k p).1:=by
 have key:∀ (p:Hp × Bool) (j:Nat) (hj:j<p.1.G8.length),Sx b p.1->fu p.1->Pb b p.1->Pb b (p.1.spread (p.1.Jj (p.1.G8[j]))).1:=fun p j hj s w x=>
  s.spread x (x.ep _ (List.getElem_mem hj)) (fun o ho=>(w _ o ho).2 (List.getElem_mem hj))
 exact Hp.Iu (P:=fun _ p q=>Sx b p.1->fu p.1->Pb b p.1->Pb b q.1) (fun k p _ _ _ x=>x)
  (fun k p q hk _ y s w x=>y ((s.MZ (M7.spread _ _)).MZ (M7.drain _)) (w.MQ (Mt.spread _ _)).drain ((s.MZ (M7.spread _ _)).drain (key p k hk s w x)))
  (fun k p q hk _ y s w x=>y (s.MZ (M7.spread _ _)) (w.MQ (Mt.spread _ _)) (key p k hk s w x)) k p s w x
theorem Sx.settle {b:Bk} {h:Hp} (s:Sx b h) (w:fu h) (x:Pb b h):Pb b h.settle:=
 Hp.IV (P:=fun h g=>Sx b h->fu h->Pb b h->Pb b g) (fun h g _ _ y s w x=>y (s.MZ (M7.over 0 (h,false))) (fu.over (p:=(h,false)) w) (Sx.over (p:=(h,false)) s w x)) (fun h _ s w x=>Sx.over (p:=(h,false)) s w x) h.drain (s.MZ (M7.drain h)) w.drain (s.drain x)
theorem Pb.again {b:Bk}:∀ (l:List Nat) (h:Hp),Pb b h->(∀ n∈l,b.Rc n)->Pb b (l.foldl Hp.Hr h)
 | [],h,x,_=>x
 |a::l,h,x,r=>Pb.again l _ (x.Hr (r a (List.mem_cons_self))) (fun n hn=>r n (List.mem_cons_of_mem _ hn))
theorem Sx.MK {b:Bk} {h:Hp} (s:Sx b h) (w:fu h) (x:Pb b h) (hr:∀ n∈h.roots,b.Rc n):Sx b h.MK/\Pb b h.MK:=by
 have f:=M7.alive h;have s1:=s.MZ f;have w1:=w.MQ (Mt.alive h);have x1:Pb b h.alive:=Pb.Hu _ _ (Pb.Hu _ _ x hr) (fun n hn=>by
  rw [s.fin.2] at hn;simp at hn)
 have s2:=s1.MZ (M7.drain _);have a:=s1.drain x1;have c:Sx b h.alive.drain.He:=(s2.MZ (M7.fold _ M7.Hr h.alive.drain.again h.alive.drain)).of (kJ.same (fun n o e=>⟨o,e,rfl⟩)) (fun n o e=>⟨o,e,rfl⟩) rfl;have d:Pb b h.alive.drain.He:=by
  have y:=Pb.again h.alive.drain.again _ a a.ag;exact ⟨y.dk,y.gr,fun n hn=>(by simp [Hp.He] at hn),y.ep⟩
 exact ⟨c.MZ (M7.settle _),c.settle w1.drain.He d⟩
theorem Sx.at2 {b:Bk} {h:Hp} (s:Sx b h) (x:Pb b h):Sx b h.at2/\Pb b h.at2:=by
 have c:=Np.fold bU bZ h.weak h;have s1:Sx b (h.weak.foldl Hp.MN h):=s.cnt c;have x1:Pb b (h.weak.foldl Hp.MN h):=⟨fun n e=>x.dk n (by rw [<-c.M5];exact e),fun n hn=>x.gr n (c.grey ▸ hn),fun n hn=>x.ag n (c.again ▸ hn),fun n hn=>x.ep n (c.G8 ▸ hn)⟩
 show Sx b (h.weak.foldl Hp.MN h).Hw/\Pb b (h.weak.foldl Hp.MN h).Hw;generalize h.weak.foldl Hp.MN h=q at s1 x1;obtain ⟨m,l,r,j,i,_,_,_,p,a⟩:=q.IE;refine ⟨s1.of (uL q) (fun n o' e=>?_) ?_,fun n e=>x1.dk n (by rw [<-q.Kl];exact e),fun n hn=>x1.gr n (j ▸ hn),fun n hn=>x1.ag n (i ▸ hn),fun n hn=>x1.ep n (a ▸ hn)⟩
 ·obtain ⟨o,f,d,_⟩:=oD q n o' e
  exact ⟨o,f,d⟩
 ·rw [m,l,s1.fin.1,s1.fin.2];rfl
theorem Sx.atomic {b:Bk} (s:Sx b h) (i:Inv h) (w:fu h) (d:h.state=1) (x:Pb b h) (hr:∀ n∈h.roots,b.Rc n) (ok:h.atomic.Ok k):b.Rc k:=by
 obtain ⟨s1,x1⟩:=s.MK w x hr;obtain ⟨s2,c⟩:=s1.at2 x1;have a:Pb b h.MK.at2.at3:=by
  have e:h.MK.at2.at3=h.MK.at2.settle:=by unfold Hp.at3;rw [s2.fin.2];rfl
  rw [e];exact s2.settle w.MK.at2 c
 refine a.dk k ?_;cases hw:h.MK.at2.at3.M5 k with
 |false=>rfl
 |true=>exact (tq i d hw ok).elim
end
section
variable {b:Bk} {c k:Nat}
theorem NG {h:Hp} (i:Inv h) (a:h.state=2):h.Hg.state≠1:=by
 have d:h.skipped.G_.skipped.state=2:=((i.skipped a).G_ a).2.1;show h.skipped.G_.skipped.close.state≠1;unfold Hp.close;split
 ·omega
 ·exact (by decide:(0:Nat)≠1)
def Ny (h:Hp):Prop:=h.state=1->h.mu<=h.live
theorem Ny.begin {h:Hp} (g:Gd h):Ny h.begin:=fun _=>by
 have m:=M7.alive h.Ii;have e:h.begin.mu=h.Ii.mu:=(Hp.OY _ _).trans (Hp.OY _ _);have d:h.Ii.mu=h.wn:=rfl;have a:=OX h;rw [<-g.n.2] at a;rw [e,d,show h.begin.live=h.Ii.live from m.live];exact a
theorem Ny.O8 {h:Hp} (m:Ny h) (g:Gd h) (a:h.state≠0):Ny h.advance.1:=fun h1=>by
 unfold Hp.advance at h1 ⊢;split
 ·rename_i c
  rw [if_pos c] at h1;exact (NG g.i c h1).elim
 ·rename_i c
  rw [if_neg c] at h1;have:=g.i.st;split
  ·rename_i d
   rw [if_pos d] at h1;exact absurd (show (2:Nat)=1 from h1) (by decide)
  ·rename_i d
   have f:=h.IX d;have e:=m (by omega);rw [(M7.take h).live];omega
theorem Ny.work {u:Int} {h:Hp} (m:Ny h) (g:Gd h):Ny (Hp.work u h):=Hp.IC (P:=fun _ h q=>Gd h->Ny h->Ny q) (fun u h _ _ m=>m) (fun u h q _ hs x g m=>x (g.advance hs) (m.O8 g hs)) u h g m
theorem Ny.step {u:Int} {h:Hp} (m:Ny h) (g:Gd h):Ny (Hp.step u h):=by
 unfold Hp.step;split
 ·rename_i a;exact (Ny.begin g).work (g.begin a)
 ·exact m.work g
theorem Ny.finish {h:Hp} (m:Ny h) (g:Gd h):Ny h.finish:=Hp.IQ (P:=fun h q=>Gd h->Ny h->Ny q) (fun h _ _ m=>m) (fun h q _ hs x g m=>x (g.advance hs) (m.O8 g hs)) h g.i g m
theorem Ny.full {h:Hp} (g:Gd h):Ny h.full:=(Ny.begin g.finish).finish (g.finish.begin g.i.finish.2)
theorem Ny.I6 {h:Hp} (m:Ny h) (g:Gd h):Ny h.I6:=by
 have cr:∀ (h:Hp) (c:Nat),Ny h->Ny { h with G6:=c }:=fun h c m=>m;unfold Hp.I6;split
 ·split
  ·exact m
  ·exact (cr h 0 m).step (g.JB 0 (by omega))
 ·exact Hp.I4 (P:=fun h q=>Gd h->Ny h->Ny q) (fun h _ _ m=>m) (fun h q _ _ x g m=>by
   have a:=g.JB (h.G6-256) (by have:=g.s.cr;omega);exact x a.step ((cr h _ m).step a)) h g m
structure Pd (b:Bk) (h:Hp):Prop where
 g:Gd h
 w:fu h
 s:Sx b h
 u:Ny h
theorem Pd.by {b:Bk} {h q:Hp} (c:Pd b h) (x:iE h q) (y:Cl h q) (u:Ny q):Pd b q:=by
 obtain ⟨e,d,a⟩:=x c.g c.w;exact ⟨d,a,c.s.of y.es e.md y.fp,u⟩
theorem Pd.O8 {b:Bk} {h:Hp} (c:Pd b h) (a:h.state≠0):Pd b h.advance.1:=c.by (iE.advance a) (c.g.Lh a) (c.u.O8 c.g a)
theorem Pd.begin {b:Bk} {h:Hp} (c:Pd b h) (a:h.state=0):Pd b h.begin:=c.by (iE.begin a) (c.g.KA a) (Ny.begin c.g)
def O9 (b:Bk) (h:Hp):Prop:=(h.state=1->Pb b h)/\(h.state≠1->∀ n,h.Ok n->b.Rc n)
theorem O9.O8 {h:Hp} (m:O9 b h) (c:Pd b h) (hr:∀ n∈h.roots,b.Rc n) (f:h.state≠0):O9 b h.advance.1:=by
 unfold Hp.advance;split
 ·rename_i d
  exact ⟨fun e=>(NG c.g.i d e).elim,fun _ n ok=>m.2 (by omega) n ((Cs.Hg c.g.i d).ok n ok)⟩
 ·have:=c.g.i.st
  have a:h.state=1:=by omega
  split
  ·exact ⟨fun e=>absurd (show (2:Nat)=1 from e) (by decide),fun _ n ok=>c.s.atomic c.g.i c.w a (m.1 a) hr ok⟩
  ·exact ⟨fun _=>c.s.take (m.1 a),fun e=>(e (((M7.take h).state).trans a)).elim⟩
theorem O9.begin {b:Bk} {h:Hp} (c:Pd b h) (f:h.state=0) (hr:∀ n∈h.roots,b.Rc n):O9 b h.begin:=by
 obtain ⟨_,s1⟩:=c.g.i.begin f;refine ⟨fun _=>?_,fun e=>(e s1).elim⟩;have x0:Pb b h.Ii:=by
  refine ⟨fun n e=>?_,fun n hn=>(by simp [Hp.Ii] at hn),fun n hn=>(by simp [Hp.Ii] at hn),fun n hn=>(by simp [Hp.Ii] at hn)⟩;have d:h.M5 n=false:=e;unfold Hp.M5 at d;split at d
  ·rename_i o ho
   have l:=c.g.i.s0 f n o ho;have j:=c.g.i.w1;have:o.col=0∨o.col=1:=by omega
   rcases this with q|q<;>rw [q] at d<;>cases d
  ·cases d
 refine Pb.Hu _ _ (Pb.Hu _ _ x0 hr) (fun n hn=>?_);have a:n∈h.pending:=hn;rw [c.s.fin.2] at a;simp at a
theorem Pd.fin {h:Hp} (c:Pd b h) (hr:∀ n∈h.roots,b.Rc n):Pd b h.finish/\(O9 b h->O9 b h.finish)/\h.finish.roots=h.roots:=
 Hp.IQ (P:=fun h q=>Pd b h->(∀ n∈h.roots,b.Rc n)->Pd b q/\(O9 b h->O9 b q)/\q.roots=h.roots) (fun h _ c _=>⟨c,id,rfl⟩) (fun h q _ hs x c hr=>by
  have rt:=(c.g.Lh hs).rt;obtain ⟨e,d,a⟩:=x (c.O8 hs) (by rw [rt];exact hr);exact ⟨e,fun m=>d (m.O8 c hr hs),a.trans rt⟩) h c.g.i c hr
theorem Pd.O4 {u:Int} {h:Hp} (c:Pd b h) (hr:∀ n∈h.roots,b.Rc n):Pd b (Hp.work u h)/\(O9 b h->O9 b (Hp.work u h)):=
 Hp.IC (P:=fun _ h q=>Pd b h->(∀ n∈h.roots,b.Rc n)->Pd b q/\(O9 b h->O9 b q)) (fun u h _ c _=>⟨c,id⟩) (fun u h q _ hs x c hr=>by
  obtain ⟨d,a⟩:=x (c.O8 hs) (by rw [(c.g.Lh hs).rt];exact hr);exact ⟨d,fun m=>a (m.O8 c hr hs)⟩) u h c hr
theorem Pd.full {b:Bk} {h:Hp} (c:Pd b h) (hr:∀ n∈h.roots,b.Rc n):Pd b h.full/\h.full.state=0/\∀ n,h.full.Lv n->b.Rc n:=by
 obtain ⟨d,_,e⟩:=c.fin hr;have s1:=c.g.i.finish.2;have f:=d.begin s1;have j:h.finish.begin.roots=h.roots:=(d.g.KA s1).rt.trans e;obtain ⟨p,o,_⟩:=f.fin (by rw [j];exact hr);have a:=f.g.i.finish.2;have m:=o (O9.begin d s1 (by rw [e];exact hr));exact ⟨p,a,fun n l=>m.2 (by rw [a];decide) n (Hp.Kq (by rw [a];decide) l)⟩
def Hp.O5 (c:Nat) (h:Hp):Nat:=if h.state=0 then 0 else if h.state=2 then h.objs.length-h.G9+1 else h.mu*c+h.objs.length+2
theorem OH {h:Hp} (i:Inv h) (e:h.state≠0) (m:∀ n o,h.ob n=some o->o.es.length+1<=c) (p:1<=c):h.advance.1.O5 c+h.advance.2<=h.O5 c:=by
 have j:=i.st;unfold Hp.advance;split
 ·rename_i a
  have v:=NG i a;have u:=Hp.JV h a;have t:h.O5 c=h.phi:=by unfold Hp.O5 Hp.phi;rw [if_neg e,if_neg e,if_pos a,if_pos a]
  have s:h.Hg.O5 c=h.Hg.phi:=by
   have:=(i.Hg a).st;unfold Hp.O5 Hp.phi;split
   ·rfl
   ·rw [if_pos (by omega),if_pos (by omega)]
  show h.Hg.O5 c+1<=_;omega
 ·have d:h.state=1:=by omega
  have hp:h.O5 c=h.mu*c+h.objs.length+2:=by unfold Hp.O5;rw [if_neg e,if_neg (by omega)]
  split
  ·obtain ⟨_,s2,g,f⟩:=i.atomic d
   have:h.atomic.O5 c=h.objs.length-1+1:=by unfold Hp.O5;rw [if_neg (by omega),if_pos s2,g,f]
   have:=i.ps;show h.atomic.O5 c+1<=_;omega
  ·rename_i l
   have hm:=h.IX l;have st:=(M7.take h).state;have r:h.take.1.O5 c=h.take.1.mu*c+h.objs.length+2:=by unfold Hp.O5;rw [if_neg (by omega),if_neg (by omega),(M7.take h).len]
   have q:h.take.2<=c:=by
    unfold Hp.take;split
    ·unfold Hp.scan
     split
     ·rename_i o ho
      have:=m _ o ho;show 1+o.es.length<=c;omega
     ·exact p
    ·exact Nat.zero_le _
   have:=Nat.mul_le_mul_right c hm;rw [Nat.add_mul] at this;omega
theorem Ow (m:1<=c) (u:Int) (h:Hp) (g:Gd h) (a:∀ n o,h.ob n=some o->o.es.length+1<=c) (d:(h.O5 c:Int)<=u):(Hp.work u h).state=0:=
 Hp.IC (P:=fun u h q=>Gd h->(∀ n o,h.ob n=some o->o.es.length+1<=c)->(h.O5 c:Int)<=u->q.state=0) (fun u h hn g a d=>by
  rcases Nat.eq_zero_or_pos h.state with z|z
  ·exact z
  ·have:1<=h.O5 c:=by
    unfold Hp.O5;rw [if_neg (by omega)];split<;>omega
   exact (hn ⟨by omega,by omega⟩).elim) (fun u h q _ hs x g a d=>x (g.advance hs) (fun n o e=>by
    obtain ⟨f,l,j,_⟩:=(g.Lh hs).es n o e;rw [<-j];exact a n f l) (by have:=OH g.i hs a m;omega)) u h g a d
theorem NY:∀ (l:List (Option Nat)) (n k:Nat),l[n]?=some (some k)->40*gZ on l+40*k<=gZ wt l
 | [],n,k,h=>by simp at h
 |a::l,0,k,h=>by
  simp at h;subst h;have key:∀ l:List (Option Nat),40*gZ on l<=gZ wt l:=by
   intro l
   induction l with
   |nil=>simp [gZ]
   |cons a l ih=>cases a<;>simp [gZ,on,wt] at ih ⊢<;>omega
  have:=key l;simp [gZ,on,wt] at this ⊢;omega
 |a::l,n+1,k,h=>by
  have:=NY l n k (by simpa using h);cases a<;>simp [gZ,on,wt] at this ⊢<;>omega
theorem OE (a d:Nat):4*(a*d)<=(a+d)*(a+d):=by
 rcases Nat.le_total a d with h|h
 ·obtain ⟨e,rfl⟩:=Nat.le.dest h
  have:=Nat.mul_comm e a;simp only [Nat.mul_add,Nat.add_mul];omega
 ·obtain ⟨e,rfl⟩:=Nat.le.dest h
  have:=Nat.mul_comm e d;simp only [Nat.mul_add,Nat.add_mul];omega
theorem NR {u:Int} {h:Hp} (g:Gd h) (m:Ny h) (b:Bd k h) (hk:k<=1602) (q:999999<=u):(Hp.work u h).state=0:=by
 have hb:=b.Nn;have r:=b.len;by_cases p:h.live<=k
 ·have d:∀ n o,h.ob n=some o->o.es.length+1<=k+1-h.live:=fun n o e=>by
   have j:=NY (cu h) n o.es.length (by rw [iw,if_pos (Hp.Ia e),e];rfl);rw [<-g.n.1,<-g.n.2] at j;omega
  refine Ow (c:=k+1-h.live) (by omega) u h g d ?_;unfold Hp.O5;split
  ·omega
  ·split
   ·omega
   ·have:=g.i.st
    have hm:=m (by omega);have t:=Nat.mul_le_mul_right (k+1-h.live) hm;have f:=OE h.live (k+1-h.live);rw [show h.live+(k+1-h.live)=k+1 by omega] at f;have s:=Nat.mul_le_mul (show k+1<=1603 by omega) (show k+1<=1603 by omega);omega
 ·exfalso
  have key:∀ l:List (Option Nat),40*gZ on l<=gZ wt l:=by
   intro l
   induction l with
   |nil=>simp [gZ]
   |cons a l ih=>cases a<;>simp [gZ,on,wt] at ih ⊢<;>omega
  have:=key (cu h);rw [<-g.n.1,<-g.n.2] at this;omega
theorem Pd.O7 {h:Hp} (c:Pd b h) (i:Bd k h) (hk:k<=1602) (hr:∀ n∈h.roots,b.Rc n):Pd b (Hp.step 1000000 h)/\(Hp.step 1000000 h).state=0/\(h.state=0->∀ n,(Hp.step 1000000 h).Lv n->b.Rc n):=by
 unfold Hp.step;split
 ·rename_i a
  have f:=c.begin a;have cl:=c.g.KA a;obtain ⟨o,m⟩:=f.O4 (u:=1000000-1) (by rw [cl.rt];exact hr);have d:=NR (u:=1000000-1) f.g f.u (i.cl cl) hk (by decide);have j:=m (O9.begin c a hr);exact ⟨o,d,fun _ n l=>j.2 (by rw [d];decide) n (Hp.Kq (by rw [d];decide) l)⟩
 ·rename_i a
  exact ⟨(c.O4 hr).1,NR c.g c.u i hk (by decide),fun e=>(a e).elim⟩
end
section
variable {A C kd:Int} {g h:Hp} {gn root:List Bool} {hand k:Nat} {r:Rn}
def Fu (kd A B C:Int) (len:Nat):Prop:=(kd=2->∃ n c:Nat,A=(n:Int)/\C=(c:Int)/\n<len/\c<len)/\(kd=3->∃ n m c:Nat,A=(n:Int)/\B=(m:Int)/\C=(c:Int)/\n<len/\m<len/\c<len)/\(kd=4->∃ n:Nat,A=(n:Int)/\n<len)
structure KH (b':Bk) (h g:Hp) (root':List Bool):Prop where
 b:JM b' g root'
 w:fu g
 nd:g.freed.Nodup
 fr:∀ x∈g.freed,¬ g.Lv x/\x<g.objs.length/\1<=x/\(x<h.objs.length->h.Lv x)
 lv:∀ n,n<h.objs.length->g.Lv n->h.Lv n
theorem KH.cs {b':Bk} {h q g:Hp} {root':List Bool} (y:JM b' q root') (i:Inv q) (j:q.freed=[]) (d:∀ n,n<h.objs.length->q.Lv n->h.Lv n) (c:Cs q g) (w:fu g):KH b' h g root':=by
 obtain ⟨l,b,p,m⟩:=c.fr;rw [j,List.nil_append] at b;refine ⟨y.cs c,w,by rw [b];exact p,fun x hx=>?_,fun n hn l=>d n hn (c.lv l)⟩;rw [b] at hx;obtain ⟨a,f⟩:=m x hx;refine ⟨f,?_,?_,fun hn=>d x hn a⟩
 ·obtain ⟨o,e⟩:=a
  rw [c.len];exact Hp.Ia e
 ·obtain ⟨o,e⟩:=a
  rcases Nat.eq_zero_or_pos x with z|z
  ·subst z;rw [i.zero] at e;cases e
  ·exact z
theorem wZ (x:Jo k h root hand) (a:C=0∨fJ h hand C):∃ c:Nat,C=(c:Int)/\c<h.objs.length:=by
 rcases a with rfl|a
 ·exact ⟨0,rfl,x.g.i.ps⟩
 ·obtain ⟨n,d,_,b,_⟩:=a.ok x
  exact ⟨n,d,b⟩
theorem fu.same (m:fu h) (a:∀ n,(g.ob n).map (fun o=>(o.col,o.mode,o.es))=(h.ob n).map (fun o=>(o.col,o.mode,o.es))) (b:g.weak=h.weak) (d:g.G8=h.G8):fu g:=m.of (fun n o' e=>by
 have:=a n;rw [e] at this;cases e2:h.ob n with
 |none=>rw [e2] at this;simp at this
 |some o=>rw [e2] at this;simp at this;exact ⟨o,rfl,this.2.1⟩) (fun n c=>b ▸ c) (fun n c=>d ▸ c)
theorem fu.put {h:Hp} (m:fu h) {t:Nat} {q v:HV} {o:Ob} (ho:h.ob t=some o):fu (h.put t q v):=by
 obtain ⟨c,es',a,_,_,_,_,_,_,_,_,_,b,d,_⟩:=nk (q:=q) (v:=v) ho;refine m.of (fun n o' e=>?_) (fun n c=>b ▸ c) (fun n c=>d ▸ c);rw [a] at e;split at e
 ·rename_i z;subst z;cases e;exact ⟨o,ho,rfl⟩
 ·exact ⟨o',e,rfl⟩
theorem fu.make {h:Hp} (m:fu h) (g:Gd h) (k:Nat):fu (h.make k):=by
 intro n o e;rw [u7] at e;split at e
 ·rename_i z
  have f:∀ l:List Nat,(∀ x∈l,h.Lv x)->n ∉ l:=fun l hl c=>by
   obtain ⟨o2,p⟩:=hl n c;have:=Hp.Ia p;omega
  by_cases j:h.state=1
  ·have t:=g.i.s1 j
   exact ⟨fun c=>(f h.weak (fun x hx=>t.ll x (.inr (.inr (.inl hx)))) c).elim,fun c=>(f h.G8 (fun x hx=>t.ll x (.inr (.inr (.inr hx)))) c).elim⟩
  ·obtain ⟨_,_,a,b⟩:=g.e j
   exact ⟨fun c=>by have d:n∈h.weak:=c;rw [a] at d;simp at d,fun c=>by have d:n∈h.G8:=c;rw [b] at d;simp at d⟩
 ·exact m n o e
theorem yE (h:Hp) (n m:Nat):((h.IB n).ob m).map (fun o=>(o.col,o.mode,o.es))=(h.ob m).map (fun o=>(o.col,o.mode,o.es)):=by
 show ((h.upd n fun o=>{ o with fin:=true }).ob m).map _=_;rw [Hp.Ho];split
 ·cases h.ob m<;>rfl
 ·rfl
theorem wW (a:∀ n,(g.ob n).map (fun o=>(o.col,o.mode,o.es))=(h.ob n).map (fun o=>(o.col,o.mode,o.es))) (n:Nat) (l:g.Lv n):h.Lv n:=by
 obtain ⟨b,e⟩:=l;have:=a n;rw [e] at this;cases e2:h.ob n with
 |none=>rw [e2] at this;simp at this
 |some o=>exact ⟨o,e2⟩
theorem DT {B:Int} {b:Bk} (x:Jo k h root hand) (hk:k+1<=5000) (f:h.freed=[]) (T:bG h hand kd A B C) (w:fu h) (y:JM b h root) (a:(fF h root kd A B C).code=0):
 KH (b.act kd A B C) h (fF h root kd A B C).h (fF h root kd A B C).root/\Fu kd A B C h.objs.length:=by
 have E:kd≠2->kd≠3->kd≠4->Fu kd A B C h.objs.length:=fun J H W=>⟨fun e=>(J e).elim,fun e=>(H e).elim,fun e=>(W e).elim⟩
 have d:∀ g:Hp,(∀ n,(g.ob n).map (fun o=>(o.col,o.mode,o.es))=(h.ob n).map (fun o=>(o.col,o.mode,o.es)))->g.objs.length=h.objs.length->g.state=h.state->g.white=h.white->g.weak=h.weak->g.G8=h.G8->g.freed=[]->KH b h g root:=by
  intro g V h2 h3 h4 h5 h6 h7;exact ⟨y.same V h2 h3 h4,w.same V h5 h6,by rw [h7];exact List.nodup_nil,fun z hz=>by rw [h7] at hz;simp at hz,fun n _ l=>wW V n l⟩
 have me:KH b h h root:=d h (fun _=>rfl) rfl rfl rfl rfl rfl f;unfold fF at a ⊢;unfold Bk.act;by_cases P:kd=1
 ·subst P
  rw [if_pos rfl] at a ⊢;rw [if_pos rfl];refine ⟨?_,E (by decide) (by decide) (by decide)⟩;split at a
  ·cases a
  ·rename_i hA
   rw [if_neg hA];have hm:A.toNat<=3:=by omega
   have U:((A.toNat:Nat):Int)=A:=by omega
   obtain ⟨g1,b1⟩:=x.g.make x.b hk f hm;have R:(root++[true]).length=root.length+1:=by simp
   have a4:(h.make A.toNat).objs.length=h.objs.length+1:=by show (h.objs++[_]).length=_;simp
   obtain ⟨g2,b2⟩:=g1.Hf b1 hk f (iB x.g.i hm x.l x.o) (by
    have h8:=gU (root++[true]) 0;rw [R,x.l] at h8;have h9:=b1.len;omega)
   have t:=y.make (m:=A.toNat);rw [U] at t;have y2:=t.same (g:=(h.make A.toNat).Hf (dR 0 (root++[true]))) (fun _=>rfl) rfl rfl rfl;have w2:fu ((h.make A.toNat).Hf (dR 0 (root++[true]))):=(w.make x.g A.toNat).same (fun _=>rfl) rfl rfl;obtain ⟨G,_,w3⟩:=iE.I6 ((h.make A.toNat).Hf (dR 0 (root++[true]))) g2 w2;refine KH.cs y2 g2.i f (fun n p l=>?_) G w3;obtain ⟨o,e⟩:=l;have e':(h.make A.toNat).ob n=some o:=e;rw [u7,if_neg (by omega)] at e';exact ⟨o,e'⟩
 rw [if_neg P] at a ⊢;rw [if_neg P];by_cases N:kd=2
 ·subst N
  rw [if_pos rfl] at a ⊢;rw [if_pos rfl];obtain ⟨J,H⟩:=bG.two.1 T;obtain ⟨n,rfl,_,u,p⟩:=J.ok x;obtain ⟨c,rfl,s⟩:=wZ x H;simp only [Int.toNat_natCast];obtain ⟨o,ho,nd⟩:=id p;obtain ⟨t,K⟩:=y.put (y:=⟨n,B,0,c,false⟩) ⟨fun e=>(by cases e),fun _=>rfl⟩ p ⟨x.g.i.ps,s⟩;obtain ⟨_,_,_,_,_,_,_,_,_,_,_,D,_⟩:=nk (q:=some (.inl B)) (v:=cO c) ho;refine ⟨⟨t,w.put ho,by rw [D,f];exact List.nodup_nil,fun z hz=>by rw [D,f] at hz;simp at hz,fun m _ l=>(K m).1 l⟩,fun _=>⟨n,c,rfl,rfl,u,s⟩,fun e=>absurd e (by decide),fun e=>absurd e (by decide)⟩
 rw [if_neg N] at a ⊢;rw [if_neg N];by_cases M:kd=3
 ·subst M
  rw [if_pos rfl] at a ⊢;rw [if_pos rfl];obtain ⟨J,W,H⟩:=bG.three.1 T;obtain ⟨n,rfl,_,u,p⟩:=J.ok x;obtain ⟨m,rfl,a5,F,hm⟩:=W.ok x;obtain ⟨c,rfl,s⟩:=wZ x H;simp only [Int.toNat_natCast];obtain ⟨o,ho,nd⟩:=id p;obtain ⟨t,K⟩:=y.put (y:=⟨n,0,m,c,true⟩) ⟨fun _=>rfl,fun e=>(by cases e)⟩ p ⟨F,s⟩;have S:Ed.k ⟨n,0,m,c,true⟩=cO m:=by rw [gH (by omega)];rfl
  rw [S] at t K;obtain ⟨_,_,_,_,_,_,_,_,_,_,_,D,_⟩:=nk (q:=cO m) (v:=cO c) ho;refine ⟨⟨t,w.put ho,by rw [D,f];exact List.nodup_nil,fun z hz=>by rw [D,f] at hz;simp at hz,fun m _ l=>(K m).1 l⟩,fun e=>absurd e (by decide),fun _=>⟨n,m,c,rfl,rfl,rfl,u,F,s⟩,fun e=>absurd e (by decide)⟩
 rw [if_neg M] at a ⊢;rw [if_neg M];by_cases L:kd=4
 ·subst L
  rw [if_pos rfl] at a ⊢;rw [if_pos rfl];obtain ⟨n,rfl,a0,Q,p⟩:=((bG.four (.inl rfl)).1 T).ok x;simp only [Int.toNat_natCast] at a ⊢;split at a
  ·cases a
  ·rename_i hB
   rw [if_neg hB];have q:=d (h.Hf (dR 0 (dJ root n B))) (fun _=>rfl) rfl rfl rfl rfl rfl f;refine ⟨⟨⟨q.b.ml,by show dJ b.roots n B=_;rw [y.rt],q.b.md,q.b.rg,q.b.nf,q.b.uq,q.b.j⟩,q.w,q.nd,q.fr,q.lv⟩,fun e=>absurd e (by decide),fun e=>absurd e (by decide),fun _=>⟨n,rfl,Q⟩⟩
 rw [if_neg L] at a ⊢;rw [if_neg L];refine ⟨?_,E N M L⟩;by_cases k5:kd=5
 ·subst k5
  rw [if_pos rfl] at a ⊢;split at a
  ·cases a
  ·rename_i p
   rw [if_neg p];exact d _ (yE h _) (fP h _).1 rfl rfl rfl rfl f
 rw [if_neg k5] at a ⊢;by_cases k6:kd=6
 ·subst k6
  rw [if_pos rfl] at a ⊢;split at a
  ·cases a
  ·rename_i p
   rw [if_neg p];obtain ⟨G,_,w3⟩:=iE.step A h x.g w;exact KH.cs y x.g.i f (fun n _ l=>l) G w3
 rw [if_neg k6] at a ⊢;by_cases Z:kd=7
 ·subst Z
  rw [if_pos rfl];obtain ⟨G,_,w3⟩:=iE.full x.g.i x.g w;exact KH.cs y x.g.i f (fun n _ l=>l) G w3
 rw [if_neg Z] at a ⊢;by_cases Y:kd=8
 ·rw [if_pos Y]
  exact d h.pop (fun _=>rfl) rfl rfl rfl rfl rfl f
 rw [if_neg Y] at a ⊢;by_cases X:kd=9
 ·rw [if_pos X]
  exact me
 ·rw [if_neg X] at a
  cases a
theorem BM {B:Int} (a:(fF h root kd A B C).code≠0):(fF h root kd A B C).h=h/\(fF h root kd A B C).root=root:=by
 unfold fF at a ⊢;by_cases m:kd=1
 ·rw [if_pos m] at a ⊢
  split at a
  ·rename_i c;rw [if_pos c];exact ⟨rfl,rfl⟩
  ·exact (a rfl).elim
 rw [if_neg m] at a ⊢;by_cases l:kd=2
 ·rw [if_pos l] at a;exact (a rfl).elim
 rw [if_neg l] at a ⊢;by_cases j:kd=3
 ·rw [if_pos j] at a;exact (a rfl).elim
 rw [if_neg j] at a ⊢;by_cases i:kd=4
 ·rw [if_pos i] at a ⊢
  split at a
  ·rename_i c;rw [if_pos c];exact ⟨rfl,rfl⟩
  ·exact (a rfl).elim
 rw [if_neg i] at a ⊢;by_cases k5:kd=5
 ·rw [if_pos k5] at a ⊢
  split at a
  ·rename_i c;rw [if_pos c];exact ⟨rfl,rfl⟩
  ·exact (a rfl).elim
 rw [if_neg k5] at a ⊢;by_cases f:kd=6
 ·rw [if_pos f] at a ⊢
  split at a
  ·rename_i c;rw [if_pos c];exact ⟨rfl,rfl⟩
  ·exact (a rfl).elim
 rw [if_neg f] at a ⊢;by_cases e:kd=7
 ·rw [if_pos e] at a;exact (a rfl).elim
 rw [if_neg e] at a ⊢;by_cases d:kd=8
 ·rw [if_pos d] at a ⊢
  by_cases hp:h.pending=[]
  ·refine ⟨?_,rfl⟩
   show { h with pending:=h.pending.dropLast }=h;rw [hp];cases h;cases hp;rfl
  ·rw [if_neg hp] at a;exact (a rfl).elim
 rw [if_neg d] at a ⊢;by_cases b:kd=9
 ·rw [if_pos b] at a;exact (a rfl).elim
 rw [if_neg b];exact ⟨rfl,rfl⟩
structure Bs (k:Nat) (b:Bk) (gn:List Bool) (r:Rn):Prop where
 ok:r.Ok k
 wm:fu r.h
 bk:JM b r.h r.root
 gl:gn.length<=b.modes.length
 gd:∀ x,gn[x]?=some true->¬ r.h.Lv x
theorem Bs.new:Bs 0 Bk.new [] ⟨Hp.new,[false],0⟩:=by
 refine ⟨?_,fu.no rfl rfl,⟨rfl,rfl,fun n o e=>?_,fun e he=>(by cases he),fun e he=>(by cases he),List.Pairwise.nil,fun e he=>(by cases he)⟩,Nat.zero_le _,fun x hx=>by cases hx⟩
 ·have a:mg Hp.new:=⟨rfl,rfl⟩
  exact ⟨⟨Inv.new,Sm.of Inv.new a Bd.new (by omega) rfl (by decide),a,fun _=>⟨rfl,rfl,rfl,rfl⟩⟩,Bd.new,rfl,rfl,rfl,.inl rfl⟩
 ·rcases n with _|n
  ·cases e
  ·cases e
theorem CU {B:Int} (a:(cK r kd A B C).1.code≠0):(cK r kd A B C).2.root=r.root/\((cK r kd A B C).2.h=r.h∨(cK r kd A B C).2.h=r.h.forget):=by
 unfold cK at a ⊢;split
 ·rename_i b
  rw [if_pos b] at a;simp only at a ⊢;split
  ·rename_i c
   obtain ⟨e,d⟩:=BM c;exact ⟨d,.inr e⟩
  ·rename_i c
   rw [if_neg c] at a;exact (a rfl).elim
 ·exact ⟨rfl,.inl rfl⟩
theorem Bs.no {b:Bk} (x:Bs k b gn r) (hk:k+1<=5000) {B:Int} (f:(cK r kd A B C).1.code≠0):Bs (k+1) b gn (cK r kd A B C).2:=by
 have ok:=qL x.ok hk kd A B C;have key:=CU f;generalize (cK r kd A B C).2=r' at ok key;obtain ⟨e1,d⟩:=key;have c:∀ n,r'.h.ob n=r.h.ob n:=fun n=>by rcases d with e|e<;>rw [e]<;>rfl
 have hm:∀ n,(r'.h.ob n).map (fun o=>(o.col,o.mode,o.es))=(r.h.ob n).map (fun o=>(o.col,o.mode,o.es)):=fun n=>by rw [c]
 have a:r'.h.objs.length=r.h.objs.length/\r'.h.state=r.h.state/\r'.h.white=r.h.white/\r'.h.weak=r.h.weak/\r'.h.G8=r.h.G8:=by rcases d with e|e<;>rw [e]<;>exact ⟨rfl,rfl,rfl,rfl,rfl⟩
 refine ⟨ok,x.wm.same hm a.2.2.2.1 a.2.2.2.2,?_,x.gl,fun z hz l=>x.gd z hz (wW hm z l)⟩;rw [e1];exact x.bk.same hm a.1 a.2.1 a.2.2.1
theorem Bs.yes {b:Bk} (x:Bs k b gn r) (hk:k+1<=5000) {B:Int} (e:(cK r kd A B C).1.code=0):
 Fu kd A B C r.h.objs.length/\b.modes.length=r.h.objs.length/\b.roots.length=r.h.objs.length/\Bs (k+1) (b.act kd A B C) gn (cK r kd A B C).2/\(cK r kd A B C).1.freed.Nodup/\
  ∀ z∈(cK r kd A B C).1.freed,1<=z/\z<(b.act kd A B C).modes.length/\gn[z]?≠some true/\¬ (b.act kd A B C).Rc z/\¬ (cK r kd A B C).2.h.Lv z:=by
 have ok:=qL x.ok hk kd A B C;have d:b.roots.length=r.h.objs.length:=by rw [x.bk.rt];exact x.ok.l
 have key:Fu kd A B C r.h.objs.length/\KH (b.act kd A B C) r.h (cK r kd A B C).2.h (cK r kd A B C).2.root/\(cK r kd A B C).1.freed=(cK r kd A B C).2.h.freed:=by
  unfold cK at e ⊢;split
  ·rename_i m
   rw [if_pos m] at e;simp only at e ⊢;split at e
   ·rename_i c;exact (c e).elim
   ·rename_i c
    rw [if_neg c];have x1:=x.ok.forget (by omega);obtain ⟨j,G⟩:=DT x1 hk rfl (dP.2 m) (x.wm.same (g:=r.h.forget) (fun _=>rfl) rfl rfl) (x.bk.same (g:=r.h.forget) (fun _=>rfl) rfl rfl rfl) (by simpa using c);exact ⟨G,⟨j.b,j.w,j.nd,j.fr,j.lv⟩,rfl⟩
  ·rename_i m
   rw [if_neg m] at e;cases e
 generalize (cK r kd A B C).2=r' at ok key ⊢;generalize (cK r kd A B C).1.freed=fl at key ⊢;obtain ⟨v,a,rfl⟩:=key;have n:=a.b.ml;have p:b.modes.length<=(b.act kd A B C).modes.length:=by
  unfold Bk.act;split
  ·simp
  ·split
   ·exact au _
   ·split
    ·exact au _
    ·split<;>exact au _
 have f:∀ z,gn[z]?=some true->¬ r'.h.Lv z/\¬ r.h.Lv z/\z<r.h.objs.length:=fun z hz=>by
  have y:z<gn.length:=(aJ.1 hz).1;have:=x.gl;have H:=x.bk.ml;have q:z<r.h.objs.length:=by omega
  exact ⟨fun l=>x.gd z hz (a.lv z q l),x.gd z hz,q⟩
 refine ⟨v,x.bk.ml,d,⟨ok,a.w,a.b,aI x.gl p,fun z hz=>(f z hz).1⟩,a.nd,fun z hz=>?_⟩;obtain ⟨s,F,E,D⟩:=a.fr z hz;refine ⟨E,by rw [n];exact F,fun c=>?_,fun c=>s (Hp.IG (a.b.ok ok.g.i ok.o c)),s⟩;obtain ⟨_,u,t⟩:=f z c;exact u (D t)
end
end Go.Proofs.YtbpcdfbmnklcjaaGreatDoor
namespace Go.Proofs.YtbpcdfbmnklcjaaGreatDoor
open Go Go.RowKit
set_option maxHeartbeats 6400000
set_option maxRecDepth 100000
set_option linter.unusedVariables false
def qN (X:Nat):SM:=⟨X+2,.slice (some ⟨X+1,0,none⟩) 1 1,fun _=>X,fun _=>.slice none 0 0,fun _=>.slice none 0 0,.slice none 0 0⟩
theorem mh (n:Nat):Hp.new.ob n=none:=by
 simp only [Hp.ob,Hp.new];cases n<;>rfl
def mX:Array Value:=#[.int .i64 0,.int .i64 0,.bool true,.int .i64 0,.int .i64 0,.slice none 0 0,.slice none 0 0,.int .i64 0,.int .i64 0,.slice none 0 0,.pointer none,.int .i64 0,.int .i64 0,.int .u64 0,.string { data:=#[] },.int .i64 0,.int .i64 0,.int .i64 0,.int .i64 0,.pointer none,.pointer none,.int .i64 0,.bool false,.pointer none,.pointer none]
def vw (X:Nat):Array Value:=#[.slice (some ⟨X+1,0,none⟩) 1 1,.int .i64 0,.int .i64 0,.int .i64 4096,.int .i64 0,.int .i64 0,.int .i64 0,.slice none 0 0,.slice none 0 0,.slice none 0 0,.slice none 0 0,.slice none 0 0,.slice none 0 0,.slice none 0 0,.int .i64 0,.slice none 0 0,.bool false,.int .i64 64]
theorem BN (w:World):MV w.heap.size (fun b=>w.heap.size<=b) Hp.new (qN w.heap.size) (((w.alloc (.cells mX 101)).alloc (.cells #[.pointer (some ⟨w.heap.size,0,none⟩)] 90)).alloc (.cells (vw w.heap.size) 105)):=by
 have e1:(w.alloc (.cells mX 101)).heap.size=w.heap.size+1:=aG _;have l:((w.alloc (.cells mX 101)).alloc (.cells #[.pointer (some ⟨w.heap.size,0,none⟩)] 90)).heap.size=w.heap.size+2:=by rw [show ((w.alloc (.cells mX 101)).alloc (.cells #[.pointer (some ⟨w.heap.size,0,none⟩)] 90)).heap.size=_ from aG _,e1]
 have r0:=aD.mk' w 101 mX;have q:=heap_alloc_new (w.alloc (.cells mX 101)) (.cells #[.pointer (some ⟨w.heap.size,0,none⟩)] 90);have p:=aD.mk' ((w.alloc (.cells mX 101)).alloc (.cells #[.pointer (some ⟨w.heap.size,0,none⟩)] 90)) 105 (vw w.heap.size);rw [l] at p;rw [e1] at q;have b2:=aU ((w.alloc (.cells mX 101)).alloc (.cells #[.pointer (some ⟨w.heap.size,0,none⟩)] 90)) (.cells (vw w.heap.size) 105);have b1:=aU (w.alloc (.cells mX 101)) (.cells #[.pointer (some ⟨w.heap.size,0,none⟩)] 90);have d:=b1.trans (b2.mono (by rw [e1,l];omega));have h:=r0.low d (by rw [e1];omega);have f:=(b2.block (w.heap.size+1) (by rw [l];omega)).trans q;have a:=d.size;refine ⟨?_,?_,fun n o e=>?_,fun n hn e=>?_,fun n o e=>?_,fun k hk=>?_,⟨rfl,.inl ⟨rfl,rfl⟩⟩,fun n m hn hm e=>?_,fun n m o o' g e=>?_,fun k k' g hk hk' e=>?_,?_,fun n hn=>?_,?_,?_,fun n hn=>?_,fun g e=>?_,fun n o g e=>?_,fun k g hk e=>?_,fun g e=>?_,fun b hb=>?_⟩
 ·exact aD.congr (show aD _ _ _ 18 _ from p) (bV _ rfl rfl rfl rfl rfl rfl rfl rfl rfl rfl rfl rfl rfl rfl rfl rfl rfl rfl)
 ·refine ⟨rfl,.inr ⟨w.heap.size+1,1,_,rfl,by omega,f,by decide,by decide,rfl,rfl⟩⟩
 ·rw [mh] at e;cases e
 ·have i:n=0:=by
   have:n<1:=hn;omega
  subst i;refine ⟨fun j=>mX.getD j (.bool false),0,rfl,aD.congr (show aD _ _ _ 25 _ from h) (fun j hj=>?_)⟩;unfold kY;by_cases x:j=0
  ·subst x;rfl
  by_cases v:j=1
  ·subst v;rfl
  by_cases u:j=2
  ·subst u;rfl
  by_cases t:j=3
  ·subst t;rfl
  by_cases s:j=4
  ·subst s;rfl
  by_cases r:j=5
  ·subst r;rfl
  by_cases c:j=22
  ·subst c;rfl
  simp [x,v,u,t,s,r,c]
 ·rw [mh] at e;cases e
 ·have:g_ Hp.new k=[]:=by rcases hk with rfl|rfl|rfl|rfl|rfl|rfl|rfl<;>rfl
  rw [this];exact ⟨rfl,.inl ⟨rfl,rfl⟩⟩
 ·have z:n<1:=hn
  have y:m<1:=hm;omega
 ·rw [mh] at e;cases e
 ·simp [qN,Value.ownBlock] at e
 ·show w.heap.size<=w.heap.size+2;omega
 ·exact au _
 ·rw [e1] at a;omega
 ·show w.heap.size<=w.heap.size+2;omega
 ·exact au _
 ·simp [qN,Value.ownBlock] at e;omega
 ·rw [mh] at e;cases e
 ·simp [qN,Value.ownBlock] at e
 ·simp [qN,Value.ownBlock] at e
 ·rw [e1] at a;omega
theorem BX (w:World):Calls Tryz.prog 23 #[] w fun e w'=>e=.returned (.pointer (some ⟨w.heap.size+2,0,none⟩))/\MV w.heap.size (fun b=>w.heap.size<=b) Hp.new (qN w.heap.size) w'/\Below w.heap.size w w':=by
 have a:=ah (BN w);have c:=ah (Gw w (.cells mX 101) (.cells #[.pointer (some ⟨w.heap.size,0,none⟩)] 90) (.cells (vw w.heap.size) 105));unfold mX vw at a c;go_enter Tryz.func23,Tryz.ntmps23;go_wp2;go_ret;exact ⟨rfl,a.o,c.o⟩
section
variable {O R j:Nat} {S S':Nat->Prop} {al:List An} {av fv rv rv' v':Value} {fs:List Value} {w' w0 w5 ws:World}
abbrev dA:=Int × Int × Int × Int
noncomputable def qb (p:List An × Rn) (o:dA):List An × Rn:=(p.1++[(cK p.2 o.1 o.2.1 o.2.2.1 o.2.2.2).1],(cK p.2 o.1 o.2.1 o.2.2.1 o.2.2.2).2)
noncomputable def cZ (ops:List dA):List An × Rn:=ops.foldl qb ([],⟨Hp.new,[false],0⟩)
theorem Ba:cZ []=([],⟨Hp.new,[false],0⟩):=rfl
theorem yA (l:List dA) (o:dA):cZ (l++[o])=qb (cZ l) o:=by unfold cZ;rw [List.foldl_append];rfl
theorem fH {l:List dA} {o:dA} (h:l[j]?=some o):cZ (l.take (j+1))=qb (cZ (l.take j)) o:=by
 rw [List.take_add_one,h,Option.toList_some,yA]
theorem Gd.new:Gd Hp.new:=by
 have a:mg Hp.new:=⟨rfl,rfl⟩
 refine ⟨Inv.new,Sm.of Inv.new a Bd.new (by omega) rfl (by decide),a,fun _=>⟨rfl,rfl,rfl,rfl⟩⟩
theorem Rn.Li:Rn.Ok 0 ⟨Hp.new,[false],0⟩:=⟨Gd.new,Bd.new,rfl,rfl,rfl,.inl rfl⟩
theorem jZ (l:List dA):∀ j,j<=l.length->j<=5000->(cZ (l.take j)).2.Ok j/\(cZ (l.take j)).1.length=j
 |0,_,_=>⟨by rw [List.take_zero];exact Rn.Li,by rw [List.take_zero];rfl⟩
 |j+1,h1,h2=>by
  obtain ⟨a,b⟩:=jZ l j (by omega) (by omega);have c:l[j]?=some l[j]:=aN (by omega);rw [fH c];unfold qb;exact ⟨qL a h2 _ _ _ _,by simp [b]⟩
def tY (al:List An) (fs:List Value):List Value:=(al.zip fs).flatMap fun p=>mO p.1 p.2
theorem sU (h:fs.length=al.length) (a:An) (f:Value):tY (al++[a]) (fs++[f])=tY al fs++mO a f:=by
 unfold tY;rw [List.zip_append (by rw [h])];simp
theorem RW.keep {base:Nat} {S:Nat->Prop} {h:Hp} {L:SM} {R hand:Nat} {rv:Value} {root:List Bool} {w w':World} {T:Nat->Prop} (x:RW base S h L R hand rv root w) (k:Keeps w w' T) (c:∀ b,T b->¬ Zs S R rv b):RW base S h L R hand rv root w':=
 ⟨⟨x.x.a.out (k.mono (fun b e y=>c b e (.inl y))),x.x.r.keep k (fun e=>c R e (.inr (.inl rfl))),aj x.x.v k (fun g hg e=>c g e (.inr (.inr hg))),x.x.l,x.x.o⟩,x.nR,x.nb,x.r0⟩
structure HI (w0:World) (R O:Nat) (al:List An) (fs:List Value) (r:Rn) (av:Value) (S:Nat->Prop) (L:SM) (rv:Value) (ws:World):Prop where
 x:RW w0.heap.size S r.h L R r.hand rv r.root ws
 o:aD ws 27 O 2 (fun j=>if j=0 then .int .i64 0 else av)
 a:ws.ownsRow w0.heap.size 36 7 av al.length (tY al fs)
 fl:fs.length=al.length
 f:∀ (i:Nat) (b:An) (f:Value),al[i]?=some b->fs[i]?=some f->ws.ownsRow w0.heap.size 3 1 f b.freed.length (eu b.freed)
 nO:¬ Zs S R rv O
 na:∀ g,av.ownBlock=some g->¬ Zs S R rv g
 nf:∀ f∈fs,∀ g,f.ownBlock=some g->¬ Zs S R rv g
 hb:Below w0.heap.size w0 ws
 bO:w0.heap.size<=O
 bR:w0.heap.size<=R
 bS:∀ b,S b->w0.heap.size<=b
 bv:∀ g,rv.ownBlock=some g->w0.heap.size<=g
theorem HI.zs {r:Rn} {L:SM} (x:HI w0 R O al fs r av S L rv ws):∀ b,Zs S R rv b->w0.heap.size<=b:=by
 rintro b (e|e|e)
 ·exact x.bS b e
 ·rw [e];exact x.bR
 ·exact x.bv b e
theorem HI.low {w0:World} {R O:Nat} {al:List An} {fs:List Value} {r:Rn} {av:Value} {S:Nat->Prop} {L:SM} {rv:Value} {ws ws':World} (x:HI w0 R O al fs r av S L rv ws) (b:Below ws.heap.size ws ws'):HI w0 R O al fs r av S L rv ws':=by
 have k:=Keeps.of b (au _) (fun _=>False);exact ⟨x.x.low b,x.o.keep k (fun y=>y),aj x.a k (fun _ _ y=>y),x.fl,fun i a f h1 h2=>aj (x.f i a f h1 h2) k (fun _ _ y=>y),x.nO,x.na,x.nf,x.hb.trans (b.mono x.hb.size),x.bO,x.bR,x.bS,x.bv⟩
theorem HI.hole {w0:World} {R O:Nat} {al:List An} {fs:List Value} {r:Rn} {av:Value} {S:Nat->Prop} {L:SM} {rv:Value} {ws:World} (x:HI w0 R O al fs r av S L rv ws) (o:Obj):HI w0 R O al fs r av (fun b=>S b/\b≠ws.heap.size) L rv (ws.alloc o):=by
 have y:=x.low (aU ws o);have c:∀ b,Zs (fun b=>S b/\b≠ws.heap.size) R rv b->Zs S R rv b:=by
  rintro b (e|e|e)
  ·exact .inl e.1
  ·exact .inr (.inl e)
  ·exact .inr (.inr e)
 exact ⟨x.x.hole o,y.o,y.a,y.fl,y.f,fun e=>x.nO (c _ e),fun g hg e=>x.na g hg (c _ e),fun f hf g hg e=>x.nf f hf g hg (c _ e),y.hb,y.bO,y.bR,fun b e=>x.bS b e.1,y.bv⟩
theorem HI.one {r r':Rn} {L:SM} (x:HI w0 R O al fs r av S L rv ws) {a:An} {L':SM} 
 (c:w5.ownsRow ws.heap.size 3 1 fv a.freed.length (eu a.freed)) (kk:Keeps ws w5 (Zs S R rv)) (k:RW w0.heap.size S' r'.h L' R r'.hand rv' r'.root w5) (m:∀ b,S' b->S b) (l:∀ g,rv'.ownBlock=some g->rv.ownBlock=some g∨S g) (n:∀ g,fv.ownBlock=some g->¬ S' g):
 HI w0 R O al fs r' av S' L' rv' w5/\w5.ownsRow w0.heap.size 3 1 fv a.freed.length (eu a.freed)/\∀ g,fv.ownBlock=some g->¬ Zs S' R rv' g:=by
 have d:∀ b,Zs S' R rv' b->Zs S R rv b:=by
  rintro b (e|e|e)
  ·exact .inl (m b e)
  ·exact .inr (.inl e)
  ·rcases l b e with y|y
   ·exact .inr (.inr y)
   ·exact .inl y
 refine ⟨⟨k,x.o.keep kk x.nO,aj x.a kk x.na,x.fl,fun i a f h1 h2=>aj (x.f i a f h1 h2) kk (x.nf f (aX h2)),fun e=>x.nO (d _ e),fun g hg e=>x.na g hg (d _ e),fun f c g hg e=>x.nf f c g hg (d _ e),x.hb.trans (kk.below x.hb.size x.zs),x.bO,x.bR,fun b e=>x.bS b (m b e),fun g e=>?_⟩,iq c x.hb.size,fun g hg e=>?_⟩
 ·rcases l g e with y|y
  ·exact x.bv g y
  ·exact x.bS g y
 ·rcases e with e|e|e
  ·exact n g hg e
  ·exact ak c k.x.r (by decide) (e ▸ hg)
  ·exact aV c k.x.v (by decide) e hg
theorem HI.app {r:Rn} {L:SM} (x:HI w0 R O al fs r av S L rv w5) {a:An} (A:w5.ownsRow w0.heap.size 3 1 fv a.freed.length (eu a.freed)) (u:∀ g,fv.ownBlock=some g->¬ Zs S R rv g)
 (m:w'.ownsRow w0.heap.size 36 7 v' (al.length+1) (tY al fs++mO a fv)) (k:Keeps w5 w' (fun b=>av.ownBlock=some b)) (t:∀ g,v'.ownBlock=some g->av.ownBlock=some g∨w5.heap.size<=g):
 aD w' 27 O 2 (fun j=>if j=0 then .int .i64 0 else av)/\HI w0 R O (al++[a]) (fs++[fv]) r v' (fun b=>S b/\v'.ownBlock≠some b) L rv (w'.setCell ⟨O,1,none⟩ v'):=by
 have ho:aD w' 27 O 2 (fun j=>if j=0 then .int .i64 0 else av):=x.o.keep k (fun e=>ak x.a x.o (by decide) e);have z:Keeps w' (w'.setCell ⟨O,1,none⟩ v') (fun b=>b=O):=Keeps.setCell (S:=fun b=>b=O) (Keeps.refl w' _) rfl _;have q:Keeps w5 (w'.setCell ⟨O,1,none⟩ v') (fun b=>av.ownBlock=some b∨b=O):=(k.mono (fun b e=>Or.inl e)).trans (z.mono (fun b e=>Or.inr e));have d:(w'.setCell ⟨O,1,none⟩ v').ownsRow w0.heap.size 36 7 v' (al.length+1) (tY al fs++mO a fv):=aj m z (fun g hg e=>ak m ho (by decide) (e ▸ hg));have w:RW w0.heap.size S r.h L R r.hand rv r.root (w'.setCell ⟨O,1,none⟩ v'):=x.x.keep q (fun b e=>by
  rcases e with e|e
  ·exact x.na b e
  ·rw [e];exact x.nO)
 have n:(al++[a]).length=al.length+1:=by simp
 have s:∀ b,Zs (fun b=>S b/\v'.ownBlock≠some b) R rv b->Zs S R rv b:=by
  rintro b (e|e|e)
  ·exact .inl e.1
  ·exact .inr (.inl e)
  ·exact .inr (.inr e)
 have p:∀ {f:Value} {l:List Nat},w5.ownsRow w0.heap.size 3 1 f l.length (eu l)->(w'.setCell ⟨O,1,none⟩ v').ownsRow w0.heap.size 3 1 f l.length (eu l):=fun h=>aj h q (fun g hg e=>by
  rcases e with e|e
  ·exact aV h x.a (by decide) e hg
  ·exact ak h x.o (by decide) (e ▸ hg))
 refine ⟨ho,w.less v' (fun g hg=>⟨?_,(ay d hg).lt⟩),?_,?_,by simp [x.fl],fun i b f h1 h2=>?_,fun e=>x.nO (s _ e),fun g hg e=>?_,fun f hf' g hg e=>?_,?_,x.bO,x.bR,fun b e=>x.bS b e.1,x.bv⟩
 ·rcases t g hg with y|y
  ·exact x.x.x.a.free (fun e=>x.na g y (.inl e))
  ·exact x.x.x.a.past y
 ·refine (ho.set (j:=1) (by omega) v').congr (fun j hj=>?_)
  have:j=0∨j=1:=by omega
  rcases this with rfl|rfl<;>rfl
 ·rw [n,sU x.fl]
  exact d
 ·by_cases c:i<al.length
  ·rw [dF c] at h1
   rw [dF (by rw [x.fl];exact c)] at h2;exact p (x.f i b f h1 h2)
  ·have hi:i=al.length:=by
    have:=(aJ.1 h1).1;rw [n] at this;omega
   subst hi;simp at h1;rw [<-x.fl] at h2;simp at h2;subst h1;subst h2;exact p A
 ·rcases e with e|e|e
  ·exact e.2 hg
  ·exact ak m (x.x.x.r.keep k (fun e=>ak x.a x.x.x.r (by decide) e)) (by decide) (e ▸ hg)
  ·exact aV m (aj x.x.x.v k (fun g hg e=>aV x.x.x.v x.a (by decide) e hg)) (by decide) e hg
 ·rcases eT.1 hf' with y|y
  ·exact x.nf f y g hg (s _ e)
  ·simp at y
   subst y;exact u g hg (s _ e)
 ·refine x.hb.trans (q.below x.hb.size (fun b e=>?_))
  rcases e with e|e
  ·exact (x.a.lt b e).1
  ·rw [e];exact x.bO
theorem ze:(Tryz.prog.info? 36).map (fun i=>(i.zero,i.size,i.bytes))=some (some (.agg #[.int .i64 0,.int .i64 0,.int .i64 0,.int .i64 0,.int .i64 0,.int .i64 0,.slice none 0 0]),7,72):=by kernel_rfl
end
section
variable {P base i:Nat} {b:Bk} {ev mv rv:Value} {w w':World}
def iL (l:List Int):List Value:=l.map (fun x=>.int .i64 x)
def uF (e:Ed):List Value:=[.int .i64 (e.t:Int),.int .i64 e.num,.int .i64 (e.key:Int),.int .i64 (e.val:Int),.bool e.ob]
def uS (l:List Ed):List Value:=l.flatMap uF
theorem yY (l:List Ed) (e:Ed):uS (l++[e])=uS l++uF e:=by simp [uS]
def Zk (P:Nat) (mv rv ev:Value) (b:Nat):Prop:=b=P∨mv.ownBlock=some b∨rv.ownBlock=some b∨ev.ownBlock=some b
structure Nj (base:Nat) (w:World) (P:Nat) (b:Bk) (mv rv ev:Value):Prop where
 r:aD w 34 P 3 (fun j=>if j=0 then mv else if j=1 then rv else ev)
 m:w.ownsRow base 3 1 mv b.modes.length (iL b.modes)
 o:w.ownsRow base 4 1 rv b.roots.length (iQ b.roots)
 e:w.ownsRow base 80 5 ev b.edges.length (uS b.edges)
 bP:base<=P
theorem Nj.keep {base P:Nat} {w w':World} {b:Bk} {mv rv ev:Value} {S:Nat->Prop} (x:Nj base w P b mv rv ev) (k:Keeps w w' S) (a:∀ g,S g->¬ Zk P mv rv ev g):Nj base w' P b mv rv ev:=
 ⟨x.r.keep k (fun e=>a P e (.inl rfl)),aj x.m k (fun g hg e=>a g e (.inr (.inl hg))),aj x.o k (fun g hg e=>a g e (.inr (.inr (.inl hg)))),aj x.e k (fun g hg e=>a g e (.inr (.inr (.inr hg)))),x.bP⟩
theorem Nj.low (x:Nj base w P b mv rv ev) (k:Below w.heap.size w w'):Nj base w' P b mv rv ev:=x.keep (Keeps.of k (au _) (fun _=>False)) (fun _ e=>e.elim)
theorem Nj.zl (x:Nj base w P b mv rv ev) {g:Nat} (h:Zk P mv rv ev g):base<=g/\g<w.heap.size:=by
 rcases h with rfl|h|h|h
 ·exact ⟨x.bP,x.r.lt⟩
 ·exact ⟨(x.m.lt g h).1,(ay x.m h).lt⟩
 ·exact ⟨(x.o.lt g h).1,(ay x.o h).lt⟩
 ·exact ⟨(x.e.lt g h).1,(ay x.e h).lt⟩
structure Mh (P:Nat) (mv rv ev mv' rv' ev':Value) (w w':World):Prop where
 k:Keeps w w' (Zk P mv rv ev)
 z:∀ g,Zk P mv' rv' ev' g->Zk P mv rv ev g∨w.heap.size<=g
theorem Mh.trans {P:Nat} {mv rv ev mv' rv' ev' mv2 rv2 ev2:Value} {w w' w2:World} (x:Mh P mv rv ev mv' rv' ev' w w') (y:Mh P mv' rv' ev' mv2 rv2 ev2 w' w2):Mh P mv rv ev mv2 rv2 ev2 w w2:=by
 refine ⟨⟨y.k.os.trans x.k.os,y.k.tape.trans x.k.tape,y.k.output.trans x.k.output,aI x.k.size y.k.size,fun b hb hn=>?_⟩,fun g hg=>?_⟩
 ·refine (y.k.block b (aW hb x.k.size) (fun e=>?_)).trans (x.k.block b hb hn)
  rcases x.z b e with c|c
  ·exact hn c
  ·omega
 ·rcases y.z g hg with c|c
  ·exact x.z g c
  ·exact .inr (aI x.k.size c)
theorem Mh.refl (P:Nat) (mv rv ev:Value) (w:World):Mh P mv rv ev mv rv ev w w:=⟨Keeps.refl w _,fun g h=>.inl h⟩
theorem Mh.low (k:Below w.heap.size w w'):Mh P mv rv ev mv rv ev w w':=⟨Keeps.of k (au _) _,fun g h=>.inl h⟩
theorem ED {l:List Ed} {e:Ed} (h:l[i]?=some e):∀ j x,(uF e)[j]?=some x->(uS l)[i*5+j]?=some x:=by
 intro j x d;have c:j<5:=(aJ.1 d).1
 induction l generalizing i with
 |nil=>cases h
 |cons a l ih=>
  rcases i with _|i
  ·obtain rfl:a=e:=by simpa using h
   show (uF a++uS l)[0*5+j]?=_;rw [Nat.zero_mul,Nat.zero_add,dF (show j<(uF a).length from c)];exact d
  ·have h':l[i]?=some e:=h
   show (uF a++uS l)[(i+1)*5+j]?=_;rw [fI (by show 5<=_;omega),show (i+1)*5+j-(uF a).length=i*5+j by show _-5=_;omega];exact ih h'
theorem yX {l:List Ed} {x:Ed} (h:∀ e∈l,e.sm x=false):iC l x=l++[x]:=by
 induction l with
 |nil=>rfl
 |cons a l ih=>
  unfold iC;rw [h a List.mem_cons_self,ih (fun e he=>h e (List.mem_cons_of_mem _ he))];rfl
theorem BO {l:List Ed} {x e:Ed} (hi:l[i]?=some e) (c:e.sm x=true) (h:∀ j y,j<i->l[j]?=some y->y.sm x=false):iC l x=l.set i { e with val:=x.val }:=by
 induction l generalizing i with
 |nil=>cases hi
 |cons a l ih=>
  rcases i with _|i
  ·cases hi
   unfold iC;rw [c];rfl
  ·have d:=h 0 a (by omega) rfl
   unfold iC;rw [d];show a::iC l x=a::l.set i _;rw [ih (show l[i]?=some e from hi) (fun j y hj hy=>h (j+1) y (by omega) hy)]
theorem Cr {l:List Ed} {e:Ed} (h:l[i]?=some e) (v:Nat):(uS l).set (i*5+3) (.int .i64 (v:Int))=uS (l.set i { e with val:=v }):=by
 induction l generalizing i with
 |nil=>cases h
 |cons a l ih=>
  rcases i with _|i
  ·obtain rfl:a=e:=by simpa using h
   show (uF a++uS l).set (0*5+3) _=uF _++uS l;rw [List.set_append_left _ _ (by show _<5;omega)];rfl
  ·show (uF a++uS l).set ((i+1)*5+3) _=uF a++uS (l.set i _)
   rw [List.set_append_right _ _ (by show 5<=_;omega),show (i+1)*5+3-(uF a).length=i*5+3 by show _-5=_;omega,ih (show l[i]?=some e from h)]
end
end Go.Proofs.YtbpcdfbmnklcjaaGreatDoor
namespace Go.Proofs.YtbpcdfbmnklcjaaGreatDoor
open Go.ChangeShapes Go.WideShapes Go.ChangeAt Go Go.RowKit Go.ChangeMaps Go.WideElems Go.Joins Go.Deep
set_option linter.unusedVariables false
section
variable {cap fuel n:Nat}
section
variable {H : Type} {enc : TypeId × Value → H} {P : Program} {w : World} {sp : Nat → Bool} {hd : Bool}
theorem Bn {t e:TypeId} {sz:Nat} {a:Option Addr} {x:DataW H × List MemPlace} (z:P.underlying t=some (.slice e)) (G:P.cellsOf e=sz) (A:0<sz)
 (h:DataW.trod enc P w 0 sp hd fuel t [.slice a n cap]=some x):
 n<=maxLen/\(n=0∨∃ b o m,a=some ⟨b,o,none⟩/\b<w.heap.size/\n<=cap/\∀ i,i<n->∃ cs y,cs.length=sz/\(∀ j,j<sz->w.cell? ⟨b,o+(i*sz+j),none⟩=cs[j]?)/\DataW.trod enc P w 0 sp hd m e cs=some y):=by
 rcases open_slice z h with ⟨d,_⟩|⟨K,len,u,m,q,D,N,d,_,k,F,hm,_,c⟩
 ·simp at d
  obtain ⟨-,rfl,-⟩:=d;exact ⟨Nat.zero_le _,.inl rfl⟩
 ·simp at d
  obtain ⟨rfl,rfl,rfl⟩:=d;refine ⟨by omega,?_⟩;by_cases E:n=0
  ·exact .inl E
  right;have C:n<=m:=by rw [hm];split<;>omega
  obtain ⟨b,o,s⟩:=K;obtain ⟨J,p,_⟩:=c 0 (by omega);obtain ⟨_,M,k0⟩:=World.cells?_some p;have f:=k0 0 (by omega);rw [Nat.zero_mul,aN (by omega)] at f;have B:s=none:=u_ f;subst B;refine ⟨b,o,q,rfl,AZ f,k,fun i hi=>?_⟩;obtain ⟨cs,l,g⟩:=c i (by omega);obtain ⟨_,L,v⟩:=World.cells?_some l;refine ⟨cs,_,by omega,fun j hj=>?_,g⟩;have r:=v j (by omega);rw [rW,rW,G,Nat.add_assoc] at r;exact r
end
end
section
variable {W:World}
theorem qA {H:Type} {enc:TypeId × Value->H} {P:Program} (j:laidOutB P=true) {W W':World} (hb:Below W.heap.size W W'):
 ∀ {ns:List String} {gs:List (DataW H)} {ps:List MemPlace} {sp:Nat->Bool},(∀ n∈ns,∀ g t,P.globalNamed n=some g->(P.globals[g]?).map (·.type)=some t->P.readableRec t=true/\t<P.types.size)->(∀ p∈ps,sp p.block=true)->
   DataW.TrodVars enc P W (fun _=>true) ns gs ps->DataW.TrodVars enc P W' sp ns gs ps
 | [],[],_,_,_,_,h=>h
 | [],_::_,_,_,_,_,h=>h.elim
 |_::_,[],_,_,_,_,h=>h.elim
 |n::ns,d::ds,ps,sp,hv,hp,h=>by
  have hlt:=h.lt;obtain ⟨g,t,l,c,p,q,f,k,a,w,u,e⟩:=h;obtain ⟨i,r⟩:=hv n (List.mem_cons_self) g t f k;subst e;have b:W'.var? P n=some l:=by
   unfold World.var? at a ⊢;rw [f] at a ⊢;simp only [Option.bind_some] at a ⊢;have v:g<W.heap.size:=by
    cases hh:W.heap[g]? with
    |none=>rw [hh] at a;cases a
    |some o=>exact (Array.getElem?_eq_some_iff.1 hh).1
   rw [hb.block g v];exact a
  have s:∀ x∈p,x.block<W.heap.size:=fun x hx=>hlt x (by simp [hx]);refine ⟨g,t,l,c,p,q,f,k,b,?_,qA j hb (fun m hm=>hv m (List.mem_cons_of_mem _ hm)) (fun x hx=>hp x (by simp [hx])) u,rfl⟩;exact DataW.trod_stays (kids_book j i) (book_sized i) (fun h=>by cases h) ⟨r,book_self t⟩ w (fun x hx=>hb.same (s x hx)) (fun x hx=>hp x (by simp [hx]))
theorem rX {H:Type} {enc:TypeId × Value->H} {P:Program} {W:World} {sp:Nat->Bool}:∀ {ns:List String} {gs:List (DataW H)} {ps:List MemPlace},DataW.TrodVars enc P W sp ns gs ps->gs.length=ns.length
 | [],[],_,_=>rfl
 | [],_::_,_,h=>h.elim
 |_::_,[],_,h=>h.elim
 |_::ns,_::ds,_,h=>by
  obtain ⟨g,t,cs,fuel,p,q,h1,h2,h3,h4,hs,e⟩:=h;rw [aY,aY,rX hs]
theorem AV {H:Type} {enc:TypeId × Value->H} {sp:Nat->Bool} {gs:List (DataW H)} {ps:List MemPlace} (h:DataW.TrodVars enc Tryz.prog W sp ["loop.example/g00002/impl.errNumWhole"] gs ps):∃ g1,gs=[g1]:=by
 have:=rX h
 match gs,this with
 | [g1],_=>exact ⟨g1,rfl⟩
theorem Fg:∀ n∈["loop.example/g00002/impl.errNumWhole"],∀ g t,Tryz.prog.globalNamed n=some g->(Tryz.prog.globals[g]?).map (·.type)=some t->Tryz.prog.readableRec t=true/\t<Tryz.prog.types.size:=by
 have key:(["loop.example/g00002/impl.errNumWhole"].all fun n=>match Tryz.prog.globalNamed n with
  |some g=>(match (Tryz.prog.globals[g]?).map (·.type) with |some t=>Tryz.prog.readableRec t&&decide (t<Tryz.prog.types.size)|none=>true)
  |none=>true)=true:=by kernel_rfl
 intro n b g t c a;have:=List.all_eq_true.1 key n b;rw [c] at this;simp only [a,Bool.and_eq_true,decide_eq_true_eq] at this;exact this
end
end Go.Proofs.YtbpcdfbmnklcjaaGreatDoor
