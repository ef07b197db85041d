import Derived.Test.YtbpcdfbmnklcjaaGreatDoorKHM
import Derived.Test.YtbpcdfbmnklcjaaGreatDoorKHS0
import Derived.Deep.LoopGhost
namespace Go.Proofs.YtbpcdfbmnklcjaaGreatDoor
set_option linter.unusedVariables false
section
variable {e:En} {es':List En} {m n:Nat} {o:Ob}
def Hp.Reach (h:Hp) (n:Nat):Prop:=∀ S:Nat->Prop,(∀ r∈h.roots,S r)->(∀ m o e,S m->h.ob m=some o->e∈o.es->e.2.isSome=true->∀ r∈dw e,S r)->S n
theorem Hp.Jq {h:Hp} (i:Inv h) (r:h.Reach n):h.Ok n:=
 r h.Ok (fun r hr=>i.ls r (.inl hr)) (fun m o e hm ho he _ r hr=>by
   obtain ⟨b,a,nd⟩:=hm;rw [ho] at a;cases a;exact i.nc m o ho nd e he r hr)
theorem Hp.JD {h:Hp} (a:n∈h.roots):h.Reach n:=fun S hr _=>hr n a
theorem Hp.Jl {h:Hp} (hm:h.Reach m) (ho:h.ob m=some o) (b:e∈o.es) (a:e.2.isSome=true) {r:Nat} (hr:r∈dw e):h.Reach r:=
 fun S h1 h2=>h2 m o e (hm S h1 h2) ho b a r hr
theorem Inv.same {h g:Hp} (i:Inv h) (p:∀ n,(g.ob n).map (fun o=>(o.col,o.mode,o.es))=(h.ob n).map (fun o=>(o.col,o.mode,o.es))) (w:g.objs.length=h.objs.length) (y:g.grey=h.grey) (C:g.again=h.again) (B:g.weak=h.weak) (A:g.G8=h.G8) (s:g.white=h.white) (q:g.state=h.state) (v:g.G9=h.G9)
 (u:∀ n,n∈g.roots∨n∈g.pending∨n∈g.finals->h.Ok n):Inv g:=by
 have j:∀ n f,g.ob n=some f->∃ o,h.ob n=some o/\f.col=o.col/\f.mode=o.mode/\f.es=o.es:=by
  intro n f e;have:=p n;rw [e] at this;cases e2:h.ob n with
  |none=>rw [e2] at this;simp at this
  |some o=>rw [e2] at this;simp at this;exact ⟨o,rfl,this.1,this.2.1,this.2.2⟩
 have t:∀ n,h.Ok n->g.Ok n:=by
  rintro n ⟨o,e,nd⟩;have:=p n;rw [e] at this;cases e2:g.ob n with
  |none=>rw [e2] at this;simp at this
  |some f=>
   rw [e2] at this;simp at this;exact ⟨f,e2,fun d=>nd ⟨q ▸ d.1,this.1 ▸ d.2.1,by rw [<-this.1,<-s];exact d.2.2⟩⟩
 refine ⟨by rw [s];exact i.w1,by rw [q];exact i.st,?_,by rw [w];exact i.ps,fun n o e=>?_,fun n hn=>t n (u n hn),fun n o e nd en he r hr=>?_,fun hs n o e=>?_,fun hs=>(i.s1 (q ▸ hs)).same p y C B A s,fun hs=>?_⟩
 ·cases e:g.ob 0 with
  |none=>rfl
  |some o=>obtain ⟨f,k,_⟩:=j 0 o e;rw [i.zero] at k;cases k
 ·obtain ⟨f,k,_,l,_⟩:=j n o e;rw [l];exact i.md n f k
 ·obtain ⟨f,k,l,_,z⟩:=j n o e
  exact t r (i.nc n f k (fun d=>nd ⟨q.trans d.1,by rw [l];exact d.2.1,by rw [l,s];exact d.2.2⟩) en (z ▸ he) r hr)
 ·obtain ⟨f,k,l,_⟩:=j n o e;rw [l,s];exact i.s0 (q ▸ hs) n f k
 ·obtain ⟨a,b,c,d,e⟩:=i.s2 (q ▸ hs)
  refine ⟨y.trans a,by rw [v];exact b,by rw [v,w];exact c,fun n o x=>?_,fun n o x hn=>?_⟩
  ·obtain ⟨f,k,l,_⟩:=j n o x;rw [l];exact d n f k
  ·obtain ⟨f,k,l,_⟩:=j n o x;rw [l,s];exact e n f k (v ▸ hn)
theorem Inv.re {h g:Hp} (i:Inv h) (ho:h.ob n=some o) (V:h.Ok n) (hr:∀ e∈es',∀ r∈dw e,h.Ok r)
 (v:∀ m,g.ob m=if n=m then some ⟨if o.col=3/\h.state=1 then 2 else o.col,o.mode,es',o.fin⟩ else h.ob m) (S:g.objs.length=h.objs.length) (Q:g.grey=h.grey) (M:g.again=if o.col=3/\h.state=1 then h.again++[n] else h.again) (U:g.weak=h.weak) (T:g.G8=h.G8) (E:g.white=h.white) (D:g.state=h.state) (L:g.G9=h.G9) (Y:g.roots=h.roots) (X:g.pending=h.pending) (P:g.finals=h.finals):Inv g:=by
 have K:∀ c,c=(if o.col=3/\h.state=1 then 2 else o.col)->fU c=fU o.col/\(c=o.col∨(c=2/\o.col=3/\h.state=1)):=by
  intro c e;subst e;split
  ·rename_i x;exact ⟨by rw [x.1];rfl,.inr ⟨rfl,x⟩⟩
  ·exact ⟨rfl,.inl rfl⟩
 have s:∀ m f,g.ob m=some f->∃ o2,h.ob m=some o2/\fU f.col=fU o2.col/\f.mode=o2.mode/\((m≠n/\f=o2)∨(m=n/\o2=o/\f.es=es'/\(f.col=o.col∨(f.col=2/\o.col=3/\h.state=1)))):=by
  intro m f e;rw [v] at e;split at e
  ·rename_i x
   subst x;simp only [Option.some.injEq] at e;obtain ⟨a,b⟩:=K _ rfl;subst e;exact ⟨o,ho,a,rfl,.inr ⟨rfl,rfl,rfl,b⟩⟩
  ·rename_i x;exact ⟨f,e,rfl,rfl,.inl ⟨fun y=>x y.symm,rfl⟩⟩
 have F:h.state=2->∀ c,c=(if o.col=3/\h.state=1 then 2 else o.col)->c=o.col:=by
  intro B c e;rcases (K c e).2 with x|x
  ·exact x
  ·omega
 have z:∀ m,h.Ok m->g.Ok m:=by
  rintro m ⟨o2,l,nd⟩;unfold Hp.Ok;rw [v];split
  ·rename_i x
   subst x;rw [ho] at l;cases l;refine ⟨_,rfl,fun d=>nd ?_⟩;have B:h.state=2:=D ▸ d.1;have J:=F B _ rfl;have R:=d.2;simp only at R;rw [J,E] at R;exact ⟨B,R⟩
  ·exact ⟨o2,l,fun d=>nd ⟨D ▸ d.1,d.2.1,E ▸ d.2.2⟩⟩
 have W:∀ m,g.M5 m=h.M5 m:=by
  intro m;unfold Hp.M5;rw [v];by_cases x:n=m
  ·subst x
   rw [if_pos rfl,ho];exact (K _ rfl).1
  ·rw [if_neg x]
 have C:∀ m,h.Lv m->g.Lv m:=by
  rintro m ⟨o2,l⟩;unfold Hp.Lv;rw [v];split
  ·exact ⟨_,rfl⟩
  ·exact ⟨o2,l⟩
 refine ⟨by rw [E];exact i.w1,by rw [D];exact i.st,?_,by rw [S];exact i.ps,fun m f e=>?_,fun m hm=>z m (i.ls m (by rw [Y,X,P] at hm;exact hm)),fun m f e nd en he r hrr=>?_,fun B m f e=>?_,fun B=>?_,fun B=>?_⟩
 ·rw [v]
  split
  ·rename_i x;subst x;rw [i.zero] at ho;cases ho
  ·exact i.zero
 ·obtain ⟨o2,l,_,N,_⟩:=s m f e;rw [N];exact i.md m o2 l
 ·obtain ⟨o2,l,A,_,j⟩:=s m f e
  rcases j with ⟨_,rfl⟩|⟨rfl,rfl,q,p⟩
  ·exact z r (i.nc m f l (fun d=>nd ⟨D.trans d.1,d.2.1,by rw [E];exact d.2.2⟩) en he r hrr)
  ·exact z r (hr en (q ▸ he) r hrr)
 ·have u:h.state=0:=D ▸ B
  obtain ⟨o2,l,A,_,j⟩:=s m f e;rw [E];rcases j with ⟨_,rfl⟩|⟨rfl,rfl,q,p⟩
  ·exact i.s0 u m f l
  ·rcases p with x|x
   ·rw [x];exact i.s0 u m o2 l
   ·omega
 ·have u:h.state=1:=D ▸ B
  have t:=i.s1 u;have G:∀ m∈h.again,m∈g.again:=by
   intro m hm;rw [M];split
   ·exact List.mem_append_left _ hm
   ·exact hm
  refine ⟨fun m f e=>?_,fun m f e k=>?_,fun m f e k hS=>?_,fun m f e w=>?_,fun m hm=>?_,fun m f e en he r hrr=>?_⟩
  ·obtain ⟨o2,l,A,_,j⟩:=s m f e
   have:=t.col m o2 l;rcases j with ⟨_,rfl⟩|⟨rfl,rfl,q,p⟩
   ·exact this
   ·omega
  ·obtain ⟨o2,l,A,_,j⟩:=s m f e
   rw [Q];rcases j with ⟨_,rfl⟩|⟨rfl,rfl,q,p⟩
   ·exact (t.M6 m f l k).imp id (G m)
   ·rcases p with x|x
    ·exact (t.M6 m o2 l (x ▸ k)).imp id (G m)
    ·right
     rw [M,if_pos ⟨x.2.1,u⟩];simp
  ·obtain ⟨o2,l,A,_,j⟩:=s m f e
   rcases j with ⟨_,rfl⟩|⟨rfl,rfl,q,p⟩
   ·exact (t.blk m f l k hS).mono rfl rfl (fun r x=>by rw [W] at x;exact x) (fun r x=>by rw [T];exact x) (fun r x=>by rw [U];exact x)
   ·have hx:=v m
    rw [if_pos rfl,e] at hx;simp only [Option.some.injEq] at hx;rcases p with x|x
    ·rw [hx] at k
     simp only at k;split at k
     ·omega
     ·rename_i y;exact absurd ⟨k,u⟩ y
    ·omega
  ·obtain ⟨o2,l,A,_,j⟩:=s m f e
   rw [E];rcases j with ⟨_,rfl⟩|⟨rfl,rfl,q,p⟩
   ·exact t.wc m f l w
   ·rcases p with x|x
    ·rw [x];exact t.wc m o2 l (A ▸ w)
    ·rw [x.1] at w;cases w
  ·rw [Q,M,U,T] at hm
   refine C m ?_;rcases hm with x|x|x|x
   ·exact t.ll m (.inl x)
   ·split at x
    ·rcases eT.1 x with y|y
     ·exact t.ll m (.inr (.inl y))
     ·simp at y;subst y;exact ⟨o,ho⟩
    ·exact t.ll m (.inr (.inl x))
   ·exact t.ll m (.inr (.inr (.inl x)))
   ·exact t.ll m (.inr (.inr (.inr x)))
  ·obtain ⟨o2,l,A,_,j⟩:=s m f e
   rcases j with ⟨_,rfl⟩|⟨rfl,rfl,q,p⟩
   ·exact C r (t.cl m f l en he r hrr)
   ·exact C r (Hp.IG (hr en (q ▸ he) r hrr))
 ·have u:h.state=2:=D ▸ B
  obtain ⟨a,b,c,d,e⟩:=i.s2 u;refine ⟨Q.trans a,by rw [L];exact b,by rw [L,S];exact c,fun m f x=>?_,fun m f x hn=>?_⟩
  ·obtain ⟨o2,l,A,_,j⟩:=s m f x
   have:=d m o2 l;rcases j with ⟨_,rfl⟩|⟨rfl,rfl,q,p⟩<;>omega
  ·obtain ⟨o2,l,A,_,j⟩:=s m f x
   rw [E];have H:=e m o2 l (L ▸ hn);rcases j with ⟨_,rfl⟩|⟨rfl,rfl,q,p⟩
   ·exact H
   ·rcases p with y|y
    ·rw [y];exact H
    ·omega
end
section
variable {e:En} {es es':List En} {n:Nat} {o:Ob}
def Hp.back (h:Hp) (n:Nat):Hp:=match h.ob n with
 |some o=>if o.col=3/\h.state=1 then { h.upd n (fun o=>{ o with col:=2 }) with again:=h.again++[n] } else h
 |none=>h
def aZ (es:List En):Nat:=(es.filter fun e=>e.2.isNone).length
def aS (es:List En):List En:=if es.length<16∨2*aZ es<=es.length then es else es.filter fun e=>e.2.isSome
def kG (es:List En) (k:HV):Option Nat:=es.findIdx? (fun e=>e.1==k)
def Hp.putAt (h:Hp) (n i:Nat) (v:HV):Hp:=(h.upd n fun o=>{ o with es:=o.es.modify i fun e=>(e.1,v) }).back n
def Hp.Ic (h:Hp) (n:Nat) (o:Ob) (k v:HV):Hp:=
 Hp.back { h.upd n (fun o=>{ o with es:=aS o.es++[(k,v)] }) with bytes:=h.bytes-40*(o.es.length-(aS o.es).length)+40,G6:=h.G6+40 } n
def Hp.put (h:Hp) (n:Nat) (k v:HV):Hp:=match h.ob n with
 |none=>h
 |some o=>match kG o.es k with
  |some i=>h.putAt n i v
  |none=>if v.isNone then h else h.Ic n o k v
theorem Hp.IY (h:Hp) (x:Option Ob) (m:Nat):Hp.ob { h with objs:=h.objs++[x] } m=if m=h.objs.length then x else h.ob m:=by
 simp only [Hp.ob];rcases Nat.lt_trichotomy m h.objs.length with c|c|c
 ·rw [dF c,if_neg (by omega)]
 ·subst c
  simp
 ·rw [if_neg (by omega),aM (by simp;omega),aM (by omega)]
theorem Hp.JF {h g:Hp} (ho:h.ob n=some o) (a:∀ m,g.ob m=if n=m then some { o with es:=es' } else h.ob m) (b:g.state=h.state):
 (∀ m,(g.back n).ob m=if n=m then some ⟨if o.col=3/\h.state=1 then 2 else o.col,o.mode,es',o.fin⟩ else h.ob m)/\(g.back n).again=(if o.col=3/\h.state=1 then g.again++[n] else g.again):=by
 have d:g.ob n=some { o with es:=es' }:=by rw [a,if_pos rfl]
 unfold Hp.back;rw [d];simp only [b];by_cases c:o.col=3/\h.state=1
 ·rw [if_pos c,if_pos c,if_pos c]
  refine ⟨fun m=>?_,rfl⟩;show (g.upd n fun o=>{ o with col:=2 }).ob m=_;rw [Hp.Ho,a];by_cases x:n=m
  ·subst x;simp
  ·simp [x]
 ·rw [if_neg c,if_neg c,if_neg c]
  exact ⟨a,rfl⟩
theorem Hp.Ig (g:Hp) (n:Nat):(g.back n).objs.length=g.objs.length/\(g.back n).grey=g.grey/\(g.back n).weak=g.weak/\(g.back n).G8=g.G8/\(g.back n).white=g.white/\(g.back n).state=g.state/\(g.back n).G9=g.G9/\(g.back n).roots=g.roots/\(g.back n).pending=g.pending/\(g.back n).finals=g.finals/\(g.back n).bytes=g.bytes/\(g.back n).G6=g.G6/\(g.back n).live=g.live/\(g.back n).limit=g.limit/\(g.back n).freed=g.freed:=by
 unfold Hp.back;split
 ·split
  ·exact ⟨by simp [Hp.upd],rfl,rfl,rfl,rfl,rfl,rfl,rfl,rfl,rfl,rfl,rfl,rfl,rfl,rfl⟩
  ·exact ⟨rfl,rfl,rfl,rfl,rfl,rfl,rfl,rfl,rfl,rfl,rfl,rfl,rfl,rfl,rfl⟩
 ·exact ⟨rfl,rfl,rfl,rfl,rfl,rfl,rfl,rfl,rfl,rfl,rfl,rfl,rfl,rfl,rfl⟩
theorem iT (h:e∈aS es):e∈es:=by
 unfold aS at h;split at h
 ·exact h
 ·exact (List.mem_filter.1 h).1
theorem Inv.putAt {h:Hp} (i:Inv h) {n j:Nat} {o:Ob} {v:HV} (ho:h.ob n=some o) (b:h.Ok n) (w:∀ r∈bQ v,h.Ok r):Inv (h.putAt n j v):=by
 have z:∀ m,(h.upd n fun o=>{ o with es:=o.es.modify j fun e=>(e.1,v) }).ob m=if n=m then some { o with es:=o.es.modify j fun e=>(e.1,v) } else h.ob m:=by
  intro m;rw [Hp.Ho];by_cases x:n=m
  ·subst x;rw [if_pos rfl,if_pos rfl,ho];rfl
  ·rw [if_neg x,if_neg x]
 obtain ⟨B,A⟩:=Hp.JF ho z rfl;obtain ⟨u,t,s,p,k5,l,k,g,f,c,_⟩:=Hp.Ig (h.upd n fun o=>{ o with es:=o.es.modify j fun e=>(e.1,v) }) n;obtain ⟨C,d,nd⟩:=id b;rw [ho] at d;cases d;refine i.re ho b (fun e he r hr=>?_) B (u.trans (h.Hz n _)) t A s p k5 l k g f c;rw [List.mem_iff_getElem?] at he;obtain ⟨q,a⟩:=he;rw [List.getElem?_modify] at a;cases hb:o.es[q]? with
 |none=>rw [hb] at a;simp at a
 |some e0=>
  rw [hb] at a;have hm:e0∈o.es:=aX hb;by_cases x:j=q
  ·simp [x] at a
   subst a;rcases eT.1 hr with y|y
   ·exact i.nc n o ho nd e0 hm r (List.mem_append_left _ y)
   ·exact w r y
  ·simp [x] at a
   subst a;exact i.nc n o ho nd e0 hm r hr
theorem Inv.Ic {h:Hp} (i:Inv h) {n:Nat} {o:Ob} {k v:HV} (ho:h.ob n=some o) (a:h.Ok n) (hk:∀ r∈bQ k,h.Ok r) (t:∀ r∈bQ v,h.Ok r):Inv (h.Ic n o k v):=by
 have u:∀ m,Hp.ob { h.upd n (fun o=>{ o with es:=aS o.es++[(k,v)] }) with bytes:=h.bytes-40*(o.es.length-(aS o.es).length)+40,G6:=h.G6+40 } m=if n=m then some { o with es:=aS o.es++[(k,v)] } else h.ob m:=by
  intro m;show (h.upd n fun o=>{ o with es:=aS o.es++[(k,v)] }).ob m=_;rw [Hp.Ho];by_cases x:n=m
  ·subst x;rw [if_pos rfl,if_pos rfl,ho];rfl
  ·rw [if_neg x,if_neg x]
 obtain ⟨z,w⟩:=Hp.JF ho u rfl;obtain ⟨s,q,p,l,k5,j,g,f,d,b,_⟩:=Hp.Ig { h.upd n (fun o=>{ o with es:=aS o.es++[(k,v)] }) with bytes:=h.bytes-40*(o.es.length-(aS o.es).length)+40,G6:=h.G6+40 } n;obtain ⟨A,c,nd⟩:=id a;rw [ho] at c;cases c;refine i.re ho a (fun e he r hr=>?_) z (s.trans (h.Hz n _)) q w p l k5 j g f d b;rcases eT.1 he with x|x
 ·exact i.nc n o ho nd e (iT x) r hr
 ·simp at x
  subst x;rcases eT.1 hr with y|y
  ·exact hk r y
  ·exact t r y
theorem Inv.put {h:Hp} (i:Inv h) {n:Nat} {k v:HV} (a:h.Ok n) (hk:∀ r∈bQ k,h.Ok r) (b:∀ r∈bQ v,h.Ok r):Inv (h.put n k v):=by
 unfold Hp.put;split
 ·exact i
 ·rename_i o ho
  split
  ·exact i.putAt ho a b
  ·split
   ·exact i
   ·exact i.Ic ho a hk b
theorem Inv.make {h:Hp} (i:Inv h) {m:Nat} (hm:m<=3):Inv (h.make m)/\(h.make m).Ok h.objs.length:=by
 have g:∀ n,(h.make m).ob n=if n=h.objs.length then some ⟨h.white,m,[],false⟩ else h.ob n:=fun n=>h.IY _ n
 have q:=i.w1;have hx:h.ob h.objs.length=none:=by simp [Hp.ob]
 have j:∀ n,h.Ok n->(h.make m).Ok n:=by
  rintro n ⟨o,e,nd⟩;refine ⟨o,?_,nd⟩;rw [g,if_neg (by intro c;subst c;rw [hx] at e;cases e)];exact e
 have l:∀ n,h.Lv n->(h.make m).Lv n:=by
  rintro n ⟨o,e⟩;refine ⟨o,?_⟩;rw [g,if_neg (by intro c;subst c;rw [hx] at e;cases e)];exact e
 have f:∀ n o,(h.make m).ob n=some o->(n=h.objs.length/\o=⟨h.white,m,[],false⟩)∨h.ob n=some o:=by
  intro n o e;rw [g] at e;split at e
  ·rename_i c;simp at e;exact .inl ⟨c,e.symm⟩
  ·exact .inr e
 have p:∀ n,(h.make m).M5 n=h.M5 n:=by
  intro n;unfold Hp.M5;rw [g];by_cases c:n=h.objs.length
  ·subst c
   rw [if_pos rfl,hx];show fU h.white=true;rcases (by omega:h.white=0∨h.white=1) with z|z<;>rw [z]<;>rfl
  ·rw [if_neg c]
 refine ⟨⟨i.w1,i.st,?_,?_,fun n o e=>?_,fun n hn=>j n (i.ls n hn),fun n o e nd en he r hr=>?_,fun hs n o e=>?_,fun hs=>?_,fun hs=>?_⟩,?_⟩
 ·rw [g,if_neg (by have:=i.ps;omega)]
  exact i.zero
 ·show 1<=(h.objs++[_]).length
  simp
 ·rcases f n o e with ⟨_,rfl⟩|x
  ·exact hm
  ·exact i.md n o x
 ·rcases f n o e with ⟨_,rfl⟩|x
  ·simp at he
  ·exact j r (i.nc n o x nd en he r hr)
 ·rcases f n o e with ⟨_,rfl⟩|x
  ·rfl
  ·exact i.s0 hs n o x
 ·have t:=i.s1 hs
  refine ⟨fun n o e=>?_,fun n o e k=>?_,fun n o e k hS=>?_,fun n o e w=>?_,fun n hn=>l n (t.ll n hn),fun n o e en he r hr=>?_⟩
  ·rcases f n o e with ⟨_,rfl⟩|x
   ·show h.white<=3
    omega
   ·exact t.col n o x
  ·rcases f n o e with ⟨_,rfl⟩|x
   ·have:h.white=2:=k
    omega
   ·exact t.M6 n o x k
  ·rcases f n o e with ⟨_,rfl⟩|x
   ·have:h.white=3:=k
    omega
   ·exact (t.blk n o x k hS).mono rfl rfl (fun r y=>by rw [p] at y;exact y) (fun _ y=>y) (fun _ y=>y)
  ·rcases f n o e with ⟨_,rfl⟩|x
   ·rfl
   ·exact t.wc n o x w
  ·rcases f n o e with ⟨_,rfl⟩|x
   ·simp at he
   ·exact l r (t.cl n o x en he r hr)
 ·obtain ⟨a,b,c,d,e⟩:=i.s2 hs
  refine ⟨a,b,?_,fun n o x=>?_,fun n o x hn=>?_⟩
  ·show h.G9<=(h.objs++[_]).length
   simp;omega
  ·rcases f n o x with ⟨_,rfl⟩|y
   ·show h.white<=3
    omega
   ·exact d n o y
  ·rcases f n o x with ⟨_,rfl⟩|y
   ·rfl
   ·exact e n o y hn
 ·refine ⟨⟨h.white,m,[],false⟩,?_,fun d=>d.2.2 rfl⟩
  rw [g,if_pos rfl]
def Hp.Hf (h:Hp) (l:List Nat):Hp:={ h with roots:=l }
theorem Inv.Hf {h:Hp} (i:Inv h) {l:List Nat} (a:∀ n∈l,h.Ok n):Inv (h.Hf l):=
 i.same (fun _=>rfl) rfl rfl rfl rfl rfl rfl rfl rfl (fun n hn=>by
  rcases hn with x|x|x
  ·exact a n x
  ·exact i.ls n (.inr (.inl x))
  ·exact i.ls n (.inr (.inr x)))
def Hp.IB (h:Hp) (n:Nat):Hp:={ h.upd n (fun o=>{ o with fin:=true }) with finals:=h.finals++[n] }
theorem Inv.IB {h:Hp} (i:Inv h) {n:Nat} (a:h.Ok n):Inv (h.IB n):=by
 refine i.same (fun m=>?_) (h.Hz n _) rfl rfl rfl rfl rfl rfl rfl (fun m hm=>?_)
 ·show ((h.upd n fun o=>{ o with fin:=true }).ob m).map _=_
  rw [Hp.Ho];split
  ·cases h.ob m<;>rfl
  ·rfl
 ·rcases hm with x|x|x
  ·exact i.ls m (.inl x)
  ·exact i.ls m (.inr (.inl x))
  ·have b:m∈h.finals++[n]:=x
   rcases eT.1 b with y|y
   ·exact i.ls m (.inr (.inr y))
   ·simp at y;subst y;exact a
def Hp.pop (h:Hp):Hp:={ h with pending:=h.pending.dropLast }
theorem Inv.pop {h:Hp} (i:Inv h):Inv h.pop:=i.same (fun _=>rfl) rfl rfl rfl rfl rfl rfl rfl rfl (fun n hn=>by
 rcases hn with x|x|x
 ·exact i.ls n (.inl x)
 ·exact i.ls n (.inr (.inl (List.dropLast_subset _ x)))
 ·exact i.ls n (.inr (.inr x)))
def Hp.forget (h:Hp):Hp:={ h with freed:=[] }
theorem Inv.forget {h:Hp} (i:Inv h):Inv h.forget:=i.same (fun _=>rfl) rfl rfl rfl rfl rfl rfl rfl rfl (fun n hn=>i.ls n hn)
theorem Inv.new:Inv Hp.new:=by
 have a:∀ n,Hp.new.ob n=none:=by
  intro n;simp only [Hp.ob,Hp.new];cases n<;>rfl
 refine ⟨by decide,by decide,a 0,by decide,fun n o e=>?_,fun n hn=>?_,fun n o e=>?_,fun _ n o e=>?_,fun hs=>?_,fun hs=>?_⟩
 ·rw [a] at e;cases e
 ·simp [Hp.new] at hn
 ·rw [a] at e;cases e
 ·rw [a] at e;cases e
 ·cases hs
 ·cases hs
end
section
variable {n:Nat} {o:Ob}
def cu (h:Hp):List (Option Nat):=h.objs.map (Option.map fun o=>o.es.length)
def gZ (f:Option Nat->Nat) (l:List (Option Nat)):Nat:=(l.map f).sum
def wt:Option Nat->Nat
 |some k=>40+40*k
 |none=>0
def on:Option Nat->Nat
 |some _=>1
 |none=>0
theorem jU (f:Option Nat->Nat):∀ (l:List (Option Nat)) (n:Nat) (x y:Option Nat),l[n]?=some y->gZ f (l.set n x)+f y=gZ f l+f x
 | [],n,x,y,h=>by simp at h
 |a::l,0,x,y,h=>by simp at h;subst h;simp [gZ];omega
 |a::l,n+1,x,y,h=>by
  have:=jU f l n x y (by simpa using h);simp [gZ] at this ⊢;omega
theorem sj (f:Option Nat->Nat) (l:List (Option Nat)) (x:Option Nat):gZ f (l++[x])=gZ f l+f x:=by simp [gZ]
theorem qY (f:Option Nat->Nat):∀ (l:List (Option Nat)) (n:Nat) (y:Option Nat),l[n]?=some y->f y<=gZ f l
 | [],n,y,h=>by simp at h
 |a::l,0,y,h=>by simp at h;subst h;simp [gZ]
 |a::l,n+1,y,h=>by
  have:=qY f l n y (by simpa using h);simp [gZ] at this ⊢;omega
theorem DK:∀ l:List (Option Nat),gZ on l<=l.length
 | []=>by simp [gZ]
 |a::l=>by
  have:=DK l;cases a<;>simp [gZ,on] at this ⊢<;>omega
theorem iw (h:Hp) (n:Nat):(cu h)[n]?=if n<h.objs.length then some ((h.ob n).map fun o=>o.es.length) else none:=by
 unfold cu;rw [fC];split
 ·rename_i c
  have:h.ob n=h.objs[n]:=by simp [Hp.ob,c]
  rw [this];simp [c]
 ·rename_i c
  rw [aM (by omega)];rfl
theorem jF {h g:Hp} (a:g.objs.length=h.objs.length) (b:∀ n,(g.ob n).map (fun o=>o.es.length)=(h.ob n).map (fun o=>o.es.length)):cu g=cu h:=by
 refine List.ext_getElem? (fun n=>?_);rw [iw,iw,a,b n]
theorem M7.lens {h g:Hp} (x:M7 h g):Go.Proofs.YtbpcdfbmnklcjaaGreatDoor.cu g=Go.Proofs.YtbpcdfbmnklcjaaGreatDoor.cu h:=by
 refine jF x.len (fun n=>?_);have:=x.cont n;cases e1:g.ob n<;>cases e2:h.ob n<;>simp [e1,e2,Ob.cont] at this ⊢
 rw [this.2.1]
theorem Np.lens {h g:Hp} (x:Np h g):Go.Proofs.YtbpcdfbmnklcjaaGreatDoor.cu g=Go.Proofs.YtbpcdfbmnklcjaaGreatDoor.cu h:=by
 refine jF x.len (fun n=>?_);rcases x.ob n with ⟨b,a⟩|⟨o,e,b,a,_,_,_,c,_,d⟩
 ·rw [b,a]
 ·rw [b,a]
  simp [d]
theorem yF {h g:Hp} (b:g.objs.length=h.objs.length) (a:∀ n,(g.ob n).map (fun o=>(o.col,o.mode,o.es))=(h.ob n).map (fun o=>(o.col,o.mode,o.es))):cu g=cu h:=by
 refine jF b (fun n=>?_);have:=a n;cases e1:g.ob n<;>cases e2:h.ob n<;>simp [e1,e2] at this ⊢
 rw [this.2.2]
theorem uo (h:Hp):cu h.Hw=cu h:=by
 obtain ⟨_,_,_,b,_,a⟩:=dL h.finals (h,[]);exact yF (g:=h.Hw) a b
theorem ug (h:Hp):cu h.atomic=cu h:=by
 have a:=(Np.at4 h.MK.at2.at3).trans (Np.Mi _);show cu h.MK.at2.at3.at4.Mi=_;rw [a.lens,(M7.at3 h.MK.at2).lens];show cu (h.MK.weak.foldl Hp.MN h.MK).Hw=_;rw [uo];exact (Np.fold bU bZ h.MK.weak h.MK).lens.trans (show cu h.MK=cu { h with again:=h.MK.again } from M7.lens (jM.MK h))
def mg (h:Hp):Prop:=h.bytes=gZ wt (cu h)/\h.live=gZ on (cu h)
theorem mg.of {h g:Hp} (x:mg h) (b:cu g=cu h) (hb:g.bytes=h.bytes) (a:g.live=h.live):mg g:=by
 unfold mg;rw [b,hb,a];exact x
theorem mg.free {h:Hp} (x:mg h) (e:h.ob n=some o):o.size<=h.bytes/\1<=h.live/\o.es.length*40<=h.bytes/\h.bytes-o.size=gZ wt ((cu h).set n none)/\h.live-1=gZ on ((cu h).set n none):=by
 have g:=Hp.Ia e;have a:(cu h)[n]?=some (some o.es.length):=by rw [iw,if_pos g,e];rfl
 have f:=jU wt (cu h) n none _ a;have d:=jU on (cu h) n none _ a;have c:=qY wt (cu h) n _ a;have b:=qY on (cu h) n _ a;rw [<-x.1] at f c;rw [<-x.2] at d b;simp only [wt,on] at f d c b;unfold Ob.size;refine ⟨c,b,?_,?_,?_⟩<;>omega
theorem rM (h:Hp) (n:Nat):cu { h with objs:=h.objs.set n none }=(cu h).set n none:=by
 unfold cu;simp [List.map_set]
theorem mg.G_ {h:Hp} (x:mg h):mg h.G_/\h.G_.freed.length+h.G_.live=h.freed.length+h.live/\h.G_.bytes<=h.bytes:=by
 unfold Hp.G_;split
 ·rename_i o ho
  split
  ·obtain ⟨e,d,c,b,a⟩:=x.free ho
   refine ⟨⟨?_,?_⟩,?_,?_⟩
   ·show h.bytes-o.size=gZ wt (cu { h with objs:=h.objs.set h.G9 none })
    rw [rM];exact b
   ·show h.live-1=gZ on (cu { h with objs:=h.objs.set h.G9 none })
    rw [rM];exact a
   ·simp;omega
   ·simp
  ·refine ⟨x.of ?_ rfl rfl,rfl,au _⟩
   refine jF (h.Hz h.G9 _) (fun n=>?_);show ((h.upd h.G9 fun o=>{ o with col:=h.white }).ob n).map _=_;rw [Hp.Ho];split
   ·cases h.ob n<;>rfl
   ·rfl
 ·exact ⟨x,rfl,au _⟩
theorem Ci {h:Hp} (x:mg h) (i:Inv h):h.live+1<=h.objs.length:=by
 have b:(cu h)[0]?=some none:=by rw [iw,if_pos (show 0<h.objs.length from i.ps),i.zero];rfl
 cases e:cu h with
 |nil=>rw [e] at b;simp at b
 |cons a l=>
  rw [e] at b;simp at b;have f:=DK l;have d:(cu h).length=h.objs.length:=by simp [cu]
  have c:=x.2;rw [e,b] at c;rw [e] at d;simp [gZ,on] at c f d;omega
theorem OX (h:Hp):h.wn<=gZ on (cu h):=by
 unfold Hp.wn cu;generalize h.objs=l
 induction l with
 |nil=>simp
 |cons a l ih=>
  rw [List.countP_cons];simp only [gZ,List.map_cons,List.sum_cons] at ih ⊢;have b:(if q8 a=true then 1 else 0)<=on (Option.map (fun o=>o.es.length) a):=by
   cases a with
   |none=>simp [q8]
   |some o=>simp [on];split<;>omega
  omega
structure Sm (h:Hp):Prop where
 len:h.objs.length<=5001
 nu:h.nu+h.again.length<=20000
 fp:h.finals.length+h.pending.length<=5000
 fr:h.freed.length+h.live<=10000
 Nn:h.bytes<=200000
 cr:h.G6<=200000
 lim:h.limit<=404096
 rt:h.roots.length<=5001
 es:∀ n o,h.ob n=some o->o.es.length<=5000
theorem Sm.MZ {h g:Hp} (s:Sm h) (x:M7 h g) (d:g.nu<=h.nu):Sm g:=by
 refine ⟨by rw [x.len];exact s.len,?_,by rw [x.finals,x.pending];exact s.fp,by rw [x.freed,x.live];exact s.fr,by rw [x.bytes];exact s.Nn,by rw [x.G6];exact s.cr,by rw [x.limit];exact s.lim,by rw [x.roots];exact s.rt,fun n o e=>?_⟩
 ·have:=s.nu
  rw [x.again];omega
 ·obtain ⟨a,c,_,b,_⟩:=x.ob e
  rw [<-b];exact s.es n a c
theorem Hp.Ir (h:Hp) (n:Nat):(h.mark n).nu=h.nu:=by
 simp only [Hp.nu,h.KC n,(h.Jt n).1,(h.Jt n).2]
theorem Sm.mark {h:Hp} (s:Sm h) (n:Nat):Sm (h.mark n):=s.MZ (M7.mark h n) (aO (h.Ir n))
theorem Sm.Ib {h:Hp} (s:Sm h) (v:HV):Sm (h.Ib v):=by
 unfold Hp.Ib;split
 ·exact s.mark _
 ·exact s
theorem Sm.foldM {h:Hp} (s:Sm h) {α:Type} (f:Hp->α->Hp) (b:∀ h x,Sm h->Sm (f h x)):∀ (l:List α) (h:Hp),Sm h->Sm (l.foldl f h)
 | [],h,s=>s
 |a::l,h,s=>Sm.foldM s f b l (f h a) (b h a s)
theorem Sm.Hu {h:Hp} (s:Sm h) (l:List Nat):Sm (h.Hu l):=s.foldM Hp.mark (fun h x s=>s.mark x) l h s
theorem Sm.alive {h:Hp} (s:Sm h):Sm h.alive:=(s.Hu _).Hu _
theorem Sm.spread {h:Hp} (s:Sm h) (es:List En):Sm (h.spread es).1:=s.MZ (M7.spread h es) (aO (h.IL es))
theorem Sm.take {h:Hp} (s:Sm h) (a:h.grey≠[]):Sm h.take.1:=s.MZ (M7.take h) (h.JE a)
theorem Sm.drain {h:Hp} (s:Sm h):Sm h.drain:=s.MZ (M7.drain h) h.Jr
theorem Hp.JL (k:Nat) (p:Hp × Bool):(Hp.over k p).1.nu<=p.1.nu:=by
 refine Hp.Iu (P:=fun k p q=>q.1.nu<=p.1.nu) (fun k p _=>au _) ?_ ?_ k p
 ·intro k p q hk a x
  refine aI x (aI (Hp.Jr _) (aO (Hp.IL _ _)))
 ·intro k p q hk a x
  exact aI x (aO (Hp.IL _ _))
theorem Hp.Kg (h:Hp):h.turns.nu<=h.nu:=Hp.IV (P:=fun h g=>g.nu<=h.nu) (fun h g _ _ x=>aI x (Hp.JL 0 (h,false))) (fun h _=>Hp.JL 0 (h,false)) h
theorem Hp.JX (h:Hp):h.settle.nu<=h.nu:=aI (Hp.Kg _) h.Jr
theorem Sm.over {p:Hp × Bool} {k:Nat} (s:Sm p.1):Sm (Hp.over k p).1:=s.MZ (M7.over k p) (Hp.JL k p)
theorem Sm.settle {h:Hp} (s:Sm h):Sm h.settle:=s.MZ (M7.settle h) h.JX
theorem Sm.turns {h:Hp} (s:Sm h):Sm h.turns:=s.MZ (M7.turns h) h.Kg
theorem yJ (h:Hp) (n:Nat):(h.Hr n).nu<=h.nu+1:=by
 have:=h.Kc n 2 rfl;have e:(h.Hr n).wn=(h.upd n fun o=>{ o with col:=2 }).wn:=rfl;show (h.Hr n).wn+(h.grey++[n]).length+h.G8.length+h.weak.length<=h.wn+h.grey.length+h.G8.length+h.weak.length+1;rw [e];simp;omega
theorem nN:∀ (l:List Nat) (h:Hp),(l.foldl Hp.Hr h).nu<=h.nu+l.length
 | [],h=>by simp
 |a::l,h=>by
  have h1:=nN l (h.Hr a);have b:=yJ h a;simp only [List.foldl_cons,aY];omega
theorem rF (h:Hp):h.He.nu<=h.nu+h.again.length:=nN h.again h
theorem Sm.He {h:Hp} (s:Sm h):Sm h.He:=by
 have x:=M7.fold _ M7.Hr h.again h;refine ⟨by rw [show h.He.objs.length=_ from x.len];exact s.len,?_,by rw [show h.He.finals=_ from x.finals,show h.He.pending=_ from x.pending];exact s.fp,by rw [show h.He.freed=_ from x.freed,show h.He.live=_ from x.live];exact s.fr,by rw [show h.He.bytes=_ from x.bytes];exact s.Nn,by rw [show h.He.G6=_ from x.G6];exact s.cr,by rw [show h.He.limit=_ from x.limit];exact s.lim,by rw [show h.He.roots=_ from x.roots];exact s.rt,fun n o e=>?_⟩
 ·have b:=s.nu
  have a:=rF h;have d:h.He.again.length=0:=rfl;omega
 ·obtain ⟨c,b,_,a,_⟩:=x.ob e
  rw [<-a];exact s.es n c b
end
end Go.Proofs.YtbpcdfbmnklcjaaGreatDoor
namespace Go.Proofs.YtbpcdfbmnklcjaaGreatDoor
open Go Go.RowKit
set_option linter.unusedVariables false
section
variable {B B' N T T' base n n' s s' size:Nat} {S:Nat->Prop} {f:Nat->Value} {h h':Hp} {o:Ob} {v v':Value} {w w':World} {xs xs':List Value}
def vk (v:HV):Int:=match v with
 |none=>0
 |some (.inl _)=>2
 |some (.inr _)=>5
def vi (v:HV):Int:=match v with
 |some (.inl z)=>z
 |_=>0
def vr (v:HV):Nat:=match v with
 |some (.inr n)=>n
 |_=>0
abbrev Nu (v:HV):Array Value:=#[.int .i64 (vk v),.int .i64 (vi v),.int .u64 0,.string ByteArray.empty,.int .i64 (vr v)]
abbrev Nw (v u:HV):Array Value:=#[.int .i64 (vk v),.int .i64 (vi v),.int .u64 0,.string ByteArray.empty,.int .i64 (vr v),.int .i64 (vk u),.int .i64 (vi u),.int .u64 0,.string ByteArray.empty,.int .i64 (vr u)]
abbrev NQ (w:World) (X:Nat) (v:HV):Prop:=w.cell? ⟨X,0,none⟩=some (.int .i64 (vk v))/\w.cell? ⟨X,1,none⟩=some (.int .i64 (vi v))/\w.cell? ⟨X,2,none⟩=some (.int .u64 0)/\w.cell? ⟨X,3,none⟩=some (.string ByteArray.empty)/\w.cell? ⟨X,4,none⟩=some (.int .i64 (vr v))
abbrev OV (w:World) (X:Nat) (v:HV):Prop:=w.cell? ⟨X,5,none⟩=some (.int .i64 (vk v))/\w.cell? ⟨X,6,none⟩=some (.int .i64 (vi v))/\w.cell? ⟨X,7,none⟩=some (.int .u64 0)/\w.cell? ⟨X,8,none⟩=some (.string ByteArray.empty)/\w.cell? ⟨X,9,none⟩=some (.int .i64 (vr v))
theorem aD.c5 {g:Nat} (h:aD w T g N f) (a:5<=N:=by omega):w.cell? ⟨g,0,none⟩=some (f 0)/\w.cell? ⟨g,1,none⟩=some (f 1)/\w.cell? ⟨g,2,none⟩=some (f 2)/\w.cell? ⟨g,3,none⟩=some (f 3)/\w.cell? ⟨g,4,none⟩=some (f 4):=⟨h.cell (by omega),h.cell (by omega),h.cell (by omega),h.cell (by omega),h.cell (by omega)⟩
theorem aD.c6 {g:Nat} (h:aD w T g N f) (a:10<=N:=by omega):w.cell? ⟨g,5,none⟩=some (f 5)/\w.cell? ⟨g,6,none⟩=some (f 6)/\w.cell? ⟨g,7,none⟩=some (f 7)/\w.cell? ⟨g,8,none⟩=some (f 8)/\w.cell? ⟨g,9,none⟩=some (f 9):=⟨h.cell (by omega),h.cell (by omega),h.cell (by omega),h.cell (by omega),h.cell (by omega)⟩
def wX (v:HV):List Value:=[.int .i64 (vk v),.int .i64 (vi v),.int .u64 0,.string ByteArray.empty,.int .i64 (vr v)]
def iX (e:En):List Value:=wX e.1++wX e.2
def kr (es:List En):List Value:=es.flatMap iX
def Dx (l:List Nat):List Value:=l.flatMap fun n=>wX (some (.inr n))
theorem lS {α:Type} (f:α->List Value) (s:Nat) (b:∀ x,(f x).length=s):∀ l:List α,(l.flatMap f).length=l.length*s
 | []=>by simp
 |a::l=>by
  rw [List.flatMap_cons,bI,b,lS f s b l,aY,Nat.add_mul];omega
theorem eX {α:Type} (f:α->List Value) (s:Nat) (b:∀ x,(f x).length=s):∀ (l:List α) (i j:Nat) (x:α),l[i]?=some x->j<s->(l.flatMap f)[i*s+j]?=(f x)[j]?
 | [],i,j,x,h,_=>by simp at h
 |a::l,0,j,x,h,hj=>by
  simp at h;subst h;rw [List.flatMap_cons,dF (by rw [b];omega)];simp
 |a::l,i+1,j,x,h,hj=>by
  rw [List.flatMap_cons,fI (by rw [b,Nat.add_mul];omega),b];have e:(i+1)*s+j-s=i*s+j:=by rw [Nat.add_mul];omega
  rw [e];exact eX f s b l i j x (by simpa using h) hj
theorem m_ (es:List En):(kr es).length=es.length*10:=lS iX 10 (fun _=>rfl) es
structure SM where
 H:Nat
 oS:Value
 ob:Nat->Nat
 es:Nat->Value
 li:Nat->Value
 rS:Value
def eO (k:Nat):Prop:=k=7∨k=8∨k=9∨k=10∨k=11∨k=12∨k=15
def g_ (h:Hp) (k:Nat):List Nat:=if k=7 then h.grey else if k=8 then h.again else if k=9 then h.weak else if k=10 then h.G8 else if k=11 then h.finals else if k=12 then h.pending else h.freed
def dD (h:Hp) (k:Nat) (l:List Nat):Hp:=if k=7 then { h with grey:=l } else if k=8 then { h with again:=l } else if k=9 then { h with weak:=l } else if k=10 then { h with G8:=l } else if k=11 then { h with finals:=l } else if k=12 then { h with pending:=l } else { h with freed:=l }
def uE (h:Hp) (L:SM) (k:Nat):Value:=
 if k=0 then L.oS else if k=1 then .int .i64 h.bytes else if k=2 then .int .i64 h.live else if k=3 then .int .i64 h.limit else if k=4 then .int .i64 h.G6 else if k=5 then .int .i64 h.state else if k=6 then .int .i64 h.white
 else if k=13 then L.rS else if k=14 then .int .i64 h.G9 else if k=16 then .bool false else if k=17 then .int .i64 64 else L.li k
def kY (r:Nat->Value) (kd col:Nat) (dd:Bool) (md:Nat) (ev:Value) (fn:Bool) (k:Nat):Value:=
 if k=0 then .int .i64 kd else if k=1 then .int .i64 col else if k=2 then .bool dd else if k=3 then .int .i64 0 else if k=4 then .int .i64 md else if k=5 then ev else if k=22 then .bool fn else r k
def eu (l:List Nat):List Value:=l.map fun (n:Nat)=>Value.int .i64 (n:Int)
structure MV (base:Nat) (S:Nat->Prop) (h:Hp) (L:SM) (w:World):Prop where
 hp:aD w 105 L.H 18 (uE h L)
 oo:w.ownsRow base 90 1 L.oS h.objs.length ((List.range h.objs.length).map fun n=>.pointer (some ⟨L.ob n,0,none⟩))
 ob:∀ n o,h.ob n=some o->∃ r,aD w 101 (L.ob n) 25 (kY r 5 o.col false o.mode (L.es n) o.fin)
 dd:∀ n,n<h.objs.length->h.ob n=none->∃ r c,fU c=true/\aD w 101 (L.ob n) 25 (kY r 0 c true 0 (.slice none 0 0) false)
 en:∀ n o,h.ob n=some o->w.ownsRow base 122 10 (L.es n) o.es.length (kr o.es)
 li:∀ k,eO k->w.ownsRow base 3 1 (L.li k) (g_ h k).length (eu (g_ h k))
 ro:w.ownsRow base 95 5 L.rS h.roots.length (Dx h.roots)
 ij:∀ n m,n<h.objs.length->m<h.objs.length->L.ob n=L.ob m->n=m
 ei:∀ n m o o' g,h.ob n=some o->h.ob m=some o'->(L.es n).ownBlock=some g->(L.es m).ownBlock=some g->n=m
 lj:∀ k k' g,eO k->eO k'->(L.li k).ownBlock=some g->(L.li k').ownBlock=some g->k=k'
 bH:base<=L.H
 bo:∀ n,n<h.objs.length->base<=L.ob n
 bs:base<=w.heap.size
 sH:S L.H
 so:∀ n,n<h.objs.length->S (L.ob n)
 sO:∀ g,L.oS.ownBlock=some g->S g
 se:∀ n o g,h.ob n=some o->(L.es n).ownBlock=some g->S g
 sl:∀ k g,eO k->(L.li k).ownBlock=some g->S g
 sr:∀ g,L.rS.ownBlock=some g->S g
 up:∀ b,w.heap.size<=b->S b
theorem ay {g:Nat} (h:w.ownsRow B T s v n xs) (c:v.ownBlock=some g):aD w T g (n*s) (fun j=>xs.getD j (.bool false)):=by
 obtain ⟨k,⟨rfl,l⟩|⟨d,b,a,rfl,hb,i,hr⟩⟩:=h
 ·simp [Value.ownBlock] at c
 ·have e:d=g:=by simpa [Value.ownBlock] using c
  subst e;exact mF ⟨k,.inr ⟨d,b,a,rfl,hb,i,hr⟩⟩
theorem ak {g:Nat} (h:w.ownsRow B T s v n xs) (h':aD w T' g N f) (a:T≠T'):v.ownBlock≠some g:=fun e=>(ay h e).apart h' a rfl
theorem aV {g:Nat} (h:w.ownsRow B T s v n xs) (h':w.ownsRow B' T' s' v' n' xs') (a:T≠T') (e:v'.ownBlock=some g):v.ownBlock≠some g:=ak h (ay h' e) a
theorem aj {e:Nat} (h:w.ownsRow base e size v n xs) (k:Keeps w w' S) (m:∀ g,v.ownBlock=some g->¬ S g):w'.ownsRow base e size v n xs:=by
 obtain ⟨j,p|⟨g,i,d,rfl,b,a,hr⟩⟩:=h
 ·exact ⟨j,.inl p⟩
 ·have l:g<w.heap.size:=by
   rcases Nat.lt_or_ge g w.heap.size with c|c
   ·exact c
   ·rw [Array.getElem?_eq_none c] at a;cases a
  exact ⟨j,.inr ⟨g,i,d,rfl,b,(k.block g l (m g (by simp [Value.ownBlock]))).trans a,hr⟩⟩
theorem MV.out {L:SM} (a:MV base S h L w) (k:Keeps w w' (fun b=>¬ S b)):MV base S h L w':=by
 refine ⟨a.hp.keep k (fun x=>x a.sH),aj a.oo k (fun g hg x=>x (a.sO g hg)),fun n o e=>?_,fun n hn e=>?_,fun n o e=>aj (a.en n o e) k (fun g hg x=>x (a.se n o g e hg)),fun j hj=>aj (a.li j hj) k (fun g hg x=>x (a.sl j g hj hg)),aj a.ro k (fun g hg x=>x (a.sr g hg)),a.ij,a.ei,a.lj,a.bH,a.bo,aI a.bs k.size,a.sH,a.so,a.sO,a.se,a.sl,a.sr,fun b hb=>a.up b (aI k.size hb)⟩
 ·obtain ⟨r,hr⟩:=a.ob n o e
  exact ⟨r,hr.keep k (fun x=>x (a.so n (Hp.Ia e)))⟩
 ·obtain ⟨r,c,d,hr⟩:=a.dd n hn e
  exact ⟨r,c,d,hr.keep k (fun x=>x (a.so n hn))⟩
theorem MV.low {L:SM} (a:MV base S h L w) (k:Below w.heap.size w w'):MV base S h L w':=a.out (Keeps.of k (au _) _)
theorem MV.alloc {base:Nat} {S:Nat->Prop} {h:Hp} {L:SM} {w:World} (a:MV base S h L w) (o:Obj):MV base S h L (w.alloc o):=a.low (aU w o)
theorem MV.hdr {L:SM} (a:MV base S h L w) (k:Nat) (x:Value) (hk:k<18) (d:h'.objs=h.objs) (q:∀ k,eO k->g_ h' k=g_ h k) (hr:h'.roots=h.roots) (l:∀ i,i<18->(if i=k then x else uE h L i)=uE h' L i):
 MV base S h' L (w.setCell ⟨L.H,k,none⟩ x)/\Keeps w (w.setCell ⟨L.H,k,none⟩ x) S:=by
 have kk:Keeps w (w.setCell ⟨L.H,k,none⟩ x) (fun b=>b=L.H):=Keeps.setCell (S:=fun b=>b=L.H) (Keeps.refl w _) rfl x;have hb:∀ n,h'.ob n=h.ob n:=fun n=>by unfold Hp.ob;rw [d]
 have hH:∀ {T s n:Nat} {v:Value} {xs:List Value},w.ownsRow base T s v n xs->T≠105->∀ g,v.ownBlock=some g->¬ g=L.H:=fun h1 h2 g h3 h4=>ak h1 a.hp h2 (h4 ▸ h3);refine ⟨⟨(a.hp.set hk x).congr l,?_,fun n o e=>?_,fun n hn e=>?_,fun n o e=>?_,fun j hj=>?_,?_,?_,?_,a.lj,a.bH,?_,aI a.bs kk.size,a.sH,?_,a.sO,?_,a.sl,a.sr,fun b hb=>a.up b (aI kk.size hb)⟩,kk.mono (fun b e=>e ▸ a.sH)⟩
 ·rw [d];exact aj a.oo kk (hH a.oo (by decide))
 ·rw [hb] at e
  obtain ⟨r,hr⟩:=a.ob n o e;exact ⟨r,hr.keep kk (fun e=>hr.apart a.hp (by decide) e)⟩
 ·rw [hb] at e
  rw [d] at hn;obtain ⟨r,c,l,hr⟩:=a.dd n hn e;exact ⟨r,c,l,hr.keep kk (fun e=>hr.apart a.hp (by decide) e)⟩
 ·rw [hb] at e;exact aj (a.en n o e) kk (hH (a.en n o e) (by decide))
 ·rw [q j hj];exact aj (a.li j hj) kk (hH (a.li j hj) (by decide))
 ·rw [hr];exact aj a.ro kk (hH a.ro (by decide))
 ·rw [d];exact a.ij
 ·intro n m o p g;rw [hb,hb];exact a.ei n m o p g
 ·rw [d];exact a.bo
 ·rw [d];exact a.so
 ·intro n o g;rw [hb];exact a.se n o g
theorem MV.Mk {L:SM} (a:MV base S h L w) (n:Nat) (k:Nat) (x:Value) (f:Ob->Ob) (hk:k<25) (ho:h.ob n=some o) (E:(f o).mode=o.mode/\(f o).es=o.es)
 (H:∀ r i,(if i=k then x else kY r 5 o.col false o.mode (L.es n) o.fin i)=kY r 5 (f o).col false o.mode (L.es n) (f o).fin i):
 MV base S (h.upd n f) L (w.setCell ⟨L.ob n,k,none⟩ x)/\Keeps w (w.setCell ⟨L.ob n,k,none⟩ x) S:=by
 have kk:Keeps w (w.setCell ⟨L.ob n,k,none⟩ x) (fun b=>b=L.ob n):=Keeps.setCell (S:=fun b=>b=L.ob n) (Keeps.refl w _) rfl x;have u:(h.upd n f).objs.length=h.objs.length:=h.Hz n f;obtain ⟨r0,t⟩:=a.ob n o ho;have z:=Hp.Ia ho;have hH:∀ {T s n':Nat} {v:Value} {xs:List Value},w.ownsRow base T s v n' xs->T≠101->∀ g,v.ownBlock=some g->¬ g=L.ob n:=fun h1 h2 g y C=>ak h1 t h2 (C ▸ y);have p:∀ m l,(h.upd n f).ob m=some l->∃ o2,h.ob m=some o2/\l.es=o2.es/\(m=n->o2=o/\l=f o)/\(m≠n->l=o2):=by
  intro m l e;rw [Hp.Ho] at e;split at e
  ·rename_i c
   subst c;rw [ho] at e;simp at e;subst e;exact ⟨o,ho,E.2,fun _=>⟨rfl,rfl⟩,fun c=>absurd rfl c⟩
  ·rename_i c
   exact ⟨l,e,rfl,fun d=>absurd d.symm c,fun _=>rfl⟩
 refine ⟨⟨a.hp.keep kk (fun e=>a.hp.apart t (by decide) e),?_,fun m l e=>?_,fun m hm e=>?_,fun m l e=>?_,fun j hj=>aj (a.li j hj) kk (hH (a.li j hj) (by decide)),aj a.ro kk (hH a.ro (by decide)),?_,?_,a.lj,a.bH,?_,aI a.bs kk.size,a.sH,?_,a.sO,?_,a.sl,a.sr,fun b hb=>a.up b (aI kk.size hb)⟩,kk.mono (fun b e=>e ▸ a.so n z)⟩
 ·rw [u];exact aj a.oo kk (hH a.oo (by decide))
 ·obtain ⟨o2,q,y,C,J⟩:=p m l e
  by_cases c:m=n
  ·subst c
   obtain ⟨rfl,rfl⟩:=C rfl;refine ⟨r0,?_⟩;rw [E.1];exact (t.set hk x).congr (fun i _=>H r0 i)
  ·obtain rfl:=J c
   obtain ⟨r,hr⟩:=a.ob m l q;exact ⟨r,hr.keep kk (fun e=>c (a.ij m n (Hp.Ia q) z e))⟩
 ·rw [u] at hm
  rw [Hp.Ho] at e;have q:h.ob m=none/\m≠n:=by
   split at e
   ·rename_i c
    subst c;rw [ho] at e;simp at e
   ·rename_i c;exact ⟨e,fun d=>c d.symm⟩
  obtain ⟨r,c,A,hr⟩:=a.dd m hm q.1;exact ⟨r,c,A,hr.keep kk (fun e=>q.2 (a.ij m n hm z e))⟩
 ·obtain ⟨o2,q,y,_⟩:=p m l e
  rw [y];exact aj (a.en m o2 q) kk (hH (a.en m o2 q) (by decide))
 ·rw [u];exact a.ij
 ·intro m D o1 o2 g e1 q
  obtain ⟨p1,q1,_⟩:=p m o1 e1;obtain ⟨G,F,_⟩:=p D o2 q;exact a.ei m D p1 G g q1 F
 ·rw [u];exact a.bo
 ·rw [u];exact a.so
 ·intro m l g e
  obtain ⟨p1,q1,_⟩:=p m l e;exact a.se m p1 g q1
end
section
variable {Q:Exit->Act->World->Prop} {S:Nat->Prop} {ac:Act} {base j k:Nat} {h:Hp} {ops:Array Oper} {rest:List Oper} {w w1 wr:World}
theorem wK (h:Hp) (L:SM) (hk:eO k) (v':Value) (a:List Nat):∀ i,i<18->(if i=k then v' else uE h L i)=uE (dD h k a) { L with li:=fun j=>if j=k then v' else L.li j } i:=by
 intro i hi;have:i=0∨i=1∨i=2∨i=3∨i=4∨i=5∨i=6∨i=7∨i=8∨i=9∨i=10∨i=11∨i=12∨i=13∨i=14∨i=15∨i=16∨i=17:=by omega
 rcases hk with rfl|rfl|rfl|rfl|rfl|rfl|rfl<;>rcases this with rfl|rfl|rfl|rfl|rfl|rfl|rfl|rfl|rfl|rfl|rfl|rfl|rfl|rfl|rfl|rfl|rfl|rfl<;>rfl
theorem rz (h:Hp) (hk:eO k) (b:eO j) (a:List Nat):g_ (dD h k a) j=if j=k then a else g_ h j:=by
 rcases hk with rfl|rfl|rfl|rfl|rfl|rfl|rfl<;>rcases b with rfl|rfl|rfl|rfl|rfl|rfl|rfl<;>rfl
theorem iK (h:Hp) (k:Nat) (a:List Nat):(dD h k a).objs=h.objs/\(dD h k a).roots=h.roots:=by
 unfold dD;split
 ·exact ⟨rfl,rfl⟩
 split
 ·exact ⟨rfl,rfl⟩
 split
 ·exact ⟨rfl,rfl⟩
 split
 ·exact ⟨rfl,rfl⟩
 split
 ·exact ⟨rfl,rfl⟩
 split
 ·exact ⟨rfl,rfl⟩
 ·exact ⟨rfl,rfl⟩
theorem MV.JW {L:SM} (a:MV base S h L w) (k:Nat) (hk:eO k) (kk:Keeps w w1 (fun b=>(L.li k).ownBlock=some b)) (v':Value) (z:List Nat) (hown:w1.ownsRow base 3 1 v' z.length (eu z)) (F:∀ g,v'.ownBlock=some g->(L.li k).ownBlock=some g∨w.heap.size<=g):
 aD w1 105 L.H 18 (uE h L)/\MV base S (dD h k z) { L with li:=fun j=>if j=k then v' else L.li j } (w1.setCell ⟨L.H,k,none⟩ v')/\Keeps w (w1.setCell ⟨L.H,k,none⟩ v') S:=by
 have B:k<18:=by rcases hk with rfl|rfl|rfl|rfl|rfl|rfl|rfl<;>decide
 obtain ⟨ho,G⟩:=iK h k z;have d:∀ n,(dD h k z).ob n=h.ob n:=fun n=>by unfold Hp.ob;rw [ho]
 have t:aD w1 105 L.H 18 (uE h L):=a.hp.keep kk (fun e=>ak (a.li k hk) a.hp (by decide) e);have p:Keeps w (w1.setCell ⟨L.H,k,none⟩ v') (fun b=>(L.li k).ownBlock=some b∨b=L.H):=(kk.mono (fun b e=>Or.inl e)).trans (Keeps.setCell (S:=fun b=>(L.li k).ownBlock=some b∨b=L.H) (Keeps.refl w1 _) (.inr rfl) v');have J:∀ {T s n:Nat} {v:Value} {P:List Value},w.ownsRow base T s v n P->T≠105->T≠3->∀ g,v.ownBlock=some g->¬ ((L.li k).ownBlock=some g∨g=L.H):=by
  intro T s n v P C M K g U i;rcases i with i|i
  ·exact aV C (a.li k hk) K i U
  ·exact ak C a.hp M (i ▸ U)
 have R:∀ {T g N:Nat} {f:Nat->Value},aD w T g N f->T≠105->T≠3->¬ ((L.li k).ownBlock=some g∨g=L.H):=by
  intro T g N f C M K i;rcases i with i|i
  ·exact ak (a.li k hk) C (Ne.symm K) i
  ·exact C.apart a.hp M i
 refine ⟨t,⟨(t.set B v').congr (wK h L hk v' z),?_,fun n o e=>?_,fun n hn e=>?_,fun n o e=>?_,fun j l=>?_,?_,?_,?_,?_,a.bH,?_,aI a.bs p.size,a.sH,?_,a.sO,?_,?_,a.sr,fun b hb=>a.up b (aI p.size hb)⟩,?_⟩
 ·rw [ho];exact aj a.oo p (J a.oo (by decide) (by decide))
 ·rw [d] at e
  obtain ⟨r,hr⟩:=a.ob n o e;exact ⟨r,hr.keep p (R hr (by decide) (by decide))⟩
 ·rw [d] at e
  rw [ho] at hn;obtain ⟨r,c,W,hr⟩:=a.dd n hn e;exact ⟨r,c,W,hr.keep p (R hr (by decide) (by decide))⟩
 ·rw [d] at e;exact aj (a.en n o e) p (J (a.en n o e) (by decide) (by decide))
 ·rw [rz h hk l]
  by_cases c:j=k
  ·simp only [c,if_true]
   exact aj hown (Keeps.setCell (S:=fun b=>b=L.H) (Keeps.refl w1 _) rfl v') (fun g hg e=>ak hown t (by decide) (e ▸ hg))
  ·simp only [c,if_false]
   refine aj (a.li j l) p (fun g hg e=>?_);rcases e with e|e
   ·exact c (a.lj j k g l hk hg e)
   ·exact ak (a.li j l) a.hp (by decide) (e ▸ hg)
 ·rw [G];exact aj a.ro p (J a.ro (by decide) (by decide))
 ·rw [ho];exact a.ij
 ·intro n m o V g;rw [d,d];exact a.ei n m o V g
 ·intro j E g l u e y
  have A:∀ q,eO q->(L.li q).ownBlock=some g->g<w.heap.size:=fun q hq e=>(ay (a.li q hq) e).lt;by_cases c:j=k<;>by_cases D:E=k
  ·rw [c,D]
  ·simp only [c,D,if_true,if_false] at e y
   rcases F g e with x|x
   ·rw [c];exact a.lj k E g hk u x y
   ·have:=A E u y;omega
  ·simp only [c,D,if_true,if_false] at e y
   rcases F g y with x|x
   ·rw [D];exact a.lj j k g l hk e x
   ·have:=A j l e;omega
  ·simp only [c,D,if_false] at e y
   exact a.lj j E g l u e y
 ·rw [ho];exact a.bo
 ·rw [ho];exact a.so
 ·intro n o g;rw [d];exact a.se n o g
 ·intro j g l e
  by_cases c:j=k
  ·simp only [c,if_true] at e
   rcases F g e with x|x
   ·exact a.sl k g hk x
   ·exact a.up g x
  ·simp only [c,if_false] at e
   exact a.sl j g l e
 ·refine p.mono (fun b e=>?_)
  rcases e with e|e
  ·exact a.sl k b hk e
  ·exact e ▸ a.sH
theorem ji:(Tryz.prog.info? 3).map (fun i=>(i.zero,i.size,i.bytes))=some (some (.int .i64 0),1,8):=by kernel_rfl
theorem MV.app {L:SM} (a:MV base S h L wr) (k:Nat) (hk:eO k) (n:Nat) {o:Oper} (m:o.guard=none) (s x:Operand)
 (ho:o.op=.call { callee:=.builtin .append,args:=#[s,x],argTypes:=#[30,30] }) (z:ac.eval s=L.li k) (hx:ac.eval x=.slice (some ⟨wr.heap.size,0,none⟩) 1 1) (q:(g_ h k).length<=1000000)
 (A:∀ (g f:Nat) (w':World),aD w' 105 L.H 18 (uE h L)->MV base S (dD h k (g_ h k++[n])) { L with li:=fun j=>if j=k then .slice (some ⟨g,0,none⟩) ((g_ h k).length+1) f else L.li j } (w'.setCell ⟨L.H,k,none⟩ (.slice (some ⟨g,0,none⟩) ((g_ h k).length+1) f))->Keeps wr (w'.setCell ⟨L.H,k,none⟩ (.slice (some ⟨g,0,none⟩) ((g_ h k).length+1) f)) S->wpList Tryz.prog ops Q rest (ac.put o.dst (.slice (some ⟨g,0,none⟩) ((g_ h k).length+1) f)) w'):
 wpList Tryz.prog ops Q (o::rest) ac (wr.alloc (.cells #[.int .i64 (n:Int)] 3)):=by
 have hb:=a.bs;refine fE m s x 30 3 1 8 (.int .i64 0) ho Tryz.underlying30 ji rfl (by decide) base (L.li k) (g_ h k).length (eu (g_ h k)) [.int .i64 (n:Int)] (a.li k hk) z hx rfl (fun u hu=>by simp at hu;subst hu;rfl) (by omega) (by decide) hb ?_;intro v' w' r D C B;have i:Below base wr w':=D base wr (aT _ _) (au _);have kk:Keeps wr w' (fun b=>(L.li k).ownBlock=some b):=⟨i.os,i.tape,i.output,i.size,fun b hb' hn=>C b hb' hn⟩
 have l:∃ g f,v'=.slice (some ⟨g,0,none⟩) ((g_ h k).length+1) f:=by
  rcases r.2 with ⟨_,F⟩|⟨g,f,E,y,_⟩
  ·omega
  ·exact ⟨g,f,y⟩
 obtain ⟨g,f,rfl⟩:=l;have p:w'.ownsRow base 3 1 (.slice (some ⟨g,0,none⟩) ((g_ h k).length+1) f) (g_ h k++[n]).length (eu (g_ h k++[n])):=by
  simpa [eu] using r
 obtain ⟨p1,v,t⟩:=a.JW k hk kk _ _ p (fun g' e=>by
  by_cases c:(L.li k).ownBlock=some g'
  ·exact .inl c
  ·right
   rcases Nat.lt_or_ge g' wr.heap.size with d|d
   ·exact absurd e (B g' d c)
   ·exact d)
 exact A g f w' p1 v t
end
set_option maxHeartbeats 6400000
set_option maxRecDepth 100000
section
variable {S:Nat->Prop} {base n:Nat} {h:Hp} {w:World}
structure Lm (L L':SM):Prop where
 H:L'.H=L.H
 oS:L'.oS=L.oS
 ob:L'.ob=L.ob
 es:L'.es=L.es
 rS:L'.rS=L.rS
 li:∀ k,k≠7->k≠9->k≠10->L'.li k=L.li k
theorem Lm.refl (L:SM):Lm L L:=⟨rfl,rfl,rfl,rfl,rfl,fun _ _ _ _=>rfl⟩
theorem Lm.trans {a b c:SM} (x:Lm a b) (y:Lm b c):Lm a c:=
 ⟨y.H.trans x.H,y.oS.trans x.oS,y.ob.trans x.ob,y.es.trans x.es,y.rS.trans x.rS,fun k h1 h2 h3=>(y.li k h1 h2 h3).trans (x.li k h1 h2 h3)⟩
theorem Lm.set (L:SM) (k:Nat) (hk:k=7∨k=9∨k=10) (v:Value):Lm L { L with li:=fun j=>if j=k then v else L.li j }:=by
 refine ⟨rfl,rfl,rfl,rfl,rfl,fun j h1 h2 h3=>?_⟩;have:j≠k:=by omega
 simp [this]
theorem MV.slot {L:SM} (a:MV base S h L w) (hp:1<=h.objs.length):∃ g cap,L.oS=.slice (some ⟨g,0,none⟩) h.objs.length cap/\h.objs.length<=cap/\∀ n,n<h.objs.length->w.cell? ⟨g,n,none⟩=some (.pointer (some ⟨L.ob n,0,none⟩)):=by
 rcases a.oo.2 with ⟨_,f⟩|⟨g,cap,e,b,_,_,d,_⟩
 ·omega
 ·refine ⟨g,cap,b,d,fun n hn=>?_⟩
  have hr:=ay a.oo (g:=g) (by rw [b];simp [Value.ownBlock]);rw [hr.c n];simp [List.getD_eq_getElem?_getD,hn]
theorem MV.any {L:SM} (a:MV base S h L w) (b:n<h.objs.length):∃ r kd c md ev fn,aD w 101 (L.ob n) 25 (kY r kd c ((h.ob n).isNone) md ev fn)/\fU c=h.M5 n/\(∀ o,h.ob n=some o->kd=5/\c=o.col/\md=o.mode/\ev=L.es n/\fn=o.fin):=by
 cases e:h.ob n with
 |none=>
  obtain ⟨r,c,d,hr⟩:=a.dd n b e;exact ⟨r,0,c,0,_,false,hr,by rw [d];unfold Hp.M5;rw [e],fun o x=>by cases x⟩
 |some o=>
  obtain ⟨r,hr⟩:=a.ob n o e;exact ⟨r,5,o.col,o.mode,_,o.fin,hr,(Hp.JA e).symm,fun o' x=>by cases x;exact ⟨rfl,rfl,rfl,rfl,rfl⟩⟩
theorem qc (c:Nat):(fU c=true/\(c=0∨c=1))∨(fU c=false/\c≠0/\c≠1):=by
 by_cases b:c=0
 ·exact .inl ⟨by rw [b];rfl,.inl b⟩
 ·by_cases a:c=1
  ·exact .inl ⟨by rw [a];rfl,.inr a⟩
  ·exact .inr ⟨by simp [fU,b,a],b,a⟩
theorem gW (w:World) (b c:Nat) (j:w.cell? ⟨b,1,none⟩=some (.int .i64 c)):Calls Tryz.prog 91 #[.pointer (some ⟨b,0,none⟩)] w fun e w'=>e=.returned (.bool (fU c))/\w'=w:=by
 have hr:fU c=(((c:Int)==0)||((c:Int)==1)):=by
  unfold fU;rcases qc c with ⟨_,h|h⟩|⟨_,g,f⟩
  ·subst h;rfl
  ·subst h;rfl
  ·have e1:((c:Int)==0)=false:=by simp;omega
   have i:((c:Int)==1)=false:=by simp;omega
   rw [e1,i];simp [g,f]
 rw [hr];clear hr;go_enter Tryz.func91,Tryz.ntmps91;by_cases d:((c:Int)==0)=true
 ·go_wp2
  go_ret;exact ⟨by simp [d],rfl⟩
 ·have a:((c:Int)==0)=false:=by simpa using d
  go_wp2;go_ret;exact ⟨by simp [a],rfl⟩
theorem jP {L:SM} (a:MV base S h L w) (s:Sm h) (M:h.ob 0=none) (n:Nat) (F:n<h.objs.length):
 Calls Tryz.prog 89 #[.pointer (some ⟨L.H,0,none⟩),.int .i64 (n:Int)] w fun e w'=>e=.returned (.tuple #[])/\∃ L',Lm L L'/\MV base S (h.mark n) L' w'/\Keeps w w' S:=by
 have p:=ah a;have T:=a.bs;have Q:=s.len;have A:(g_ h 7).length<=1000000:=by
  have:=s.nu;simp only [Hp.nu,Hp.mu] at this;show h.grey.length<=_;omega
 by_cases U:n=0
 ·subst U
  have hm:h.mark 0=h:=by unfold Hp.mark;rw [M]
  rw [hm];go_enter Tryz.func89,Tryz.ntmps89;go_wp2
  ((try simp only [Exit.inBlock,Exit.then]);refine bodyPost_ret (results_none rfl _ _ _) rfl ?_)
  exact ⟨rfl,L,Lm.refl L,p.o,Keeps.refl _ _⟩
 ·obtain ⟨g,C,v,G,j⟩:=a.slot (by omega)
  have R:=j n F;obtain ⟨r,kd,c,md,ev,fn,d,t,f⟩:=a.any F;have c0:w.cell? ⟨L.H,0,none⟩=some (.slice (some ⟨g,0,none⟩) h.objs.length C):=by rw [<-v];exact a.hp.c 0
  have V:w.cell? ⟨L.ob n,1,none⟩=some (.int .i64 c):=d.c 1;have J:w.cell? ⟨L.ob n,2,none⟩=some (.bool (h.ob n).isNone):=d.c 2;have z1:=d.ME 1;have P:((n:Int)==0)=false:=by simp;omega
  have HI:=ah (gW w (L.ob n) c V);have K:=ah f;have HW:=ah t;clear a j f t d;go_enter Tryz.func89,Tryz.ntmps89;go_wp2_with fail;refine HI.out.mono ?_;rintro e w' ⟨rfl,N⟩;obtain rfl:=N.symm;cases hd:h.ob n with
  |none=>
   have hx:(h.ob n).isNone=true:=by rw [hd];rfl
   have hm:h.mark n=h:=by unfold Hp.mark;rw [hd]
   rw [hx] at J;have m:=ah hm;clear hm;clear hx;have D:=ah hd;clear hd;rcases hv:fU c with _|_
   ·go_wp2
    go_end0;exact ⟨rfl,L,Lm.refl L,by rw [m.o];exact p.o,Keeps.refl _ _⟩
   ·go_wp2
    go_end0;exact ⟨rfl,L,Lm.refl L,by rw [m.o];exact p.o,Keeps.refl _ _⟩
  |some o=>
   have hx:(h.ob n).isNone=false:=by rw [hd];rfl
   rw [hx] at J;clear hx;rcases hv:fU c with _|_
   ·have hm:h.mark n=h:=by
     unfold Hp.mark;rw [hd];simp only;rw [if_neg (by rw [<-(K.o o hd).2.1,hv];decide)]
    have m:=ah hm;clear hm;have D:=ah hd;clear hd;go_wp2;go_end0;exact ⟨rfl,L,Lm.refl L,by rw [m.o];exact p.o,Keeps.refl _ _⟩
   ·have hm:h.mark n=h.Hr n:=by
     unfold Hp.mark;rw [hd];simp only;rw [if_pos (by rw [<-(K.o o hd).2.1,hv])];rfl
    have m:=ah hm;clear hm;have D:=ah hd;clear hd;have E:=ah (p.o.Mk n 1 (.int .i64 2) (fun o=>{ o with col:=2 }) (by decide) D.o ⟨rfl,rfl⟩ (fun r i=>by
     unfold kY;by_cases x:i=1
     ·subst x;simp
     ·simp [x]))
    obtain ⟨ag,u,B,l⟩:∃ ag u B,L.li 7=.slice ag u B:=by
     obtain ⟨x,y,z⟩:=aF (p.o.li 7 (by simp [eO]));exact ⟨x,_,y,z⟩
    have c7:(w.setCell ⟨L.ob n,1,none⟩ (.int .i64 2)).cell? ⟨L.H,7,none⟩=some (.slice ag u B):=by rw [<-l];exact E.o.1.hp.c 7
    have X:=ah l;clear l;go_upto_region 4 with (fail)
    generalize w.setCell ⟨L.ob n,1,none⟩ (.int .i64 2)=w5 at *;go_wp2_with (first
     |(at_builtin;refine E.o.1.app 7 (by simp [eO]) n rfl _ _ rfl X.o.symm rfl A ?_;intro gq cq w1 b k q;have cR:=b.c 7;have Z:=b.ME 7;have Y:=ah k;have W:=ah q;clear b k q)
     |go_in)
    go_end0;exact ⟨rfl,_,Lm.set L 7 (.inl rfl) _,by rw [m.o];exact Y.o,E.o.2.trans W.o⟩
end
section
variable {S:Nat->Prop} {base:Nat} {h:Hp} {v:Value} {w:World}
theorem mY {b o:Nat} {sp:Option Nat} (h:w.cell? ⟨b,o,sp⟩=some v):b<w.heap.size:=by
 rcases Nat.lt_or_ge b w.heap.size with g|g
 ·exact g
 ·exfalso
  unfold World.cell? at h;rw [Array.getElem?_eq_none g] at h;cases h
theorem Ar (a:h.ob 0=none) (v:HV):h.Ib v=h.mark (vr v):=by
 have hm:h.mark 0=h:=by unfold Hp.mark;rw [a]
 unfold Hp.Ib vr;split<;>simp_all
def Rg (h:Hp) (v:HV):Prop:=∀ r∈bQ v,1<=r/\r<h.objs.length
theorem Rg.vr {h:Hp} {v:HV} (r:Rg h v) (hp:1<=h.objs.length):vr v<h.objs.length:=by
 unfold Go.Proofs.YtbpcdfbmnklcjaaGreatDoor.vr;split
 ·exact (r _ (by simp [bQ])).2
 ·omega
theorem Rg.of {v:HV} (a:h.ob 0=none) (b:∀ r∈bQ v,h.Lv r):Rg h v:=by
 intro r hr;obtain ⟨o,e⟩:=b r hr;refine ⟨?_,Hp.Ia e⟩;rcases Nat.eq_zero_or_pos r with c|c
 ·subst c;rw [a] at e;cases e
 ·exact c
theorem EL {v:HV} (r:Rg h v):h.MO v=(if vr v=0 then false else h.M5 (vr v)):=by
 unfold Hp.MO vr;split
 ·rename_i n
  have:=(r n (by simp [bQ])).1;show h.M5 n=if n=0 then false else h.M5 n
  rw [if_neg (by omega)]
 ·simp
def vA (v:HV):Value:=.agg #[.int .i64 (vk v),.int .i64 (vi v),.int .u64 0,.string ByteArray.empty,.int .i64 (vr v)]
theorem fD {L:SM} (a:MV base S h L w) (s:Sm h) (b:h.ob 0=none) (v:HV) (g:vr v<h.objs.length):
 Calls Tryz.prog 88 #[.pointer (some ⟨L.H,0,none⟩),.agg #[.int .i64 (vk v),.int .i64 (vi v),.int .u64 0,.string ByteArray.empty,.int .i64 (vr v)]] w fun e w'=>e=.returned (.tuple #[])/\∃ L',Lm L L'/\MV base S (h.Ib v) L' w'/\Keeps w w' S:=by
 rw [Ar b];generalize vr v=n at *;have j:=ah (jP (a.alloc (.cells #[.int .i64 (vk v),.int .i64 (vi v),.int .u64 0,.string ByteArray.empty,.int .i64 (n:Int)] 95)) s b n g);have p:=ah a.up;clear a;go_enter Tryz.func88,Tryz.ntmps88;go_wp2_with fail;refine j.o.mono ?_;rintro e w1 ⟨rfl,i,f,d,c⟩;have m:=ah f;have l:=ah d;have k:=ah c;clear f d c;go_wp2;go_end0;exact ⟨rfl,i,m.o,l.o,(Keeps.of (aU w _) (au _) S).trans k.o⟩
theorem gy {L:SM} (a:MV base S h L w) (v:HV) (hr:Rg h v) (A:h.objs.length<=5001) (hp:1<=h.objs.length):
 Calls Tryz.prog 119 #[.pointer (some ⟨L.H,0,none⟩),.agg #[.int .i64 (vk v),.int .i64 (vi v),.int .u64 0,.string ByteArray.empty,.int .i64 (vr v)]] w fun e w'=>e=.returned (.bool (h.MO v))/\Below w.heap.size w w':=by
 rw [EL hr];have q:=hr.vr hp;clear hr;generalize vr v=n at *;have b:=aU w (.cells #[.int .i64 (vk v),.int .i64 (vi v),.int .u64 0,.string ByteArray.empty,.int .i64 (n:Int)] 95);have y:=ah b;by_cases t:n=0
 ·subst t
  clear b;go_enter Tryz.func119,Tryz.ntmps119;go_wp2_with fail;go_quiet (fail);go_wp2;go_ret;exact ⟨rfl,aC y.o _⟩
 ·obtain ⟨g,m,l,s,f⟩:=a.slot (by omega)
  have j:=f n q;obtain ⟨r,kd,c,md,ev,fn,d,k,i⟩:=a.any q;have x:w.cell? ⟨L.H,0,none⟩=some (.slice (some ⟨g,0,none⟩) h.objs.length m):=by rw [<-l];exact a.hp.c 0
  have u:w.cell? ⟨L.ob n,1,none⟩=some (.int .i64 c):=d.c 1;have hH:=a.hp.lt;have B:=mY j;have hO:=d.lt;have d0:=(b.cell (p:=⟨L.H,0,none⟩) hH).trans x;have d1:=(b.cell (p:=⟨L.ob n,1,none⟩) hO).trans u;have C:=(b.cell (p:=⟨g,n,none⟩) B).trans j;have z:((n:Int) !=0)=true:=by simp;omega
  rw [if_neg t,<-k];have HI:=ah (fun (w9:World) h=>gW w9 (L.ob n) c h);clear f i k d a b x u j;go_enter Tryz.func119,Tryz.ntmps119;go_wp2_with fail;go_quiet ((go_at_call 91;exact Calls.quiet_of_same (HI.out _ (by assumption))));go_wp2;go_ret;exact ⟨rfl,aC y.o _⟩
end
section
variable {S:Nat->Prop} {base i n:Nat} {e:En} {g h:Hp} {o:Ob} {w:World}
theorem MV.ents {L:SM} (a:MV base S h L w) (ho:h.ob n=some o):∃ A cap,L.es n=.slice A o.es.length cap/\o.es.length<=cap/\∀ i e,o.es[i]?=some e->∃ g,A=some ⟨g,0,none⟩/\g<w.heap.size/\∀ j u,(iX e)[j]?=some u->w.cell? ⟨g,i*10+j,none⟩=some u:=by
 have f:=a.en n o ho;rcases f.2 with ⟨p,m⟩|⟨g,cap,q,d,_,_,l,_⟩
 ·refine ⟨none,0,by rw [p,m],by omega,fun i e hi=>?_⟩
  have:=(aJ.1 hi).1;omega
 ·refine ⟨_,cap,d,l,fun i e hi=>⟨g,rfl,?_⟩⟩
  have hr:=ay f (g:=g) (by rw [d];simp [Value.ownBlock]);refine ⟨hr.lt,fun j u hj=>?_⟩;have k:=(aJ.1 hi).1;have b:j<10:=(aJ.1 hj).1;rw [hr.c (i*10+j),bq,show (kr o.es)[i*10+j]?=(iX e)[j]? from eX iX 10 (fun _=>rfl) o.es i j e hi b,hj];rfl
theorem lV (wr:World) (e:En):aD (wr.alloc (.cells (Nw e.1 e.2) 122)) 122 wr.heap.size 10 (fun j=>(iX e).getD j (.bool false)):=by
 have h:=aD.mk' wr 122 #[.int .i64 (vk e.1),.int .i64 (vi e.1),.int .u64 0,.string ByteArray.empty,.int .i64 (vr e.1),.int .i64 (vk e.2),.int .i64 (vi e.2),.int .u64 0,.string ByteArray.empty,.int .i64 (vr e.2)];refine aD.congr (show aD _ _ _ 10 _ from h) (fun j hj=>?_);have:j=0∨j=1∨j=2∨j=3∨j=4∨j=5∨j=6∨j=7∨j=8∨j=9:=by omega
 rcases this with rfl|rfl|rfl|rfl|rfl|rfl|rfl|rfl|rfl|rfl<;>rfl
def wJ (h:Hp) (es:List En):Prop:=∀ e∈es,Rg h e.1/\Rg h e.2
theorem wJ.of {h:Hp} (a:h.ob 0=none) (b:h.Closed) {n:Nat} {o:Ob} (ho:h.ob n=some o):wJ h o.es:=fun e he=>
 ⟨Rg.of a (fun r hr=>b n o ho e he r (List.mem_append_left _ hr)),Rg.of a (fun r hr=>b n o ho e he r (List.mem_append_right _ hr))⟩
theorem Rg.mono {v:HV} (r:Rg h v) (a:g.objs.length=h.objs.length):Rg g v:=fun x hx=>by rw [a];exact r x hx
theorem bD {α:Type} {l:List α} {x:α} (h:l[i]?=some x):l.take (i+1)=l.take i++[x]:=by
 rw [List.take_add_one,h];rfl
theorem pJ {p:Hp × Bool} (h:p.1.MO e.1=true):Hp.Hl p e=p:=by unfold Hp.Hl;rw [h];rfl
theorem pR {p:Hp × Bool} (h:p.1.MO e.2=false):Hp.Hl p e=p:=by unfold Hp.Hl;rw [h];simp
theorem pF {p:Hp × Bool} (h:p.1.MO e.1=false) (h':p.1.MO e.2=true):Hp.Hl p e=(p.1.Ib e.2,true):=by unfold Hp.Hl;rw [h,h'];rfl
theorem bE {α β:Type} (f:β->α->β) (b:β) (l:List α) (x:α):(l++[x]).foldl f b=f (l.foldl f b) x:=by simp
theorem nV {L:SM} (a:MV base S h L w) (s:Sm h) (hz:h.ob 0=none) (hp:1<=h.objs.length) (n:Nat) (o:Ob) (ho:h.ob n=some o) (a1:wJ h o.es):
 Calls Tryz.prog 118 #[.pointer (some ⟨L.H,0,none⟩),.pointer (some ⟨L.ob n,0,none⟩)] w fun e w'=>e=.returned (.bool (h.spread o.es).2)/\∃ L',Lm L L'/\MV base S (h.spread o.es).1 L' w'/\Keeps w w' S:=by
 obtain ⟨A,a9,Q,c1,a6⟩:=a.ents ho;obtain ⟨r0,a2⟩:=a.ob n o ho;have c5:w.cell? ⟨L.ob n,5,none⟩=some (.slice A o.es.length a9):=by rw [<-Q];exact a2.c 5
 have b2:=s.len;have c3:=s.es n o ho;have HA:=ah a;have HS:=ah s;have HR:=ah a1;have HO:=ah ho;have HE:=ah Q;clear a s a1 ho Q a6 a2;go_enter Tryz.func118,Tryz.ntmps118;go_wp2;go_loopw [5,13,7] (fun bv iv ev wr=>∃ (i:Nat) (b:Bool),i<=o.es.length/\iv=.int .i64 i/\bv=.bool b/\Hq (b=((o.es.take i).foldl Hp.Hl (h,false)).2/\∃ L',Lm L L'/\MV base S ((o.es.take i).foldl Hp.Hl (h,false)).1 L' wr/\Keeps w wr S)) (fun _ iv _ _=>o.es.length-bF iv)
 case atStart=>exact ⟨0,false,by omega,rfl,rfl,rfl,L,Lm.refl L,HA.o,Keeps.refl _ _⟩
 case round=>
  obtain ⟨i,b,c2,rfl,rfl,HI⟩:=hrel;by_cases b3:i<o.es.length
  ·obtain ⟨e,he⟩:∃ e,o.es[i]?=some e:=⟨_,aN b3⟩
   have a0:=bD he;obtain ⟨y,L1,v,u,D⟩:=HI.out;have m:=M7.Ja (o.es.take i) (h,false);have P:((o.es.take i).foldl Hp.Hl (h,false)).1.nu<=h.nu:=aO (Hp.IL h (o.es.take i));obtain ⟨q,hq⟩:∃ q,(o.es.take i).foldl Hp.Hl (h,false)=q:=⟨_,rfl⟩
   rw [hq] at y u m P;simp only at m;obtain ⟨o1,a3,K⟩:∃ o1,q.1.ob n=some o1/\o1.es=o.es:=by
    have:=m.cont n;rw [HO.o] at this;cases M:q.1.ob n with
    |none=>rw [M] at this;simp at this
    |some o1=>rw [M] at this;simp [Ob.cont] at this;exact ⟨o1,rfl,this.2.1⟩
   obtain ⟨A1,a8,E,b4,t⟩:=u.ents a3;rw [K] at E t;have:A1=A/\a8=a9:=by
    have h9:=E.symm.trans ((congrFun v.es n).trans HE.o);simp at h9;exact h9
   obtain ⟨rfl,rfl⟩:=this;obtain ⟨g,rfl,c0,d⟩:=t i e he;have d0:=d 0 _ rfl;have d1:=d 1 _ rfl;have d2:=d 2 _ rfl;have d3:=d 3 _ rfl;have d4:=d 4 _ rfl;have d5:=d 5 _ rfl;have d6:=d 6 _ rfl;have d7:=d 7 _ rfl;have d8:=d 8 _ rfl;have d9:=d 9 _ rfl;simp only [Nat.add_zero] at d0;have N:=HR.o e (aX he);have HQ:=ah hq;have c4:=ah m;have b5:=ah a0;have T:=ah v;have J:=ah (u.alloc (.cells (Nw e.1 e.2) 122));have U:=ah (D.trans (Keeps.of (aU wr (.cells (Nw e.1 e.2) 122)) (au _) S));have R:=ah (show Rg q.1 e.1/\Rg q.1 e.2 from ⟨N.1.mono m.len,N.2.mono m.len⟩);have b6:=ah (HS.o.MZ m P);have b1:=ah y;have B:=ah (show q.1.objs.length<=5001/\1<=q.1.objs.length/\q.1.ob 0=none from by rw [m.len];exact ⟨b2,hp,m.zero hz⟩);have V:=ah v.H;clear hq m a0 v u D N y a3 K E t d HI P he;have x:=ah (lV wr e);go_upto_region 5 with (fail)
   generalize wr.alloc (.cells (Nw e.1 e.2) 122)=w3 at *;generalize wr.heap.size=X at *;obtain ⟨x0,x1,x2,x3,x4⟩:NQ w3 X e.1:=x.o.c5;have j:=x.o.lt;have z:=ah (gy J.o e.1 R.o.1 B.o.1 B.o.2.1);rw [V.o] at z;have HF:Hq ((o.es.take (i+1)).foldl Hp.Hl (h,false)=Hp.Hl q e):=ah (by rw [b5.o,bE,HQ.o]);clear d0 d1 d2 d3 d4 d5 d6 d7 d8 d9;cases hb1:q.1.MO e.1 with
   |true=>
    rw [hb1] at z;have Y:=ah hb1;clear hb1;go_wp2_with (first
     |(refine z.o.mono ?_
       rintro M w4 ⟨rfl,f⟩;have k:=ah f;clear f)
     |fail)
    go_roundw
    case rel=>
     refine ⟨i+1,b,by omega,by simp,rfl,?_⟩;have F:=HF.o;rw [pJ Y.o] at F;exact ⟨by rw [F];exact b1.o,L1,T.o,by rw [F];exact J.o.low k.o,U.o.trans (Keeps.of k.o (au _) S)⟩
    case measure=>simp [bF];omega
   |false=>
    rw [hb1] at z;have Y:=ah hb1;clear hb1;have G:=ah (fun (w4:World) (f:Below w3.heap.size w3 w4)=>gy (J.o.low f) e.2 R.o.2 B.o.1 B.o.2.1);rw [V.o] at G;cases hb2:q.1.MO e.2 with
    |false=>
     rw [hb2] at G;have W:=ah hb2;clear hb2;go_wp2_with (first
      |(have Z:=C;fail)
      |(have Z:=k
        refine (G.o w4 k.o).mono ?_;clear Z;rintro M w5 ⟨rfl,l⟩;have C:=ah l;clear l)
      |(refine z.o.mono ?_
        rintro M w4 ⟨rfl,f⟩;have x5:w4.cell? ⟨X,5,none⟩=some (.int .i64 (vk e.2)):=(f.cell (p:=⟨X,5,none⟩) j).trans (x.o.c 5);have x6:w4.cell? ⟨X,6,none⟩=some (.int .i64 (vi e.2)):=(f.cell (p:=⟨X,6,none⟩) j).trans (x.o.c 6);have x7:w4.cell? ⟨X,7,none⟩=some (.int .u64 0):=(f.cell (p:=⟨X,7,none⟩) j).trans (x.o.c 7);have x8:w4.cell? ⟨X,8,none⟩=some (.string ByteArray.empty):=(f.cell (p:=⟨X,8,none⟩) j).trans (x.o.c 8);have x9:w4.cell? ⟨X,9,none⟩=some (.int .i64 (vr e.2)):=(f.cell (p:=⟨X,9,none⟩) j).trans (x.o.c 9);have k:=ah f;clear f)
      |fail)
     go_roundw
     case rel=>
      refine ⟨i+1,b,by omega,by simp,rfl,?_⟩;have F:=HF.o;rw [pR W.o] at F;have hb:=k.o.trans (C.o.mono k.o.size);exact ⟨by rw [F];exact b1.o,L1,T.o,by rw [F];exact J.o.low hb,U.o.trans (Keeps.of hb (au _) S)⟩
     case measure=>simp [bF];omega
    |true=>
     rw [hb2] at G;have W:=ah hb2;clear hb2;have b0:=ah (fun (w5:World) (l:Below w3.heap.size w3 w5)=>fD (J.o.low l) b6.o B.o.2.2 e.2 (R.o.2.vr B.o.2.1));rw [V.o] at b0;go_wp2_with (first
      |(have Z:=C
        refine (b0.o _ (k.o.trans (C.o.mono k.o.size))).mono ?_;clear Z;rintro M w6 ⟨rfl,L6,a4,a7,a5⟩;have b7:=ah a4;have b9:=ah a7;have b8:=ah a5;clear a4 a7 a5)
      |(have Z:=k
        refine (G.o w4 k.o).mono ?_;clear Z;rintro M w5 ⟨rfl,l⟩;have y5:=(l.cell (p:=⟨X,5,none⟩) r).trans x5;have y6:=(l.cell (p:=⟨X,6,none⟩) r).trans x6;have y7:=(l.cell (p:=⟨X,7,none⟩) r).trans x7;have y8:=(l.cell (p:=⟨X,8,none⟩) r).trans x8;have y9:=(l.cell (p:=⟨X,9,none⟩) r).trans x9;have C:=ah l;clear l)
      |(refine z.o.mono ?_
        rintro M w4 ⟨rfl,f⟩;have r:=aW j f.size;have x5:w4.cell? ⟨X,5,none⟩=some (.int .i64 (vk e.2)):=(f.cell (p:=⟨X,5,none⟩) j).trans (x.o.c 5);have x6:w4.cell? ⟨X,6,none⟩=some (.int .i64 (vi e.2)):=(f.cell (p:=⟨X,6,none⟩) j).trans (x.o.c 6);have x7:w4.cell? ⟨X,7,none⟩=some (.int .u64 0):=(f.cell (p:=⟨X,7,none⟩) j).trans (x.o.c 7);have x8:w4.cell? ⟨X,8,none⟩=some (.string ByteArray.empty):=(f.cell (p:=⟨X,8,none⟩) j).trans (x.o.c 8);have x9:w4.cell? ⟨X,9,none⟩=some (.int .i64 (vr e.2)):=(f.cell (p:=⟨X,9,none⟩) j).trans (x.o.c 9);have k:=ah f;clear f)
      |fail)
     go_roundw
     case rel=>
      refine ⟨i+1,true,by omega,by simp,rfl,?_⟩;have F:=HF.o;rw [pF Y.o W.o] at F;have hb:=k.o.trans (C.o.mono k.o.size);exact ⟨by rw [F],L6,T.o.trans b7.o,by rw [F];exact b9.o,(U.o.trans (Keeps.of hb (au _) S)).trans b8.o⟩
     case measure=>simp [bF];omega
  ·obtain rfl:i=o.es.length:=by omega
   have x:=HI.out;rw [bN] at x;obtain ⟨y,L1,v,u,D⟩:=x;have HT:=ah (And.intro y (And.intro v (And.intro u D)));clear y v u D HI;go_wp2;go_ret;exact ⟨by rw [HT.o.1];rfl,L1,HT.o.2.1,HT.o.2.2.1,HT.o.2.2.2⟩
end
section
variable {S S':Nat->Prop} {base n:Nat} {e:En} {o:Ob} {w:World}
theorem fq (v:HV):(vk v !=0)=v.isSome:=by
 cases v with
 |none=>rfl
 |some x=>cases x<;>rfl
theorem Sm.Ng {h:Hp} (s:Sm h) (n:Nat) (a:h.nu+h.again.length+1<=20000):Sm { h with G8:=h.G8++[n] }:=by
 refine ⟨s.len,?_,s.fp,s.fr,s.Nn,s.cr,s.lim,s.rt,s.es⟩;have e:Hp.nu { h with G8:=h.G8++[n] }=h.nu+1:=by
  show h.mu+(h.G8++[n]).length+h.weak.length=h.mu+h.G8.length+h.weak.length+1;simp;omega
 rw [e];show h.nu+1+h.again.length<=20000;omega
theorem M7.Nr {h g:Hp} (x:M7 h g) (e:h.ob n=some o):∃ o',g.ob n=some o'/\o'.mode=o.mode/\o'.es=o.es/\o'.fin=o.fin:=by
 have:=x.cont n;rw [e] at this;cases e9:g.ob n with
 |none=>rw [e9] at this;simp at this
 |some o1=>rw [e9] at this;simp [Ob.cont] at this;exact ⟨o1,rfl,this.1,this.2.1,this.2.2⟩
theorem vT {h:Hp} (a:e.2.isSome=false):h.key1 e=h:=by unfold Hp.key1;rw [a];rfl
theorem uf {h:Hp} (a:e.2.isSome=true):h.key1 e=h.Ib e.1:=by unfold Hp.key1;rw [if_pos a]
theorem Cv {h:Hp} (hm:o.mode=0):h.Ik n o=o.es.foldl Hp.H_ h:=by unfold Hp.Ik;rw [if_pos hm]
theorem Cw {h:Hp} (hm:o.mode=1):h.Ik n o=({ h with G8:=h.G8++[n] }.spread o.es).1:=by unfold Hp.Ik;rw [if_neg (by omega),if_pos hm]
theorem Dp {h:Hp} (hm:o.mode=2):h.Ik n o={ o.es.foldl Hp.key1 h with weak:=(o.es.foldl Hp.key1 h).weak++[n] }:=by unfold Hp.Ik;rw [if_neg (by omega),if_neg (by omega),if_pos hm]
theorem CP {h:Hp} (hm:o.mode=3):h.Ik n o={ h with weak:=h.weak++[n] }:=by unfold Hp.Ik;rw [if_neg (by omega),if_neg (by omega),if_neg (by omega)]
theorem MV.mono {h:Hp} {L:SM} (a:MV base S h L w) (c:∀ b,S b->S' b):MV base S' h L w:=
 ⟨a.hp,a.oo,a.ob,a.dd,a.en,a.li,a.ro,a.ij,a.ei,a.lj,a.bH,a.bo,a.bs,c _ a.sH,fun n h=>c _ (a.so n h),fun g h=>c _ (a.sO g h),fun n o g h h'=>c _ (a.se n o g h h'),fun k g h h'=>c _ (a.sl k g h h'),fun g h=>c _ (a.sr g h),fun b h=>c _ (a.up b h)⟩
theorem MV.hole {h:Hp} {L:SM} (a:MV base S h L w) (x:Obj):MV base (fun b=>S b/\b≠w.heap.size) h L (w.alloc x):=by
 have b:=a.alloc x;have f:∀ n,n<h.objs.length->L.ob n<w.heap.size:=by
  intro n d;cases e:h.ob n with
  |none=>obtain ⟨r,c,_,hr⟩:=a.dd n d e;exact hr.lt
  |some o=>obtain ⟨r,hr⟩:=a.ob n o e;exact hr.lt
 refine ⟨b.hp,b.oo,b.ob,b.dd,b.en,b.li,b.ro,b.ij,b.ei,b.lj,b.bH,b.bo,b.bs,⟨a.sH,?_⟩,fun n d=>⟨a.so n d,?_⟩,fun g hg=>⟨a.sO g hg,?_⟩,fun n o g d hg=>⟨a.se n o g d hg,?_⟩,fun k g hk hg=>⟨a.sl k g hk hg,?_⟩,fun g hg=>⟨a.sr g hg,?_⟩,fun c hc=>⟨b.up c hc,?_⟩⟩
 ·have:=a.hp.lt;omega
 ·have:=f n d;omega
 ·have:=(ay a.oo hg).lt;omega
 ·have:=(ay (a.en n o d) hg).lt;omega
 ·have:=(ay (a.li k hk) hg).lt;omega
 ·have:=(ay a.ro hg).lt;omega
 ·simp at hc;omega
theorem dO {α:Type} (f:Hp->α->Hp) (b:∀ h x,(f h x).nu=h.nu):∀ (l:List α) (h:Hp),(l.foldl f h).nu=h.nu
 | [],h=>rfl
 |a::l,h=>(dO f b l (f h a)).trans (b h a)
theorem Hp.Kr (h:Hp) (e:En):(h.key1 e).nu=h.nu:=by
 unfold Hp.nu;rw [h.J5 e,(h.IU e).1,(h.IU e).2]
theorem Hp.KP (h:Hp) (e:En):(h.H_ e).nu=h.nu:=by
 unfold Hp.nu;rw [h.Ki e,(h.I8 e).1,(h.I8 e).2]
theorem Hp.KN (h:Hp) (v:HV):(h.Ib v).nu=h.nu:=by
 unfold Hp.nu;rw [h.Js v,(h.Iw v).1,(h.Iw v).2]
theorem tK {h:Hp} {L:SM} (a:MV base S h L w) (s:Sm h) (b3:h.nu+h.again.length+1<=20000) (hz:h.ob 0=none) (hp:1<=h.objs.length) (n:Nat) (o:Ob) (ho:h.ob n=some o) (P:wJ h o.es) (hm:o.mode=0):
 Calls Tryz.prog 97 #[.pointer (some ⟨L.H,0,none⟩),.int .i64 n,.pointer (some ⟨L.ob n,0,none⟩)] w fun e w'=>e=.returned (.tuple #[])/\∃ L',Lm L L'/\MV base S (h.Ik n o) L' w'/\Keeps w w' S:=by
 obtain ⟨A,a0,D,b2,V⟩:=a.ents ho;obtain ⟨r0,C⟩:=a.ob n o ho;have c4:w.cell? ⟨L.ob n,4,none⟩=some (.int .i64 o.mode):=C.c 4;have c5:w.cell? ⟨L.ob n,5,none⟩=some (.slice A o.es.length a0):=by rw [<-D];exact C.c 5
 rw [hm] at c4;have a6:=s.len;have b5:=s.es n o ho;have HA:=ah a;have HS:=ah s;have HR:=ah P;have HO:=ah ho;have HE:=ah D;have a9:=ah hm;clear a s P ho D V C hm;go_enter Tryz.func97,Tryz.ntmps97;go_wp2;go_loopw [21,7] (fun iv ev wr=>∃ i:Nat,i<=o.es.length/\iv=.int .i64 i/\Hq (∃ L',Lm L L'/\MV base S ((o.es.take i).foldl Hp.H_ h) L' wr/\Keeps w wr S)) (fun iv _ _=>o.es.length-bF iv)
 case atStart=>exact ⟨0,by omega,rfl,L,Lm.refl L,HA.o,Keeps.refl _ _⟩
 case round=>
  obtain ⟨i,b4,rfl,HI⟩:=hrel;by_cases a7:i<o.es.length
  ·obtain ⟨e,he⟩:∃ e,o.es[i]?=some e:=⟨_,aN a7⟩
   obtain ⟨L1,l,k,t⟩:=HI.out;have f:=M7.fold Hp.H_ M7.H_ (o.es.take i) h;have R:((o.es.take i).foldl Hp.H_ h).nu=h.nu:=dO Hp.H_ Hp.KP (o.es.take i) h;have HF:Hq ((o.es.take (i+1)).foldl Hp.H_ h=Hp.H_ ((o.es.take i).foldl Hp.H_ h) e):=ah (by rw [bD he,bE]);generalize (o.es.take i).foldl Hp.H_ h=q at *;obtain ⟨o1,Q,_,y,_⟩:=f.Nr HO.o;obtain ⟨A1,Z,u,a8,j⟩:=k.ents Q;rw [y] at u j;have:A1=A/\Z=a0:=by
    have Y:=u.symm.trans ((congrFun l.es n).trans HE.o);simp at Y;exact Y
   obtain ⟨rfl,rfl⟩:=this;obtain ⟨g,rfl,b1,d⟩:=j i e he;have d0:=d 0 _ rfl;have d1:=d 1 _ rfl;have d2:=d 2 _ rfl;have d3:=d 3 _ rfl;have d4:=d 4 _ rfl;have d5:=d 5 _ rfl;have d6:=d 6 _ rfl;have d7:=d 7 _ rfl;have d8:=d 8 _ rfl;have d9:=d 9 _ rfl;simp only [Nat.add_zero] at d0;have B:=HR.o e (aX he);have a1:=ah l;have a3:=ah (k.hole (.cells (Nw e.1 e.2) 122));have b6:=ah k.up;have a2:=ah (t.trans (Keeps.of (aU wr (.cells (Nw e.1 e.2) 122)) (au _) S));have K:=ah (show Rg q e.1/\Rg q e.2 from ⟨B.1.mono f.len,B.2.mono f.len⟩);have G:=ah (HS.o.MZ f (aO R));have p:=ah (show q.objs.length<=5001/\1<=q.objs.length/\q.ob 0=none from by rw [f.len];exact ⟨a6,hp,f.zero hz⟩);have M:=ah l.H;have HX:=ah (lV wr e);clear f l k t B Q y u j d HI R he;go_upto_region 5 with (fail)
   generalize wr.alloc (.cells (Nw e.1 e.2) 122)=w3 at *;generalize wr.heap.size=X at *;have b0:=HX.o.lt;obtain ⟨x0,x1,x2,x3,x4⟩:NQ w3 X e.1:=HX.o.c5;obtain ⟨x5,x6,x7,x8,x9⟩:OV w3 X e.2:=HX.o.c6;clear d0 d1 d2 d3 d4 d5 d6 d7 d8 d9;cases hs:e.2.isSome with
   |false=>
    have a5:(vk e.2 !=0)=false:=by rw [fq,hs]
    have HV:=ah (fD a3.o G.o p.o.2.2 e.2 (K.o.2.vr p.o.2.1));rw [M.o] at HV;have J:=ah hs;clear hs;go_wp2_with (first
     |(refine HV.out.mono ?_
       rintro e9 w4 ⟨rfl,F,r,v,m⟩;have x:=ah (And.intro r (And.intro v m));clear r v m)
     |fail)
    go_roundw
    case rel=>
     refine ⟨i+1,by omega,by simp,?_⟩;have E:=HF.o;unfold Hp.H_ at E;rw [vT J.o] at E;exact ⟨F,a1.o.trans x.o.1,by show MV base S ((o.es.take (i+1)).foldl Hp.H_ h) F w4;rw [show (o.es.take (i+1)).foldl Hp.H_ h=q.Ib e.2 from E];exact x.o.2.1.mono (fun b z=>z.1),a2.o.trans (x.o.2.2.mono (fun b z=>z.1))⟩
    case measure=>simp [bF];omega
   |true=>
    have a5:(vk e.2 !=0)=true:=by rw [fq,hs]
    have HK:=ah (fD a3.o G.o p.o.2.2 e.1 (K.o.1.vr p.o.2.1));rw [M.o] at HK;have HV:=ah (fun (F:SM) (w4:World) (hh:F.H=L.H) (a4:MV base (fun b=>S b/\b≠X) (q.Ib e.1) F w4)=>(by
     have Y:=fD a4 (G.o.MZ (M7.Ib q e.1) (aO (q.KN e.1))) ((M7.Ib q e.1).zero p.o.2.2) e.2 (by rw [(M7.Ib q e.1).len];exact K.o.2.vr p.o.2.1);rw [hh] at Y;exact Y))
    have J:=ah hs;clear hs;go_wp2_with (first
     |(have _z:=x
       refine (HV.out F w4 (x.o.1.H.trans M.o) x.o.2.1).mono ?_;clear _z;rintro e9 w5 ⟨rfl,L5,T,W,U⟩;have H5:=ah (And.intro T (And.intro W U));clear T W U)
     |(refine HK.o.mono ?_
       rintro e9 w4 ⟨rfl,F,r,v,m⟩;have N:=HX.o.keep m (fun z=>z.2 rfl);obtain ⟨y5,y6,y7,y8,y9⟩:OV w4 X e.2:=N.c6;have x:=ah (And.intro r (And.intro v m));clear r v m N)
     |fail)
    go_roundw
    case rel=>
     refine ⟨i+1,by omega,by simp,?_⟩;have E:=HF.o;unfold Hp.H_ at E;rw [uf J.o] at E;exact ⟨L5,a1.o.trans (x.o.1.trans H5.o.1),by show MV base S ((o.es.take (i+1)).foldl Hp.H_ h) L5 w5;rw [show (o.es.take (i+1)).foldl Hp.H_ h=(q.Ib e.1).Ib e.2 from E];exact H5.o.2.1.mono (fun b z=>z.1),(a2.o.trans (x.o.2.2.mono (fun b z=>z.1))).trans (H5.o.2.2.mono (fun b z=>z.1))⟩
    case measure=>simp [bF];omega
  ·obtain rfl:i=o.es.length:=by omega
   have HT:=HI.out;rw [bN] at HT;obtain ⟨L1,l,k,t⟩:=HT;have H9:=ah (And.intro l (And.intro k t));clear l k t HI;go_wp2;go_end0;exact ⟨rfl,L1,H9.o.1,by rw [Cv a9.o];exact H9.o.2.1,H9.o.2.2⟩
end
section
variable {S:Nat->Prop} {base:Nat} {g h:Hp} {w:World}
theorem Sm.MR {h:Hp} (s:Sm h) (k:Nat) (hk:k=7∨k=9∨k=10):(Go.Proofs.YtbpcdfbmnklcjaaGreatDoor.g_ h k).length<=1000000:=by
 have:=s.nu;simp only [Hp.nu,Hp.mu] at this;rcases hk with rfl|rfl|rfl
 ·show h.grey.length<=_
  omega
 ·show h.weak.length<=_
  omega
 ·show h.G8.length<=_
  omega
theorem sD {L:SM} (a:MV base S h L w) (s:Sm h) (u:h.nu+h.again.length+1<=20000) (M:h.ob 0=none) (hp:1<=h.objs.length) (n:Nat) (o:Ob) (ho:h.ob n=some o) (k:wJ h o.es) (hm:o.mode=1):
 Calls Tryz.prog 97 #[.pointer (some ⟨L.H,0,none⟩),.int .i64 n,.pointer (some ⟨L.ob n,0,none⟩)] w fun e w'=>e=.returned (.tuple #[])/\∃ L',Lm L L'/\MV base S (h.Ik n o) L' w'/\Keeps w w' S:=by
 obtain ⟨A,C,j,J,q⟩:=a.ents ho;obtain ⟨r0,f⟩:=a.ob n o ho;have T:w.cell? ⟨L.ob n,4,none⟩=some (.int .i64 o.mode):=f.c 4;have c5:w.cell? ⟨L.ob n,5,none⟩=some (.slice A o.es.length C):=by rw [<-j];exact f.c 5
 rw [hm] at T;have N:=s.len;have P:=s.es n o ho;have F:=ah a;have K:=ah s;have X:=ah k;have Y:=ah ho;have HE:=ah j;have E:=ah hm;clear a s k ho j q f hm;have v:=K.o.MR 10 (.inr (.inr rfl));obtain ⟨ag,t,B,i⟩:∃ ag t B,L.li 10=.slice ag t B:=by
  obtain ⟨x,y,z⟩:=aF (F.o.li 10 (by simp [eO]));exact ⟨x,_,y,z⟩
 have U:w.cell? ⟨L.H,10,none⟩=some (.slice ag t B):=by rw [<-i];exact F.o.hp.c 10
 have Z:=ah i;clear i;go_enter Tryz.func97,Tryz.ntmps97;go_upto_region 11 with (first
  |(at_builtin;refine F.o.app 10 (by simp [eO]) n rfl _ _ rfl Z.o.symm rfl v ?_;intro Q R w1 b d p;have cR:=b.c 10;have zR:=b.ME 10;have H1:=ah d;have W:=ah p;clear b d p)
  |go_in)
 generalize w1.setCell ⟨L.H,10,none⟩ (.slice (some ⟨Q,0,none⟩) ((g_ h 10).length+1) R)=w5 at *;have D:=ah (nV H1.o (K.o.Ng n u) M hp n o Y.o X.o);go_wp2_with (first
  |(refine D.o.mono ?_
    rintro e9 w6 ⟨rfl,V,l,r,m⟩;have G:=ah (And.intro l (And.intro r m));clear l r m)
  |fail)
 go_end0;exact ⟨rfl,V,(Lm.set L 10 (.inr (.inr rfl)) _).trans G.o.1,by rw [Cw E.o];exact G.o.2.1,W.o.trans G.o.2.2⟩
theorem sJ {L:SM} (a:MV base S h L w) (s:Sm h) (b8:h.nu+h.again.length+1<=20000) (hz:h.ob 0=none) (hp:1<=h.objs.length) (n:Nat) (o:Ob) (ho:h.ob n=some o) (F:wJ h o.es) (hm:o.mode=2):
 Calls Tryz.prog 97 #[.pointer (some ⟨L.H,0,none⟩),.int .i64 n,.pointer (some ⟨L.ob n,0,none⟩)] w fun e w'=>e=.returned (.tuple #[])/\∃ L',Lm L L'/\MV base S (h.Ik n o) L' w'/\Keeps w w' S:=by
 obtain ⟨A,U,D,b4,P⟩:=a.ents ho;obtain ⟨r0,B⟩:=a.ob n o ho;have c4:w.cell? ⟨L.ob n,4,none⟩=some (.int .i64 o.mode):=B.c 4;have c5:w.cell? ⟨L.ob n,5,none⟩=some (.slice A o.es.length U):=by rw [<-D];exact B.c 5
 rw [hm] at c4;have a3:=s.len;have c0:=s.es n o ho;have HA:=ah a;have HS:=ah s;have HR:=ah F;have HO:=ah ho;have HE:=ah D;have a9:=ah hm;clear a s F ho D P B hm;go_enter Tryz.func97,Tryz.ntmps97;go_wp2;go_loopw [60,9] (fun iv ev wr=>∃ i:Nat,i<=o.es.length/\iv=.int .i64 i/\Hq (∃ L',Lm L L'/\MV base S ((o.es.take i).foldl Hp.key1 h) L' wr/\Keeps w wr S)) (fun iv _ _=>o.es.length-bF iv)
 case atStart=>exact ⟨0,by omega,rfl,L,Lm.refl L,HA.o,Keeps.refl _ _⟩
 case round=>
  obtain ⟨i,b9,rfl,HI⟩:=hrel;by_cases a4:i<o.es.length
  ·obtain ⟨e,he⟩:∃ e,o.es[i]?=some e:=⟨_,aN a4⟩
   obtain ⟨L1,k,j,p⟩:=HI.out;have f:=M7.fold Hp.key1 M7.key1 (o.es.take i) h;have J:((o.es.take i).foldl Hp.key1 h).nu=h.nu:=dO Hp.key1 Hp.Kr (o.es.take i) h;have HF:Hq ((o.es.take (i+1)).foldl Hp.key1 h=Hp.key1 ((o.es.take i).foldl Hp.key1 h) e):=ah (by rw [bD he,bE]);generalize (o.es.take i).foldl Hp.key1 h=q at *;obtain ⟨o1,G,_,t,_⟩:=f.Nr HO.o;obtain ⟨A1,T,r,a6,m⟩:=j.ents G;rw [t] at r m;have:A1=A/\T=U:=by
    have h9:=r.symm.trans ((congrFun k.es n).trans HE.o);simp at h9;exact h9
   obtain ⟨rfl,rfl⟩:=this;obtain ⟨g,rfl,b3,d⟩:=m i e he;have d0:=d 0 _ rfl;have d1:=d 1 _ rfl;have d2:=d 2 _ rfl;have d3:=d 3 _ rfl;have d4:=d 4 _ rfl;have d5:=d 5 _ rfl;have d6:=d 6 _ rfl;have d7:=d 7 _ rfl;have d8:=d 8 _ rfl;have d9:=d 9 _ rfl;simp only [Nat.add_zero] at d0;have v:=HR.o e (aX he);have W:=ah k;have a0:=ah (j.hole (.cells (Nw e.1 e.2) 122));have c2:=ah j.up;have Y:=ah (p.trans (Keeps.of (aU wr (.cells (Nw e.1 e.2) 122)) (au _) S));have a8:=ah (show Rg q e.1/\Rg q e.2 from ⟨v.1.mono f.len,v.2.mono f.len⟩);have a7:=ah (HS.o.MZ f (aO J));have V:=ah (show q.objs.length<=5001/\1<=q.objs.length/\q.ob 0=none from by rw [f.len];exact ⟨a3,hp,f.zero hz⟩);have b0:=ah k.H;have HX:=ah (lV wr e);clear f k j p v G t r m d HI J he;go_upto_region 16 with (fail)
   generalize wr.alloc (.cells (Nw e.1 e.2) 122)=w3 at *;generalize wr.heap.size=X at *;have b2:=HX.o.lt;obtain ⟨x0,x1,x2,x3,x4⟩:NQ w3 X e.1:=HX.o.c5;obtain ⟨x5,x6,x7,x8,x9⟩:OV w3 X e.2:=HX.o.c6;clear d0 d1 d2 d3 d4 d5 d6 d7 d8 d9;cases hs:e.2.isSome with
   |false=>
    have a2:(vk e.2 !=0)=false:=by rw [fq,hs]
    have E:=ah hs;clear hs;go_wp2;go_roundw
    case rel=>
     refine ⟨i+1,by omega,by simp,?_⟩;have R:=HF.o;rw [vT E.o] at R;exact ⟨L1,W.o,by rw [R];exact a0.o.mono (fun b z=>z.1),Y.o⟩
    case measure=>simp [bF];omega
   |true=>
    have a2:(vk e.2 !=0)=true:=by rw [fq,hs]
    have HK:=ah (fD a0.o a7.o V.o.2.2 e.1 (a8.o.1.vr V.o.2.1));rw [b0.o] at HK;have E:=ah hs;clear hs;go_wp2_with (first
     |(refine HK.o.mono ?_
       rintro e9 w4 ⟨rfl,L4,K,Q,M⟩;have H4:=ah (And.intro K (And.intro Q M));clear K Q M)
     |fail)
    go_roundw
    case rel=>
     refine ⟨i+1,by omega,by simp,?_⟩;have R:=HF.o;rw [uf E.o] at R;exact ⟨L4,W.o.trans H4.o.1,by rw [R];exact H4.o.2.1.mono (fun b z=>z.1),Y.o.trans (H4.o.2.2.mono (fun b z=>z.1))⟩
    case measure=>simp [bF];omega
  ·obtain rfl:i=o.es.length:=by omega
   have HT:=HI.out;rw [bN] at HT;obtain ⟨L1,k,j,p⟩:=HT;obtain ⟨H1,b7,b6,c1,a1,b5⟩:=L1;obtain rfl:H1=L.H:=k.H;have f:=M7.fold Hp.key1 M7.key1 o.es h;have a5:=(HS.o.MZ f (aO (dO Hp.key1 Hp.Kr o.es h))).MR 9 (.inr (.inl rfl));have Z:=ah (show ∀ g:Hp,g=o.es.foldl Hp.key1 h->h.Ik n o={ g with weak:=g.weak++[n] } from fun g e=>by rw [e];exact Dp a9.o);generalize hq:o.es.foldl Hp.key1 h=q at *;have b1:=ah (Z.o q rfl);clear f hq Z;obtain ⟨ag,ng,cg,C⟩:∃ ag ng cg,a1 9=.slice ag ng cg:=by
    obtain ⟨x,y,z⟩:=aF (j.li 9 (by simp [eO]));exact ⟨x,_,y,z⟩
   have c9:wr.cell? ⟨L.H,9,none⟩=some (.slice ag ng cg):=by rw [<-C];exact j.hp.c 9
   have HG:=ah C;have H9:=ah (And.intro k (And.intro j p));clear C k j p HI;go_wp2_with (first
    |(at_builtin;refine H9.o.2.1.app 9 (by simp [eO]) n rfl _ _ rfl HG.o.symm rfl a5 ?_;intro gq cq w1 l u N;have cR:=l.c 9;have zR:=l.ME 9;have H1:=ah u;have K1:=ah N;clear l u N)
    |go_in)
   go_end0;exact ⟨rfl,_,H9.o.1.trans (Lm.set _ 9 (.inr (.inl rfl)) _),by rw [b1.o];exact H1.o,H9.o.2.2.trans K1.o⟩
theorem rU {L:SM} (a:MV base S h L w) (s:Sm h) (C:h.nu+h.again.length+1<=20000) (P:h.ob 0=none) (hp:1<=h.objs.length) (n:Nat) (o:Ob) (ho:h.ob n=some o) (k:wJ h o.es) (hm:o.mode=3):
 Calls Tryz.prog 97 #[.pointer (some ⟨L.H,0,none⟩),.int .i64 n,.pointer (some ⟨L.ob n,0,none⟩)] w fun e w'=>e=.returned (.tuple #[])/\∃ L',Lm L L'/\MV base S (h.Ik n o) L' w'/\Keeps w w' S:=by
 obtain ⟨A,t,j,B,m⟩:=a.ents ho;obtain ⟨r0,f⟩:=a.ob n o ho;have F:w.cell? ⟨L.ob n,4,none⟩=some (.int .i64 o.mode):=f.c 4;have U:w.cell? ⟨L.ob n,5,none⟩=some (.slice A o.es.length t):=by rw [<-j];exact f.c 5
 rw [hm] at F;have D:=s.len;have E:=s.es n o ho;have v:=ah a;have J:=ah s;have V:=ah k;have W:=ah ho;have X:=ah j;have u:=ah hm;clear a s k ho j m f hm;have q:=J.o.MR 9 (.inr (.inl rfl));obtain ⟨ag,p,r,i⟩:∃ ag p r,L.li 9=.slice ag p r:=by
  obtain ⟨x,y,z⟩:=aF (v.o.li 9 (by simp [eO]));exact ⟨x,_,y,z⟩
 have T:w.cell? ⟨L.H,9,none⟩=some (.slice ag p r):=by rw [<-i];exact v.o.hp.c 9
 have K:=ah i;clear i;go_enter Tryz.func97,Tryz.ntmps97;go_wp2_with (first
  |(at_builtin;refine v.o.app 9 (by simp [eO]) n rfl _ _ rfl K.o.symm rfl q ?_;intro Q R w1 b d l;have cR:=b.c 9;have N:=b.ME 9;have M:=ah d;have G:=ah l;clear b d l)
  |go_in)
 go_end0;exact ⟨rfl,_,Lm.set L 9 (.inr (.inl rfl)) _,by rw [CP u.o];exact M.o,G.o⟩
theorem o_ {L:SM} (a:MV base S h L w) (s:Sm h) (d:h.nu+h.again.length+1<=20000) (f:h.ob 0=none) (hp:1<=h.objs.length) (n:Nat) (o:Ob) (ho:h.ob n=some o) (b:wJ h o.es) (hm:o.mode<=3):
 Calls Tryz.prog 97 #[.pointer (some ⟨L.H,0,none⟩),.int .i64 n,.pointer (some ⟨L.ob n,0,none⟩)] w fun e w'=>e=.returned (.tuple #[])/\∃ L',Lm L L'/\MV base S (h.Ik n o) L' w'/\Keeps w w' S:=by
 rcases (by omega:o.mode=0∨o.mode=1∨o.mode=2∨o.mode=3) with c|c|c|c
 ·exact tK a s d f hp n o ho b c
 ·exact sD a s d f hp n o ho b c
 ·exact sJ a s d f hp n o ho b c
 ·exact rU a s d f hp n o ho b c
structure Wk (h:Hp):Prop where
 s:Sm h
 z:h.ob 0=none
 p:1<=h.objs.length
 c:h.Closed
 m:∀ n o,h.ob n=some o->o.mode<=3
 l:∀ n,n∈h.grey∨n∈h.again∨n∈h.weak∨n∈h.G8->h.Lv n
theorem Wk.MZ {h g:Hp} (k:Wk h) (x:M7 h g) (a:g.nu<=h.nu) (b:∀ n,n∈g.grey∨n∈g.again∨n∈g.weak∨n∈g.G8->g.Lv n):Wk g:=
 ⟨k.s.MZ x a,x.zero k.z,by rw [x.len];exact k.p,x.closed k.c,x.md k.m,b⟩
theorem Wk.MQ (k:Wk h) (x:Mt h g) (b:g.nu<=h.nu):Wk g:=by
 refine k.MZ x.md b (fun n b=>(x.md.lv n).2 ?_);rcases b with a|a|a|a
 ·rcases x.lv n a with c|c
  ·exact k.l n (.inl c)
  ·exact c
 ·exact k.l n (.inr (.inl (by rw [<-x.md.again];exact a)))
 ·exact k.l n (.inr (.inr (.inl (by rw [<-x.wk];exact a))))
 ·exact k.l n (.inr (.inr (.inr (by rw [<-x.ep];exact a))))
end
section
variable {S:Nat->Prop} {base:Nat} {h:Hp} {w:World}
theorem qH (h:Hp) (n:Nat):(h.upd n fun o=>{ o with col:=3 }).nu<=h.nu:=by
 have:=h.Kc n 3 rfl;show (h.upd n fun o=>{ o with col:=3 }).wn+h.grey.length+h.G8.length+h.weak.length<=h.wn+h.grey.length+h.G8.length+h.weak.length;omega
theorem rQ {L:SM} (a:MV base S h L w) (k:Wk h) (a4:h.nu+h.again.length+1<=20000) (n:Nat) (hl:h.Lv n):
 Calls Tryz.prog 66 #[.pointer (some ⟨L.H,0,none⟩),.int .i64 (n:Int)] w fun e w'=>e=.returned (.int .i64 ((h.scan n).2:Int))/\∃ L',Lm L L'/\MV base S (h.scan n).1 L' w'/\Keeps w w' S:=by
 obtain ⟨o,ho⟩:=hl;have hn:=Hp.Ia ho;have a6:=k.s.len;have a7:=k.s.es n o ho;obtain ⟨g,V,Q,a0,d⟩:=a.slot k.p;have R:=d n hn;have c0:w.cell? ⟨L.H,0,none⟩=some (.slice (some ⟨g,0,none⟩) h.objs.length V):=by rw [<-Q];exact a.hp.c 0
 obtain ⟨r0,j⟩:=a.ob n o ho;have c1:w.cell? ⟨L.ob n,1,none⟩=some (.int .i64 o.col):=j.c 1;have z1:=j.ME 1;have HB:=ah (a.Mk n 1 (.int .i64 3) (fun o=>{ o with col:=3 }) (by decide) ho ⟨rfl,rfl⟩ (fun r i=>by
  unfold kY;by_cases x:i=1
  ·subst x;simp
  ·simp [x]))
 have b:=M7.col h n 3 rfl;have N:Hq ((h.upd n fun o=>{ o with col:=3 }).ob n=some { o with col:=3 }):=ah (by rw [Hp.Ho,if_pos rfl,ho];rfl);have M:Hq (h.scan n=((h.upd n fun o=>{ o with col:=3 }).Ik n { o with col:=3 },1+o.es.length)):=ah (by unfold Hp.scan;rw [ho];rfl);have HK:=ah (k.s.MZ b (qH h n));have HN:Hq ((h.upd n fun o=>{ o with col:=3 }).nu+(h.upd n fun o=>{ o with col:=3 }).again.length+1<=20000):=ah (by
  have:=qH h n;rw [show (h.upd n fun o=>{ o with col:=3 }).again=h.again from rfl];omega)
 have X:=ah (b.zero k.z);have HP:Hq (1<=(h.upd n fun o=>{ o with col:=3 }).objs.length):=ah (by rw [b.len];exact k.p);have HR:=ah (wJ.of (b.zero k.z) (b.closed k.c) N.o);have HM:=ah (k.m n o ho);have Y:=ah (a.ents ho);have HA:=ah a;clear d b ho j a;go_enter Tryz.func66,Tryz.ntmps66;go_upto_region 3 with (fail)
 generalize w.setCell ⟨L.ob n,1,none⟩ (.int .i64 3)=w5 at *;generalize hq:(h.upd n fun o=>{ o with col:=3 })=q at *;have HQ:=ah hq;clear hq;have W:=HB.o.1;obtain ⟨r5,u⟩:=W.ob n _ N.o;have e3:w5.cell? ⟨L.ob n,3,none⟩=some (.int .i64 0):=u.c 3;have l:=ah (jP W HK.o X.o 0 HP.o);have v:q.mark 0=q:=by unfold Hp.mark;rw [X.o]
 rw [v,show ((0:Nat):Int)=(0:Int) from rfl] at l;clear u W v c0 c1 R z1;go_wp2_with fail;refine l.o.mono ?_;rintro e9 w6 ⟨rfl,L6,B,G,D⟩;have t:=ah (And.intro B (And.intro G D));clear B G D l;obtain ⟨H1,a2,P,U,a3,a1⟩:=L6;obtain rfl:H1=L.H:=t.o.1.H;obtain rfl:P=L.ob:=t.o.1.ob;obtain rfl:U=L.es:=t.o.1.es;obtain ⟨A,J,E,T,-⟩:=Y.o;obtain ⟨r6,f⟩:=t.o.2.1.ob n _ N.o;have f0:w6.cell? ⟨L.ob n,0,none⟩=some (.int .i64 5):=f.c 0;have f5:w6.cell? ⟨L.ob n,5,none⟩=some (.slice A o.es.length J):=by rw [<-E];exact f.c 5
 have K:=ah (o_ t.o.2.1 HK.o HN.o X.o HP.o n _ N.o HR.o HM.o);clear f E e3;go_wp2_with fail;refine K.o.mono ?_;rintro e9 w7 ⟨rfl,L7,y,F,C⟩;have Z:=ah (And.intro y (And.intro F C));clear y F C K;go_wp2;go_ret;refine ⟨by rw [M.o];simp,L7,t.o.1.trans Z.o.1,by rw [M.o];exact Z.o.2.1,(HB.o.2.trans t.o.2.2).trans Z.o.2.2⟩
end
section
variable {S:Nat->Prop} {base cap m n size:Nat} {gs:List Nat} {w:World} {xs:List Value}
theorem lJ {e:Nat} {a:Option Addr} (h:w.ownsRow base e size (.slice a n cap) n xs) (hm:m<=n):w.ownsRow base e size (.slice a m cap) m (xs.take (m*size)):=by
 obtain ⟨r,q|⟨g,b,l,c,k,p,d,j,i,o⟩⟩:=h
 ·obtain ⟨c,rfl⟩:=q
  obtain rfl:m=0:=by omega
  refine ⟨by simp,.inl ⟨?_,rfl⟩⟩;exact c
 ·have f:m*size<=n*size:=Nat.mul_le_mul_right _ hm
  refine ⟨by rw [bf,r];omega,.inr ⟨g,b,l,?_,k,p,aI hm d,j,i,?_⟩⟩
  ·simp at c
   simp [c]
  ·rw [<-o,List.take_take,Nat.min_eq_left f]
theorem Wk.take {h:Hp} (k:Wk h) (t:MP h No) (a:h.grey≠[]):Wk h.take.1:=k.MZ (M7.take h) (h.JE a) t.take.ll
theorem Hp.JI {h:Hp} (a:h.grey=gs++[n]):h.take=Hp.scan { h with grey:=gs } n:=by
 unfold Hp.take;rw [a,List.getLast?_concat,List.dropLast_concat]
theorem Em (h:Hp) (a:h.grey=gs++[n]):Hp.nu { h with grey:=gs }+1=h.nu:=by
 show h.wn+gs.length+h.G8.length+h.weak.length+1=h.wn+h.grey.length+h.G8.length+h.weak.length;rw [a];simp;omega
theorem MV.pop {h:Hp} {L:SM} (a:MV base S h L w) (u:h.grey=gs++[n]):∃ g cap,L.li 7=.slice (some ⟨g,0,none⟩) (gs.length+1) cap/\gs.length+1<=cap/\w.cell? ⟨g,gs.length,none⟩=some (.int .i64 (n:Int))/\
 MV base S { h with grey:=gs } { L with li:=fun j=>if j=7 then .slice (some ⟨g,0,none⟩) gs.length cap else L.li j } (w.setCell ⟨L.H,7,none⟩ (.slice (some ⟨g,0,none⟩) gs.length cap))/\Keeps w (w.setCell ⟨L.H,7,none⟩ (.slice (some ⟨g,0,none⟩) gs.length cap)) S:=by
 have f:=a.li 7 (by simp [eO]);have q:g_ h 7=gs++[n]:=u;rw [q] at f;obtain ⟨x,cap,o⟩:=aF f;have l:(gs++[n]).length=gs.length+1:=by simp
 rw [l] at f o;rw [o] at f;rcases f.2 with ⟨_,z⟩|⟨g,r,v,i,hb,y,p,hr⟩
 ·omega
 ·simp at i
  obtain ⟨rfl,rfl⟩:=i;have k:=ay f (g:=g) (by simp [Value.ownBlock]);have b:=lJ f (m:=gs.length) (by omega);have d:w.ownsRow base 3 1 (.slice (some ⟨g,0,none⟩) gs.length cap) gs.length (eu gs):=by
   have:(eu (gs++[n])).take (gs.length*1)=eu gs:=by
    unfold eu;rw [List.map_append,Nat.mul_one];rw [List.take_append_of_le_length (by simp),List.take_of_length_le (by simp)]
   rw [this] at b;exact b
  obtain ⟨p1,t,s⟩:=a.JW (w1:=w) 7 (by simp [eO]) (Keeps.refl w _) _ gs d (fun g' e=>.inl (by rw [o];simpa [Value.ownBlock] using e));refine ⟨g,cap,o,p,?_,t,s⟩;rw [k.c (gs.length)];simp [eu,List.getD_eq_getElem?_getD]
theorem Wk.pop {h:Hp} (k:Wk h) (a:h.grey=gs++[n]):Wk { h with grey:=gs }/\Hp.nu { h with grey:=gs }+(Hp.again { h with grey:=gs }).length+1<=20000/\Hp.Lv { h with grey:=gs } n:=by
 have d:=Em h a;have b:=k.s.nu;refine ⟨⟨⟨k.s.len,?_,k.s.fp,k.s.fr,k.s.Nn,k.s.cr,k.s.lim,k.s.rt,k.s.es⟩,k.z,k.p,k.c,k.m,fun m hm=>?_⟩,?_,?_⟩
 ·show Hp.nu { h with grey:=gs }+h.again.length<=20000
  omega
 ·refine k.l m ?_
  rcases hm with x|x|x|x
  ·exact .inl (by rw [a];exact List.mem_append_left _ x)
  ·exact .inr (.inl x)
  ·exact .inr (.inr (.inl x))
  ·exact .inr (.inr (.inr x))
 ·show Hp.nu { h with grey:=gs }+h.again.length+1<=20000
  omega
 ·exact k.l n (.inl (by rw [a];simp))
theorem mo {h:Hp} {L:SM} (a:MV base S h L w) (k:Wk h) (t:MP h No):
 Calls Tryz.prog 92 #[.pointer (some ⟨L.H,0,none⟩)] w fun e w'=>(∃ z,e=.returned (.int .i64 z))/\∃ L',Lm L L'/\MV base S h.drain L' w'/\Keeps w w' S:=by
 have K:Hq (Wk h/\MP h No/\Lm L L/\MV base S h L w/\Keeps w w S):=ah ⟨k,t,Lm.refl L,a,Keeps.refl _ _⟩;clear a k t;go_enter Tryz.func92,Tryz.ntmps92;go_wp2
 go_loopg [3] h.mu (fun m zv wr=>∃ (z:Int) (q:Hp) (L':SM),zv=.int .i64 z/\Hq (q.mu=m/\q.drain=h.drain/\Wk q/\MP q No/\Lm L L'/\MV base S q L' wr/\Keeps w wr S))
 case atStart=>exact ⟨0,h,L,rfl,rfl,rfl,K.o⟩
 case round=>
  obtain ⟨z,q,L1,rfl,HI⟩:=hrel;clear K;obtain ⟨H1,a2,a1,a5,a3,a0⟩:=L1;obtain rfl:H1=L.H:=HI.out.2.2.2.2.1.H;by_cases A:q.grey=[]
  ·have u:=HI.out.2.2.2.2.2.1
   have R:=u.li 7 (by simp [eO]);rw [show g_ q 7=[] from A] at R;obtain ⟨x,cap,C⟩:=aF R;have c7:wr.cell? ⟨L.H,7,none⟩=some (.slice x 0 cap):=by
    have:=u.hp.c 7;rw [this];exact congrArg some C
   have HD:=ah (q.J2 A);clear u R C A;go_wp2;go_ret;exact ⟨⟨z,rfl⟩,_,HI.out.2.2.2.2.1,by rw [<-HI.out.2.1,HD.o];exact HI.out.2.2.2.2.2.1,HI.out.2.2.2.2.2.2⟩
  ·obtain ⟨gs,n,j⟩:∃ gs n,q.grey=gs++[n]:=⟨_,_,(List.dropLast_concat_getLast A).symm⟩
   obtain ⟨g,cap,C,Z,P,r,D⟩:=HI.out.2.2.2.2.2.1.pop j;have c7:wr.cell? ⟨L.H,7,none⟩=some (.slice (some ⟨g,0,none⟩) (gs.length+1) cap):=by
    have:=HI.out.2.2.2.2.2.1.hp.c 7;rw [this];exact congrArg some C
   have z7:=HI.out.2.2.2.2.2.1.hp.ME 7;have a4:gs.length<=20000:=by
    have:=HI.out.2.2.1.s.nu;simp only [Hp.nu,Hp.mu,j,bI,List.length_singleton] at this;omega
   have T:=ah (And.intro r D);have W:=ah A;have i:=ah j;clear C r D A j;go_wp2_with fail;go_quiet (fail);go_wp2_with fail;have M:=ah (aC (aT wr.heap.size wr) nq);generalize wr.drewN nq=w2 at *;have l:=ah (HI.out.2.2.2.2.2.1.low M.o);obtain ⟨N,b,B,Q,-,d,p⟩:=l.o.pop i.o;have d7:w2.cell? ⟨L.H,7,none⟩=some (.slice (some ⟨N,0,none⟩) (gs.length+1) b):=by
    have:=l.o.hp.c 7;rw [this];exact congrArg some B
   have y7:=l.o.hp.ME 7;have f:=ah (And.intro d p);have Y:(gs.length:Int)<=b:=by omega
   clear B d p c7 z7 P T
   go_region
   have y:=ah (aC (aT (w2.setCell ⟨L.H,7,none⟩ (.slice (some ⟨N,0,none⟩) gs.length b)).heap.size (w2.setCell ⟨L.H,7,none⟩ (.slice (some ⟨N,0,none⟩) gs.length b))) 1);have U:=ah (f.o.1.low y.o);have V:=ah (((Keeps.of M.o (au _) S).trans f.o.2).trans (Keeps.of y.o (au _) S));have v:=ah (rQ U.o (HI.out.2.2.1.pop i.o).1 (HI.out.2.2.1.pop i.o).2.1 n (HI.out.2.2.1.pop i.o).2.2);rw [<-Hp.JI i.o] at v;have G:∀ x:World,x.drew=x.drewN 1:=fun x=>rfl;rw [G];clear G;generalize (w2.setCell ⟨L.H,7,none⟩ (.slice (some ⟨N,0,none⟩) gs.length b)).drewN 1=w4 at *;clear f y l d7 y7;go_wp2_with fail;refine v.o.mono ?_;rintro e9 w5 ⟨rfl,L5,E,J,F⟩;have X:=ah (And.intro E (And.intro J F));clear E J F v;go_wp2
   go_roundg q.take.1.mu
   case rel=>
    refine ⟨_,q.take.1,L5,rfl,rfl,?_,HI.out.2.2.1.take HI.out.2.2.2.1 W.o,HI.out.2.2.2.1.take,?_,X.o.2.1,?_⟩
    ·rw [<-q.Jg W.o];exact HI.out.2.1
    ·exact HI.out.2.2.2.2.1.trans ((Lm.set _ 7 (.inl rfl) _).trans X.o.1)
    ·exact (HI.out.2.2.2.2.2.2.trans V.o).trans X.o.2.2
   case measure=>
    have:=q.IX W.o;have:=HI.out.1;omega
end
end Go.Proofs.YtbpcdfbmnklcjaaGreatDoor
