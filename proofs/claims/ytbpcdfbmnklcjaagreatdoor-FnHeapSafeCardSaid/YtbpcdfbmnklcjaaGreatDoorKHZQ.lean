import Derived.Test.YtbpcdfbmnklcjaaGreatDoorKHXB0
import Derived.Test.YtbpcdfbmnklcjaaGreatDoorKHSP
import Derived.Test.YtbpcdfbmnklcjaaGreatDoorKHZO
namespace Go.Proofs.YtbpcdfbmnklcjaaGreatDoor
set_option linter.unusedVariables false
section
variable {es:List En} {h:Hp} {i t:Nat} {o:Ob}
theorem zB {q:HV} (h:kR es q=some i):∃ e,es[i]?=some e/\e.1=q:=by
 unfold kR at h;rw [List.findIdx?_eq_some_iff_getElem] at h;obtain ⟨hi,a,_⟩:=h;exact ⟨es[i],aN hi,by simpa [iK] using a⟩
theorem mY {q v:HV} (ho:h.ob t=some o):
 ∃ c es',(∀ m,(h.put t q v).ob m=if t=m then some ⟨c,o.mode,es',o.fin⟩ else h.ob m)/\gu c=gu o.col/\(gu o.col=true->c=o.col)/\(v.isSome=true->(q,v)∈es')/\(∀ e∈o.es,e.1≠q->e.2.isSome=true->e∈es')/\
   (∀ e∈es',e.2.isSome=true->(e∈o.es/\e.1≠q)∨(e.1=q/\(e.2=v∨e∈o.es)))/\
   (h.put t q v).objs.length=h.objs.length/\(h.put t q v).state=h.state/\(h.put t q v).white=h.white/\(h.put t q v).freed=h.freed/\(h.put t q v).weak=h.weak/\(h.put t q v).GZ=h.GZ/\(h.put t q v).roots=h.roots:=by
 have a:gu (if o.col=3/\h.state=1 then 2 else o.col)=gu o.col/\(gu o.col=true->(if o.col=3/\h.state=1 then 2 else o.col)=o.col):=by
  split
  ·rename_i x;rw [x.1];exact ⟨rfl,fun c=>by cases c⟩
  ·exact ⟨rfl,fun _=>rfl⟩
 unfold Hp.put;rw [ho];simp only;split
 ·rename_i i hi
  obtain ⟨J,b,z⟩:=zB hi;have A:∀ m,(h.upd t fun o=>{ o with es:=o.es.modify i fun e=>(e.1,v) }).ob m=if t=m then some { o with es:=o.es.modify i fun e=>(e.1,v) } else h.ob m:=by
   intro m;rw [Hp.Hf];by_cases x:t=m
   ·subst x;rw [if_pos rfl,if_pos rfl,ho];rfl
   ·rw [if_neg x,if_neg x]
  obtain ⟨B,H⟩:=Hp.JB ho A rfl;obtain ⟨w,E,j,g,k5,f,D,d,C,u,s,r,n,l,k⟩:=Hp.Ib (h.upd t fun o=>{ o with es:=o.es.modify i fun e=>(e.1,v) }) t;refine ⟨_,_,B,a.1,a.2,fun _=>?_,fun e he hne hs=>?_,fun e he hs=>?_,w.trans (h.Hu t _),f,k5,?_,j,g,d⟩
  ·refine aW (i:=i) ?_
   rw [List.getElem?_modify,b];simp [z]
  ·obtain ⟨p,hp⟩:=List.mem_iff_getElem?.1 he
   refine aW (i:=p) ?_;rw [List.getElem?_modify,hp];have:i≠p:=by
    intro c;subst c;rw [b] at hp;cases hp;exact hne z
   simp [this]
  ·obtain ⟨p,hp⟩:=List.mem_iff_getElem?.1 he
   rw [List.getElem?_modify] at hp;cases hb:o.es[p]? with
   |none=>rw [hb] at hp;simp at hp
   |some e1=>
    rw [hb] at hp;by_cases x:i=p
    ·subst x
     rw [b] at hb;cases hb;simp at hp;subst hp;exact .inr ⟨z,.inl rfl⟩
    ·simp [x] at hp
     subst hp;by_cases y:e1.1=q
     ·exact .inr ⟨y,.inr (aW hb)⟩
     ·exact .inl ⟨aW hb,y⟩
  ·unfold Hp.putAt Hp.back
   split
   ·split<;>rfl
   ·rfl
 ·rename_i G
  split
  ·rename_i F
   refine ⟨o.col,o.es,fun m=>?_,rfl,fun _=>rfl,fun c=>?_,fun e he _ _=>he,fun e he hs=>?_,rfl,rfl,rfl,rfl,rfl,rfl,rfl⟩
   ·by_cases x:t=m
    ·subst x;rw [if_pos rfl,ho]
    ·rw [if_neg x]
   ·cases v
    ·cases c
    ·cases F
   ·by_cases y:e.1=q
    ·exact .inr ⟨y,.inr he⟩
    ·exact .inl ⟨he,y⟩
  ·have A:∀ m,Hp.ob { h.upd t (fun o=>{ o with es:=aS o.es++[(q,v)] }) with bytes:=h.bytes-40*(o.es.length-(aS o.es).length)+40,GY:=h.GY+40 } m=if t=m then some { o with es:=aS o.es++[(q,v)] } else h.ob m:=by
    intro m;show (h.upd t fun o=>{ o with es:=aS o.es++[(q,v)] }).ob m=_;rw [Hp.Hf];by_cases x:t=m
    ·subst x;rw [if_pos rfl,if_pos rfl,ho];rfl
    ·rw [if_neg x,if_neg x]
   obtain ⟨B,H⟩:=Hp.JB ho A rfl;obtain ⟨w,E,j,g,k5,f,D,d,C,u,s,r,n,l,k⟩:=Hp.Ib { h.upd t (fun o=>{ o with es:=aS o.es++[(q,v)] }) with bytes:=h.bytes-40*(o.es.length-(aS o.es).length)+40,GY:=h.GY+40 } t;refine ⟨_,_,B,a.1,a.2,fun _=>List.mem_append_right _ (by simp),fun e he hne hs=>List.mem_append_left _ ?_,fun e he hs=>?_,w.trans (h.Hu t _),f,k5,?_,j,g,d⟩
   ·unfold aS
    split
    ·exact he
    ·exact List.mem_filter.2 ⟨he,hs⟩
   ·rcases aY.1 he with c|c
    ·by_cases y:e.1=q
     ·exact .inr ⟨y,.inr (jg c)⟩
     ·exact .inl ⟨jg c,y⟩
    ·simp at c;subst c;exact .inr ⟨rfl,.inl rfl⟩
   ·unfold Hp.H_ Hp.back
    split
    ·split<;>rfl
    ·rfl
theorem Ed.Ll {e x:Ed} (b:e.t=x.t) (a:(e.ob=true->e.num=0)/\(e.ob=false->e.key=0)) (hx:(x.ob=true->x.num=0)/\(x.ob=false->x.key=0)) (hk:e.k=x.k):e.sm x=true:=by
 unfold Ed.k at hk;unfold Ed.sm;cases h1:e.ob<;>cases h2:x.ob<;>simp [h1,h2] at hk a hx ⊢
 ·exact ⟨⟨b,by rw [a,hx]⟩,hk⟩
 ·exact ⟨⟨b,hk⟩,by rw [a,hx]⟩
theorem JJ.put {b:Bk} {h:Hp} {root:List Bool} (x:JJ b h root) {y:Ed} (L:(y.ob=true->y.num=0)/\(y.ob=false->y.key=0)) (J:h.Ok y.t) (hr:y.key<h.objs.length/\y.val<h.objs.length):
 JJ ⟨b.modes,b.roots,iE b.edges y⟩ (h.put y.t y.k (cO y.val)) root/\(∀ n,(h.put y.t y.k (cO y.val)).Lv n↔h.Lv n):=by
 obtain ⟨o,ho,nd⟩:=J;obtain ⟨c,es',g,R,U,K,r,_,M,w,u,_⟩:=mY (q:=y.k) (v:=cO y.val) ho;have p:∀ n a,(h.put y.t y.k (cO y.val)).ob n=some a->∃ o2,h.ob n=some o2/\a.mode=o2.mode:=by
  intro n a e;rw [g] at e;split at e
  ·rename_i z;subst z;cases e;exact ⟨o,ho,rfl⟩
  ·exact ⟨a,e,rfl⟩
 have B:∀ n a o2,(h.put y.t y.k (cO y.val)).ob n=some a->h.ob n=some o2->(¬ (h.put y.t y.k (cO y.val)).IG a->¬ h.IG o2):=by
  intro n a o2 e s l d;apply l;rw [g] at e;split at e
  ·rename_i z;subst z;rw [ho] at s;cases s;cases e
   exact ⟨w.trans d.1,R.trans d.2.1,by rw [u];show c≠_;rw [U d.2.1];exact d.2.2⟩
  ·rw [s] at e;cases e
   exact ⟨w.trans d.1,d.2.1,by rw [u];exact d.2.2⟩
 have A:∀ n,(h.put y.t y.k (cO y.val)).Ok n->h.Ok n:=by
  rintro n ⟨a,e,l⟩;obtain ⟨o2,s,_⟩:=p n a e;exact ⟨o2,s,B n a o2 e s l⟩
 obtain ⟨N,G⟩:=BO (x:=y) x.uq;have H:=Hp.Hy ho;refine ⟨⟨x.ml.trans M.symm,x.rt,fun n a e=>?_,fun e he=>?_,fun e he=>?_,N,fun e he hv a e' l=>?_⟩,fun n=>?_⟩
 ·obtain ⟨o2,f,m⟩:=p n a e
  rw [m];exact x.md n o2 f
 ·rw [M]
  rcases G e he with ⟨f,_⟩|⟨f,m,D,C,F⟩
  ·exact x.rg e f
  ·rw [f,D,C];exact ⟨H,hr⟩
 ·rcases G e he with ⟨f,_⟩|⟨f,m,D,C,F⟩
  ·exact x.nf e f
  ·rw [m,D,F];exact L
 ·rcases G e he with ⟨f,m⟩|⟨f,m,D,C,F⟩
  ·obtain ⟨o2,E,W⟩:=p _ _ e'
   have T:=x.j e f hv o2 E (B _ _ _ e' E l);have S:(cO e.val).isSome=true:=by rw [gM hv];rfl
   rcases T with k|k|⟨V,Q,P⟩
   ·refine .inl ?_
    rw [g] at e';split at e'
    ·rename_i z
     rw [<-z,ho] at E;cases E;cases e';refine r _ k (fun q=>?_) S;rw [Ed.Ll z.symm (x.nf e f) L q] at m;cases m
    ·rw [E] at e';cases e';exact k
   ·exact .inr (.inl (by omega))
   ·exact .inr (.inr ⟨by omega,Q,fun z=>P (A _ z)⟩)
  ·refine .inl ?_
   rw [g,f,if_pos rfl] at e';cases e';have:e.k=y.k:=by unfold Ed.k;rw [F,D,m]
   rw [this,C];exact K (by rw [<-C,gM hv];rfl)
 ·unfold Hp.Lv
  rw [g];by_cases z:y.t=n
  ·subst z;rw [if_pos rfl,ho];exact ⟨fun _=>⟨_,rfl⟩,fun _=>⟨_,rfl⟩⟩
  ·rw [if_neg z]
theorem gU (h:Hp) (m n:Nat):(h.make m).ob n=if n=h.objs.length then some ⟨h.white,m,[],false⟩ else h.ob n:=h.IV _ n
theorem JJ.make {b:Bk} {h:Hp} {root:List Bool} (x:JJ b h root) {m:Nat}:JJ ⟨b.modes++[(m:Int)],b.roots++[true],b.edges⟩ (h.make m) (root++[true]):=by
 have d:(h.make m).objs.length=h.objs.length+1:=by show (h.objs++[_]).length=_;simp
 have c:∀ n,n<h.objs.length->(h.make m).Ok n->h.Ok n:=by
  rintro n p ⟨o,e,nd⟩;rw [gU,if_neg (by omega)] at e;exact ⟨o,e,nd⟩
 refine ⟨by rw [d,aT,x.ml];rfl,by rw [x.rt],fun n o e=>?_,fun e he=>?_,x.nf,x.uq,fun e he hv o e' nd=>?_⟩
 ·rw [gU] at e
  split at e
  ·rename_i z
   cases e;rw [z,<-x.ml];simp
  ·have:=Hp.Hy e
   rw [dF (by rw [x.ml];exact this)];exact x.md n o e
 ·have:=x.rg e he
  rw [d];omega
 ·have a:=x.rg e he
  rw [gU,if_neg (by omega)] at e';rcases x.j e he hv o e' nd with k|k|⟨l,g,f⟩
  ·exact .inl k
  ·exact .inr (.inl k)
  ·exact .inr (.inr ⟨l,g,fun z=>f (c _ a.2.1 z)⟩)
theorem JJ.same {b:Bk} {h g:Hp} {root:List Bool} (x:JJ b h root) (l:∀ n,(g.ob n).map (fun o=>(o.col,o.mode,o.es))=(h.ob n).map (fun o=>(o.col,o.mode,o.es))) (s:g.objs.length=h.objs.length) (r:g.state=h.state) (q:g.white=h.white):JJ b g root:=by
 have f:∀ n a,g.ob n=some a->∃ o,h.ob n=some o/\a.col=o.col/\a.mode=o.mode/\a.es=o.es:=by
  intro n a e;have:=l n;rw [e] at this;cases e2:h.ob n with
  |none=>rw [e2] at this;simp at this
  |some o=>rw [e2] at this;simp at this;exact ⟨o,rfl,this.1,this.2.1,this.2.2⟩
 have hd:∀ o a:Ob,a.col=o.col->¬ g.IG a->¬ h.IG o:=fun o a c nd d=>nd ⟨r.trans d.1,by rw [c];exact d.2.1,by rw [c,q];exact d.2.2⟩;refine x.cs (g:={ g with freed:=h.freed }) (Cs.same s (fun n a e=>?_) (fun n k=>?_) rfl)|>fun y=>⟨y.ml,y.rt,y.md,y.rg,y.nf,y.uq,y.j⟩
 ·obtain ⟨o,p,_,m,u⟩:=f n a e
  exact ⟨o,p,m,u⟩
 ·obtain ⟨a,e,nd⟩:=k
  obtain ⟨o,p,m,_⟩:=f n a e;exact ⟨o,p,hd o a m nd⟩
end
section
variable {A C kd:Int} {g h:Hp} {gn root:List Bool} {hand k:Nat} {r:Rn}
def Fz (kd A B C:Int) (len:Nat):Prop:=(kd=2->∃ n c:Nat,A=(n:Int)/\C=(c:Int)/\n<len/\c<len)/\(kd=3->∃ n m c:Nat,A=(n:Int)/\B=(m:Int)/\C=(c:Int)/\n<len/\m<len/\c<len)/\(kd=4->∃ n:Nat,A=(n:Int)/\n<len)
structure KG (b':Bk) (h g:Hp) (root':List Bool):Prop where
 b:JJ b' g root'
 w:fu g
 nd:g.freed.Nodup
 fr:∀ x∈g.freed,¬ g.Lv x/\x<g.objs.length/\1<=x/\(x<h.objs.length->h.Lv x)
 lv:∀ n,n<h.objs.length->g.Lv n->h.Lv n
theorem KG.cs {b':Bk} {h q g:Hp} {root':List Bool} (y:JJ b' q root') (i:Inv q) (j:q.freed=[]) (d:∀ n,n<h.objs.length->q.Lv n->h.Lv n) (c:Cs q g) (w:fu g):KG b' h g root':=by
 obtain ⟨l,b,p,m⟩:=c.fr;rw [j,List.nil_append] at b;refine ⟨y.cs c,w,by rw [b];exact p,fun x hx=>?_,fun n hn l=>d n hn (c.lv l)⟩;rw [b] at hx;obtain ⟨a,f⟩:=m x hx;refine ⟨f,?_,?_,fun hn=>d x hn a⟩
 ·obtain ⟨o,e⟩:=a
  rw [c.len];exact Hp.Hy e
 ·obtain ⟨o,e⟩:=a
  rcases Nat.eq_zero_or_pos x with z|z
  ·subst z;rw [i.zero] at e;cases e
  ·exact z
theorem wE (x:Jl k h root hand) (a:C=0∨fJ h hand C):∃ c:Nat,C=(c:Int)/\c<h.objs.length:=by
 rcases a with rfl|a
 ·exact ⟨0,rfl,x.g.i.ps⟩
 ·obtain ⟨n,d,_,b,_⟩:=a.ok x
  exact ⟨n,d,b⟩
theorem fu.same (m:fu h) (a:∀ n,(g.ob n).map (fun o=>(o.col,o.mode,o.es))=(h.ob n).map (fun o=>(o.col,o.mode,o.es))) (b:g.weak=h.weak) (d:g.GZ=h.GZ):fu g:=m.of (fun n o' e=>by
 have:=a n;rw [e] at this;cases e2:h.ob n with
 |none=>rw [e2] at this;simp at this
 |some o=>rw [e2] at this;simp at this;exact ⟨o,rfl,this.2.1⟩) (fun n c=>b ▸ c) (fun n c=>d ▸ c)
theorem fu.put {h:Hp} (m:fu h) {t:Nat} {q v:HV} {o:Ob} (ho:h.ob t=some o):fu (h.put t q v):=by
 obtain ⟨c,es',a,_,_,_,_,_,_,_,_,_,b,d,_⟩:=mY (q:=q) (v:=v) ho;refine m.of (fun n o' e=>?_) (fun n c=>b ▸ c) (fun n c=>d ▸ c);rw [a] at e;split at e
 ·rename_i z;subst z;cases e;exact ⟨o,ho,rfl⟩
 ·exact ⟨o',e,rfl⟩
theorem fu.make {h:Hp} (m:fu h) (g:Gd h) (k:Nat):fu (h.make k):=by
 intro n o e;rw [gU] at e;split at e
 ·rename_i z
  have f:∀ l:List Nat,(∀ x∈l,h.Lv x)->n ∉ l:=fun l hl c=>by
   obtain ⟨o2,p⟩:=hl n c;have:=Hp.Hy p;omega
  by_cases j:h.state=1
  ·have t:=g.i.s1 j
   exact ⟨fun c=>(f h.weak (fun x hx=>t.ll x (.inr (.inr (.inl hx)))) c).elim,fun c=>(f h.GZ (fun x hx=>t.ll x (.inr (.inr (.inr hx)))) c).elim⟩
  ·obtain ⟨_,_,a,b⟩:=g.e j
   exact ⟨fun c=>by have d:n∈h.weak:=c;rw [a] at d;simp at d,fun c=>by have d:n∈h.GZ:=c;rw [b] at d;simp at d⟩
 ·exact m n o e
theorem xC (h:Hp) (n m:Nat):((h.Iu n).ob m).map (fun o=>(o.col,o.mode,o.es))=(h.ob m).map (fun o=>(o.col,o.mode,o.es)):=by
 show ((h.upd n fun o=>{ o with fin:=true }).ob m).map _=_;rw [Hp.Hf];split
 ·cases h.ob m<;>rfl
 ·rfl
theorem wu (a:∀ n,(g.ob n).map (fun o=>(o.col,o.mode,o.es))=(h.ob n).map (fun o=>(o.col,o.mode,o.es))) (n:Nat) (l:g.Lv n):h.Lv n:=by
 obtain ⟨b,e⟩:=l;have:=a n;rw [e] at this;cases e2:h.ob n with
 |none=>rw [e2] at this;simp at this
 |some o=>exact ⟨o,e2⟩
theorem D5 {B:Int} {b:Bk} (x:Jl k h root hand) (hk:k+1<=5000) (f:h.freed=[]) (T:bG h hand kd A B C) (w:fu h) (y:JJ b h root) (a:(fH h root kd A B C).code=0):
 KG (b.act kd A B C) h (fH h root kd A B C).h (fH h root kd A B C).root/\Fz kd A B C h.objs.length:=by
 have E:kd≠2->kd≠3->kd≠4->Fz kd A B C h.objs.length:=fun J H W=>⟨fun e=>(J e).elim,fun e=>(H e).elim,fun e=>(W e).elim⟩
 have d:∀ g:Hp,(∀ n,(g.ob n).map (fun o=>(o.col,o.mode,o.es))=(h.ob n).map (fun o=>(o.col,o.mode,o.es)))->g.objs.length=h.objs.length->g.state=h.state->g.white=h.white->g.weak=h.weak->g.GZ=h.GZ->g.freed=[]->KG b h g root:=by
  intro g V h2 h3 h4 h5 h6 h7;exact ⟨y.same V h2 h3 h4,w.same V h5 h6,by rw [h7];exact List.nodup_nil,fun z hz=>by rw [h7] at hz;simp at hz,fun n _ l=>wu V n l⟩
 have me:KG b h h root:=d h (fun _=>rfl) rfl rfl rfl rfl rfl f;unfold fH at a ⊢;unfold Bk.act;by_cases P:kd=1
 ·subst P
  rw [if_pos rfl] at a ⊢;rw [if_pos rfl];refine ⟨?_,E (by decide) (by decide) (by decide)⟩;split at a
  ·cases a
  ·rename_i hA
   rw [if_neg hA];have hm:A.toNat<=3:=by omega
   have U:((A.toNat:Nat):Int)=A:=by omega
   obtain ⟨g1,b1⟩:=x.g.make x.b hk f hm;have R:(root++[true]).length=root.length+1:=by simp
   have a4:(h.make A.toNat).objs.length=h.objs.length+1:=by show (h.objs++[_]).length=_;simp
   obtain ⟨g2,b2⟩:=g1.G9 b1 hk f (iB x.g.i hm x.l x.o) (by
    have h8:=gT (root++[true]) 0;rw [R,x.l] at h8;have h9:=b1.len;omega)
   have t:=y.make (m:=A.toNat);rw [U] at t;have y2:=t.same (g:=(h.make A.toNat).G9 (dR 0 (root++[true]))) (fun _=>rfl) rfl rfl rfl;have w2:fu ((h.make A.toNat).G9 (dR 0 (root++[true]))):=(w.make x.g A.toNat).same (fun _=>rfl) rfl rfl;obtain ⟨G,_,w3⟩:=iA.I6 ((h.make A.toNat).G9 (dR 0 (root++[true]))) g2 w2;refine KG.cs y2 g2.i f (fun n p l=>?_) G w3;obtain ⟨o,e⟩:=l;have e':(h.make A.toNat).ob n=some o:=e;rw [gU,if_neg (by omega)] at e';exact ⟨o,e'⟩
 rw [if_neg P] at a ⊢;rw [if_neg P];by_cases N:kd=2
 ·subst N
  rw [if_pos rfl] at a ⊢;rw [if_pos rfl];obtain ⟨J,H⟩:=bG.two.1 T;obtain ⟨n,rfl,_,u,p⟩:=J.ok x;obtain ⟨c,rfl,s⟩:=wE x H;simp only [Int.toNat_natCast];obtain ⟨o,ho,nd⟩:=id p;obtain ⟨t,K⟩:=y.put (y:=⟨n,B,0,c,false⟩) ⟨fun e=>(by cases e),fun _=>rfl⟩ p ⟨x.g.i.ps,s⟩;obtain ⟨_,_,_,_,_,_,_,_,_,_,_,D,_⟩:=mY (q:=some (.inl B)) (v:=cO c) ho;refine ⟨⟨t,w.put ho,by rw [D,f];exact List.nodup_nil,fun z hz=>by rw [D,f] at hz;simp at hz,fun m _ l=>(K m).1 l⟩,fun _=>⟨n,c,rfl,rfl,u,s⟩,fun e=>absurd e (by decide),fun e=>absurd e (by decide)⟩
 rw [if_neg N] at a ⊢;rw [if_neg N];by_cases M:kd=3
 ·subst M
  rw [if_pos rfl] at a ⊢;rw [if_pos rfl];obtain ⟨J,W,H⟩:=bG.three.1 T;obtain ⟨n,rfl,_,u,p⟩:=J.ok x;obtain ⟨m,rfl,a5,F,hm⟩:=W.ok x;obtain ⟨c,rfl,s⟩:=wE x H;simp only [Int.toNat_natCast];obtain ⟨o,ho,nd⟩:=id p;obtain ⟨t,K⟩:=y.put (y:=⟨n,0,m,c,true⟩) ⟨fun _=>rfl,fun e=>(by cases e)⟩ p ⟨F,s⟩;have S:Ed.k ⟨n,0,m,c,true⟩=cO m:=by rw [gM (by omega)];rfl
  rw [S] at t K;obtain ⟨_,_,_,_,_,_,_,_,_,_,_,D,_⟩:=mY (q:=cO m) (v:=cO c) ho;refine ⟨⟨t,w.put ho,by rw [D,f];exact List.nodup_nil,fun z hz=>by rw [D,f] at hz;simp at hz,fun m _ l=>(K m).1 l⟩,fun e=>absurd e (by decide),fun _=>⟨n,m,c,rfl,rfl,rfl,u,F,s⟩,fun e=>absurd e (by decide)⟩
 rw [if_neg M] at a ⊢;rw [if_neg M];by_cases L:kd=4
 ·subst L
  rw [if_pos rfl] at a ⊢;rw [if_pos rfl];obtain ⟨n,rfl,a0,Q,p⟩:=((bG.four (.inl rfl)).1 T).ok x;simp only [Int.toNat_natCast] at a ⊢;split at a
  ·cases a
  ·rename_i hB
   rw [if_neg hB];have q:=d (h.G9 (dR 0 (dJ root n B))) (fun _=>rfl) rfl rfl rfl rfl rfl f;refine ⟨⟨⟨q.b.ml,by show dJ b.roots n B=_;rw [y.rt],q.b.md,q.b.rg,q.b.nf,q.b.uq,q.b.j⟩,q.w,q.nd,q.fr,q.lv⟩,fun e=>absurd e (by decide),fun e=>absurd e (by decide),fun _=>⟨n,rfl,Q⟩⟩
 rw [if_neg L] at a ⊢;rw [if_neg L];refine ⟨?_,E N M L⟩;by_cases k5:kd=5
 ·subst k5
  rw [if_pos rfl] at a ⊢;split at a
  ·cases a
  ·rename_i p
   rw [if_neg p];exact d _ (xC h _) (fP h _).1 rfl rfl rfl rfl f
 rw [if_neg k5] at a ⊢;by_cases k6:kd=6
 ·subst k6
  rw [if_pos rfl] at a ⊢;split at a
  ·cases a
  ·rename_i p
   rw [if_neg p];obtain ⟨G,_,w3⟩:=iA.step A h x.g w;exact KG.cs y x.g.i f (fun n _ l=>l) G w3
 rw [if_neg k6] at a ⊢;by_cases Z:kd=7
 ·subst Z
  rw [if_pos rfl];obtain ⟨G,_,w3⟩:=iA.full x.g.i x.g w;exact KG.cs y x.g.i f (fun n _ l=>l) G w3
 rw [if_neg Z] at a ⊢;by_cases Y:kd=8
 ·rw [if_pos Y]
  exact d h.pop (fun _=>rfl) rfl rfl rfl rfl rfl f
 rw [if_neg Y] at a ⊢;by_cases X:kd=9
 ·rw [if_pos X]
  exact me
 ·rw [if_neg X] at a
  cases a
theorem Di {B:Int} (a:(fH h root kd A B C).code≠0):(fH h root kd A B C).h=h/\(fH h root kd A B C).root=root:=by
 unfold fH at a ⊢;by_cases m:kd=1
 ·rw [if_pos m] at a ⊢
  split at a
  ·rename_i c;rw [if_pos c];exact ⟨rfl,rfl⟩
  ·exact (a rfl).elim
 rw [if_neg m] at a ⊢;by_cases l:kd=2
 ·rw [if_pos l] at a;exact (a rfl).elim
 rw [if_neg l] at a ⊢;by_cases j:kd=3
 ·rw [if_pos j] at a;exact (a rfl).elim
 rw [if_neg j] at a ⊢;by_cases i:kd=4
 ·rw [if_pos i] at a ⊢
  split at a
  ·rename_i c;rw [if_pos c];exact ⟨rfl,rfl⟩
  ·exact (a rfl).elim
 rw [if_neg i] at a ⊢;by_cases k5:kd=5
 ·rw [if_pos k5] at a ⊢
  split at a
  ·rename_i c;rw [if_pos c];exact ⟨rfl,rfl⟩
  ·exact (a rfl).elim
 rw [if_neg k5] at a ⊢;by_cases f:kd=6
 ·rw [if_pos f] at a ⊢
  split at a
  ·rename_i c;rw [if_pos c];exact ⟨rfl,rfl⟩
  ·exact (a rfl).elim
 rw [if_neg f] at a ⊢;by_cases e:kd=7
 ·rw [if_pos e] at a;exact (a rfl).elim
 rw [if_neg e] at a ⊢;by_cases d:kd=8
 ·rw [if_pos d] at a ⊢
  by_cases hp:h.pending=[]
  ·refine ⟨?_,rfl⟩
   show { h with pending:=h.pending.dropLast }=h;rw [hp];cases h;cases hp;rfl
  ·rw [if_neg hp] at a;exact (a rfl).elim
 rw [if_neg d] at a ⊢;by_cases b:kd=9
 ·rw [if_pos b] at a;exact (a rfl).elim
 rw [if_neg b];exact ⟨rfl,rfl⟩
structure Bs (k:Nat) (b:Bk) (gn:List Bool) (r:Rn):Prop where
 ok:r.Ok k
 wm:fu r.h
 bk:JJ b r.h r.root
 gl:gn.length<=b.modes.length
 gd:∀ x,gn[x]?=some true->¬ r.h.Lv x
theorem Bs.new:Bs 0 Bk.new [] ⟨Hp.new,[false],0⟩:=by
 refine ⟨?_,fu.no rfl rfl,⟨rfl,rfl,fun n o e=>?_,fun e he=>(by cases he),fun e he=>(by cases he),List.Pairwise.nil,fun e he=>(by cases he)⟩,Nat.zero_le _,fun x hx=>by cases hx⟩
 ·have a:mg Hp.new:=⟨rfl,rfl⟩
  exact ⟨⟨Inv.new,Sm.of Inv.new a Bd.new (by omega) rfl (by decide),a,fun _=>⟨rfl,rfl,rfl,rfl⟩⟩,Bd.new,rfl,rfl,rfl,.inl rfl⟩
 ·rcases n with _|n
  ·cases e
  ·cases e
theorem Bs.no {b:Bk} (x:Bs k b gn r) (hk:k+1<=5000) {B:Int} (d:(cK r kd A B C).1.code≠0):Bs (k+1) b gn (cK r kd A B C).2:=by
 have ok:=qV x.ok hk kd A B C;have key:(cK r kd A B C).2.root=r.root/\((cK r kd A B C).2.h=r.h∨(cK r kd A B C).2.h=r.h.forget):=by
  unfold cK at d ⊢;split
  ·rename_i j
   rw [if_pos j] at d;simp only at d ⊢;split
   ·rename_i c
    obtain ⟨p,m⟩:=Di c;exact ⟨m,.inr p⟩
   ·rename_i c
    rw [if_neg c] at d;exact (d rfl).elim
  ·exact ⟨rfl,.inl rfl⟩
 generalize (cK r kd A B C).2=r' at ok key;obtain ⟨e1,i⟩:=key;have f:∀ n,r'.h.ob n=r.h.ob n:=fun n=>by rcases i with e|e<;>rw [e]<;>rfl
 have hm:∀ n,(r'.h.ob n).map (fun o=>(o.col,o.mode,o.es))=(r.h.ob n).map (fun o=>(o.col,o.mode,o.es)):=fun n=>by rw [f]
 have a:r'.h.objs.length=r.h.objs.length/\r'.h.state=r.h.state/\r'.h.white=r.h.white/\r'.h.weak=r.h.weak/\r'.h.GZ=r.h.GZ:=by rcases i with e|e<;>rw [e]<;>exact ⟨rfl,rfl,rfl,rfl,rfl⟩
 refine ⟨ok,x.wm.same hm a.2.2.2.1 a.2.2.2.2,?_,x.gl,fun z hz l=>x.gd z hz (wu hm z l)⟩;rw [e1];exact x.bk.same hm a.1 a.2.1 a.2.2.1
theorem Bs.yes {b:Bk} (x:Bs k b gn r) (hk:k+1<=5000) {B:Int} (e:(cK r kd A B C).1.code=0):
 Fz kd A B C r.h.objs.length/\b.modes.length=r.h.objs.length/\b.roots.length=r.h.objs.length/\Bs (k+1) (b.act kd A B C) gn (cK r kd A B C).2/\(cK r kd A B C).1.freed.Nodup/\
  ∀ z∈(cK r kd A B C).1.freed,1<=z/\z<(b.act kd A B C).modes.length/\gn[z]?≠some true/\¬ (b.act kd A B C).Rc z/\¬ (cK r kd A B C).2.h.Lv z:=by
 have ok:=qV x.ok hk kd A B C;have d:b.roots.length=r.h.objs.length:=by rw [x.bk.rt];exact x.ok.l
 have key:Fz kd A B C r.h.objs.length/\KG (b.act kd A B C) r.h (cK r kd A B C).2.h (cK r kd A B C).2.root/\(cK r kd A B C).1.freed=(cK r kd A B C).2.h.freed:=by
  unfold cK at e ⊢;split
  ·rename_i m
   rw [if_pos m] at e;simp only at e ⊢;split at e
   ·rename_i c;exact (c e).elim
   ·rename_i c
    rw [if_neg c];have x1:=x.ok.forget (by omega);obtain ⟨j,G⟩:=D5 x1 hk rfl (dO.2 m) (x.wm.same (g:=r.h.forget) (fun _=>rfl) rfl rfl) (x.bk.same (g:=r.h.forget) (fun _=>rfl) rfl rfl rfl) (by simpa using c);exact ⟨G,⟨j.b,j.w,j.nd,j.fr,j.lv⟩,rfl⟩
  ·rename_i m
   rw [if_neg m] at e;cases e
 generalize (cK r kd A B C).2=r' at ok key ⊢;generalize (cK r kd A B C).1.freed=fl at key ⊢;obtain ⟨v,a,rfl⟩:=key;have n:=a.b.ml;have p:b.modes.length<=(b.act kd A B C).modes.length:=by
  unfold Bk.act;split
  ·simp
  ·split
   ·exact au _
   ·split
    ·exact au _
    ·split<;>exact au _
 have f:∀ z,gn[z]?=some true->¬ r'.h.Lv z/\¬ r.h.Lv z/\z<r.h.objs.length:=fun z hz=>by
  have y:z<gn.length:=(aJ.1 hz).1;have:=x.gl;have H:=x.bk.ml;have q:z<r.h.objs.length:=by omega
  exact ⟨fun l=>x.gd z hz (a.lv z q l),x.gd z hz,q⟩
 refine ⟨v,x.bk.ml,d,⟨ok,a.w,a.b,aI x.gl p,fun z hz=>(f z hz).1⟩,a.nd,fun z hz=>?_⟩;obtain ⟨s,F,E,D⟩:=a.fr z hz;refine ⟨E,by rw [n];exact F,fun c=>?_,fun c=>s (Hp.IB (a.b.ok ok.g.i ok.o c)),s⟩;obtain ⟨_,u,t⟩:=f z c;exact u (D t)
end
end Go.Proofs.YtbpcdfbmnklcjaaGreatDoor
namespace Go.Proofs.YtbpcdfbmnklcjaaGreatDoor
open Go Go.RowKit
set_option maxHeartbeats 6400000
set_option maxRecDepth 100000
set_option linter.unusedVariables false
section
variable {F H R base hand k:Nat} {L L':PM} {S S':Nat->Prop} {h h':Hp} {o:Ob} {root sn:List Bool} {v:Value} {w w' w1:World}
attribute [local go_sem] bW
theorem PS.mono {base:Nat} {S S':Nat->Prop} {h:Hp} {L:PM} {w:World} (p:PS base S h L w) (c:∀ b,S b->S' b):PS base S' h L w:=by
 obtain ⟨x,y,G,a,r⟩:=p;exact ⟨x,y,G,a.mono c,r⟩
theorem PS.hole (p:PS base S h L w) (hb:Below w.heap.size w w1) (d:w.heap.size<=F) (c:F<w1.heap.size):PS base (fun b=>S b/\b≠F) h L w1:=by
 obtain ⟨x,y,G,a,r⟩:=p;have z:=a.low hb;refine ⟨x,y,G,⟨z.hp,z.ob,z.en,z.mp,z.li,z.ij,z.ei,z.mi,z.lj,z.bH,z.bt,z.bm,z.bs,⟨a.sH,?_⟩,fun n o e=>⟨a.st n o e,?_⟩,fun n o g e hg=>⟨a.se n o g e hg,?_⟩,fun n o g e hg=>⟨a.sm n o g e hg,?_⟩,fun k g hk hg=>⟨a.sl k g hk hg,?_⟩,fun b hb'=>⟨z.up b hb',by omega⟩⟩,r⟩
 ·have:=a.hp.lt;omega
 ·have:=(a.ob n o e).lt;omega
 ·have:=(ay (a.en n o e) hg).lt;omega
 ·have:=(a.mp n o e).lt hg;omega
 ·have:=(ay (a.li k hk) hg).lt;omega
structure PW (base:Nat) (S:Nat->Prop) (h:Hp) (L:PM) (R hand:Nat) (w:World):Prop where
 p:PS base S h L w
 r:aD w 69 R 2 (EO L.H (aK L.tb (cO hand)))
 n:¬ S R
theorem PW.low {base:Nat} {S:Nat->Prop} {h:Hp} {L:PM} {R hand:Nat} {w w':World} (x:PW base S h L R hand w) (hb:Below w.heap.size w w'):PW base S h L R hand w':=⟨x.p.low hb,x.r.keep (Keeps.of hb (au _) (fun _=>False)) id,x.n⟩
theorem PW.hole {base:Nat} {S:Nat->Prop} {h:Hp} {L:PM} {R hand:Nat} {w w1:World} (x:PW base S h L R hand w) (hb:Below w.heap.size w w1) {F:Nat} (c:w.heap.size<=F) (a:F<w1.heap.size):PW base (fun b=>S b/\b≠F) h L R hand w1:=⟨x.p.hole hb c a,(x.low hb).r,fun e=>x.n e.1⟩
def jk (base:Nat) (S:Nat->Prop) (H:Nat) (w:World) (v:Value) (h':Hp) (e:Ending) (w':World):Prop:=e=.returned v/\∃ L',L'.H=H/\PS base S h' L' w'/\Keeps w w' S
theorem jk.mk' (hb:Below w.heap.size w w1) (a:∀ b,S' b->S b) (hH:L'.H=H) (p:PS base S' h' L' w') (k:Keeps w1 w' S'):jk base S H w v h' (.returned v) w':=
 ⟨rfl,L',hH,p.mono a,(Keeps.of hb (au _) S).trans (k.mono a)⟩
theorem jk.same (p:PS base S h L w) (hb:Below w.heap.size w w'):jk base S L.H w v h (.returned v) w':=⟨rfl,L,rfl,p.low hb,Keeps.of hb (au _) S⟩
theorem lT (g:sn.length=h.objs.length) (d:∀ n:Nat,1<=n->(sn[n]?=some true↔(n=hand∨h.Reach n))) (z:Int):iR sn z=true↔fJ h hand z:=by
 constructor
 ·intro c
  obtain ⟨n,f,a,e,b⟩:=jN c;exact ⟨n,f,a,by omega,(d n a).1 b⟩
 ·rintro ⟨n,rfl,a,e,b⟩
  exact Ag a ((d n a).2 b)
theorem nH (x:PW base S h L R hand w) (g:Gd h) (A:Int):
 Calls Tryz.prog 53 #[.pointer (some ⟨R,0,none⟩),.int .i64 A] w (jk base S L.H w (.int .i64 (if A<1∨1000000<A then 2 else 0)) (if A<1∨1000000<A then h else Hp.step A h)):=by
 have e:=ah (gI w A 1 1000000);have r0:w.cell? ⟨R,0,none⟩=some (.pointer (some ⟨L.H,0,none⟩)):=x.r.c 0;by_cases hA:A<1∨1000000<A
 ·rw [if_pos hA,if_pos hA]
  rw [show (decide ((1:Int)<=A)&&decide (A<=1000000))=false by simp;omega] at e;have q:=ah x.p;clear x hA;go_enter Tryz.func53,Tryz.ntmps53;go_wp2_with fail;refine e.o.mono ?_;rintro l j ⟨rfl,rfl⟩;go_wp2;go_ret;exact jk.same q.o (aG _ _)
 ·rw [if_neg hA,if_neg hA]
  rw [show (decide ((1:Int)<=A)&&decide (A<=1000000))=true by simp;omega] at e;have n:=ah (mF x.p g A (by omega));clear x hA;go_enter Tryz.func53,Tryz.ntmps53;go_wp2_with fail;refine e.o.mono ?_;rintro l j ⟨rfl,rfl⟩;go_wp2_with fail;refine n.o.mono ?_;rintro s w3 ⟨rfl,m,b,a,d⟩;have f:=ah (i.intro b (i.intro a d));clear b a d;go_wp2;go_ret;exact ⟨rfl,m,f.o.1.H,f.o.2.1,f.o.2.2⟩
theorem Jl.put (x:Jl k h root hand) (hk:k<=5000) (b:MG h) {n:Nat} (ho:h.ob n=some o) (c:h.Ok n) {q:HV} (j:oM q) (f:q.isSome=true) (d:iP h q):Ko h o q:=by
 obtain ⟨l,a,nd⟩:=c;rw [ho] at a;cases a;have e1:=x.g.n.es ho;have s:=x.b.Nh;have r:=x.b.cr;have p:=x.b.na;refine ⟨j,f,d,by omega,fun e he m hm=>?_,b.k n o ho,by omega,by omega,by omega,by omega⟩;exact Hp.IB (x.g.i.nc n o ho nd e he m (List.mem_append_left _ (by rw [hm];simp [bQ])))
theorem B_ {n:Nat} (b:h.objs.length<=5001) (a:n<h.objs.length):oM (cO n):=by
 unfold cO;split
 ·trivial
 ·show n<=1000000
  omega
theorem CV {n:Nat} (a:n=0∨h.Lv n):iP h (cO n):=by
 intro m hm;unfold cO at hm;split at hm
 ·cases hm
 ·rename_i c
  simp at hm;subst hm;exact a.resolve_left c
end
section
variable {L:PM} {R base hand k:Nat} {S:Nat->Prop} {h:Hp} {root:List Bool} {w:World}
attribute [local go_sem] bW
theorem CF {a b:Bool} (h:(a||b)=true):a=true∨b=true:=by cases a<;>simp_all
theorem qw (x:PW base S h L R hand w) (ok:Jl k h root hand) (hk:k<=5000) (b:MG h) (A B C:Int) (hB: -9223372036854775808<=B/\B<=9223372036854775807) (code:Int) (h':Hp) (P:fJ h hand A/\(C=0∨fJ h hand C)->code=0/\h'=h.put A.toNat (some (.inl B)) (cO C.toNat)) (a0:¬ (fJ h hand A/\(C=0∨fJ h hand C))->code=3/\h'=h):
 Calls Tryz.prog 49 #[.pointer (some ⟨R,0,none⟩),.int .i64 A,.int .i64 B,.int .i64 C] w (jk base S L.H w (.int .i64 code) h'):=by
 have f:=ah P;have y:=ah a0;clear P a0;have HD:=ah (jU x.p ok.g ok.g.s.len x.r ok.hd ok.g.s.rt);have HX:=ah x;have a7:=ah ok;have b4:=ah b;have c0:=ok.g.s.len;have vE:=ok.g.i.ps;clear x ok b;go_enter Tryz.func49,Tryz.ntmps49;go_wp2_with fail;refine HD.o.mono ?_;rintro e1 w1 ⟨F,sn,rfl,U,E,b0,T,X⟩;have l:=ah E;have Y:=ah X;have hN:sn.length<=1000000:=by omega
 have a6:1<=sn.length:=by omega
 have M:=ah (lT U T);have c2:=ah T;have v:=ah (HX.o.hole X b0 E.lt);have a5:=E.lt;have c3:=ah U;clear E X T HD U;have HH:=ah (iU l.o a6 hN A);have HV:=ah (pI l.o a6 hN C);cases hA:iR sn A with
 |false=>
  rw [hA] at HH;have hn:¬ (fJ h hand A/\(C=0∨fJ h hand C)):=fun c=>by rw [(M.o A).2 c.1] at hA;cases hA
  obtain ⟨rfl,rfl⟩:=y.o hn;clear hA hn y f;go_wp2_with fail;refine HH.o.mono ?_;rintro e2 w2 ⟨rfl,rfl⟩;go_wp2;go_ret;exact jk.same HX.o.p Y.o
 |N=>
  rw [hA] at HH;cases hC:(C==0||iR sn C) with
  |false=>
   rw [hC] at HV;have hn:¬ (fJ h hand A/\(C=0∨fJ h hand C)):=fun c=>by
    rcases c.2 with c|c
    ·rw [c] at hC;simp at hC
    ·rw [(M.o C).2 c] at hC;simp at hC
   obtain ⟨rfl,rfl⟩:=y.o hn;clear hA hC hn y f;go_wp2_with fail;refine HH.o.mono ?_;rintro e2 w2 ⟨rfl,rfl⟩;go_wp2_with fail;refine HV.out.mono ?_;rintro e3 w3 ⟨rfl,rfl⟩;go_wp2;go_ret;exact jk.same HX.o.p Y.o
  |N=>
   rw [hC] at HV;obtain ⟨n,rfl,b8,V,a1⟩:=jN hA;have W:fJ h hand (n:Int)/\(C=0∨fJ h hand C):=⟨(M.o _).1 hA,by
    rcases CF hC with c|c
    ·exact .inl (by simpa using c)
    ·exact .inr ((M.o C).1 c)⟩
   obtain ⟨rfl,rfl⟩:=f.o W;clear y f;obtain ⟨t,b9,-,b6,u⟩:=W.1.ok a7.o;obtain rfl:t=n:=by omega
   obtain ⟨o,ho,-⟩:=id u;obtain ⟨c,rfl,a3⟩:∃ c:c1,C=(c:Int)/\(c=0∨sn[c]?=some N):=by
    rcases CF hC with d|d
    ·exact ⟨0,by simpa using d,.inl rfl⟩
    ·obtain ⟨m,d1,d2,d3,d4⟩:=jN d
     exact ⟨m,d1,.inr d4⟩
   have b1:=ah (a7.o.put hk b4.o ho u (q:=some (.inl B)) hB rfl (fun m hm=>by cases hm));have r0:w1.cell? ⟨R,0,none⟩=some (.pointer (some ⟨L.H,0,none⟩)):=v.o.r.c 0;have a4:=v.o.r.lt;have fn:=l.o.cell (j:=t) V;rw [nE a1] at fn;have b7:(t:Int)<(sn.length:Int):=by omega
   have b3:=ah a3;have b2:=ah ho;clear hA hC W a3 a1 u ho;go_wp2_with fail;refine HH.o.mono ?_;rintro e2 w2 ⟨rfl,rfl⟩;go_wp2_with fail;refine HV.out.mono ?_;rintro e3 w3 ⟨rfl,rfl⟩;go_wp2_with fail
   go_region_held3 (fun w'=>w'.cell? ⟨R,0,none⟩=some (.pointer (some ⟨L.H,0,none⟩))/\w'.cell? ⟨F,t,none⟩=some (.pointer (some ⟨L.tb t,0,none⟩))) (go_keep)
    (first
      |(go_at_call 74
        refine (uZ _ L.tb B).mono ?_;rintro e4 w4 ⟨rfl,Q⟩;have K:Below w3.heap.size w3 w4:=(aC (aG w3.heap.size w3) _).trans Q;have D:=ah K;have t0:=(K.cell (p:=⟨R,0,none⟩) a4).trans r0;have t1:=(K.cell (p:=⟨F,t,none⟩) a5).trans fn;clear K Q)
      |(go_at_call 75
        refine (mK (l.o.keep (Keeps.of D.o (a _) (fun _=>False)) id) c b3.o hN).mono ?_;rintro e5 w5 ⟨rfl,J⟩;have z:=ah (D.o.trans (J.mono D.o.size));have u0:=(J.cell (p:=⟨R,0,none⟩) (aX a4 D.o.size)).trans t0;have u1:=(J.cell (p:=⟨F,t,none⟩) (aX a5 D.o.size)).trans t1;clear J)
      |(go_at_call 73
        refine (pK (v.o.low z.o).p b2.o b1.o).mono ?_;rintro e6 w6 ⟨rfl,L6,a2,Z,G⟩;have H6:=ah (b5.intro a2 (b5.intro Z ((Keeps.of z.o (a _) (fun b=>S b/\b≠F)).trans G)));have v0:=((v.o.r.keep (Keeps.of z.o (a _) (fun _=>False)) id).keep G (fun e=>v.o.n e)).c 0;have v1:=((l.o.keep (Keeps.of z.o (a _) (fun _=>False)) id).keep G (fun e=>e.2 rfl)).cell (j:=t) V;have a9:w6.cell? ⟨R,0,none⟩=some (.pointer (some ⟨L.H,0,none⟩)):=v0;have a8:w6.cell? ⟨F,t,none⟩=some (.pointer (some ⟨L.tb t,0,none⟩)):=v1.trans (u1.symm.trans u1 ▸ (by rw [<-(((l.o.keep (Keeps.of z.o (a _) (fun _=>False)) id).cell (j:=t) V)),u1]));clear a2 Z G v0 v1))
   clear r0 fn t0 t1 u0 u1 a9 a8;go_wp2;go_ret;exact jk.mk' Y.o (fun b e=>e.1) H6.o.1.H H6.o.2.1 H6.o.2.2
theorem pE (x:PW base S h L R hand w) (ok:Jl k h root hand) (hk:k<=5000) (b:MG h) (A B C:Int) (code:Int) (h':Hp) (V:fJ h hand A/\fJ h hand B/\(C=0∨fJ h hand C)->code=0/\h'=h.put A.toNat (cO B.toNat) (cO C.toNat)) (a5:¬ (fJ h hand A/\fJ h hand B/\(C=0∨fJ h hand C))->code=3/\h'=h):
 Calls Tryz.prog 50 #[.pointer (some ⟨R,0,none⟩),.int .i64 A,.int .i64 B,.int .i64 C] w (jk base S L.H w (.int .i64 code) h'):=by
 have f:=ah V;have t:=ah a5;clear V a5;have HD:=ah (jU x.p ok.g ok.g.s.len x.r ok.hd ok.g.s.rt);have HX:=ah x;have a3:=ah ok;have c1:=ah b;have b5:=ok.g.s.len;have vE:=ok.g.i.ps;clear x ok b;go_enter Tryz.func50,Tryz.ntmps50;go_wp2_with fail;refine HD.o.mono ?_;rintro e1 w1 ⟨F,sn,rfl,Z,M,b6,Y,a0⟩;have u:=ah M;have U:=ah a0;have hN:sn.length<=1000000:=by omega
 have a2:1<=sn.length:=by omega
 have v:=ah (lT Z Y);have d5:=ah Y;have E:=ah (HX.o.hole a0 b6 M.lt);have a1:=M.lt;have d6:=ah Z;clear M a0 Y HD Z;have HH:=ah (iU u.o a2 hN A);have G:=ah (iU u.o a2 hN B);have HV:=ah (pI u.o a2 hN C);cases hA:iR sn A with
 |false=>
  rw [hA] at HH;obtain ⟨rfl,rfl⟩:=t.o (fun c=>by rw [(v.o A).2 c.1] at hA;cases hA);clear hA t f;go_wp2_with fail;refine HH.o.mono ?_;rintro e2 w2 ⟨rfl,rfl⟩;go_wp2;go_ret;exact jk.same HX.o.p U.o
 |z=>
  rw [hA] at HH;cases hB:iR sn B with
  |false=>
   rw [hB] at G;obtain ⟨rfl,rfl⟩:=t.o (fun c=>by rw [(v.o B).2 c.2.1] at hB;cases hB);clear hA hB t f;go_wp2_with fail;refine HH.o.mono ?_;rintro e2 w2 ⟨rfl,rfl⟩;go_wp2_with fail;refine G.o.mono ?_;rintro e3 w3 ⟨rfl,rfl⟩;go_wp2;go_ret;exact jk.same HX.o.p U.o
  |z=>
   rw [hB] at G;cases hC:(C==0||iR sn C) with
   |false=>
    rw [hC] at HV;obtain ⟨rfl,rfl⟩:=t.o (fun c=>by
     rcases c.2.2 with c|c
     ·rw [c] at hC;simp at hC
     ·rw [(v.o C).2 c] at hC;simp at hC)
    clear hA hB hC t f;go_wp2_with fail;refine HH.o.mono ?_;rintro e2 w2 ⟨rfl,rfl⟩;go_wp2_with fail;refine G.o.mono ?_;rintro e3 w3 ⟨rfl,rfl⟩;go_wp2_with fail;refine HV.out.mono ?_;rintro e4 w4 ⟨rfl,rfl⟩;go_wp2;go_ret;exact jk.same HX.o.p U.o
   |z=>
    rw [hC] at HV;obtain ⟨n,rfl,c5,b3,a6⟩:=jN hA;obtain ⟨m,rfl,c8,c7,a7⟩:=jN hB;have P:fJ h hand (n:Int)/\fJ h hand (m:Int)/\(C=0∨fJ h hand C):=⟨(v.o _).1 hA,(v.o _).1 hB,by
     rcases CF hC with c|c
     ·exact .inl (by simpa using c)
     ·exact .inr ((v.o C).1 c)⟩
    obtain ⟨rfl,rfl⟩:=f.o P;clear t f;obtain ⟨K,c6,-,c3,D⟩:=P.1.ok a3.o;obtain rfl:K=n:=by omega
    obtain ⟨o,ho,-⟩:=id D;obtain ⟨m',c9,-,b4,W⟩:=P.2.1.ok a3.o;obtain rfl:m'=m:=by omega
    obtain ⟨c,rfl,a9⟩:∃ c:d0,C=(c:Int)/\(c=0∨sn[c]?=some z):=by
     rcases CF hC with d|d
     ·exact ⟨0,by simpa using d,.inl rfl⟩
     ·obtain ⟨q,d1,d2,d3,d4⟩:=jN d
      exact ⟨q,d1,.inr d4⟩
    have b7:=ah (a3.o.put hk c1.o ho D (q:=cO m') (B_ b5 b4) (by rw [gM (by omega)];rfl) (CV (.inr (Hp.IB W))));have r0:w1.cell? ⟨R,0,none⟩=some (.pointer (some ⟨L.H,0,none⟩)):=E.o.r.c 0;have b0:=E.o.r.lt;have fn:=u.o.cell (j:=K) b3;rw [nE a6] at fn;have c4:(K:Int)<(sn.length:Int):=by omega
    have c0:=ah a9;have b8:=ah a7;have b9:=ah ho;clear hA hB hC P a9 a6 a7 D ho W;go_wp2_with fail;refine HH.o.mono ?_;rintro e2 w2 ⟨rfl,rfl⟩;go_wp2_with fail;refine G.o.mono ?_;rintro e3 w3 ⟨rfl,rfl⟩;go_wp2_with fail;refine HV.out.mono ?_;rintro e4 w4 ⟨rfl,rfl⟩;go_wp2_with fail
    go_region_held3 (fun w'=>w'.cell? ⟨R,0,none⟩=some (.pointer (some ⟨L.H,0,none⟩))/\w'.cell? ⟨F,K,none⟩=some (.pointer (some ⟨L.tb K,0,none⟩))) (go_keep)
     (first
       |(have _z:=J
         go_at_call 73
         refine (pK (E.o.low J.o).p b9.o b7.o).mono ?_;rintro e7 w7 ⟨rfl,L7,a8,a4,N⟩;have H7:=ah (c2.intro a8 (c2.intro a4 ((Keeps.of J.o (l _) (fun b=>S b/\b≠F)).trans N)));have b2:w7.cell? ⟨R,0,none⟩=some (.pointer (some ⟨L.H,0,none⟩)):=((E.o.r.keep (Keeps.of J.o (l _) (fun _=>False)) id).keep N (fun e=>E.o.n e)).c 0;have b1:w7.cell? ⟨F,K,none⟩=some (.pointer (some ⟨L.tb K,0,none⟩)):=(aM (a:=⟨F,K,none⟩) (N.block F (aX a1 J.o.size) (fun e=>e.2 rfl))).trans u1;clear a8 a4 N)
       |(have _z:=y
         go_at_call 75
         refine (mK (u.o.keep (Keeps.of y.o (l _) (fun _=>False)) id) c c0.o hN).mono ?_;rintro e6 w6 ⟨rfl,Q⟩;have J:=ah (y.o.trans (Q.mono y.o.size));have u0:=(Q.cell (p:=⟨R,0,none⟩) (aX b0 y.o.size)).trans t0;have u1:=(Q.cell (p:=⟨F,K,none⟩) (aX a1 y.o.size)).trans t1;clear Q)
       |(go_at_call 75
         refine (mK (u.o.keep (Keeps.of (aC (aG w4.heap.size w4) _) (l _) (fun _=>False)) id) m' (.inr b8.o) hN).mono ?_;rintro e5 w5 ⟨rfl,X⟩;have T:Below w4.heap.size w4 w5:=(aC (aG w4.heap.size w4) _).trans X;have y:=ah T;have t0:=(T.cell (p:=⟨R,0,none⟩) b0).trans r0;have t1:=(T.cell (p:=⟨F,K,none⟩) a1).trans fn;clear T X))
    clear r0 fn t0 t1 u0 u1 b2 b1;go_wp2;go_ret;exact jk.mk' U.o (fun b e=>e.1) H7.o.1.H H7.o.2.1 H7.o.2.2
theorem mH (x:PW base S h L R hand w) (ok:Jl k h root hand) (hk:k<=5000) (b:MG h) (A:Int) (code:Int) (h':Hp) (C:fJ h hand A->vG h A.toNat=false->code=0/\h'=h.Iu A.toNat) (D:fJ h hand A->vG h A.toNat=true->code=4/\h'=h) (Q:¬ fJ h hand A->code=3/\h'=h):
 Calls Tryz.prog 52 #[.pointer (some ⟨R,0,none⟩),.int .i64 A] w (jk base S L.H w (.int .i64 code) h'):=by
 have l:=ah C;have m:=ah D;have B:=ah Q;clear C Q D;have HD:=ah (jU x.p ok.g ok.g.s.len x.r ok.hd ok.g.s.rt);have HX:=ah x;have V:=ah ok;have b8:=ah b;have b4:=ok.g.s.len;have vE:=ok.g.i.ps;clear x ok b;go_enter Tryz.func52,Tryz.ntmps52;go_wp2_with fail;refine HD.o.mono ?_;rintro e1 w1 ⟨F,sn,rfl,G,y,a5,E,K⟩;have U:=ah y;have M:=ah K;have hN:sn.length<=1000000:=by omega
 have a6:1<=sn.length:=by omega
 have W:=ah (lT G E);have b6:=ah E;have v:=ah (HX.o.hole K a5 y.lt);have a4:=y.lt;have b7:=ah G;clear y K E HD G;have X:=ah (iU U.o a6 hN A);cases hA:iR sn A with
 |false=>
  rw [hA] at X;obtain ⟨rfl,rfl⟩:=B.o (fun c=>by rw [(W.o A).2 c] at hA;cases hA);clear hA B l m;go_wp2_with fail;refine X.o.mono ?_;rintro e2 N ⟨rfl,rfl⟩;go_wp2;go_ret;exact jk.same HX.o.p M.o
 |true=>
  rw [hA] at X;obtain ⟨n,rfl,b2,a1,J⟩:=jN hA;have u:=(W.o _).1 hA;obtain ⟨f,b3,-,b0,t⟩:=u.ok V.o;obtain rfl:f=n:=by omega
  obtain ⟨o,ho,-⟩:=id t;have q:vG h (f:Int).toNat=o.fin:=by rw [Int.toNat_natCast];unfold vG;rw [ho]
  have r0:w1.cell? ⟨R,0,none⟩=some (.pointer (some ⟨L.H,0,none⟩)):=v.o.r.c 0;have a2:=v.o.r.lt;have fn:=U.o.cell (j:=f) a1;rw [nE J] at fn;have b1:(f:Int)<(sn.length:Int):=by omega
  obtain ⟨_,_,_,aP,_⟩:=id v.o.p;have t4:w1.cell? ⟨L.tb f,4,none⟩=some (.bool o.fin):=(aP.ob f o ho).c 4;clear aP;cases hf:o.fin with
  |true=>
   rw [hf] at t4 q;obtain ⟨rfl,rfl⟩:=m.o u q;clear hA B l m u t ho hf q J;go_wp2_with fail;refine X.o.mono ?_;rintro e2 N ⟨rfl,rfl⟩;go_wp2;go_ret;exact jk.same HX.o.p M.o
  |false=>
   rw [hf] at t4 q;obtain ⟨rfl,rfl⟩:=l.o u q;have a8:Hq (h.finals.length<=20000):=ah (by have:=V.o.b.fp;omega);have a7:=ah ho;have a3:Hq ((f:Int).toNat=f):=ah (Int.toNat_natCast f);rw [a3.out];clear hA B l m u t ho hf q J;go_wp2_with fail;refine X.o.mono ?_;rintro e2 N ⟨rfl,rfl⟩;go_wp2_with fail
   go_region_held3 (fun w'=>w'.cell? ⟨R,0,none⟩=some (.pointer (some ⟨L.H,0,none⟩))/\w'.cell? ⟨F,f,none⟩=some (.pointer (some ⟨L.tb f,0,none⟩))) (go_keep)
    (first
      |(go_at_call 80
        refine (vB (v.o.low (aC (d _ _) _)).p a7.o a8.o).mono ?_;rintro e7 w7 ⟨rfl,L7,T,P,z⟩;have b5:=aC (d N.heap.size N) 1;have H7:=ah (a9.intro T (a9.intro P ((Keeps.of (aC (d N.heap.size N) _) (Y _) (fun b=>S b/\b≠F)).trans z)));have a0:w7.cell? ⟨R,0,none⟩=some (.pointer (some ⟨L.H,0,none⟩)):=(aM (a:=⟨R,0,none⟩) (z.block R a2 (fun e=>v.o.n e))).trans r0;have Z:w7.cell? ⟨F,f,none⟩=some (.pointer (some ⟨L.tb f,0,none⟩)):=(aM (a:=⟨F,f,none⟩) (z.block F a4 (fun e=>e.2 rfl))).trans fn;clear T P z))
   clear r0 fn t4 a0 Z;go_wp2;go_ret;exact jk.mk' M.o (fun b e=>e.1) H7.o.1.H H7.o.2.1 H7.o.2.2
end
end Go.Proofs.YtbpcdfbmnklcjaaGreatDoor
