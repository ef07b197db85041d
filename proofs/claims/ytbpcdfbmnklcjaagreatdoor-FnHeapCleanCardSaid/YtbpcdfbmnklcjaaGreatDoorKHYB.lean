import Derived.Test.YtbpcdfbmnklcjaaGreatDoorKHST0
import Derived.Test.YtbpcdfbmnklcjaaGreatDoorKLH6
import Derived.Test.YtbpcdfbmnklcjaaGreatDoorKHS9
import Derived.ArgAppend
import Derived.Test.YtbpcdfbmnklcjaaGreatDoorKHSP
namespace Go.Proofs.YtbpcdfbmnklcjaaGreatDoor
set_option linter.unusedVariables false
section
variable {g h:Hp} {k:Nat} {u:Int}
def kJ (h g:Hp):Prop:=∀ n o,g.ob n=some o->∃ o',h.ob n=some o'/\o'.es.length=o.es.length/\∀ (j:Nat) (e:En),o.es[j]?=some e->∃ e',o'.es[j]?=some e'/\kX e e'
theorem kJ.refl (h:Hp):kJ h h:=fun n o e=>⟨o,e,rfl,fun j e h=>⟨e,h,kX.refl e⟩⟩
theorem kJ.trans {a b c:Hp} (x:kJ a b) (y:kJ b c):kJ a c:=by
 intro n o e;obtain ⟨o1,t,s,r⟩:=y n o e;obtain ⟨o2,q,p,m⟩:=x n o1 t;refine ⟨o2,q,p.trans s,fun j e he=>?_⟩;obtain ⟨e1,l,i⟩:=r j e he;obtain ⟨v,f,d⟩:=m j e1 l;exact ⟨v,f,i.trans d⟩
theorem kJ.same (x:∀ n o,g.ob n=some o->∃ o',h.ob n=some o'/\o'.es=o.es):kJ h g:=by
 intro n o e;obtain ⟨o',b,a⟩:=x n o e;exact ⟨o',b,by rw [a],fun j e he=>⟨e,by rw [a];exact he,kX.refl e⟩⟩
theorem M7.MS (x:M7 h g):kJ h g:=kJ.same (fun n o e=>by
 obtain ⟨a,c,_,b,_⟩:=x.ob e;exact ⟨a,c,b⟩)
theorem Np.MS (x:Np h g):kJ h g:=by
 intro n o e;rcases x.ob n with ⟨a,d⟩|⟨o1,i,a,d,_,_,_,c,f,b⟩
 ·rw [a] at e;cases e
 ·rw [a] at e;cases e
  refine ⟨o1,d,by rw [b];simp,fun j e he=>?_⟩;rw [b,fC] at he;cases hb:o1.es[j]? with
  |none=>rw [hb] at he;simp at he
  |some e0=>rw [hb] at he;simp at he;subst he;exact ⟨e0,rfl,f e0⟩
theorem uL (h:Hp):kJ h h.Hw:=kJ.same (fun n o e=>by
 obtain ⟨_,_,_,a,_,c⟩:=dL h.finals (h,[]);have:=a n;have b:(h.finals.foldl Hp.Hy (h,[])).1.ob n=some o:=e;rw [b] at this;cases x2:h.ob n with
 |none=>rw [x2] at this;simp at this
 |some o'=>rw [x2] at this;simp at this;exact ⟨o',rfl,this.2.2.symm⟩)
theorem vN (h:Hp):kJ h h.atomic:=by
 have c:=(Np.at4 h.MK.at2.at3).trans (Np.Mi _);have x1:kJ h h.MK:=kJ.trans (kJ.same (h:=h) (g:={ h with again:=h.MK.again }) (fun n o e=>⟨o,e,rfl⟩)) (M7.MS (jM.MK h));have b:kJ h.MK h.MK.at2:=((Np.fold bU bZ h.MK.weak h.MK).MS).trans (uL _);have a:kJ h.MK.at2.at3.at4.Mi h.atomic:=kJ.same (fun n o e=>⟨o,e,rfl⟩);exact ((x1.trans b).trans ((M7.at3 h.MK.at2).MS)).trans (c.MS.trans a)
structure Cl (h g:Hp):Prop where
 len:g.objs.length=h.objs.length
 na:g.nu+g.again.length<=max (h.nu+h.again.length) h.objs.length
 fp:g.finals.length+g.pending.length=h.finals.length+h.pending.length
 Nn:g.bytes<=h.bytes
 cr:g.G6<=h.G6
 rt:g.roots=h.roots
 es:kJ h g
theorem Cl.refl (h:Hp):Cl h h:=⟨rfl,Nat.le_max_left _ _,rfl,au _,au _,rfl,kJ.refl h⟩
theorem Cl.trans {a b c:Hp} (x:Cl a b) (y:Cl b c):Cl a c:=by
 refine ⟨y.len.trans x.len,?_,y.fp.trans x.fp,aI y.Nn x.Nn,aI y.cr x.cr,y.rt.trans x.rt,x.es.trans y.es⟩;have f:=x.na;have e:=y.na;have d:=x.len;omega
theorem M7.cl (x:M7 h g) (a:g.nu<=h.nu):Cl h g:=
 ⟨x.len,by rw [x.again];omega,by rw [x.finals,x.pending],aO x.bytes,aO x.G6,x.roots,x.MS⟩
theorem qG (a:h.grey=[]/\h.again=[]/\h.weak=[]/\h.G8=[]):h.nu+h.again.length<=h.objs.length:=by
 rw [vY a.1 a.2.2.2 a.2.2.1,a.2.1];have:=uX h
 simpa using this
theorem Gd.KI (g:Gd h) (c:h.state=1):Cl h h.atomic:=by
 obtain ⟨hi,p,d,o⟩:=g.i.atomic c;obtain ⟨m,l,z,y,k5,j⟩:=h.IW;have q:=qG ((g.atomic c).e (by omega));have f:=(Np.at4 h.MK.at2.at3).trans (Np.Mi _);have b:=jM.MK h;obtain ⟨x,w,_⟩:=dX h.MK;have a:=M7.at3 h.MK.at2;refine ⟨d,by rw [d] at q;omega,?_,aO l,aO m,j,vN h⟩;have v:h.atomic.finals=h.MK.finals.filter (fun n=>!h.MK.M5 n):=f.finals.trans (a.finals.trans x);have t:h.atomic.pending=h.MK.pending++h.MK.finals.filter h.MK.M5:=f.pending.trans (a.pending.trans w);have s:h.MK.finals=h.finals:=b.finals;have r:h.MK.pending=h.pending:=b.pending;rw [v,t,bI,r];have:=nQ h.MK.M5 h.MK.finals;rw [s] at this ⊢;omega
theorem Gd.Kz (g:Gd h) (c:h.state=2):Cl h h.Hg:=by
 obtain ⟨n1,E,r⟩:=(show mg h.skipped from g.n).G_;obtain ⟨M,L,K,J,D,C,B,H⟩:=jI h.skipped;obtain ⟨F,s2,s⟩:=(g.i.skipped c).G_ c;have f:h.skipped.G_.G6=h.G6:=Hp.IJ _;have d:kJ h h.skipped.G_:=kJ.same (fun n o e=>lH (h:=h.skipped) e);have b:h.Hg.state≠1:=by
  show h.skipped.G_.skipped.close.state≠1;have G:h.skipped.G_.skipped.state=2:=s2;unfold Hp.close;split
  ·omega
  ·exact (by decide:(0:Nat)≠1)
 have z:=qG ((g.Hg c).e b);have key:∀ t:Hp,t=h.skipped.G_.skipped->t.close.objs.length=h.objs.length/\t.close.finals.length+t.close.pending.length=h.finals.length+h.pending.length/\t.close.bytes<=h.bytes/\t.close.G6<=h.G6/\t.close.roots=h.roots/\kJ h t.close:=by
  intro t a;have e1:t.objs.length=h.objs.length:=by rw [a];exact s
  have q:t.finals.length+t.pending.length=h.finals.length+h.pending.length:=by rw [a];show h.skipped.G_.finals.length+h.skipped.G_.pending.length=_;rw [D,C];rfl
  have p:t.bytes<=h.bytes:=by rw [a];exact r
  have A:t.G6<=h.G6:=by rw [a];exact aO f
  have m:t.roots=h.roots:=by rw [a];exact B
  have l:kJ h t:=by rw [a];exact d
  unfold Hp.close;split
  ·exact ⟨e1,q,p,A,m,l⟩
  ·exact ⟨e1,q,p,Nat.zero_le _,m,l.trans (kJ.same (fun n o e=>⟨o,e,rfl⟩))⟩
 obtain ⟨j,y,x,w,k5,v⟩:=key _ rfl;refine ⟨j,?_,y,x,w,k5,v⟩;rw [show h.Hg.objs.length=h.objs.length from j] at z;omega
theorem Gd.KA (g:Gd h) (b:h.state=0):Cl h h.begin:=by
 have m:=M7.alive h.Ii;have a:h.begin.nu=h.Ii.nu:=(dO Hp.mark Hp.Ir _ _).trans (dO Hp.mark Hp.Ir _ _);have c:h.Ii.nu+h.Ii.again.length<=h.objs.length:=qG (h:=h.Ii) ⟨rfl,rfl,rfl,rfl⟩;refine ⟨m.len,?_,by rw [show h.begin.finals=_ from m.finals,show h.begin.pending=_ from m.pending];rfl,aO m.bytes,aO m.G6,m.roots,kJ.trans (kJ.same (fun n o e=>⟨o,e,rfl⟩)) m.MS⟩;rw [a,show h.begin.again=_ from m.again];omega
theorem Gd.Lh (g:Gd h) (d:h.state≠0):Cl h h.advance.1:=by
 unfold Hp.advance;split
 ·rename_i a;exact g.Kz a
 ·rename_i a
  have:=g.i.st;have c:h.state=1:=by omega
  split
  ·exact g.KI c
  ·rename_i b;exact (M7.take h).cl (h.JE b)
theorem Gd.KS (g:Gd h):Cl h (Hp.work u h):=Hp.IC (P:=fun _ h q=>Gd h->Cl h q) (fun u h _ g=>Cl.refl h) (fun u h q _ hs x g=>(g.Lh hs).trans (x (g.advance hs))) u h g
theorem Gd.JR (g:Gd h):Cl h (Hp.step u h):=by
 unfold Hp.step;split
 ·rename_i a;exact (g.KA a).trans (g.begin a).KS
 ·exact g.KS
theorem Gd.Ka (g:Gd h):Cl h h.finish:=Hp.IQ (P:=fun h q=>Gd h->Cl h q) (fun h _ g=>Cl.refl h) (fun h q _ hs x g=>(g.Lh hs).trans (x (g.advance hs))) h g.i g
theorem Gd.KE (g:Gd h):Cl h h.full:=(g.Ka.trans (g.finish.KA g.i.finish.2)).trans (g.finish.begin g.i.finish.2).Ka
theorem Cl.JB (h:Hp) (c:Nat) (a:c<=h.G6):Cl h { h with G6:=c }:=⟨rfl,Nat.le_max_left _ _,rfl,au _,a,rfl,kJ.same (fun n o e=>⟨o,e,rfl⟩)⟩
theorem Gd.KW (g:Gd h):Cl h h.Ip:=Hp.I4 (P:=fun h q=>Gd h->Cl h q) (fun h _ g=>Cl.refl h) (fun h q _ _ x g=>by
 have a:=g.JB (h.G6-256) (by have:=g.s.cr;omega);exact ((Cl.JB h (h.G6-256) (Nat.sub_le _ _)).trans a.JR).trans (x a.step)) h g
theorem Gd.J3 (g:Gd h):Cl h h.I6:=by
 unfold Hp.I6;split
 ·split
  ·exact Cl.refl h
  ·exact (Cl.JB h 0 (Nat.zero_le _)).trans (g.JB 0 (by omega)).JR
 ·exact g.KW
theorem Dr {es:List En}:Kd es↔es.Pairwise (fun x y=>x.1.isSome=true->x.1≠y.1):=by
 rw [List.pairwise_iff_getElem];constructor
 ·intro h i j hi b f a e
  have:=h i j _ _ (aN hi) (aN b) a e;omega
 ·intro h i j x y hx d a e
  obtain ⟨hi,rfl⟩:=aJ.1 hx;obtain ⟨b,rfl⟩:=aJ.1 d;rcases Nat.lt_trichotomy i j with c|c|c
  ·exact absurd e (h i j hi b c a)
  ·exact c
  ·exact absurd e.symm (h j i b hi c (by rw [<-e];exact a))
theorem Kd.less {a b:List En} (h:Kd b) (x:∀ (j:Nat) (e:En),a[j]?=some e->∃ e',b[j]?=some e'/\kX e e'):Kd a:=by
 intro i j u v l f c e;obtain ⟨d,p,o⟩:=x i u l;obtain ⟨v',n,m⟩:=x j v f;have ku:u.1=d.1:=by
  rcases o with y|y|y
  ·rw [y]
  ·rw [y]
  ·rw [y] at c;cases c
 have kv:v.1=v'.1:=by
  rcases m with y|y|y
  ·rw [y]
  ·rw [y]
  ·rw [e,y] at c;cases c
 exact h i j d v' p n (by rw [<-ku];exact c) (by rw [<-ku,<-kv];exact e)
theorem Kd.tidy {es:List En} (h:Kd es):Kd (aS es):=by
 unfold Go.Proofs.YtbpcdfbmnklcjaaGreatDoor.aS;split
 ·exact h
 ·rw [Dr] at h ⊢
  exact h.filter _
theorem Kd.snoc {es:List En} (h:Kd es) {k v:HV} (hk:∀ e∈es,e.1≠k):Kd (es++[(k,v)]):=by
 rw [Dr] at h ⊢;rw [List.pairwise_append];refine ⟨h,by simp,fun a ha b hb _=>?_⟩;simp at hb;subst hb;exact hk a ha
theorem Kd.mod {es:List En} (h:Kd es) (j:Nat) (v:HV):Kd (es.modify j fun e=>(e.1,v)):=by
 have f:∀ (i:Nat) (x:En),(es.modify j fun e=>(e.1,v))[i]?=some x->∃ d,es[i]?=some d/\d.1=x.1:=by
  intro i x hx;rw [List.getElem?_modify] at hx;cases hb:es[i]? with
  |none=>rw [hb] at hx;simp at hx
  |some x0=>
   rw [hb] at hx;refine ⟨x0,rfl,?_⟩;by_cases c:j=i
   ·simp [c] at hx;rw [<-hx]
   ·simp [c] at hx;rw [<-hx]
 intro a b x y hx n o e;obtain ⟨d,r,l⟩:=f a x hx;obtain ⟨m,q,p⟩:=f b y n;exact h a b d m r q (by rw [l];exact o) (by rw [l,p];exact e)
structure Bd (k:Nat) (h:Hp):Prop where
 len:h.objs.length<=k+1
 na:h.nu+h.again.length<=2*k+1
 fp:h.finals.length+h.pending.length<=k
 Nn:h.bytes<=40*k
 cr:h.G6<=40*k
 rt:h.roots.length<=k+1
 kd:∀ n o,h.ob n=some o->Kd o.es
theorem Bd.cl (b:Bd k h) (x:Cl h g):Bd k g:=by
 refine ⟨by rw [x.len];exact b.len,?_,by rw [x.fp];exact b.fp,aI x.Nn b.Nn,aI x.cr b.cr,by rw [x.rt];exact b.rt,fun n o e=>?_⟩
 ·have c:=x.na
  have f:=b.na;have a:=b.len;omega
 ·obtain ⟨d,c,_,a⟩:=x.es n o e
  exact (b.kd n d c).less a
theorem Bd.up (b:Bd k h):Bd (k+1) h:=by
 have:=b.len;have:=b.na;have:=b.fp;have:=b.Nn;have:=b.cr;have:=b.rt;exact ⟨by omega,by omega,by omega,by omega,by omega,by omega,b.kd⟩
theorem Bd.new:Bd 0 Hp.new:=by
 refine ⟨by decide,by decide,by decide,by decide,by decide,by decide,fun n o e=>?_⟩;have a:Hp.new.ob n=none:=by
  simp only [Hp.ob,Hp.new];cases n<;>rfl
 rw [a] at e;cases e
theorem mg.es {h:Hp} (x:mg h) {n:Nat} {o:Ob} (e:h.ob n=some o):40+40*o.es.length<=h.bytes:=by
 have:=(x.free e).1;unfold Ob.size at this;omega
theorem Sm.of (i:Inv h) (n:mg h) (b:Bd k h) (hk:k<=5000) (c:h.freed=[]) (a:h.limit<=404096):Sm h:=by
 have r:=b.len;have q:=b.na;have p:=b.fp;have l:=b.Nn;have j:=b.cr;have f:=b.rt;have d:=Ci n i;refine ⟨by omega,by omega,by omega,by rw [c];simp;omega,by omega,by omega,a,by omega,fun m o e=>?_⟩;have:=n.es e;omega
end
section
variable {g h:Hp} {n:Nat}
def fu (h:Hp):Prop:=∀ n o,h.ob n=some o->(n∈h.weak->2<=o.mode)/\(n∈h.G8->o.mode=1)
theorem fu.of (m:fu h) (x:∀ n o',g.ob n=some o'->∃ o,h.ob n=some o/\o'.mode=o.mode) (b:∀ n∈g.weak,n∈h.weak) (d:∀ n∈g.G8,n∈h.G8):fu g:=by
 intro n o' e;obtain ⟨o,a,f⟩:=x n o' e;rw [f];exact ⟨fun c=>(m n o a).1 (b n c),fun c=>(m n o a).2 (d n c)⟩
theorem M7.Nl (x:M7 h g):∀ n o',g.ob n=some o'->∃ o,h.ob n=some o/\o'.mode=o.mode:=fun n o' e=>by
 obtain ⟨o,b,a,_⟩:=x.ob e;exact ⟨o,b,a.symm⟩
theorem Np.Nl (x:Np h g):∀ n o',g.ob n=some o'->∃ o,h.ob n=some o/\o'.mode=o.mode:=fun n o' e=>by
 rcases x.ob n with ⟨a,_⟩|⟨o1,o2,a,c,d,b,_⟩
 ·rw [e] at a;cases a
 ·rw [e] at a;cases a;exact ⟨o1,c,b⟩
theorem fu.MQ (m:fu h) (x:Mt h g):fu g:=m.of x.md.Nl (fun n c=>x.wk ▸ c) (fun n c=>x.ep ▸ c)
theorem fu.scan {h:Hp} (m:fu h) (n:Nat):fu (h.scan n).1:=by
 unfold Hp.scan;split
 ·rename_i o ho
  have i:fu (h.upd n fun o=>{ o with col:=3 }):=m.of (M7.col h n 3 rfl).Nl (fun _ c=>c) (fun _ c=>c);have j:(h.upd n fun o=>{ o with col:=3 }).ob n=some { o with col:=3 }:=by rw [Hp.Ho,if_pos rfl,ho];rfl
  generalize (h.upd n fun o=>{ o with col:=3 })=q at i j;unfold Hp.Ik;have d:∀ (g:Hp),M7 q g->g.weak=q.weak->g.G8=q.G8->(2<=o.mode->fu { g with weak:=g.weak++[n] })/\(o.mode=1->fu { g with G8:=g.G8++[n] }):=by
   intro g x l p;have key:∀ k f,g.ob k=some f->∃ o2,q.ob k=some o2/\f.mode=o2.mode:=x.Nl;constructor
   ·intro hm k f e
    obtain ⟨o2,a,b⟩:=key k f e;refine ⟨fun c=>?_,fun c=>?_⟩
    ·rcases eT.1 (show k∈g.weak++[n] from c) with c|c
     ·rw [b];exact (i k o2 a).1 (l ▸ c)
     ·simp at c;subst c;rw [j] at a;cases a;rw [b];exact hm
    ·rw [b];exact (i k o2 a).2 (p ▸ c)
   ·intro hm k f e
    obtain ⟨o2,a,b⟩:=key k f e;refine ⟨fun c=>?_,fun c=>?_⟩
    ·rw [b];exact (i k o2 a).1 (l ▸ c)
    ·rcases eT.1 (show k∈g.G8++[n] from c) with c|c
     ·rw [b];exact (i k o2 a).2 (p ▸ c)
     ·simp at c;subst c;rw [j] at a;cases a;rw [b];exact hm
  split
  ·exact i.MQ (Mt.fold _ Mt.H_ _ q)
  ·split
   ·rename_i hm
    exact ((d q (M7.refl q) rfl rfl).2 hm).MQ (Mt.spread _ _)
   ·split
    ·rename_i hm
     have x:=Mt.fold Hp.key1 Mt.key1 o.es q;exact (d _ x.md x.wk x.ep).1 (by omega)
    ·exact (d q (M7.refl q) rfl rfl).1 (by omega)
 ·exact m
theorem fu.take {h:Hp} (m:fu h):fu h.take.1:=by
 unfold Hp.take;split
 ·exact fu.scan (m.of (g:={ h with grey:=h.grey.dropLast }) (fun n o e=>⟨o,e,rfl⟩) (fun _ c=>c) (fun _ c=>c)) _
 ·exact m
theorem fu.drain {h:Hp} (m:fu h):fu h.drain:=Hp.Iq (P:=fun h g=>fu h->fu g) (fun h _ m=>m) (fun h g _ x m=>x m.take) h m
theorem fu.over {k:Nat} {p:Hp × Bool} (m:fu p.1):fu (Hp.over k p).1:=
 Hp.Iu (P:=fun _ p q=>fu p.1->fu q.1) (fun k p _ m=>m) (fun k p q hk _ x m=>x (m.MQ (Mt.spread _ _)).drain) (fun k p q hk _ x m=>x (m.MQ (Mt.spread _ _))) k p m
theorem fu.settle {h:Hp} (m:fu h):fu h.settle:=
 Hp.IV (P:=fun h g=>fu h->fu g) (fun h g _ _ x m=>x (fu.over (p:=(h,false)) m)) (fun h _ m=>fu.over (p:=(h,false)) m) h.drain m.drain
theorem fu.He {h:Hp} (m:fu h):fu h.He:=by
 have key:∀ (l:List Nat) (g:Hp),(l.foldl Hp.Hr g).weak=g.weak/\(l.foldl Hp.Hr g).G8=g.G8:=by
  intro l
  induction l with
  |nil=>exact fun g=>⟨rfl,rfl⟩
  |cons a l ih=>exact fun g=>ih (g.Hr a)
 obtain ⟨d,b⟩:=key h.again h;exact m.of (M7.fold _ M7.Hr h.again h).Nl (fun n c=>d ▸ c) (fun n c=>b ▸ c)
theorem fu.MK {h:Hp} (m:fu h):fu h.MK:=(m.MQ (Mt.alive h)).drain.He.settle
theorem oD (h:Hp):∀ n o',h.Hw.ob n=some o'->∃ o,h.ob n=some o/\o'.mode=o.mode/\o'.es=o.es:=by
 intro n o' e;have:=(dL h.finals (h,[])).2.2.2.1 n;have a:(h.finals.foldl Hp.Hy (h,[])).1.ob n=some o':=e;rw [a] at this;cases e2:h.ob n with
 |none=>simp [e2] at this
 |some o=>simp [e2] at this;exact ⟨o,rfl,this.2.1,this.2.2⟩
theorem fu.at2 {h:Hp} (m:fu h):fu h.at2:=by
 have c:=Np.fold bU bZ h.weak h;obtain ⟨_,_,_,_,_,_,_,_,d,b⟩:=Hp.IE (h.weak.foldl Hp.MN h);have a:fu (h.weak.foldl Hp.MN h):=m.of c.Nl (fun n x=>c.weak ▸ x) (fun n x=>c.G8 ▸ x);exact a.of (fun n o' e=>by obtain ⟨o,i,f,_⟩:=oD _ n o' e;exact ⟨o,i,f⟩) (fun n x=>d ▸ x) (fun n x=>b ▸ x)
theorem fu.at3 {h:Hp} (m:fu h):fu h.at3:=(m.MQ (Mt.Hu h _)).settle
theorem fu.no (b:h.weak=[]) (a:h.G8=[]):fu h:=fun n o e=>⟨fun c=>by rw [b] at c;simp at c,fun c=>by rw [a] at c;simp at c⟩
theorem fu.begin (h:Hp):fu h.begin:=(fu.no (h:={ h with state:=1,grey:=[],again:=[],weak:=[],G8:=[] }) rfl rfl).MQ (Mt.alive _)
theorem fu.advance {h:Hp} (m:fu h) (g:Gd h) (j:h.state≠0):fu h.advance.1:=by
 by_cases f:h.advance.1.state≠1
 ·obtain ⟨_,_,a,b⟩:=(g.advance j).e f
  exact fu.no a b
 ·unfold Hp.advance at f ⊢
  split
  ·rename_i c
   rw [if_pos c] at f;exact (f (by
    have k:h.skipped.G_.skipped.state=2:=((g.i.skipped c).G_ c).2.1;show h.skipped.G_.skipped.close.state≠1;unfold Hp.close;split
    ·omega
    ·exact (by decide:(0:Nat)≠1))).elim
  ·rename_i c
   rw [if_neg c] at f;split
   ·rename_i d
    rw [if_pos d] at f;exact (f (by show (2:Nat)≠1;decide)).elim
   ·exact m.take
structure Cs (h g:Hp):Prop where
 len:g.objs.length=h.objs.length
 ok:∀ n,g.Ok n->h.Ok n
 md:∀ n o',g.ob n=some o'->∃ o,h.ob n=some o/\o'.mode=o.mode
 es:∀ n o' o,g.ob n=some o'->¬ g.IK o'->h.ob n=some o->∀ e∈o.es,e.2.isSome=true->e∈o'.es∨2<=o.mode∨(o.mode=1/\∃ k,e.1=some (.inr k)/\¬ g.Ok k)
 fr:∃ l,g.freed=h.freed++l/\l.Nodup/\∀ x∈l,h.Lv x/\¬ g.Lv x
theorem Cs.lv (x:Cs h g) (l:g.Lv n):h.Lv n:=by
 obtain ⟨a,e⟩:=l;obtain ⟨o,b,_⟩:=x.md n a e;exact ⟨o,b⟩
theorem Cs.refl (h:Hp):Cs h h:=⟨rfl,fun _ x=>x,fun n o e=>⟨o,e,rfl⟩,fun n o' o e _ e' en he _=>.inl (by rw [e] at e';cases e';exact he),[],by simp,List.nodup_nil,fun x hx=>by simp at hx⟩
theorem Cs.trans {a b c:Hp} (x:Cs a b) (y:Cs b c):Cs a c:=by
 refine ⟨y.len.trans x.len,fun n h=>x.ok n (y.ok n h),fun n o' e=>?_,fun n o' o e nd e' en he hs=>?_,?_⟩
 ·obtain ⟨o1,f,r⟩:=y.md n o' e
  obtain ⟨o2,d,s⟩:=x.md n o1 f;exact ⟨o2,d,r.trans s⟩
 ·obtain ⟨o1,f,hd⟩:=y.ok n ⟨o',e,nd⟩
  obtain ⟨o2,d,s⟩:=x.md n o1 f;rw [e'] at d;cases d;rcases x.es n o1 o f hd e' en he hs with k|k|⟨m,k,j,i⟩
  ·rcases y.es n o' o1 e nd f en k hs with q|q|⟨q1,q⟩
   ·exact .inl q
   ·exact .inr (.inl (by omega))
   ·exact .inr (.inr ⟨by omega,q⟩)
  ·exact .inr (.inl k)
  ·exact .inr (.inr ⟨m,k,j,fun z=>i (y.ok k z)⟩)
 ·obtain ⟨u,f,r,d⟩:=x.fr
  obtain ⟨t,m,j,i⟩:=y.fr;refine ⟨u++t,by rw [m,f,List.append_assoc],List.nodup_append.2 ⟨r,j,fun p hp q hq e=>?_⟩,fun z hz=>?_⟩
  ·subst e;exact (d p hp).2 (i p hq).1
  ·rcases eT.1 hz with c|c
   ·exact ⟨(d z c).1,fun l=>(d z c).2 (y.lv l)⟩
   ·exact ⟨x.lv (i z c).1,(i z c).2⟩
theorem Cs.same (f:g.objs.length=h.objs.length) (a:∀ n o',g.ob n=some o'->∃ o,h.ob n=some o/\o'.mode=o.mode/\o'.es=o.es) (c:∀ n,g.Ok n->h.Ok n) (i:g.freed=h.freed):Cs h g:=by
 refine ⟨f,c,fun n o' e=>?_,fun n o' o e nd e' en he hs=>?_,[],by simp [i],List.nodup_nil,fun x hx=>by simp at hx⟩
 ·obtain ⟨o,b,d,_⟩:=a n o' e
  exact ⟨o,b,d⟩
 ·obtain ⟨o2,b,d,j⟩:=a n o' e
  rw [e'] at b;cases b;exact .inl (j ▸ he)
theorem Cs.MZ (x:M7 h g) (a:h.state≠2):Cs h g:=
 Cs.same x.len (fun n o' e=>by obtain ⟨o,d,c,b,_⟩:=x.ob e;exact ⟨o,d,c.symm,b.symm⟩) (fun n k=>Hp.Kq a ((x.lv n).1 (Hp.IG k))) x.freed
theorem Cs.begin {h:Hp} (d:h.state=0):Cs h h.begin:=by
 have x:=M7.alive { h with state:=1,grey:=[],again:=[],weak:=[],G8:=[] };refine Cs.same x.len (fun n o' e=>?_) (fun n k=>?_) x.freed
 ·obtain ⟨o,c,b,a,_⟩:=x.ob e
  exact ⟨o,c,b.symm,a.symm⟩
 ·obtain ⟨o,e⟩:=(x.lv n).1 (Hp.IG k)
  exact Hp.Kq (by omega) ⟨o,e⟩
end
end Go.Proofs.YtbpcdfbmnklcjaaGreatDoor
namespace Go.Proofs.YtbpcdfbmnklcjaaGreatDoor
open Go Go.RowKit
set_option linter.unusedVariables false
section
variable {N T cap k lo n:Nat} {Q:Exit->Act->World->Prop} {S:Nat->Prop} {ac:Act} {f:Nat->Value} {ops:Array Oper} {rest:List Oper} {td:List Nat} {w w' wr:World}
def mP (w:World) (lo g k cap:Nat) (td:List Nat):Prop:=td.length<=cap/\lo<=g/\∃ cur:Array Value,w.heap[g]?=some (.cells cur 3 (0,0))/\k+cap<=cur.size/\∀ (j n:Nat),td[j]?=some n->cur[k+j]?=some (.int .i64 (n:Int))
theorem mP.lt {g:Nat} (a:mP w lo g k cap td):g<w.heap.size:=by
 obtain ⟨_,_,d,b,_⟩:=a;rcases Nat.lt_or_ge g w.heap.size with c|c
 ·exact c
 ·rw [Array.getElem?_eq_none c] at b;cases b
theorem mP.keep {g:Nat} (a:mP w lo g k cap td) (kk:Keeps w w' S) (c:¬ S g):mP w' lo g k cap td:=by
 have d:=a.lt;obtain ⟨j,i,b,h,e⟩:=a;exact ⟨j,i,b,(kk.block g d c).trans h,e⟩
theorem mP.cell {w:World} {lo g k cap:Nat} {td:List Nat} (a:mP w lo g k cap td) {j n:Nat} (h:td[j]?=some n):w.cell? ⟨g,k+j,none⟩=some (.int .i64 (n:Int)):=by
 obtain ⟨l,i,d,c,e,b⟩:=a;simp [World.cell?,c,b j n h]
theorem mP.tail {g:Nat} (a:mP w lo g k cap (n::td)):mP w lo g (k+1) (cap-1) td:=by
 obtain ⟨h,e,b,d,i,c⟩:=a;rw [aY] at h;refine ⟨by omega,e,b,d,by omega,fun j m hm=>?_⟩;rw [show k+1+j=k+(j+1) by omega];exact c (j+1) m (by simpa using hm)
theorem mP.Lu {g:Nat} (a:mP w lo g k cap (n::td)):∃ k1,(if cap=1 then some (⟨g,k,none⟩:Addr) else some ⟨g,k+1,none⟩)=some ⟨g,k1,none⟩/\mP w lo g k1 (cap-1) td:=by
 by_cases c:cap=1
 ·refine ⟨k,by rw [if_pos c],?_⟩
  obtain ⟨h,e,b,d,l,i⟩:=a;rw [aY] at h;have:td=[]:=List.length_eq_zero_iff.1 (by omega);subst this;exact ⟨by simp,e,b,d,by omega,fun j m hm=>by simp at hm⟩
 ·exact ⟨k+1,by rw [if_neg c],a.tail⟩
theorem mP.apart {g G:Nat} (a:mP w lo g k cap td) (r:aD w T G N f) (d:T≠3):g≠G:=by
 rintro rfl;obtain ⟨_,_,h,b,_⟩:=a;obtain ⟨c,e,_⟩:=r;rw [e] at b;simp at b;exact d b.2
theorem mP.start (w:World) (h:lo<=w.heap.size):mP (w.alloc (.cells #[] 3)) lo w.heap.size 0 0 []:=by
 refine ⟨by simp,h,#[],heap_alloc_new w _,by simp,fun j n hj=>by simp at hj⟩
theorem mP.app {g:Nat} (U:mP wr lo g k cap td) {o:Oper} (J:o.guard=none) (s x:Operand)
 (ho:o.op=.call { callee:=.builtin .append,args:=#[s,x],argTypes:=#[30,30] }) (X:ac.eval s=.slice (some ⟨g,k,none⟩) td.length cap) (n:Nat) (hx:ac.eval x=.slice (some ⟨wr.heap.size,0,none⟩) 1 1) (M:td.length<=1000000) (Y:lo<=wr.heap.size)
 (P:∀ (v L d:Nat) (w':World),mP w' lo v L d (td++[n])->Keeps wr w' (fun b=>b=g)->wpList Tryz.prog ops Q rest (ac.put o.dst (.slice (some ⟨v,L,none⟩) (td.length+1) d)) w'):
 wpList Tryz.prog ops Q (o::rest) ac (wr.alloc (.cells #[.int .i64 (n:Int)] 3)):=by
 obtain ⟨V,hi,A,z,y⟩:=info_parts ji;have F:=U.lt;obtain ⟨h1,h2,p,h3,h4,R⟩:=U;have i:(wr.alloc (.cells #[.int .i64 (n:Int)] 3)).heap[g]?=some (.cells p 3 (0,0)):=((aU wr _).block g F).trans h3;have G:(eu td).length=td.length*1:=by simp [eu]
 refine wpList_append_arg _ J s x 30 ho 3 V (.int .i64 0) 1 8 Tryz.underlying30 hi A z y rfl (by decide) g k td.length cap (eu td) X G (fun j u hj=>?_) ⟨wr.heap.size,0,none⟩ 1 1 [.int .i64 (n:Int)] hx rfl (fun j u hj=>?_) (fun u r=>by simp at r;subst r;rfl) (fun hc j hj=>?_) (by unfold maxLen;omega) (by omega) (fun hc=>?_) (fun hc v' w' hown hgr=>?_)
 ·have h:j<td.length:=by
   have:=(aJ.1 hj).1;omega
  have r:u=.int .i64 (td[j]:Int):=by
   simp [eu,h] at hj;exact hj.symm
  subst r;have:=R j td[j] (aN h);simp [World.cell?,i,this]
 ·rw [bL,Nat.zero_add]
  obtain ⟨t,rfl⟩:=aJ.1 hj;have:=(aD.mk' wr 3 #[.int .i64 (n:Int)]).cell (j:=j) (by simpa using t);rw [this];simp at t;subst t;rfl
 ·simp at hj
  subst hj;have q:k+td.length*1+0<p.size:=by omega
  refine ⟨?_,?_⟩
  ·simp only [World.cell?,i]
   rw [Array.getElem?_eq_getElem q];rfl
  ·simp [World.frozen?,i]
 ·have e:(wr.alloc (.cells #[.int .i64 (n:Int)] 3)).setCells g (k+td.length*1) [.int .i64 (n:Int)]=(wr.alloc (.cells #[.int .i64 (n:Int)] 3)).setCell ⟨g,k+td.length,none⟩ (.int .i64 (n:Int)):=by
   rw [Nat.mul_one];rfl
  rw [e];have C:=heap_setCell_same _ g (k+td.length) _ _ (.int .i64 (n:Int)) i;have a:=aU wr (.cells #[.int .i64 (n:Int)] 3);have kk:Keeps wr ((wr.alloc (.cells #[.int .i64 (n:Int)] 3)).setCell ⟨g,k+td.length,none⟩ (.int .i64 (n:Int))) (fun b=>b=g):=
   (Keeps.of a (au _) (fun b=>b=g)).setCell rfl _
  refine P g k cap _ ⟨by simp;omega,h2,_,C,?_,fun j m hm=>?_⟩ kk
  ·simpa using h4
  ·have h:=(aJ.1 hm).1
   rw [bI,List.length_singleton] at h;by_cases c:j=td.length
   ·subst c
    simp at hm;subst hm;have:k+td.length<p.size:=by omega
    simp [this]
   ·have H:j<td.length:=by omega
    rw [dF H] at hm;have:=R j m hm;have D:k+td.length≠k+j:=by omega
    rw [Array.getElem?_setIfInBounds_ne D];exact this
 ·obtain ⟨t,⟨K,a1⟩|⟨v,d,l,rfl,hb,Z,E,a0,q,B⟩⟩:=hown
  ·omega
  ·have W:=(aU wr (.cells #[.int .i64 (n:Int)] 3)).size
   refine P v 0 d w' ⟨by simp;exact E,by omega,l,Z,by omega,fun j m hm=>?_⟩ ?_
   ·have h:=(aJ.1 hm).1
    rw [bI,List.length_singleton] at h;have K:(l.toList.take ((td.length+1)*1))[j]?=(eu (td++[n]))[j]?:=by rw [B];simp [eu]
    rw [List.getElem?_take,if_pos (by omega)] at K;rw [Nat.zero_add,<-Array.getElem?_toList,K,eu,fC,hm];rfl
   ·have a:=aU wr (.cells #[.int .i64 (n:Int)] 3)
    exact ⟨hgr.os.trans a.os,hgr.tape.trans a.tape,hgr.output.trans a.output,aI a.size hgr.size,fun b hb' _=>(hgr.block b (aW hb' a.size) (by simp)).trans (a.block b hb')⟩
end
section
variable {N T base k:Nat} {S S':Nat->Prop} {f:Nat->Value} {h h':Hp} {o:Ob} {v:Value} {w w':World}
structure PM where
 H:Nat
 tb:Nat->Nat
 es:Nat->Value
 mp:Nat->Value
 li:Nat->Value
structure Gh where
 Ns:List Nat
 kept:Nat
 Ht:Nat
 ag:List Nat
def oZ (tb:Nat->Nat) (n:Nat):Value:=.pointer (some ⟨tb n,0,none⟩)
def jL (tb:Nat->Nat) (n:Nat):Value:=.iface 127 (oZ tb n)
def aK (tb:Nat->Nat) (v:HV):Value:=match v with
 |some (.inr n)=>jL tb n
 |_=>.nilIface
abbrev gG (tb:Nat->Nat) (v:HV):Array Value:=#[.int .i64 (vk v),.int .i64 (vi v),.int .u64 0,.string ByteArray.empty,aK tb v]
abbrev NH (tb:Nat->Nat) (v u:HV):Array Value:=#[.int .i64 (vk v),.int .i64 (vi v),.int .u64 0,.string ByteArray.empty,aK tb v,.int .i64 (vk u),.int .i64 (vi u),.int .u64 0,.string ByteArray.empty,aK tb u]
abbrev NC (w:World) (X:Nat) (tb:Nat->Nat) (v:HV):Prop:=w.cell? ⟨X,0,none⟩=some (.int .i64 (vk v))/\w.cell? ⟨X,1,none⟩=some (.int .i64 (vi v))/\w.cell? ⟨X,2,none⟩=some (.int .u64 0)/\w.cell? ⟨X,3,none⟩=some (.string ByteArray.empty)/\w.cell? ⟨X,4,none⟩=some (aK tb v)
abbrev OA (w:World) (X:Nat) (tb:Nat->Nat) (v:HV):Prop:=w.cell? ⟨X,5,none⟩=some (.int .i64 (vk v))/\w.cell? ⟨X,6,none⟩=some (.int .i64 (vi v))/\w.cell? ⟨X,7,none⟩=some (.int .u64 0)/\w.cell? ⟨X,8,none⟩=some (.string ByteArray.empty)/\w.cell? ⟨X,9,none⟩=some (aK tb v)
def kE (tb:Nat->Nat) (v:HV):List Value:=[.int .i64 (vk v),.int .i64 (vi v),.int .u64 0,.string ByteArray.empty,aK tb v]
def jG (tb:Nat->Nat) (e:En):List Value:=kE tb e.1++kE tb e.2
def jg (tb:Nat->Nat) (es:List En):List Value:=es.flatMap (jG tb)
theorem qD (tb:Nat->Nat) (es:List En):(jg tb es).length=es.length*10:=lS (jG tb) 10 (fun _=>rfl) es
def jR (k:HV):Value:=.agg #[.int .i64 (vk k),.int .i64 (vi k),.int .u64 0,.string ByteArray.empty,.int .i64 (vr k)]
def oW (k:HV):Prop:=match k with
 |some (.inl z)=> -9223372036854775808<=z/\z<=9223372036854775807
 |some (.inr n)=>n<=1000000
 |none=>True
structure M_ (ents:List MapEntry) (es:List En):Prop where
 tt:∀ m∈ents,∃ (i:Nat) (e:En),es[i]?=some e/\e.1.isSome=true/\m.key=jR e.1/\m.val=.int .i64 (i:Int)
 Mv:∀ (i:Nat) (e:En),es[i]?=some e->e.1.isSome=true->∃ m∈ents,m.key=jR e.1
 nd:ents.Pairwise (fun a b=>a.key≠b.key)
 kk:∀ e∈es,oW e.1
 kd:Kd es
def dx:Value->Option Nat
 | .map (some b)=>some b
 |_=>none
def ni (w:World) (v:Value) (es:List En):Prop:=(v=.map none/\es=[])∨∃ (b:Nat) (ents:Array MapEntry) (clk:Nat),v=.map (some b)/\w.heap[b]?=some (.map ents clk)/\M_ ents.toList es
theorem ni.lt {es:List En} {b:Nat} (h:ni w v es) (hb:dx v=some b):b<w.heap.size:=by
 rcases h with ⟨rfl,_⟩|⟨g,d,e,rfl,a,_⟩
 ·simp [dx] at hb
 ·simp [dx] at hb
  subst hb;rcases Nat.lt_or_ge g w.heap.size with c|c
  ·exact c
  ·rw [Array.getElem?_eq_none c] at a;cases a
theorem ni.keep {es:List En} (h:ni w v es) (k:Keeps w w' S) (d:∀ b,dx v=some b->¬ S b):ni w' v es:=by
 have e:∀ b,dx v=some b->b<w.heap.size:=fun b hb=>h.lt hb;rcases h with h|⟨b,a,c,rfl,i,g⟩
 ·exact .inl h
 ·exact .inr ⟨b,a,c,rfl,(k.block b (e b rfl) (d b rfl)).trans i,g⟩
theorem ni.apart {es:List En} {b:Nat} (h:ni w v es) (hr:aD w T b N f):dx v≠some b:=by
 rcases h with ⟨rfl,_⟩|⟨j,c,i,rfl,a,_⟩
 ·simp [dx]
 ·intro e
  simp [dx] at e;subst e;obtain ⟨g,d,_⟩:=hr;rw [d] at a;cases a
def eF (k:Nat):Prop:=k=7∨k=10∨k=11∨k=12∨k=13∨k=14∨k=15∨k=16∨k=18
def eU (h:Hp) (G:Gh) (k:Nat):List Nat:=if k=7 then G.Ns else if k=10 then h.roots else if k=11 then h.grey else if k=12 then G.ag else if k=13 then h.weak else if k=14 then h.G8 else if k=15 then h.finals else if k=16 then h.pending else h.freed
def xQ (k:Nat):Nat:=if k=13∨k=14 then 127 else if k=18 then 3 else 67
def eP (tb:Nat->Nat) (k n:Nat):Value:=if k=13∨k=14 then oZ tb n else if k=18 then .int .i64 (n:Int) else jL tb n
def kK (h:Hp) (G:Gh) (L:PM) (k:Nat):Value:=
 if k=0 then .int .i64 h.state else if k=1 then .int .i64 h.white else if k=2 then .int .i64 ((h.objs.length:Int)-1) else if k=3 then .int .i64 h.live else if k=4 then .int .i64 h.bytes else if k=5 then .int .i64 h.G6 else if k=6 then .int .i64 h.limit
 else if k=8 then .int .i64 G.kept else if k=9 then .int .i64 G.Ht else if k=17 then .bool true else L.li k
def nM (o:Ob) (n:Nat) (ev mv:Value) (k:Nat):Value:=
 if k=0 then .int .i64 o.col else if k=1 then .int .i64 n else if k=2 then .int .i64 ((40+40*o.es.length:Nat):Int) else if k=3 then .int .i64 0 else if k=4 then .bool o.fin else if k=5 then .int .i64 o.mode else if k=6 then .pointer none else if k=7 then ev else if k=8 then mv else if k=9 then .int .i64 (aZ o.es) else .int .i64 0
structure M0 (base:Nat) (S:Nat->Prop) (h:Hp) (G:Gh) (L:PM) (w:World):Prop where
 hp:aD w 77 L.H 19 (kK h G L)
 ob:∀ n o,h.ob n=some o->aD w 136 (L.tb n) 13 (nM o n (L.es n) (L.mp n))
 en:∀ n o,h.ob n=some o->w.ownsRow base 167 10 (L.es n) o.es.length (jg L.tb o.es)
 mp:∀ n o,h.ob n=some o->ni w (L.mp n) o.es
 li:∀ k,eF k->w.ownsRow base (xQ k) 1 (L.li k) (eU h G k).length ((eU h G k).map (eP L.tb k))
 ij:∀ n m o o',h.ob n=some o->h.ob m=some o'->L.tb n=L.tb m->n=m
 ei:∀ n m o o' g,h.ob n=some o->h.ob m=some o'->(L.es n).ownBlock=some g->(L.es m).ownBlock=some g->n=m
 mi:∀ n m o o' g,h.ob n=some o->h.ob m=some o'->dx (L.mp n)=some g->dx (L.mp m)=some g->n=m
 lj:∀ k k' g,eF k->eF k'->(L.li k).ownBlock=some g->(L.li k').ownBlock=some g->k=k'
 bH:base<=L.H
 bt:∀ n o,h.ob n=some o->base<=L.tb n
 bm:∀ n o g,h.ob n=some o->dx (L.mp n)=some g->base<=g
 bs:base<=w.heap.size
 sH:S L.H
 st:∀ n o,h.ob n=some o->S (L.tb n)
 se:∀ n o g,h.ob n=some o->(L.es n).ownBlock=some g->S g
 sm:∀ n o g,h.ob n=some o->dx (L.mp n)=some g->S g
 sl:∀ k g,eF k->(L.li k).ownBlock=some g->S g
 up:∀ b,w.heap.size<=b->S b
theorem iH (hk:eF k):xQ k≠77/\xQ k≠136/\xQ k≠167:=by
 rcases hk with rfl|rfl|rfl|rfl|rfl|rfl|rfl|rfl|rfl<;>decide
theorem M0.out {G:Gh} {L:PM} (a:M0 base S h G L w) (k:Keeps w w' (fun b=>¬ S b)):M0 base S h G L w':=
 ⟨a.hp.keep k (fun x=>x a.sH),fun n o e=>(a.ob n o e).keep k (fun x=>x (a.st n o e)),fun n o e=>aj (a.en n o e) k (fun g hg x=>x (a.se n o g e hg)),fun n o e=>(a.mp n o e).keep k (fun b hb x=>x (a.sm n o b e hb)),fun j hj=>aj (a.li j hj) k (fun g hg x=>x (a.sl j g hj hg)),a.ij,a.ei,a.mi,a.lj,a.bH,a.bt,a.bm,aI a.bs k.size,a.sH,a.st,a.se,a.sm,a.sl,fun b hb=>a.up b (aI k.size hb)⟩
theorem M0.low {G:Gh} {L:PM} (a:M0 base S h G L w) (k:Below w.heap.size w w'):M0 base S h G L w':=a.out (Keeps.of k (au _) _)
theorem M0.mono {G:Gh} {L:PM} (a:M0 base S h G L w) (c:∀ b,S b->S' b):M0 base S' h G L w:=
 ⟨a.hp,a.ob,a.en,a.mp,a.li,a.ij,a.ei,a.mi,a.lj,a.bH,a.bt,a.bm,a.bs,c _ a.sH,fun n o e=>c _ (a.st n o e),fun n o g e x=>c _ (a.se n o g e x),fun n o g e x=>c _ (a.sm n o g e x),fun k g hk x=>c _ (a.sl k g hk x),fun b hb=>c _ (a.up b hb)⟩
theorem M0.hole {G:Gh} {L:PM} (a:M0 base S h G L w) (x:Obj):M0 base (fun b=>S b/\b≠w.heap.size) h G L (w.alloc x):=by
 have y:=a.low (aU w x);have c:(w.alloc x).heap.size=w.heap.size+1:=aG _;refine ⟨y.hp,y.ob,y.en,y.mp,y.li,y.ij,y.ei,y.mi,y.lj,y.bH,y.bt,y.bm,y.bs,⟨a.sH,?_⟩,fun n o e=>⟨a.st n o e,?_⟩,fun n o g e hg=>⟨a.se n o g e hg,?_⟩,fun n o g e hg=>⟨a.sm n o g e hg,?_⟩,fun k g hk hg=>⟨a.sl k g hk hg,?_⟩,fun b hb=>⟨a.up b (by omega),by omega⟩⟩
 ·have:=a.hp.lt;omega
 ·have:=(a.ob n o e).lt;omega
 ·have:=(ay (a.en n o e) hg).lt;omega
 ·have:=(a.mp n o e).lt hg;omega
 ·have:=(ay (a.li k hk) hg).lt;omega
theorem M0.hdr {G G':Gh} {L:PM} (a:M0 base S h G L w) (k:Nat) (x:Value) (hk:k<19) (c:∀ n,h'.ob n=h.ob n) (l:∀ k,eF k->eU h' G' k=eU h G k) (p:∀ i,i<19->(if i=k then x else kK h G L i)=kK h' G' L i):
 M0 base S h' G' L (w.setCell ⟨L.H,k,none⟩ x)/\Keeps w (w.setCell ⟨L.H,k,none⟩ x) S:=by
 have kk:Keeps w (w.setCell ⟨L.H,k,none⟩ x) (fun b=>b=L.H):=Keeps.setCell (S:=fun b=>b=L.H) (Keeps.refl w _) rfl x;have hH:∀ {T s n:Nat} {v:Value} {xs:List Value},w.ownsRow base T s v n xs->T≠77->∀ g,v.ownBlock=some g->¬ g=L.H:=fun h1 h2 g h3 h4=>ak h1 a.hp h2 (h4 ▸ h3);refine ⟨⟨(a.hp.set hk x).congr p,fun n o e=>?_,fun n o e=>?_,fun n o e=>?_,fun j hj=>?_,?_,?_,?_,a.lj,a.bH,?_,?_,aI a.bs kk.size,a.sH,?_,?_,?_,a.sl,fun b hb=>a.up b (aI kk.size hb)⟩,kk.mono (fun b e=>e ▸ a.sH)⟩
 ·rw [c] at e;exact (a.ob n o e).keep kk (fun y=>(a.ob n o e).apart a.hp (by decide) y)
 ·rw [c] at e;exact aj (a.en n o e) kk (hH (a.en n o e) (by decide))
 ·rw [c] at e;exact (a.mp n o e).keep kk (fun b hb y=>(a.mp n o e).apart a.hp (y ▸ hb))
 ·rw [l j hj];exact aj (a.li j hj) kk (hH (a.li j hj) (iH hj).1)
 ·intro n m o d;rw [c,c];exact a.ij n m o d
 ·intro n m o d g;rw [c,c];exact a.ei n m o d g
 ·intro n m o d g;rw [c,c];exact a.mi n m o d g
 ·intro n o;rw [c];exact a.bt n o
 ·intro n o g;rw [c];exact a.bm n o g
 ·intro n o;rw [c];exact a.st n o
 ·intro n o g;rw [c];exact a.se n o g
 ·intro n o g;rw [c];exact a.sm n o g
theorem M0.Mk {G:Gh} {L:PM} (a:M0 base S h G L w) (n k:Nat) (x:Value) (f:Ob->Ob) (hk:k<13) (ho:h.ob n=some o) (C:(f o).mode=o.mode/\(f o).es=o.es)
 (D:∀ i,i<13->(if i=k then x else nM o n (L.es n) (L.mp n) i)=nM (f o) n (L.es n) (L.mp n) i):
 M0 base S (h.upd n f) G L (w.setCell ⟨L.tb n,k,none⟩ x)/\Keeps w (w.setCell ⟨L.tb n,k,none⟩ x) S:=by
 have kk:Keeps w (w.setCell ⟨L.tb n,k,none⟩ x) (fun b=>b=L.tb n):=Keeps.setCell (S:=fun b=>b=L.tb n) (Keeps.refl w _) rfl x;have hr:=a.ob n o ho;have hH:∀ {T s n':Nat} {v:Value} {xs:List Value},w.ownsRow base T s v n' xs->T≠136->∀ g,v.ownBlock=some g->¬ g=L.tb n:=fun h1 h2 g t B=>ak h1 hr h2 (B ▸ t);have l:∀ m q,(h.upd n f).ob m=some q->∃ o2,h.ob m=some o2/\q.es=o2.es/\(m=n->o2=o/\q=f o)/\(m≠n->q=o2):=by
  intro m q e;rw [Hp.Ho] at e;split at e
  ·rename_i c
   subst c;rw [ho] at e;simp at e;subst e;exact ⟨o,ho,C.2,fun _=>⟨rfl,rfl⟩,fun c=>absurd rfl c⟩
  ·rename_i c
   exact ⟨q,e,rfl,fun d=>absurd d.symm c,fun _=>rfl⟩
 have A:(h.upd n f).objs.length=h.objs.length:=h.Hz n f;refine ⟨⟨?_,fun m q e=>?_,fun m q e=>?_,fun m q e=>?_,fun j hj=>aj (a.li j hj) kk (hH (a.li j hj) (iH hj).2.1),?_,?_,?_,a.lj,a.bH,?_,?_,aI a.bs kk.size,a.sH,?_,?_,?_,a.sl,fun b hb=>a.up b (aI kk.size hb)⟩,kk.mono (fun b e=>e ▸ a.st n o ho)⟩
 ·refine (a.hp.keep kk (fun e=>a.hp.apart hr (by decide) e)).congr (fun i _=>?_)
  unfold kK;rw [A];rfl
 ·obtain ⟨o2,p,t,B,E⟩:=l m q e
  by_cases c:m=n
  ·subst c
   obtain ⟨rfl,rfl⟩:=B rfl;exact (hr.set hk x).congr (fun i hi=>D i hi)
  ·obtain rfl:=E c
   exact (a.ob m q p).keep kk (fun y=>c (a.ij m n _ _ p ho y))
 ·obtain ⟨o2,p,t,_⟩:=l m q e
  rw [t];exact aj (a.en m o2 p) kk (hH (a.en m o2 p) (by decide))
 ·obtain ⟨o2,p,t,_⟩:=l m q e
  rw [t];exact (a.mp m o2 p).keep kk (fun b hb y=>(a.mp m o2 p).apart hr (y ▸ hb))
 ·intro m r o1 o2 e1 p
  obtain ⟨p1,q1,_⟩:=l m o1 e1;obtain ⟨z,u,_⟩:=l r o2 p;exact a.ij m r p1 z q1 u
 ·intro m r o1 o2 g e1 p
  obtain ⟨p1,q1,_⟩:=l m o1 e1;obtain ⟨z,u,_⟩:=l r o2 p;exact a.ei m r p1 z g q1 u
 ·intro m r o1 o2 g e1 p
  obtain ⟨p1,q1,_⟩:=l m o1 e1;obtain ⟨z,u,_⟩:=l r o2 p;exact a.mi m r p1 z g q1 u
 ·intro m o1 e1
  obtain ⟨p1,q1,_⟩:=l m o1 e1;exact a.bt m p1 q1
 ·intro m o1 g e1
  obtain ⟨p1,q1,_⟩:=l m o1 e1;exact a.bm m p1 g q1
 ·intro m o1 e1
  obtain ⟨p1,q1,_⟩:=l m o1 e1;exact a.st m p1 q1
 ·intro m o1 g e1
  obtain ⟨p1,q1,_⟩:=l m o1 e1;exact a.se m p1 g q1
 ·intro m o1 g e1
  obtain ⟨p1,q1,_⟩:=l m o1 e1;exact a.sm m p1 g q1
end
set_option maxHeartbeats 6400000
set_option maxRecDepth 100000
section
variable {G G':Gh} {L:PM} {S:Nat->Prop} {base:Nat} {h h':Hp} {w w1:World}
theorem M0.JW (a:M0 base S h G L w) (k:Nat) (hk:eF k) (kk:Keeps w w1 (fun b=>(L.li k).ownBlock=some b)) (v':Value) (hown:w1.ownsRow base (xQ k) 1 v' (eU h' G' k).length ((eU h' G' k).map (eP L.tb k))) (K:∀ g,v'.ownBlock=some g->(L.li k).ownBlock=some g∨w.heap.size<=g)
 (d:∀ n,h'.ob n=h.ob n) (M:∀ j,eF j->j≠k->eU h' G' j=eU h G j) (W:∀ i,i<19->(if i=k then v' else kK h G L i)=kK h' G' { L with li:=fun j=>if j=k then v' else L.li j } i):
 aD w1 77 L.H 19 (kK h G L)/\M0 base S h' G' { L with li:=fun j=>if j=k then v' else L.li j } (w1.setCell ⟨L.H,k,none⟩ v')/\Keeps w (w1.setCell ⟨L.H,k,none⟩ v') S:=by
 have C:k<19:=by rcases hk with rfl|rfl|rfl|rfl|rfl|rfl|rfl|rfl|rfl<;>decide
 have F:=iH hk;have t:aD w1 77 L.H 19 (kK h G L):=a.hp.keep kk (fun e=>ak (a.li k hk) a.hp F.1 e);have U:Keeps w1 (w1.setCell ⟨L.H,k,none⟩ v') (fun b=>b=L.H):=Keeps.setCell (S:=fun b=>b=L.H) (Keeps.refl w1 _) rfl v';have r:Keeps w (w1.setCell ⟨L.H,k,none⟩ v') (fun b=>(L.li k).ownBlock=some b∨b=L.H):=(kk.mono (fun b e=>Or.inl e)).trans (U.mono (fun b e=>Or.inr e));have V:∀ {T g N:Nat} {f:Nat->Value},aD w T g N f->T≠77->T≠xQ k->¬ ((L.li k).ownBlock=some g∨g=L.H):=by
  intro T g N f J Q P p;rcases p with p|p
  ·exact ak (a.li k hk) J (Ne.symm P) p
  ·exact J.apart a.hp Q p
 have hO:∀ {T s n:Nat} {v:Value} {R:List Value},w.ownsRow base T s v n R->T≠77->T≠xQ k->∀ g,v.ownBlock=some g->¬ ((L.li k).ownBlock=some g∨g=L.H):=by
  intro T s n v R J Q P g Y;exact V (ay J Y) Q P
 have X:∀ n o,h.ob n=some o->∀ g,dx (L.mp n)=some g->¬ ((L.li k).ownBlock=some g∨g=L.H):=by
  intro n o e g y p;rcases p with p|p
  ·exact (a.mp n o e).apart (ay (a.li k hk) p) y
  ·exact (a.mp n o e).apart a.hp (p ▸ y)
 refine ⟨t,⟨(t.set C v').congr W,fun n o e=>?_,fun n o e=>?_,fun n o e=>?_,fun j l=>?_,?_,?_,?_,?_,a.bH,?_,?_,aI a.bs r.size,a.sH,?_,?_,?_,?_,fun b hb=>a.up b (aI r.size hb)⟩,?_⟩
 ·rw [d] at e;exact (a.ob n o e).keep r (V (a.ob n o e) (by decide) (Ne.symm F.2.1))
 ·rw [d] at e;exact aj (a.en n o e) r (hO (a.en n o e) (by decide) (Ne.symm F.2.2))
 ·rw [d] at e;exact (a.mp n o e).keep r (X n o e)
 ·by_cases c:j=k
  ·subst c
   simp only [if_true];exact aj hown U (fun g y e=>ak hown t F.1 (e ▸ y))
  ·simp only [c,if_false]
   rw [M j l c];refine aj (a.li j l) r (fun g y e=>?_);rcases e with e|e
   ·exact c (a.lj j k g l hk y e)
   ·exact ak (a.li j l) a.hp (iH l).1 (e ▸ y)
 ·intro n m o A;rw [d,d];exact a.ij n m o A
 ·intro n m o A g;rw [d,d];exact a.ei n m o A g
 ·intro n m o A g;rw [d,d];exact a.mi n m o A g
 ·intro j E g l u e z
  have B:∀ q,eF q->(L.li q).ownBlock=some g->g<w.heap.size:=fun q hq e=>(ay (a.li q hq) e).lt;by_cases c:j=k<;>by_cases D:E=k
  ·rw [c,D]
  ·simp only [c,D,if_true,if_false] at e z
   rcases K g e with x|x
   ·rw [c];exact a.lj k E g hk u x z
   ·have:=B E u z;omega
  ·simp only [c,D,if_true,if_false] at e z
   rcases K g z with x|x
   ·rw [D];exact a.lj j k g l hk e x
   ·have:=B j l e;omega
  ·simp only [c,D,if_false] at e z
   exact a.lj j E g l u e z
 ·intro n o;rw [d];exact a.bt n o
 ·intro n o g;rw [d];exact a.bm n o g
 ·intro n o;rw [d];exact a.st n o
 ·intro n o g;rw [d];exact a.se n o g
 ·intro n o g;rw [d];exact a.sm n o g
 ·intro j g l e
  by_cases c:j=k
  ·simp only [c,if_true] at e
   rcases K g e with x|x
   ·exact a.sl k g hk x
   ·exact a.up g x
  ·simp only [c,if_false] at e
   exact a.sl j g l e
 ·refine r.mono (fun b e=>?_)
  rcases e with e|e
  ·exact a.sl k b hk e
  ·exact e ▸ a.sH
theorem gY:(Tryz.prog.info? 67).map (fun i=>(i.zero,i.size,i.bytes))=some (some .nilIface,1,16):=by kernel_rfl
theorem um:(Tryz.prog.info? 127).map (fun i=>(i.zero,i.size,i.bytes))=some (some (.pointer none),1,8):=by kernel_rfl
def xV (T base b off:Nat) (v:Value) (l:List Value) (x:Value) (w:World) (e:Ending) (w':World):Prop:=e=.returned (.tuple #[])/\∃ a k w1,w'=w1.setCell ⟨b,off,none⟩ (.slice a (l.length+1) k)/\w1.ownsRow base T 1 (.slice a (l.length+1) k) (l.length+1) (l++[x])/\Keeps w w1 (fun c=>v.ownBlock=some c)/\∀ g,(Value.slice a (l.length+1) k).ownBlock=some g->v.ownBlock=some g∨w.heap.size<=g
theorem iI (w:World) (base b f:Nat) (v:Value) (l:List Value) (t:Nat) (n:w.cell? ⟨b,f,none⟩=some v) (A:w.frozen? ⟨b,f,none⟩=false) (hown:w.ownsRow base 67 1 v l.length l) (hb:v.ownBlock≠some b) (P:l.length<=1000000) (s:base<=w.heap.size):
 Calls Tryz.prog 111 #[.pointer (some ⟨b,f,none⟩),.iface 127 (.pointer (some ⟨t,0,none⟩))] w (xV 67 base b f v l (.iface 127 (.pointer (some ⟨t,0,none⟩))) w):=by
 obtain ⟨F,E,r⟩:=aF hown;have k:=mY n;have K:=ah n;have H:=ah A;have Q:w.cell? ⟨b,f,none⟩=some (.slice F l.length E):=by rw [<-r];exact n
 have J:=ah hown;have HV:=ah r;have m:=ah hb;clear hown r n A hb;go_enter Tryz.func111,Tryz.ntmps111;go_wp2_with (first
  |(at_builtin
    refine fE rfl (.tmp 8) (.tmp 10) 70 67 1 16 .nilIface rfl Tryz.underlying70 gY rfl (by decide) base v l.length l [.iface 127 (.pointer (some ⟨t,0,none⟩))] J.o HV.out.symm rfl rfl (fun u hu=>by simp at hu;subst hu;rfl) (by omega) (by decide) s ?_;intro v' j x D C B;obtain ⟨y,p,q⟩:=aF x;subst q;have i:=D base w (aT _ _) (au _);have z:=ah (show j.ownsRow base 67 1 (.slice y (l.length+1) p) (l.length+1) (l++[.iface 127 (.pointer (some ⟨t,0,none⟩))])/\Keeps w j (fun c=>v.ownBlock=some c)/\∀ g,(Value.slice y (l.length+1) p).ownBlock=some g->v.ownBlock=some g∨w.heap.size<=g from ⟨x,⟨i.os,i.tape,i.output,i.size,fun b hb hn=>C b hb hn⟩,fun g e=>by
     by_cases c:v.ownBlock=some g
     ·exact .inl c
     ·right
      rcases Nat.lt_or_ge g w.heap.size with d|d
      ·exact absurd e (B g d c)
      ·exact d⟩)
    have N:j.cell? ⟨b,f,none⟩=some v:=(bM (a:=⟨b,f,none⟩) (z.o.2.1.block b k m.o)).trans K.o;have M:j.frozen? ⟨b,f,none⟩=false:=(World.frozen?_of_block (a:=⟨b,f,none⟩) (z.o.2.1.block b k m.o)).trans H.o;clear x D C B i)
  |go_in)
 go_end0;exact ⟨rfl,y,p,j,rfl,z.o⟩
theorem oz (w:World) (base b f:Nat) (v:Value) (l:List Value) (t:Nat) (n:w.cell? ⟨b,f,none⟩=some v) (A:w.frozen? ⟨b,f,none⟩=false) (hown:w.ownsRow base 127 1 v l.length l) (hb:v.ownBlock≠some b) (P:l.length<=1000000) (s:base<=w.heap.size):
 Calls Tryz.prog 185 #[.pointer (some ⟨b,f,none⟩),.pointer (some ⟨t,0,none⟩)] w (xV 127 base b f v l (.pointer (some ⟨t,0,none⟩)) w):=by
 obtain ⟨F,E,r⟩:=aF hown;have k:=mY n;have K:=ah n;have H:=ah A;have Q:w.cell? ⟨b,f,none⟩=some (.slice F l.length E):=by rw [<-r];exact n
 have J:=ah hown;have HV:=ah r;have m:=ah hb;clear hown r n A hb;go_enter Tryz.func185,Tryz.ntmps185;go_wp2_with (first
  |(at_builtin
    refine fE rfl (.tmp 8) (.tmp 10) 73 127 1 8 (.pointer none) rfl Tryz.underlying73 um rfl (by decide) base v l.length l [.pointer (some ⟨t,0,none⟩)] J.o HV.out.symm rfl rfl (fun u hu=>by simp at hu;subst hu;rfl) (by omega) (by decide) s ?_;intro v' j x D C B;obtain ⟨y,p,q⟩:=aF x;subst q;have i:=D base w (aT _ _) (au _);have z:=ah (show j.ownsRow base 127 1 (.slice y (l.length+1) p) (l.length+1) (l++[.pointer (some ⟨t,0,none⟩)])/\Keeps w j (fun c=>v.ownBlock=some c)/\∀ g,(Value.slice y (l.length+1) p).ownBlock=some g->v.ownBlock=some g∨w.heap.size<=g from ⟨x,⟨i.os,i.tape,i.output,i.size,fun b hb hn=>C b hb hn⟩,fun g e=>by
     by_cases c:v.ownBlock=some g
     ·exact .inl c
     ·right
      rcases Nat.lt_or_ge g w.heap.size with d|d
      ·exact absurd e (B g d c)
      ·exact d⟩)
    have N:j.cell? ⟨b,f,none⟩=some v:=(bM (a:=⟨b,f,none⟩) (z.o.2.1.block b k m.o)).trans K.o;have M:j.frozen? ⟨b,f,none⟩=false:=(World.frozen?_of_block (a:=⟨b,f,none⟩) (z.o.2.1.block b k m.o)).trans H.o;clear x D C B i)
  |go_in)
 go_end0;exact ⟨rfl,y,p,j,rfl,z.o⟩
end
end Go.Proofs.YtbpcdfbmnklcjaaGreatDoor
