import Derived.Test.YtbpcdfbmnklcjaaGreatDoorKHD
namespace Go.Proofs.YtbpcdfbmnklcjaaGreatDoor
set_option linter.unusedVariables false
section
variable {S:Nat->Prop} {n:Nat} {o o':Ob}
def Sc (h:Hp) (n:Nat) (o:Ob):Prop:=
 (o.mode=0->∀ e∈o.es,e.2.isSome=true->∀ r∈dw e,h.M4 r=false)/\(o.mode=1->n∈h.GZ)/\
 (o.mode=2->∀ e∈o.es,e.2.isSome=true->∀ r∈bQ e.1,h.M4 r=false)/\(2<=o.mode->n∈h.weak)
theorem Sc.mono {h g:Hp} (s:Sc h n o) (hm:o'.mode=o.mode) (f:o'.es=o.es) (i:∀ r,g.M4 r=true->h.M4 r=true) (k:∀ r∈h.GZ,r∈g.GZ) (j:∀ r∈h.weak,r∈g.weak):Sc g n o':=by
 have hd:∀ r,h.M4 r=false->g.M4 r=false:=fun r e=>by
  cases hg:g.M4 r
  ·rfl
  ·rw [i r hg] at e;cases e
 obtain ⟨a,b,c,d⟩:=s;refine ⟨fun x e hee hs r hr=>hd r (a (hm ▸ x) e (f ▸ hee) hs r hr),fun x=>k n (b (hm ▸ x)),fun x e hee hs r hr=>hd r (c (hm ▸ x) e (f ▸ hee) hs r hr),fun x=>j n (d (hm ▸ x))⟩
structure M5 (h:Hp) (S:Nat->Prop):Prop where
 col:∀ n o,h.ob n=some o->o.col<=3
 M_:∀ n o,h.ob n=some o->o.col=2->n∈h.grey∨n∈h.again
 blk:∀ n o,h.ob n=some o->o.col=3->¬ S n->Sc h n o
 wc:∀ n o,h.ob n=some o->gu o.col=true->o.col=h.white
 ll:∀ n,n∈h.grey∨n∈h.again∨n∈h.weak∨n∈h.GZ->h.Lv n
 cl:h.Closed
structure Nk (h g:Hp):Prop where
 md:Np h g
 bl:∀ n o,g.ob n=some o->o.col=3->∃ o',h.ob n=some o'/\o'.col=3
 gr:∀ n o,g.ob n=some o->o.col=2->(∃ o',h.ob n=some o'/\o'.col=2)∨n∈g.grey
 le:∀ n o,g.ob n=some o->o.col<=3∨∃ o',h.ob n=some o'/\o'.col=o.col
 lg:∀ n∈h.grey,n∈g.grey
 lv:∀ n∈g.grey,n∈h.grey∨h.Lv n
 ep:g.GZ=h.GZ
 wk:g.weak=h.weak
theorem Nk.refl (h:Hp):Nk h h:=⟨Np.refl h,fun n o e c=>⟨o,e,c⟩,fun n o e c=>.inl ⟨o,e,c⟩,fun n o e=>.inr ⟨o,e,rfl⟩,fun _ x=>x,fun _ x=>.inl x,rfl,rfl⟩
theorem Nk.trans {a b c:Hp} (x:Nk a b) (y:Nk b c):Nk a c:=by
 refine ⟨x.md.trans y.md,fun n o e k=>?_,fun n o e k=>?_,fun n o e=>?_,fun n h=>y.lg n (x.lg n h),fun n h=>?_,y.ep.trans x.ep,y.wk.trans x.wk⟩
 ·obtain ⟨o1,d,g⟩:=y.bl n o e k
  exact x.bl n o1 d g
 ·rcases y.gr n o e k with ⟨o1,d,g⟩|d
  ·rcases x.gr n o1 d g with f|f
   ·exact .inl f
   ·exact .inr (y.lg n f)
  ·exact .inr d
 ·rcases y.le n o e with d|⟨o1,d,g⟩
  ·exact .inl d
  ·rcases x.le n o1 d with f|⟨o2,f,i⟩
   ·exact .inl (g ▸ f)
   ·exact .inr ⟨o2,f,i.trans g⟩
 ·rcases y.lv n h with d|d
  ·exact x.lv n d
  ·exact .inr ((x.md.lv n).1 d)
theorem Nk.Hg (h:Hp) (n:Nat) (l:h.Lv n):Nk h (h.Hg n):=by
 refine ⟨Np.Hg h n,fun m o e k=>?_,fun m o e k=>?_,fun m o e=>?_,fun m x=>List.mem_append_left _ x,fun m x=>?_,rfl,rfl⟩
 ·have a:(h.upd n fun o=>{ o with col:=2 }).ob m=some o:=e
  rw [Hp.Hf] at a;split at a
  ·cases hb:h.ob m with
   |none=>rw [hb] at a;simp at a
   |some o'=>rw [hb] at a;simp at a;subst a;simp at k
  ·exact ⟨o,a,k⟩
 ·have a:(h.upd n fun o=>{ o with col:=2 }).ob m=some o:=e
  rw [Hp.Hf] at a;split at a
  ·rename_i b
   right;show m∈h.grey++[n];simp [b]
  ·exact .inl ⟨o,a,k⟩
 ·have a:(h.upd n fun o=>{ o with col:=2 }).ob m=some o:=e
  rw [Hp.Hf] at a;split at a
  ·cases hb:h.ob m with
   |none=>rw [hb] at a;simp at a
   |some o'=>rw [hb] at a;simp at a;subst a;exact .inl (by simp)
  ·exact .inr ⟨o,a,rfl⟩
 ·have c:m∈h.grey++[n]:=x
  rcases aY.1 c with y|y
  ·exact .inl y
  ·simp at y;subst y;exact .inr l
theorem Hp.mark_eq (h:Hp) (n:Nat):h.mark n=h∨(h.Lv n/\h.M4 n=true/\h.mark n=h.Hg n):=by
 unfold Hp.mark;split
 ·rename_i o ho
  split
  ·rename_i a
   exact .inr ⟨⟨o,ho⟩,by rw [Hp.Ju ho];exact a,rfl⟩
  ·exact .inl rfl
 ·exact .inl rfl
theorem Nk.mark (h:Hp) (n:Nat):Nk h (h.mark n):=by
 rcases h.mark_eq n with e|⟨l,_,e⟩
 ·rw [e];exact Nk.refl h
 ·rw [e];exact Nk.Hg h n l
theorem Nk.Hz (h:Hp) (v:HV):Nk h (h.Hz v):=by
 unfold Hp.Hz;split
 ·exact Nk.mark h _
 ·exact Nk.refl h
theorem Nk.fold {α:Type} (f:Hp->α->Hp) (b:∀ h x,Nk h (f h x)):∀ (l:List α) (h:Hp),Nk h (l.foldl f h)
 | [],h=>Nk.refl h
 |a::l,h=>(b h a).trans (Nk.fold f b l (f h a))
theorem Nk.Ho (h:Hp) (l:List Nat):Nk h (h.Ho l):=Nk.fold _ Nk.mark l h
theorem Nk.key1 (h:Hp) (e:En):Nk h (h.key1 e):=by
 unfold Hp.key1;split
 ·exact Nk.Hz h _
 ·exact Nk.refl h
theorem Nk.Hw (h:Hp) (e:En):Nk h (h.Hw e):=(Nk.key1 h e).trans (Nk.Hz _ _)
theorem Nk.He (p:Hp × Bool) (e:En):Nk p.1 (Hp.He p e).1:=by
 unfold Hp.He;split
 ·exact Nk.Hz _ _
 ·exact Nk.refl _
theorem Nk.I9:∀ (es:List En) (p:Hp × Bool),Nk p.1 (es.foldl Hp.He p).1
 | [],p=>Nk.refl _
 |e::es,p=>(Nk.He p e).trans (Nk.I9 es _)
theorem Nk.spread (h:Hp) (es:List En):Nk h (h.spread es).1:=Nk.I9 es (h,false)
theorem Nk.alive (h:Hp):Nk h h.alive:=(Nk.Ho h _).trans (Nk.Ho _ _)
theorem M5.Mq {h g:Hp} (t:M5 h S) (x:Nk h g):M5 g S:=by
 refine ⟨fun n o e=>?_,fun n o e k=>?_,fun n o e k hs=>?_,fun n o e w=>?_,fun n hn=>?_,x.md.closed t.cl⟩
 ·rcases x.le n o e with a|⟨o',a,b⟩
  ·exact a
  ·rw [<-b];exact t.col n o' a
 ·rcases x.gr n o e k with ⟨o',a,b⟩|a
  ·rcases t.M_ n o' a b with c|c
   ·exact .inl (x.lg n c)
   ·exact .inr (by rw [x.md.again];exact c)
  ·exact .inl a
 ·obtain ⟨o',a,b⟩:=x.bl n o e k
  obtain ⟨o2,c,f,d,_⟩:=x.md.ob e;rw [a] at c;cases c;exact (t.blk n o' a b hs).mono f.symm d.symm x.md.grow (fun r hr=>by rw [x.ep];exact hr) (fun r hr=>by rw [x.wk];exact hr)
 ·obtain ⟨o',a,b⟩:=x.md.KZ n o e w
  rw [x.md.white,<-b];exact t.wc n o' a (by rw [b];exact w)
 ·refine (x.md.lv n).2 ?_
  rcases hn with a|a|a|a
  ·rcases x.lv n a with b|b
   ·exact t.ll n (.inl b)
   ·exact b
  ·exact t.ll n (.inr (.inl (by rw [<-x.md.again];exact a)))
  ·exact t.ll n (.inr (.inr (.inl (by rw [<-x.wk];exact a))))
  ·exact t.ll n (.inr (.inr (.inr (by rw [<-x.ep];exact a))))
theorem pU:∀ (l:List En) (h:Hp),(∀ e∈l,∀ r∈dw e,h.Lv r)->∀ e∈l,e.2.isSome=true->∀ r∈dw e,(l.foldl Hp.Hw h).M4 r=false
 | [],h,_,e,he,_,_,_=>by simp at he
 |a::l,h,hl,e,he,hs,r,hr=>by
  simp only [List.foldl_cons];rcases eT.1 he with rfl|he'
  ·refine (Np.fold _ Np.Hw l _).dark ?_
   unfold Hp.Hw Hp.key1;rw [if_pos hs];rcases aY.1 hr with h1|h1
   ·exact (Np.Hz _ _).dark (Hp.Je (fun x hx=>hl _ (List.mem_cons_self) x (List.mem_append_left _ hx)) r h1)
   ·exact Hp.Je (fun x hx=>((Np.Hz h e.1).lv x).2 (hl _ (List.mem_cons_self) x (List.mem_append_right _ hx))) r h1
  ·exact pU l _ (fun e he r hr=>((Np.Hw h a).lv r).2 (hl e (List.mem_cons_of_mem _ he) r hr)) e he' hs r hr
theorem uj:∀ (l:List En) (h:Hp),(∀ e∈l,∀ r∈dw e,h.Lv r)->∀ e∈l,e.2.isSome=true->∀ r∈bQ e.1,(l.foldl Hp.key1 h).M4 r=false
 | [],h,_,e,he,_,_,_=>by simp at he
 |a::l,h,hl,e,he,hs,r,hr=>by
  simp only [List.foldl_cons];rcases eT.1 he with rfl|he'
  ·refine (Np.fold _ Np.key1 l _).dark ?_
   unfold Hp.key1;rw [if_pos hs];exact Hp.Je (fun x hx=>hl _ (List.mem_cons_self) x (List.mem_append_left _ hx)) r hr
  ·exact uj l _ (fun e he r hr=>((Np.key1 h a).lv r).2 (hl e (List.mem_cons_of_mem _ he) r hr)) e he' hs r hr
end
section
variable {S:Nat->Prop} {gs:List Nat} {h:Hp} {n:Nat}
def No:Nat->Prop:=fun _=>False
theorem M5.lists (t:M5 h S) (n:Nat) (j:h.Lv n) (a b:List Nat) (l:a=h.GZ∨a=h.GZ++[n]) (hb:b=h.weak∨b=h.weak++[n]):M5 { h with GZ:=a,weak:=b } S:=by
 have i:∀ r∈h.GZ,r∈a:=by rcases l with rfl|rfl<;>simp_all
 have g:∀ r∈h.weak,r∈b:=by rcases hb with rfl|rfl<;>simp_all
 refine ⟨t.col,t.M_,fun m o e k hs=>(t.blk m o e k hs).mono rfl rfl (fun _ x=>x) i g,t.wc,fun m hm=>?_,t.cl⟩;rcases hm with f|f|f|f
 ·exact t.ll m (.inl f)
 ·exact t.ll m (.inr (.inl f))
 ·have c:m∈b:=f
  rcases hb with rfl|rfl
  ·exact t.ll m (.inr (.inr (.inl c)))
  ·rcases aY.1 c with d|d
   ·exact t.ll m (.inr (.inr (.inl d)))
   ·simp at d;subst d;exact j
 ·have c:m∈a:=f
  rcases l with rfl|rfl
  ·exact t.ll m (.inr (.inr (.inr c)))
  ·rcases aY.1 c with d|d
   ·exact t.ll m (.inr (.inr (.inr d)))
   ·simp at d;subst d;exact j
theorem M5.done (t:M5 h (fun m=>S m∨m=n)) (a:∀ o,h.ob n=some o->Sc h n o):M5 h S:=by
 refine ⟨t.col,t.M_,fun m o e k hS=>?_,t.wc,t.ll,t.cl⟩;by_cases hm:m=n
 ·subst hm;exact a o e
 ·exact t.blk m o e k (fun x=>x.elim hS hm)
theorem M5.pop (t:M5 h S) (i:h.grey=gs++[n]):M5 ({ h with grey:=gs }.upd n fun o=>{ o with col:=3 }) (fun m=>S m∨m=n):=by
 have hx:=Np.col { h with grey:=gs } n 3 rfl;have b:∀ m o,({ h with grey:=gs }.upd n fun o=>{ o with col:=3 }).ob m=some o->(m≠n/\h.ob m=some o)∨(m=n/\o.col=3):=by
  intro m o e;rw [Hp.Hf] at e;split at e
  ·rename_i c
   right;cases hb:Hp.ob { h with grey:=gs } m with
   |none=>rw [hb] at e;simp at e
   |some o'=>rw [hb] at e;simp at e;subst e;exact ⟨c.symm,rfl⟩
  ·rename_i c
   exact .inl ⟨fun x=>c x.symm,e⟩
 refine ⟨fun m o e=>?_,fun m o e k=>?_,fun m o e k hs=>?_,fun m o e w=>?_,fun m hm=>?_,hx.closed t.cl⟩
 ·rcases b m o e with ⟨_,a⟩|⟨_,a⟩
  ·exact t.col m o a
  ·omega
 ·rcases b m o e with ⟨g,a⟩|⟨_,a⟩
  ·rcases t.M_ m o a k with f|f
   ·rw [i] at f
    rcases aY.1 f with d|d
    ·exact .inl d
    ·simp at d;exact absurd d g
   ·exact .inr f
  ·omega
 ·rcases b m o e with ⟨g,a⟩|⟨g,a⟩
  ·exact (t.blk m o a k (fun x=>hs (.inl x))).mono rfl rfl hx.grow (fun _ x=>x) (fun _ x=>x)
  ·exact absurd (.inr g) hs
 ·rcases b m o e with ⟨_,a⟩|⟨_,a⟩
  ·exact t.wc m o a w
  ·rw [a] at w;cases w
 ·refine (hx.lv m).2 ?_
  show h.Lv m;rcases hm with a|a|a|a
  ·exact t.ll m (.inl (by rw [i];exact List.mem_append_left _ a))
  ·exact t.ll m (.inr (.inl a))
  ·exact t.ll m (.inr (.inr (.inl a)))
  ·exact t.ll m (.inr (.inr (.inr a)))
theorem M5.Ih {h:Hp} {n:Nat} {o:Ob} (t:M5 h (fun m=>No m∨m=n)) (hm:∃ o',h.ob n=some o'/\o'.mode=o.mode/\o'.es=o.es):M5 (h.Ih n o) No:=by
 obtain ⟨o',e,i,f⟩:=hm;have l:∀ en∈o.es,∀ r∈dw en,h.Lv r:=fun en he r hr=>t.cl n o' e en (by rw [f];exact he) r hr;have key:∀ g:Hp,Np h g->∀ o2,g.ob n=some o2->o2.mode=o.mode/\o2.es=o.es:=by
  intro g hk o2 a;obtain ⟨o3,c,b,q,_⟩:=hk.ob a;rw [e] at c;cases c;exact ⟨b.symm.trans i,q.symm.trans f⟩
 unfold Hp.Ih;split
 ·rename_i k
  have hk:=Nk.fold _ Nk.Hw o.es h;refine (t.Mq hk).done (fun o2 a=>?_);obtain ⟨c,b⟩:=key _ hk.md o2 a;refine ⟨fun _ en he hs r hr=>pU o.es h l en (b ▸ he) hs r hr,fun x=>?_,fun x=>?_,fun x=>?_⟩
  ·omega
  ·omega
  ·omega
 ·split
  ·rename_i k p
   have d:=t.lists n ⟨o',e⟩ (h.GZ++[n]) h.weak (.inr rfl) (.inl rfl);have hk:=Nk.spread { h with GZ:=h.GZ++[n] } o.es;refine (d.Mq hk).done (fun o2 a=>?_);obtain ⟨c,b⟩:=key _ (((Np.refl h).lists _ _ _).trans hk.md) o2 a;refine ⟨fun x=>?_,fun x=>?_,fun x=>?_,fun x=>?_⟩
   ·omega
   ·rw [hk.ep];simp
   ·omega
   ·omega
  ·split
   ·rename_i k p j
    have hk:=Nk.fold _ Nk.key1 o.es h;have d:=(t.Mq hk).lists n ((hk.md.lv n).2 ⟨o',e⟩) (o.es.foldl Hp.key1 h).GZ ((o.es.foldl Hp.key1 h).weak++[n]) (.inl rfl) (.inr rfl);refine d.done (fun o2 a=>?_);obtain ⟨c,b⟩:=key _ (hk.md.lists _ _ _) o2 a;refine ⟨fun x=>?_,fun x=>?_,fun x en he hs r hr=>?_,fun x=>?_⟩
    ·omega
    ·omega
    ·exact uj o.es h l en (b ▸ he) hs r hr
    ·simp
   ·rename_i k p j
    have d:=t.lists n ⟨o',e⟩ h.GZ (h.weak++[n]) (.inl rfl) (.inr rfl);refine d.done (fun o2 a=>?_);obtain ⟨c,b⟩:=key _ ((Np.refl h).lists _ _ _) o2 a;refine ⟨fun x=>?_,fun x=>?_,fun x=>?_,fun x=>?_⟩
    ·omega
    ·omega
    ·omega
    ·simp
theorem M5.take {h:Hp} (t:M5 h No):M5 h.take.1 No:=by
 unfold Hp.take;split
 ·rename_i n f
  have b:h.grey=h.grey.dropLast++[n]:=by
   obtain ⟨g,d⟩:=List.getLast?_eq_some_iff.1 f;rw [d,List.dropLast_concat]
  have c:=t.pop b;unfold Hp.scan;split
  ·rename_i o ho
   refine c.Ih ⟨{ o with col:=3 },?_,rfl,rfl⟩;rw [Hp.Hf,if_pos rfl,ho];rfl
  ·rename_i ho
   obtain ⟨o,e⟩:=t.ll n (.inl (by rw [b];simp));have a:h.ob n=none:=ho;rw [e] at a;cases a
 ·exact t
theorem M5.drain {h:Hp} (t:M5 h No):M5 h.drain No:=Hp.Im (P:=fun h g=>M5 h No->M5 g No) (fun h _ t=>t) (fun h g _ x t=>x t.take) h t
theorem M5.over {k:Nat} {p:Hp × Bool} (t:M5 p.1 No):M5 (Hp.over k p).1 No:=
 Hp.Ip (P:=fun _ p q=>M5 p.1 No->M5 q.1 No) (fun k p _ t=>t) (fun k p q hk _ x t=>x (t.Mq (Nk.spread _ _)).drain) (fun k p q hk _ x t=>x (t.Mq (Nk.spread _ _))) k p t
theorem M5.turns {h:Hp} (t:M5 h No):M5 h.turns No:=Hp.IJ (P:=fun h g=>M5 h No->M5 g No) (fun h g _ _ x t=>x (M5.over (p:=(h,false)) t)) (fun h _ t=>M5.over (p:=(h,false)) t) h t
theorem M5.settle {h:Hp} (t:M5 h No):M5 h.settle No:=t.drain.turns
theorem M5.KY:∀ (l:List Nat) (h:Hp),M5 h No->(∀ n∈l,h.Lv n)->M5 (l.foldl Hp.Hg h) No
 | [],h,t,_=>t
 |a::l,h,t,hl=>M5.KY l _ (t.Mq (Nk.Hg h a (hl a (List.mem_cons_self)))) (fun n hn=>((Np.Hg h a).lv n).2 (hl n (List.mem_cons_of_mem _ hn)))
theorem nX:∀ (l:List Nat) (h:Hp),(l.foldl Hp.Hg h).grey=h.grey++l/\(l.foldl Hp.Hg h).again=h.again
 | [],h=>by simp
 |a::l,h=>by
  obtain ⟨h1,h2⟩:=nX l (h.Hg a);refine ⟨?_,h2.trans rfl⟩;simp only [List.foldl_cons];rw [h1];simp [Hp.Hg]
theorem M5.G8 {h:Hp} (t:M5 h No):M5 h.G8 No:=by
 have b:=M5.KY h.again h t (fun n hn=>t.ll n (.inr (.inl hn)));have d:=nX h.again h;refine ⟨b.col,fun n o e k=>?_,b.blk,b.wc,fun n hn=>?_,b.cl⟩
 ·rcases b.M_ n o e k with a|a
  ·exact .inl a
  ·rw [d.2] at a
   refine .inl ?_;show n∈(h.again.foldl Hp.Hg h).grey;rw [d.1];exact List.mem_append_right _ a
 ·refine b.ll n ?_
  rcases hn with a|a|a|a
  ·exact .inl a
  ·have c:n∈([]:List Nat):=a
   simp at c
  ·exact .inr (.inr (.inl a))
  ·exact .inr (.inr (.inr a))
end
section
variable {es:List En}
theorem kH:∀ (es:List En) (p:Hp × Bool),(es.foldl Hp.He p).2=false->es.foldl Hp.He p=p/\∀ e∈es,p.1.ME e.1=false->p.1.ME e.2=false
 | [],p,_=>⟨rfl,fun _ h=>by simp at h⟩
 |a::l,p,h=>by
  simp only [List.foldl_cons] at h ⊢;obtain ⟨h1,h2⟩:=kH l _ h;have hp:(Hp.He p a).2=false:=by rw [h1] at h;exact h
  have c:Hp.He p a=p/\(p.1.ME a.1=false->p.1.ME a.2=false):=by
   unfold Hp.He at hp ⊢;split
   ·rename_i hx;rw [if_pos hx] at hp;simp at hp
   ·rename_i hx
    refine ⟨rfl,fun e=>?_⟩;cases hv:p.1.ME a.2
    ·rfl
    ·simp [e,hv] at hx
  rw [h1,c.1];refine ⟨rfl,fun e he=>?_⟩;rcases eT.1 he with rfl|b
  ·exact c.2
  ·have:=h2 e b
   rw [c.1] at this;exact this
theorem Hp.Jk {h:Hp} (e:(h.spread es).2=false):(h.spread es).1=h/\∀ e∈es,h.ME e.1=false->h.ME e.2=false:=by
 obtain ⟨b,a⟩:=kH es (h,false) e;exact ⟨by unfold Hp.spread;rw [b],a⟩
theorem lH:∀ (es:List En) (p:Hp × Bool),(∀ e∈es,∀ r∈dw e,p.1.Lv r)->(p.2=true->p.1.grey≠[])->(es.foldl Hp.He p).2=true->(es.foldl Hp.He p).1.grey≠[]
 | [],p,_,h,e=>h e
 |a::l,p,hl,h,e=>by
  simp only [List.foldl_cons] at e ⊢;refine lH l _ (fun e he r hr=>((Np.He p a).lv r).2 (hl e (List.mem_cons_of_mem _ he) r hr)) (fun hx=>?_) e;unfold Hp.He at hx ⊢;split
  ·rename_i hc
   simp only [Bool.and_eq_true,Bool.not_eq_true'] at hc;obtain ⟨r,hr,hw⟩:=oL hc.2;have b:=hl a (List.mem_cons_self) r (by simp [dw,bQ,hr]);show (p.1.Hz a.2).grey≠[];rw [hr];show (p.1.mark r).grey≠[];obtain ⟨o,ho⟩:=b;have:p.1.mark r=p.1.Hg r:=by
    unfold Hp.mark;rw [ho];simp only;rw [if_pos (by rw [<-Hp.Ju ho];exact hw)];rfl
   rw [this];simp [Hp.Hg]
  ·rename_i hc
   rw [if_neg hc] at hx;exact h hx
theorem Hp.J3 {h:Hp} (a:∀ e∈es,∀ r∈dw e,h.Lv r) (e:(h.spread es).2=true):(h.spread es).1.grey≠[]:=lH es (h,false) a (fun x=>by cases x) e
theorem Hp.Kk:∀ (k:Nat) (p:Hp × Bool),(Hp.over k p).2=false->Hp.over k p=p/\∀ j (a:j<p.1.GZ.length),k<=j->∀ e∈p.1.Jf (p.1.GZ[j]),p.1.ME e.1=false->p.1.ME e.2=false:=by
 intro k p;refine Hp.Ip (P:=fun k p q=>q.2=false->q=p/\∀ j (a:j<p.1.GZ.length),k<=j->∀ e∈p.1.Jf (p.1.GZ[j]),p.1.ME e.1=false->p.1.ME e.2=false) ?_ ?_ ?_ k p
 ·exact fun k p hk _=>⟨rfl,fun j a hkj=>absurd a (by omega)⟩
 ·intro k p q hk d x e
  obtain ⟨b,_⟩:=x e;rw [b] at e;simp at e
 ·intro k p q hk d x e
  obtain ⟨b,f⟩:=x e;obtain ⟨h,g⟩:=Hp.Jk d;rw [h] at b f;refine ⟨b,fun j a hkj=>?_⟩;by_cases c:j=k
  ·subst c;exact g
  ·exact f j a (by omega)
theorem Hp.Kq (k:Nat) (p:Hp × Bool):M5 p.1 No->(Hp.over k p).1.mu<=p.1.mu/\((Hp.over k p).2=true->p.2=true∨(Hp.over k p).1.mu<p.1.mu):=by
 refine Hp.Ip (P:=fun k p q=>M5 p.1 No->q.1.mu<=p.1.mu/\(q.2=true->p.2=true∨q.1.mu<p.1.mu)) ?_ ?_ ?_ k p
 ·exact fun k p _ _=>⟨au _,fun h=>.inl h⟩
 ·intro k p q hk d x t
  have b:p.1.Lv (p.1.GZ[k]):=t.ll _ (.inr (.inr (.inr (List.getElem_mem hk))));obtain ⟨o,ho⟩:=b;have g:∀ e∈p.1.Jf (p.1.GZ[k]),∀ r∈dw e,p.1.Lv r:=by
   intro e c r hr;refine t.cl _ o ho e ?_ r hr;unfold Hp.Jf at c;rw [ho] at c;exact c
  have i:=Hp.KH _ (Hp.J3 g d);rw [Hp.Ii] at i;obtain ⟨a,_⟩:=x (t.Mq (Nk.spread _ _)).drain;simp only at a;exact ⟨by omega,fun _=>.inr (by omega)⟩
 ·intro k p q hk d x t
  obtain ⟨a,f⟩:=x (t.Mq (Nk.spread _ _));simp only [Hp.Ii] at a f;exact ⟨a,f⟩
theorem Hp.JK (k:Nat) (p:Hp × Bool):p.1.grey=[]->(Hp.over k p).1.grey=[]:=by
 refine Hp.Ip (P:=fun k p q=>p.1.grey=[]->q.1.grey=[]) (fun k p _ h=>h) ?_ ?_ k p
 ·intro k p q hk a x _
  exact x (Hp.JA _)
 ·intro k p q hk a x h
  refine x ?_;show (p.1.spread _).1.grey=[];rw [(Hp.Jk a).1];exact h
def ES (h:Hp):Prop:=∀ n∈h.GZ,∀ e∈h.Jf n,h.ME e.1=false->h.ME e.2=false
theorem Hp.Kv (h:Hp):M5 h No->h.grey=[]->h.turns.grey=[]/\ES h.turns:=by
 refine Hp.IJ (P:=fun h g=>M5 h No->h.grey=[]->g.grey=[]/\ES g) ?_ ?_ h
 ·intro h g l b x t d
  exact x (M5.over (p:=(h,false)) t) (Hp.JK 0 (h,false) d)
 ·intro h c t d
  refine ⟨Hp.JK 0 (h,false) d,?_⟩;cases b:(Hp.over 0 (h,false)).2 with
  |true=>
   rcases (Hp.Kq 0 (h,false) t).2 b with a|a
   ·cases a
   ·exact absurd ⟨b,a⟩ c
  |false=>
   obtain ⟨a,k⟩:=Hp.Kk 0 (h,false) b;rw [a];intro n c e i;obtain ⟨j,f,rfl⟩:=List.getElem_of_mem c;exact k j f (Nat.zero_le _) e i
theorem Hp.Jh {h:Hp} (t:M5 h No):h.settle.grey=[]/\ES h.settle:=Hp.Kv _ t.drain (Hp.JA h)
theorem Hp.Jv {h:Hp} (t:M5 h No) (e:(Hp.over 0 (h,false)).2=true):(Hp.over 0 (h,false)).1.mu<h.mu:=by
 rcases (Hp.Kq 0 (h,false) t).2 e with a|a
 ·cases a
 ·exact a
theorem Hp.Jw {h:Hp} (t:M5 h No) (e:(Hp.over 0 (h,false)).2=true):h.turns=(Hp.over 0 (h,false)).1.turns:=Hp.Km h e (Hp.Jv t e)
end
def kQ (e' e:En):Prop:=e'=e∨e'=(e.1,none)∨e'=(none,none)
theorem kQ.refl (e:En):kQ e e:=.inl rfl
theorem kQ.trans {a b c:En} (x:kQ a b) (y:kQ b c):kQ a c:=by
 rcases x with rfl|rfl|rfl
 ·exact y
 ·rcases y with rfl|rfl|rfl
  ·exact .inr (.inl rfl)
  ·exact .inr (.inl rfl)
  ·exact .inr (.inr rfl)
 ·exact .inr (.inr rfl)
theorem kQ.refs {a b:En} (x:kQ a b):∀ r∈dw a,r∈dw b:=by
 intro r hr;rcases x with rfl|rfl|rfl
 ·exact hr
 ·simp [Go.Proofs.YtbpcdfbmnklcjaaGreatDoor.dw,bQ] at hr ⊢
  exact .inl hr
 ·simp [Go.Proofs.YtbpcdfbmnklcjaaGreatDoor.dw,bQ] at hr
theorem kQ.some {a b:En} (x:kQ a b) (e:a.2.isSome=true):a=b:=by
 rcases x with rfl|rfl|rfl
 ·rfl
 ·simp at e
 ·simp at e
theorem bZ (h:Hp) (e:En):kQ (bT h e) e:=by
 unfold bT;split
 ·exact .inr (.inl rfl)
 ·exact .inl rfl
theorem fU (h:Hp) (e:En):kQ (b_ h e) e:=by
 unfold b_;split
 ·exact .inr (.inr rfl)
 ·exact .inl rfl
theorem nJ (h:Hp) (e:En):kQ (dH h e) e:=by
 unfold dH;split
 ·exact .inr (.inr rfl)
 ·exact .inl rfl
structure MU (h g:Hp):Prop where
 len:g.objs.length=h.objs.length
 ob:∀ n,(g.ob n=none/\h.ob n=none)∨∃ o o',g.ob n=some o'/\h.ob n=some o/\o'.col=o.col/\o'.mode=o.mode/\o'.fin=o.fin/\∃ c:En->En,(∀ e,kQ (c e) e)/\o'.es=o.es.map c
 grey:g.grey=h.grey
 again:g.again=h.again
 weak:g.weak=h.weak
 GZ:g.GZ=h.GZ
 finals:g.finals=h.finals
 pending:g.pending=h.pending
 roots:g.roots=h.roots
 freed:g.freed=h.freed
 bytes:g.bytes=h.bytes
 live:g.live=h.live
 limit:g.limit=h.limit
 GY:g.GY=h.GY
 state:g.state=h.state
 white:g.white=h.white
 G5:g.G5=h.G5
theorem MU.refl (h:Hp):MU h h:=by
 refine ⟨rfl,fun n=>?_,rfl,rfl,rfl,rfl,rfl,rfl,rfl,rfl,rfl,rfl,rfl,rfl,rfl,rfl,rfl⟩;cases e:h.ob n with
 |none=>exact .inl ⟨rfl,rfl⟩
 |some o=>exact .inr ⟨o,o,rfl,rfl,rfl,rfl,rfl,id,fun e=>kQ.refl e,by simp⟩
theorem MU.trans {a b c:Hp} (x:MU a b) (y:MU b c):MU a c:=by
 refine ⟨y.len.trans x.len,fun n=>?_,y.grey.trans x.grey,y.again.trans x.again,y.weak.trans x.weak,y.GZ.trans x.GZ,y.finals.trans x.finals,y.pending.trans x.pending,y.roots.trans x.roots,y.freed.trans x.freed,y.bytes.trans x.bytes,y.live.trans x.live,y.limit.trans x.limit,y.GY.trans x.GY,y.state.trans x.state,y.white.trans x.white,y.G5.trans x.G5⟩;rcases y.ob n with ⟨i,h⟩|⟨o,j,i,h,d,g,v,f,u,t⟩
 ·rcases x.ob n with ⟨d,g⟩|⟨o,j,d,_⟩
  ·exact .inl ⟨i,g⟩
  ·rw [h] at d;cases d
 ·rcases x.ob n with ⟨d,g⟩|⟨p,w,k,s,r,q,k5,f',m,l⟩
  ·rw [h] at d;cases d
  ·rw [h] at k;cases k
   exact .inr ⟨p,j,i,s,d.trans r,g.trans q,v.trans k5,f ∘ f',fun e=>(u _).trans (m e),by rw [t,l,List.map_map]⟩
theorem MU.M4 {h g:Hp} (x:MU h g) (n:Nat):g.M4 n=h.M4 n:=by
 unfold Hp.M4;rcases x.ob n with ⟨b,a⟩|⟨o,d,b,a,c,_⟩
 ·rw [b,a]
 ·rw [b,a];simp only;rw [c]
theorem MU.ME {h g:Hp} (x:MU h g) (v:HV):g.ME v=h.ME v:=by
 unfold Hp.ME;split
 ·exact x.M4 _
 ·rfl
theorem MU.lv {h g:Hp} (x:MU h g) (n:Nat):g.Lv n↔h.Lv n:=by
 unfold Hp.Lv;rcases x.ob n with ⟨b,a⟩|⟨o,c,b,a,d,_⟩
 ·rw [b,a]
 ·rw [b,a];simp
theorem MU.upd (h:Hp) (n:Nat) (c:En->En) (a:∀ e,kQ (c e) e):MU h (h.upd n fun o=>{ o with es:=o.es.map c }):=by
 refine ⟨by simp [Hp.upd],fun m=>?_,rfl,rfl,rfl,rfl,rfl,rfl,rfl,rfl,rfl,rfl,rfl,rfl,rfl,rfl,rfl⟩;rw [Hp.Hf];by_cases e:n=m
 ·rw [if_pos e]
  cases hb:h.ob m with
  |none=>exact .inl ⟨rfl,rfl⟩
  |some o=>exact .inr ⟨o,_,rfl,rfl,rfl,rfl,rfl,c,a,rfl⟩
 ·rw [if_neg e]
  cases hb:h.ob m with
  |none=>exact .inl ⟨rfl,rfl⟩
  |some o=>exact .inr ⟨o,_,rfl,rfl,rfl,rfl,rfl,id,fun e=>kQ.refl e,by simp⟩
theorem Hp.KA (h:Hp) (f:Ob->Ob) (m:Nat):Hp.ob { h with objs:=h.objs.map (Option.map f) } m=(h.ob m).map f:=by
 simp only [Hp.ob,List.getElem?_map];cases h.objs[m]? with
 |none=>rfl
 |some x=>cases x<;>rfl
theorem MU.Ik (h:Hp):MU h h.Ik:=by
 refine ⟨by simp [Hp.Ik],fun m=>?_,rfl,rfl,rfl,rfl,rfl,rfl,rfl,rfl,rfl,rfl,rfl,rfl,rfl,rfl,rfl⟩;unfold Hp.Ik;rw [Hp.KA];cases hb:h.ob m with
 |none=>exact .inl ⟨rfl,rfl⟩
 |some o=>
  refine .inr ⟨o,_,rfl,rfl,?_⟩;unfold Hp.drop1;split
  ·exact ⟨rfl,rfl,rfl,id,fun e=>kQ.refl e,by simp⟩
  ·exact ⟨rfl,rfl,rfl,_,nJ h,rfl⟩
theorem M5.cnt {h g:Hp} (t:M5 h No) (x:MU h g):M5 g No:=by
 have l:∀ n u,g.ob n=some u->∃ o,h.ob n=some o/\u.col=o.col/\u.mode=o.mode/\∃ c:En->En,(∀ e,kQ (c e) e)/\u.es=o.es.map c:=by
  intro n u e;rcases x.ob n with ⟨f,_⟩|⟨o,o2,f,j,q,s,v,c,A,z⟩
  ·rw [e] at f;cases f
  ·rw [e] at f;cases f
   exact ⟨o,j,q,s,c,A,z⟩
 refine ⟨fun n o e=>?_,fun n o e k=>?_,fun n o e k hs=>?_,fun n o e w=>?_,fun n hn=>?_,fun n o e en he r hr=>?_⟩
 ·obtain ⟨o1,f,j,_⟩:=l n o e
  rw [j];exact t.col n o1 f
 ·obtain ⟨o1,f,j,_⟩:=l n o e
  rw [x.grey,x.again];exact t.M_ n o1 f (j ▸ k)
 ·obtain ⟨o1,f,j,q,c,s,v⟩:=l n o e
  obtain ⟨a,b,B,d⟩:=t.blk n o1 f (j ▸ k) hs;refine ⟨fun m en he hs r hr=>?_,fun m=>?_,fun m en he hs r hr=>?_,fun m=>?_⟩
  ·rw [v] at he
   obtain ⟨p,i,rfl⟩:=List.mem_map.1 he;have y:=(s p).some hs;rw [x.M4];rw [y] at hs hr;exact a (q ▸ m) p i hs r hr
  ·rw [x.GZ];exact b (q ▸ m)
  ·rw [v] at he
   obtain ⟨p,i,rfl⟩:=List.mem_map.1 he;have y:=(s p).some hs;rw [x.M4];rw [y] at hs hr;exact B (q ▸ m) p i hs r hr
  ·rw [x.weak];exact d (q ▸ m)
 ·obtain ⟨o1,f,j,_⟩:=l n o e
  rw [x.white,j];exact t.wc n o1 f (j ▸ w)
 ·refine (x.lv n).2 (t.ll n ?_)
  rw [x.grey,x.again,x.weak,x.GZ] at hn;exact hn
 ·obtain ⟨o1,f,j,q,c,s,v⟩:=l n o e
  rw [v] at he;obtain ⟨p,i,rfl⟩:=List.mem_map.1 he;exact (x.lv r).2 (t.cl n o1 f p i r ((s p).refs r hr))
def Hp.Nb (c:Hp->En->En) (h:Hp) (n:Nat):Hp:=h.upd n fun o=>{ o with es:=o.es.map (c h) }
theorem Bp:Hp.MX=Hp.Nb b_:=rfl
theorem MU.fold (c:Hp->En->En) (b:∀ h e,kQ (c h e) e):∀ (l:List Nat) (h:Hp),MU h (l.foldl (Hp.Nb c) h)
 | [],h=>MU.refl h
 |a::l,h=>(MU.upd h a (c h) (b h)).trans (MU.fold c b l _)
theorem nQ (c:Hp->En->En) (d:∀ h e,kQ (c h e) e) (b:∀ h g:Hp,(∀ v,g.ME v=h.ME v)->c g=c h) (hi:∀ h e,c h (c h e)=c h e):
 ∀ (l:List Nat) (h:Hp) (n:Nat),(l.foldl (Hp.Nb c) h).ob n=(h.ob n).map fun o=>if n∈l then { o with es:=o.es.map (c h) } else o
 | [],h,n=>by simp
 |a::l,h,n=>by
  have hcn:=MU.upd h a (c h) (d h);have f:c (Hp.Nb c h a)=c h:=b _ _ hcn.ME;simp only [List.foldl_cons];rw [nQ c d b hi l _ n,f];unfold Hp.Nb;rw [Hp.Hf];by_cases e:a=n
  ·subst e
   rw [if_pos rfl];cases hb:h.ob a with
   |none=>rfl
   |some o=>
    simp only [Option.map_some,eT,true_or,if_true];split
    ·simp only [List.map_map]
     have:(c h ∘ c h)=c h:=by funext x;exact hi h x
     rw [this]
    ·rfl
  ·rw [if_neg e]
   cases hb:h.ob n with
   |none=>rfl
   |some o=>
    have:(n∈a::l)↔n∈l:=by simp [Ne.symm e]
    simp only [Option.map_some,this]
theorem zH (h g:Hp) (e:∀ v,g.ME v=h.ME v):bT g=bT h:=by funext x;unfold bT;rw [e]
theorem DT (h g:Hp) (e:∀ v,g.ME v=h.ME v):b_ g=b_ h:=by funext x;unfold b_;rw [e]
theorem Ei (h:Hp) (e:En):bT h (bT h e)=bT h e:=by
 unfold bT;by_cases x:h.ME e.2=true
 ·rw [if_pos x];simp [Hp.ME]
 ·rw [if_neg x,if_neg x]
theorem D9 (h:Hp) (e:En):b_ h (b_ h e)=b_ h e:=by
 unfold b_;by_cases x:h.ME e.1=true
 ·rw [if_pos x];simp [Hp.ME]
 ·rw [if_neg x,if_neg x]
theorem nK (l:List Nat) (h:Hp) (n:Nat):(l.foldl Hp.Mv h).ob n=(h.ob n).map fun o=>if n∈l then { o with es:=o.es.map (bT h) } else o:=nQ bT bZ zH Ei l h n
theorem lU (l:List Nat) (h:Hp) (n:Nat):(l.foldl Hp.MX h).ob n=(h.ob n).map fun o=>if n∈l then { o with es:=o.es.map (b_ h) } else o:=nQ b_ fU DT D9 l h n
theorem dL:∀ (l:List Nat) (p:Hp × List Nat),(∀ n,(l.foldl Hp.Ht p).1.M4 n=p.1.M4 n)/\(l.foldl Hp.Ht p).2=p.2++l.filter (fun n=>!p.1.M4 n)/\(l.foldl Hp.Ht p).1.pending=p.1.pending++l.filter p.1.M4/\
 (∀ n,((l.foldl Hp.Ht p).1.ob n).map (fun o=>(o.col,o.mode,o.es))=(p.1.ob n).map (fun o=>(o.col,o.mode,o.es)))/\(l.foldl Hp.Ht p).1={ p.1 with objs:=(l.foldl Hp.Ht p).1.objs,pending:=(l.foldl Hp.Ht p).1.pending }/\(l.foldl Hp.Ht p).1.objs.length=p.1.objs.length
 | [],p=>⟨fun _=>rfl,by simp,by simp,fun _=>rfl,rfl,rfl⟩
 |a::l,p=>by
  simp only [List.foldl_cons];obtain ⟨h1,h2,h3,h4,h5,h6⟩:=dL l (Hp.Ht p a);have b:∀ n,((Hp.Ht p a).1.ob n).map (fun o=>(o.col,o.mode,o.es))=(p.1.ob n).map (fun o=>(o.col,o.mode,o.es)):=by
   intro n;unfold Hp.Ht;split
   ·show ((p.1.upd a fun o=>{ o with fin:=false }).ob n).map _=_
    rw [Hp.Hf];split
    ·cases p.1.ob n<;>rfl
    ·rfl
   ·rfl
  have c:∀ n,(Hp.Ht p a).1.M4 n=p.1.M4 n:=by
   intro n;have:=b n;unfold Hp.M4;cases e1:(Hp.Ht p a).1.ob n<;>cases e2:p.1.ob n<;>simp [e1,e2] at this ⊢
   rw [this.1]
  have f:l.filter (Hp.Ht p a).1.M4=l.filter p.1.M4:=by congr 1;funext n;exact c n
  have d:l.filter (fun n=>!(Hp.Ht p a).1.M4 n)=l.filter (fun n=>!p.1.M4 n):=by congr 1;funext n;rw [c n]
  refine ⟨fun n=>(h1 n).trans (c n),?_,?_,fun n=>(h4 n).trans (b n),?_,?_⟩
  ·rw [h2,d,List.filter_cons]
   unfold Hp.Ht;by_cases e:p.1.M4 a=true
   ·simp [e]
   ·simp [e]
  ·rw [h3,f,List.filter_cons]
   unfold Hp.Ht;by_cases e:p.1.M4 a=true
   ·simp [e,Hp.Kh]
   ·simp [e]
  ·rw [h5]
   unfold Hp.Ht;split<;>rfl
  ·rw [h6]
   unfold Hp.Ht;split
   ·simp [Hp.Kh,Hp.upd]
   ·rfl
theorem M5.same {h g:Hp} (t:M5 h No) (d:∀ n,(g.ob n).map (fun o=>(o.col,o.mode,o.es))=(h.ob n).map (fun o=>(o.col,o.mode,o.es))) (p:g.grey=h.grey) (m:g.again=h.again) (l:g.weak=h.weak) (j:g.GZ=h.GZ) (u:g.white=h.white):M5 g No:=by
 have b:∀ n c,g.ob n=some c->∃ o,h.ob n=some o/\c.col=o.col/\c.mode=o.mode/\c.es=o.es:=by
  intro n c e;have:=d n;rw [e] at this;cases a:h.ob n with
  |none=>rw [a] at this;simp at this
  |some o=>rw [a] at this;simp at this;exact ⟨o,rfl,this.1,this.2.1,this.2.2⟩
 have i:∀ n,h.Lv n->g.Lv n:=by
  rintro n ⟨o,e⟩;have:=d n;rw [e] at this;cases a:g.ob n with
  |none=>rw [a] at this;simp at this
  |some c=>exact ⟨c,a⟩
 have s:∀ n,g.M4 n=h.M4 n:=by
  intro n;have:=d n;unfold Hp.M4;cases e1:g.ob n<;>cases a:h.ob n<;>simp [e1,a] at this ⊢
  rw [this.1]
 refine ⟨fun n o e=>?_,fun n o e k=>?_,fun n o e k hs=>?_,fun n o e w=>?_,fun n hn=>?_,fun n o e en he r hr=>?_⟩
 ·obtain ⟨o1,e1,a,_⟩:=b n o e
  rw [a];exact t.col n o1 e1
 ·obtain ⟨o1,e1,a,_⟩:=b n o e
  rw [p,m];exact t.M_ n o1 e1 (a ▸ k)
 ·obtain ⟨o1,e1,a,q,f⟩:=b n o e
  exact (t.blk n o1 e1 (a ▸ k) hs).mono q f (fun r x=>by rw [s] at x;exact x) (fun r x=>by rw [j];exact x) (fun r x=>by rw [l];exact x)
 ·obtain ⟨o1,e1,a,_⟩:=b n o e
  rw [u,a];exact t.wc n o1 e1 (a ▸ w)
 ·refine i n (t.ll n ?_)
  rw [p,m,l,j] at hn;exact hn
 ·obtain ⟨o1,e1,a,q,f⟩:=b n o e
  exact i r (t.cl n o1 e1 en (f ▸ he) r hr)
theorem M5.Hr {h:Hp} (t:M5 h No):M5 h.Hr No:=by
 obtain ⟨f,e,d,b,a,c⟩:=dL h.finals (h,[]);refine t.same (fun n=>?_) ?_ ?_ ?_ ?_ ?_
 ·exact b n
 all_goals (unfold Hp.Hr;rw [a])
theorem Hp.Kl (h:Hp) (n:Nat):h.Hr.M4 n=h.M4 n:=(dL h.finals (h,[])).1 n
theorem Hp.Iy (h:Hp):h.Hr.finals=h.finals.filter (fun n=>!h.M4 n)/\h.Hr.pending=h.pending++h.finals.filter h.M4/\h.Hr.roots=h.roots/\h.Hr.grey=h.grey/\h.Hr.again=h.again/\h.Hr.state=h.state/\h.Hr.white=h.white/\h.Hr.objs.length=h.objs.length/\h.Hr.weak=h.weak/\h.Hr.GZ=h.GZ:=by
 obtain ⟨f,d,c,e,b,a⟩:=dL h.finals (h,[]);refine ⟨d.trans (by simp),c,?_,?_,?_,?_,?_,a,?_,?_⟩
 all_goals (unfold Hp.Hr;rw [b])
theorem Hp.Js (h:Hp):h.Hr.freed=h.freed/\h.Hr.bytes=h.bytes/\h.Hr.live=h.live/\h.Hr.limit=h.limit/\h.Hr.GY=h.GY/\h.Hr.G5=h.G5:=by
 obtain ⟨f,e,d,c,a,b⟩:=dL h.finals (h,[]);refine ⟨?_,?_,?_,?_,?_,?_⟩
 all_goals (unfold Hp.Hr;rw [a])
theorem Hp.Kr (h:Hp) (n:Nat):h.Hr.Lv n↔h.Lv n:=by
 have:=(dL h.finals (h,[])).2.2.2.1 n;have e:h.Hr.ob n=(h.finals.foldl Hp.Ht (h,[])).1.ob n:=rfl;unfold Hp.Lv;rw [e];cases e1:(h.finals.foldl Hp.Ht (h,[])).1.ob n<;>cases e2:h.ob n<;>simp [e1,e2] at this ⊢
theorem jy:∀ (l:List Nat) (h:Hp),(∀ n∈l,h.Lv n)->∀ n∈l,(h.Ho l).M4 n=false
 | [],h,_,n,hn=>by simp at hn
 |a::l,h,hl,n,hn=>by
  show (Hp.Ho (h.mark a) l).M4 n=false;rcases eT.1 hn with rfl|hn'
  ·exact (Np.Ho _ _).dark (Hp.JU (hl _ (List.mem_cons_self)))
  ·exact jy l _ (fun n hn=>((Np.mark h a).lv n).2 (hl n (List.mem_cons_of_mem _ hn))) n hn'
def Hp.IG (h:Hp) (o:Ob):Prop:=h.state=2/\gu o.col=true/\o.col≠h.white
def Hp.Ok (h:Hp) (n:Nat):Prop:=∃ o,h.ob n=some o/\¬ h.IG o
structure Inv (h:Hp):Prop where
 w1:h.white<=1
 st:h.state<=2
 zero:h.ob 0=none
 ps:1<=h.objs.length
 md:∀ n o,h.ob n=some o->o.mode<=3
 ls:∀ n,n∈h.roots∨n∈h.pending∨n∈h.finals->h.Ok n
 nc:∀ n o,h.ob n=some o->¬ h.IG o->∀ e∈o.es,∀ r∈dw e,h.Ok r
 s0:h.state=0->∀ n o,h.ob n=some o->o.col=h.white
 s1:h.state=1->M5 h No
 s2:h.state=2->h.grey=[]/\1<=h.G5/\h.G5<=h.objs.length/\(∀ n o,h.ob n=some o->o.col<=3)/\∀ n o,h.ob n=some o->n<h.G5->o.col=h.white
section
variable {g h:Hp} {n:Nat} {o:Ob}
def kD (h g:Hp):Prop:=Np { h with again:=g.again } g
theorem Np.ag (x:Np h g) (l:List Nat):Np { h with again:=l } { g with again:=l }:=
 ⟨x.len,x.cont,x.grow,x.KZ,rfl,x.finals,x.pending,x.roots,x.freed,x.bytes,x.live,x.limit,x.GY,x.state,x.white,x.G5⟩
theorem Np.a (x:Np h g):kD h g:=by
 have:=x.ag g.again;exact this
theorem kD.trans {a b c:Hp} (x:kD a b) (y:kD b c):kD a c:=by
 have d:=Np.ag x c.again;exact Np.trans d y
theorem kD.G8 (h:Hp):kD h h.G8:=by
 have b:kD h (h.again.foldl Hp.Hg h):=(Np.fold _ Np.Hg h.again h).a;exact Np.ag b []
theorem kD.M6 (h:Hp):kD h h.M6:=((Np.alive h).trans (Np.drain _)).a.trans ((kD.G8 _).trans (Np.settle _).a)
theorem kD.dark {h g:Hp} (x:kD h g) {n:Nat} (e:h.M4 n=false):g.M4 n=false:=Np.dark x e
theorem kD.lv {h g:Hp} (x:kD h g) (n:Nat):g.Lv n↔h.Lv n:=Np.lv x n
theorem M5.M6 {h:Hp} (t:M5 h No):M5 h.M6 No:=(t.Mq (Nk.alive h)).drain.G8.settle
theorem ru (t:M5 h No) (b:∀ n,n∈h.roots∨n∈h.pending->h.Lv n):h.M6.grey=[]/\h.M6.again=[]/\ES h.M6/\∀ n,n∈h.roots∨n∈h.pending->h.M6.M4 n=false:=by
 have c:=(t.Mq (Nk.alive h)).drain.G8;obtain ⟨e,d⟩:=Hp.Jh c;refine ⟨e,?_,d,fun n hn=>?_⟩
 ·exact (Np.settle h.alive.drain.G8).again
 ·refine (Np.settle _).dark ((kD.G8 _).dark ((Np.drain _).dark ?_))
  unfold Hp.alive;rcases hn with a|a
  ·exact (Np.Ho _ _).dark (jy _ _ (fun n hn=>b n (.inl hn)) n a)
  ·exact jy _ _ (fun n hn=>((Np.Ho h h.roots).lv n).2 (b n (.inr hn))) n a
theorem M5.at2 {h:Hp} (t:M5 h No):M5 h.at2 No:=(t.cnt (MU.fold bT bZ h.weak h)).Hr
theorem wI (h:Hp) (n:Nat):h.at2.M4 n=h.M4 n:=(Hp.Kl _ n).trans ((MU.fold bT bZ h.weak h).M4 n)
theorem d_ (h:Hp):h.at2.finals=h.finals.filter (fun n=>!h.M4 n)/\h.at2.pending=h.pending++h.finals.filter h.M4/\h.at2.roots=h.roots/\h.at2.grey=h.grey/\h.at2.again=h.again/\h.at2.state=h.state/\h.at2.white=h.white/\h.at2.objs.length=h.objs.length:=by
 have c:=MU.fold bT bZ h.weak h;obtain ⟨e,d,m,l,k,j,i,f,_⟩:=Hp.Iy (h.weak.foldl Hp.Mv h);have b:(h.weak.foldl Hp.Mv h).M4=h.M4:=by funext n;exact c.M4 n
 have a:(fun n=>!(h.weak.foldl Hp.Mv h).M4 n)=fun n=>!h.M4 n:=by funext n;rw [b]
 rw [b] at d;rw [a] at e;refine ⟨e.trans (by rw [show (h.weak.foldl Hp.Mv h).finals=h.finals from c.finals]),d.trans (by rw [show (h.weak.foldl Hp.Mv h).finals=h.finals from c.finals,show (h.weak.foldl Hp.Mv h).pending=h.pending from c.pending]),m.trans c.roots,l.trans c.grey,k.trans c.again,j.trans c.state,i.trans c.white,f.trans c.len⟩
theorem nV (h:Hp) (n:Nat):h.at2.Lv n↔h.Lv n:=(Hp.Kr _ n).trans ((MU.fold bT bZ h.weak h).lv n)
theorem M5.at3 {h:Hp} (t:M5 h No):M5 h.at3 No:=(t.Mq (Nk.Ho h _)).settle
theorem Np.at3 (h:Hp):Np h h.at3:=(Np.Ho h _).trans (Np.settle _)
theorem MU.at4 (h:Hp):MU h h.at4:=MU.fold b_ fU _ h
theorem MU.Mh (h:Hp):MU h h.Mh:=(MU.fold bT bZ _ h).trans (MU.Ik _)
theorem AB (t:M5 h No) (W:h.grey=[]) (Y:h.again=[]) (X:ES h) (F:∀ n o,h.ob n=some o->o.mode<=3) (e:h.at4.Mh.ob n=some o) (C:gu o.col=false):∀ en∈o.es,∀ r∈dw en,h.M4 r=false:=by
 have N:=MU.at4 h;have S:=MU.fold bT bZ h.at4.weak h.at4;have M:h.at4.Mh.ob n=((h.at4.weak.foldl Hp.Mv h.at4).ob n).map (h.at4.weak.foldl Hp.Mv h.at4).drop1:=by
  unfold Hp.Mh Hp.Ik;rw [Hp.KA]
 have R:h.at4.ob n=(h.ob n).map fun o=>if n∈h.GZ++h.weak then { o with es:=o.es.map (b_ h) } else o:=lU _ h n
 have ev:=nK h.at4.weak h.at4 n;have D:bT h.at4=bT h:=zH h h.at4 N.ME;have q:h.at4.weak=h.weak:=N.weak;rw [q,D] at ev;rw [q] at M S;have L:∀ v,(h.weak.foldl Hp.Mv h.at4).ME v=h.ME v:=fun v=>(S.ME v).trans (N.ME v);cases hb:h.ob n with
 |none=>
  rw [M,ev,R,hb] at e;simp at e
 |some o3=>
  have E:gu o3.col=false/\o.es=(((o3.es.map (fun en=>if n∈h.GZ++h.weak then b_ h en else en)).map (fun en=>if n∈h.weak then bT h en else en)).map (dH h)):=by
   rw [M,ev,R,hb] at e;simp only [Option.map_some,Option.some.injEq] at e;have K:dH (h.weak.foldl Hp.Mv h.at4)=dH h:=by funext x;unfold dH;rw [L]
   subst e;unfold Hp.drop1 at C ⊢;rw [K];by_cases V:n∈h.GZ++h.weak<;>by_cases U:n∈h.weak<;>simp only [V,U,if_true,if_false] at C ⊢
   all_goals
    split at C
    ·simp_all
    ·refine ⟨by simpa using C,?_⟩
     simp_all
  obtain ⟨s,H⟩:=E;have Z:o3.col=3:=by
   have h4:=t.col n o3 hb;have h5:o3.col≠2:=by
    intro Q;rcases t.M_ n o3 hb Q with k|k
    ·rw [W] at k;simp at k
    ·rw [Y] at k;simp at k
   have Q:o3.col≠0/\o3.col≠1:=by
    constructor<;>(intro k;rw [k] at s;cases s)
   omega
  obtain ⟨s0,s1,s2,T⟩:=t.blk n o3 hb Z (fun x=>x);intro en J r hr;rw [H] at J;simp only [List.map_map,List.mem_map,Function.comp] at J;obtain ⟨f,B,rfl⟩:=J;have hm:=F n o3 hb;have p:kQ (if n∈h.GZ++h.weak then b_ h f else f) f:=by
   split
   ·exact fU h f
   ·exact kQ.refl f
  generalize hk:(if n∈h.GZ++h.weak then b_ h f else f)=e1 at *;have i:kQ (if n∈h.weak then bT h e1 else e1) e1:=by
   split
   ·exact bZ h e1
   ·exact kQ.refl e1
  generalize c:(if n∈h.weak then bT h e1 else e1)=e2 at *;have l:=nJ h e2;have d:=l.refs r hr;rcases (by omega:o3.mode=0∨o3.mode=1∨2<=o3.mode) with m|m|m
  ·cases hv:e2.2.isSome with
   |true=>
    have P:=i.some hv;have q1:=p.some (P ▸ hv);rw [P,q1] at d hv;exact s0 m f B hv r d
   |false=>
    unfold dH at hr;have z:e2.2.isNone=true:=by
     cases b:e2.2 with
     |none=>rfl
     |some _=>rw [b] at hv;cases hv
    cases a:h.ME e2.1 with
    |true=>rw [z,a] at hr;simp [dw,bQ] at hr
    |false=>
     rcases aY.1 d with b|b
     ·exact je a r b
     ·have:e2.2=none:=by simpa using z
      rw [this] at b;simp [bQ] at b
  ·have y:n∈h.GZ:=s1 m
   rw [if_pos (List.mem_append_left _ y)] at hk;unfold b_ at hk;have u:=i.refs r d;split at hk
   ·subst hk;simp [dw,bQ] at u
   ·rename_i a
    subst hk;have j:h.ME f.1=false:=by simpa using a
    have A:f∈h.Jf n:=by unfold Hp.Jf;rw [hb];exact B
    rcases aY.1 u with b|b
    ·exact je j r b
    ·exact je (X n y f A j) r b
  ·have w:n∈h.weak:=T m
   rw [if_pos (List.mem_append_right _ w)] at hk;rw [if_pos w] at c;unfold b_ at hk;unfold bT at c;rcases aY.1 d with b|b
   ·have G:bQ e2.1=bQ e1.1:=by
     split at c<;>(subst c;rfl)
    rw [G] at b;split at hk
    ·subst hk;simp [bQ] at b
    ·rename_i a
     subst hk;exact je (by simpa using a) r b
   ·split at c
    ·subst c;simp [bQ] at b
    ·rename_i a
     subst c;exact je (by simpa using a) r b
end
section
variable {n:Nat}
theorem Hp.IB {h:Hp} (x:h.Ok n):h.Lv n:=⟨x.choose,x.choose_spec.1⟩
theorem Hp.Kn {h:Hp} (a:h.state≠2) (l:h.Lv n):h.Ok n:=by
 obtain ⟨o,e⟩:=l;exact ⟨o,e,fun d=>a d.1⟩
theorem Np.md {h g:Hp} (x:Np h g) (hm:∀ n o,h.ob n=some o->o.mode<=3):∀ n o,g.ob n=some o->o.mode<=3:=by
 intro n o e;obtain ⟨a,c,b,_⟩:=x.ob e;rw [<-b];exact hm n a c
theorem MU.md {h g:Hp} (x:MU h g) (hm:∀ n o,h.ob n=some o->o.mode<=3):∀ n o,g.ob n=some o->o.mode<=3:=by
 intro n o e;rcases x.ob n with ⟨a,_⟩|⟨o1,o2,a,c,d,b,_⟩
 ·rw [e] at a;cases a
 ·rw [e] at a;cases a;rw [b];exact hm n o1 c
theorem Hp.JO {h:Hp} (hm:∀ n o,h.ob n=some o->o.mode<=3):∀ n o,h.Hr.ob n=some o->o.mode<=3:=by
 intro n o e;have:=(dL h.finals (h,[])).2.2.2.1 n;have a:(h.finals.foldl Hp.Ht (h,[])).1.ob n=some o:=e;rw [a] at this;cases e2:h.ob n with
 |none=>simp [e2] at this
 |some o'=>simp [e2] at this;rw [this.2.1];exact hm n o' e2
theorem Inv.atomic {h:Hp} (i:Inv h) (W:h.state=1):Inv h.atomic/\h.atomic.state=2/\h.atomic.objs.length=h.objs.length/\h.atomic.G5=1:=by
 have t:=i.s1 W;have s:∀ n,n∈h.roots∨n∈h.pending∨n∈h.finals->h.Lv n:=fun n f=>Hp.IB (i.ls n f);have k:=kD.M6 h;obtain ⟨Z,F,a0,C⟩:=ru t (fun n f=>s n (f.elim .inl (fun x=>.inr (.inl x))));have S:=t.M6;have f1:h.M6.finals=h.finals:=k.finals;have p1:h.M6.pending=h.pending:=k.pending;have T:h.M6.roots=h.roots:=k.roots;have w1:h.M6.white=h.white:=k.white;have n1:h.M6.objs.length=h.objs.length:=k.len;obtain ⟨N,v,J,Y,u,s2,R,B⟩:=d_ h.M6;have H:=S.at2;rw [f1] at N v;rw [p1] at v;rw [T] at J;rw [Z] at Y;rw [F] at u;have K:∀ n,h.M6.at2.Lv n↔h.Lv n:=fun n=>(nV _ n).trans (k.lv n);have c:=Np.at3 h.M6.at2;have G:=H.at3;have tm:=H.Mq (Nk.Ho h.M6.at2 h.M6.at2.pending);obtain ⟨M,D⟩:=Hp.Jh tm;have E:h.M6.at2.at3.again=[]:=c.again.trans u;have j:∀ n o,h.M6.at2.at3.ob n=some o->o.mode<=3:=c.md (Hp.JO ((MU.fold bT bZ h.M6.weak h.M6).md (Np.md k i.md)));have A:∀ n∈h.M6.at2.pending,h.M6.at2.at3.M4 n=false:=by
  intro n f;refine (Np.settle _).dark (jy _ _ (fun m hm=>?_) n f);rw [v] at hm;refine (K m).2 (s m ?_);rcases aY.1 hm with a|a
  ·exact .inr (.inl a)
  ·exact .inr (.inr (List.mem_filter.1 a).1)
 have b:=(MU.at4 h.M6.at2.at3).trans (MU.Mh _);have Q:h.M6.at2.at3.at4.Mh.white=h.white:=b.white.trans (c.white.trans (R.trans w1));have z:=G.cnt b;have key:=fun n o=>AB G M E D j (n:=n) (o:=o);have P:∀ n o,h.M6.at2.at3.at4.Mh.ob n=some o->(h.atomic.IG o↔gu o.col=true):=by
  intro n o e;constructor
  ·exact fun d=>d.2.1
  ·intro w
   refine ⟨rfl,w,?_⟩;have:=z.wc n o e w;show o.col≠1-h.M6.at2.at3.at4.Mh.white;rw [this,Q];have:=i.w1;omega
 have ok:∀ n,h.M6.at2.at3.Lv n->h.M6.at2.at3.M4 n=false->h.atomic.Ok n:=by
  intro n l w;obtain ⟨o,e⟩:=(b.lv n).2 l;refine ⟨o,e,fun d=>?_⟩;have:=(P n o e).1 d;have a:=b.M4 n;rw [w,Hp.Ju e,this] at a;cases a
 have p:∀ n,h.M6.at2.at3.Lv n↔h.Lv n:=fun n=>(c.lv n).trans (K n);refine ⟨⟨?_,au 2,?_,?_,?_,?_,?_,?_,?_,?_⟩,rfl,?_,rfl⟩
 ·show 1-_<=1
  omega
 ·show h.M6.at2.at3.at4.Mh.ob 0=none
  cases e:h.M6.at2.at3.at4.Mh.ob 0 with
  |none=>rfl
  |some o=>
   obtain ⟨U,g⟩:=(p 0).1 ((b.lv 0).1 ⟨o,e⟩);rw [i.zero] at g;cases g
 ·show 1<=h.M6.at2.at3.at4.Mh.objs.length
  rw [b.len,c.len,B,n1];exact i.ps
 ·exact b.md j
 ·intro n f
  have q:n∈h.M6.at2.at3.at4.Mh.roots∨n∈h.M6.at2.at3.at4.Mh.pending∨n∈h.M6.at2.at3.at4.Mh.finals:=f;rw [b.roots,b.pending,b.finals,c.roots,c.pending,c.finals,J,N] at q;rcases q with a|a|a
  ·refine ok n ((p n).2 (s n (.inl a))) (c.dark ?_)
   rw [wI];exact C n (.inl a)
  ·refine ok n ?_ (A n a)
   rw [v] at a;refine (p n).2 (s n ?_);rcases aY.1 a with x|x
   ·exact .inr (.inl x)
   ·exact .inr (.inr (List.mem_filter.1 x).1)
  ·obtain ⟨x,y⟩:=List.mem_filter.1 a
   refine ok n ((p n).2 (s n (.inr (.inr x)))) (c.dark ?_);rw [wI]
   simpa using y
 ·intro n o e nd en L r hr
  have g:h.M6.at2.at3.at4.Mh.ob n=some o:=e;have V:gu o.col=false:=by
   cases hx:gu o.col with
   |false=>rfl
   |true=>exact absurd ((P n o g).2 hx) nd
  exact ok r ((b.lv r).1 (z.cl n o g en L r hr)) (key n o g V en L r hr)
 ·intro x;exact absurd x (by show ¬ (2:Nat)=0;decide)
 ·intro x;exact absurd x (by show ¬ (2:Nat)=1;decide)
 ·intro _
  refine ⟨b.grey.trans M,au 1,?_,z.col,fun n o e f=>?_⟩
  ·show 1<=h.M6.at2.at3.at4.Mh.objs.length
   rw [b.len,c.len,B,n1];exact i.ps
  ·have X:n=0:=by
    have:n<1:=f;omega
   subst X;obtain ⟨U,g⟩:=(p 0).1 ((b.lv 0).1 ⟨o,e⟩);rw [i.zero] at g;cases g
 ·show h.M6.at2.at3.at4.Mh.objs.length=_
  rw [b.len,c.len,B,n1]
end
end Go.Proofs.YtbpcdfbmnklcjaaGreatDoor
