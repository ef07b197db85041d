import Derived.Test.YtbpcdfbmnklcjaaGreatDoorKHG
namespace Go.Proofs.YtbpcdfbmnklcjaaGreatDoor
set_option linter.unusedVariables false
def kX (e' e:En):Prop:=e'=e∨e'=(e.1,none)∨e'=(none,none)
theorem kX.refl (e:En):kX e e:=.inl rfl
theorem kX.trans {a b c:En} (x:kX a b) (y:kX b c):kX a c:=by
 rcases x with rfl|rfl|rfl
 ·exact y
 ·rcases y with rfl|rfl|rfl
  ·exact .inr (.inl rfl)
  ·exact .inr (.inl rfl)
  ·exact .inr (.inr rfl)
 ·exact .inr (.inr rfl)
theorem kX.refs {a b:En} (x:kX a b):∀ r∈dw a,r∈dw b:=by
 intro r hr;rcases x with rfl|rfl|rfl
 ·exact hr
 ·simp [Go.Proofs.YtbpcdfbmnklcjaaGreatDoor.dw,bQ] at hr ⊢
  exact .inl hr
 ·simp [Go.Proofs.YtbpcdfbmnklcjaaGreatDoor.dw,bQ] at hr
theorem kX.some {a b:En} (x:kX a b) (e:a.2.isSome=true):a=b:=by
 rcases x with rfl|rfl|rfl
 ·rfl
 ·simp at e
 ·simp at e
theorem bZ (h:Hp) (e:En):kX (bU h e) e:=by
 unfold bU;split
 ·exact .inr (.inl rfl)
 ·exact .inl rfl
theorem gu (h:Hp) (e:En):kX (b_ h e) e:=by
 unfold b_;split
 ·exact .inr (.inr rfl)
 ·exact .inl rfl
theorem nE (h:Hp) (e:En):kX (dG h e) e:=by
 unfold dG;split
 ·exact .inr (.inr rfl)
 ·exact .inl rfl
structure Np (h g:Hp):Prop where
 len:g.objs.length=h.objs.length
 ob:∀ n,(g.ob n=none/\h.ob n=none)∨∃ o o',g.ob n=some o'/\h.ob n=some o/\o'.col=o.col/\o'.mode=o.mode/\o'.fin=o.fin/\∃ c:En->En,(∀ e,kX (c e) e)/\o'.es=o.es.map c
 grey:g.grey=h.grey
 again:g.again=h.again
 weak:g.weak=h.weak
 G8:g.G8=h.G8
 finals:g.finals=h.finals
 pending:g.pending=h.pending
 roots:g.roots=h.roots
 freed:g.freed=h.freed
 bytes:g.bytes=h.bytes
 live:g.live=h.live
 limit:g.limit=h.limit
 G6:g.G6=h.G6
 state:g.state=h.state
 white:g.white=h.white
 G9:g.G9=h.G9
theorem Np.refl (h:Hp):Np h h:=by
 refine ⟨rfl,fun n=>?_,rfl,rfl,rfl,rfl,rfl,rfl,rfl,rfl,rfl,rfl,rfl,rfl,rfl,rfl,rfl⟩;cases e:h.ob n with
 |none=>exact .inl ⟨rfl,rfl⟩
 |some o=>exact .inr ⟨o,o,rfl,rfl,rfl,rfl,rfl,id,fun e=>kX.refl e,by simp⟩
theorem Np.trans {a b c:Hp} (x:Np a b) (y:Np b c):Np a c:=by
 refine ⟨y.len.trans x.len,fun n=>?_,y.grey.trans x.grey,y.again.trans x.again,y.weak.trans x.weak,y.G8.trans x.G8,y.finals.trans x.finals,y.pending.trans x.pending,y.roots.trans x.roots,y.freed.trans x.freed,y.bytes.trans x.bytes,y.live.trans x.live,y.limit.trans x.limit,y.G6.trans x.G6,y.state.trans x.state,y.white.trans x.white,y.G9.trans x.G9⟩;rcases y.ob n with ⟨i,h⟩|⟨o,j,i,h,d,g,v,f,u,t⟩
 ·rcases x.ob n with ⟨d,g⟩|⟨o,j,d,_⟩
  ·exact .inl ⟨i,g⟩
  ·rw [h] at d;cases d
 ·rcases x.ob n with ⟨d,g⟩|⟨p,w,k,s,r,q,k5,f',m,l⟩
  ·rw [h] at d;cases d
  ·rw [h] at k;cases k
   exact .inr ⟨p,j,i,s,d.trans r,g.trans q,v.trans k5,f ∘ f',fun e=>(u _).trans (m e),by rw [t,l,List.map_map]⟩
theorem Np.M5 {h g:Hp} (x:Np h g) (n:Nat):g.M5 n=h.M5 n:=by
 unfold Hp.M5;rcases x.ob n with ⟨b,a⟩|⟨o,d,b,a,c,_⟩
 ·rw [b,a]
 ·rw [b,a];simp only;rw [c]
theorem Np.MO {h g:Hp} (x:Np h g) (v:HV):g.MO v=h.MO v:=by
 unfold Hp.MO;split
 ·exact x.M5 _
 ·rfl
theorem Np.lv {h g:Hp} (x:Np h g) (n:Nat):g.Lv n↔h.Lv n:=by
 unfold Hp.Lv;rcases x.ob n with ⟨b,a⟩|⟨o,c,b,a,d,_⟩
 ·rw [b,a]
 ·rw [b,a];simp
theorem Np.upd (h:Hp) (n:Nat) (c:En->En) (a:∀ e,kX (c e) e):Np h (h.upd n fun o=>{ o with es:=o.es.map c }):=by
 refine ⟨by simp [Hp.upd],fun m=>?_,rfl,rfl,rfl,rfl,rfl,rfl,rfl,rfl,rfl,rfl,rfl,rfl,rfl,rfl,rfl⟩;rw [Hp.Ho];by_cases e:n=m
 ·rw [if_pos e]
  cases hb:h.ob m with
  |none=>exact .inl ⟨rfl,rfl⟩
  |some o=>exact .inr ⟨o,_,rfl,rfl,rfl,rfl,rfl,c,a,rfl⟩
 ·rw [if_neg e]
  cases hb:h.ob m with
  |none=>exact .inl ⟨rfl,rfl⟩
  |some o=>exact .inr ⟨o,_,rfl,rfl,rfl,rfl,rfl,id,fun e=>kX.refl e,by simp⟩
theorem Hp.KF (h:Hp) (f:Ob->Ob) (m:Nat):Hp.ob { h with objs:=h.objs.map (Option.map f) } m=(h.ob m).map f:=by
 simp only [Hp.ob,fC];cases h.objs[m]? with
 |none=>rfl
 |some x=>cases x<;>rfl
theorem Np.Im (h:Hp):Np h h.Im:=by
 refine ⟨by simp [Hp.Im],fun m=>?_,rfl,rfl,rfl,rfl,rfl,rfl,rfl,rfl,rfl,rfl,rfl,rfl,rfl,rfl,rfl⟩;unfold Hp.Im;rw [Hp.KF];cases hb:h.ob m with
 |none=>exact .inl ⟨rfl,rfl⟩
 |some o=>
  refine .inr ⟨o,_,rfl,rfl,?_⟩;unfold Hp.drop1;split
  ·exact ⟨rfl,rfl,rfl,id,fun e=>kX.refl e,by simp⟩
  ·exact ⟨rfl,rfl,rfl,_,nE h,rfl⟩
theorem MP.cnt {h g:Hp} (t:MP h No) (x:Np h g):MP g No:=by
 have l:∀ n u,g.ob n=some u->∃ o,h.ob n=some o/\u.col=o.col/\u.mode=o.mode/\∃ c:En->En,(∀ e,kX (c e) e)/\u.es=o.es.map c:=by
  intro n u e;rcases x.ob n with ⟨f,_⟩|⟨o,o2,f,j,q,s,v,c,A,z⟩
  ·rw [e] at f;cases f
  ·rw [e] at f;cases f
   exact ⟨o,j,q,s,c,A,z⟩
 refine ⟨fun n o e=>?_,fun n o e k=>?_,fun n o e k hs=>?_,fun n o e w=>?_,fun n hn=>?_,fun n o e en he r hr=>?_⟩
 ·obtain ⟨o1,f,j,_⟩:=l n o e
  rw [j];exact t.col n o1 f
 ·obtain ⟨o1,f,j,_⟩:=l n o e
  rw [x.grey,x.again];exact t.M6 n o1 f (j ▸ k)
 ·obtain ⟨o1,f,j,q,c,s,v⟩:=l n o e
  obtain ⟨a,b,B,d⟩:=t.blk n o1 f (j ▸ k) hs;refine ⟨fun m en he hs r hr=>?_,fun m=>?_,fun m en he hs r hr=>?_,fun m=>?_⟩
  ·rw [v] at he
   obtain ⟨p,i,rfl⟩:=List.mem_map.1 he;have y:=(s p).some hs;rw [x.M5];rw [y] at hs hr;exact a (q ▸ m) p i hs r hr
  ·rw [x.G8];exact b (q ▸ m)
  ·rw [v] at he
   obtain ⟨p,i,rfl⟩:=List.mem_map.1 he;have y:=(s p).some hs;rw [x.M5];rw [y] at hs hr;exact B (q ▸ m) p i hs r hr
  ·rw [x.weak];exact d (q ▸ m)
 ·obtain ⟨o1,f,j,_⟩:=l n o e
  rw [x.white,j];exact t.wc n o1 f (j ▸ w)
 ·refine (x.lv n).2 (t.ll n ?_)
  rw [x.grey,x.again,x.weak,x.G8] at hn;exact hn
 ·obtain ⟨o1,f,j,q,c,s,v⟩:=l n o e
  rw [v] at he;obtain ⟨p,i,rfl⟩:=List.mem_map.1 he;exact (x.lv r).2 (t.cl n o1 f p i r ((s p).refs r hr))
def Hp.Nb (c:Hp->En->En) (h:Hp) (n:Nat):Hp:=h.upd n fun o=>{ o with es:=o.es.map (c h) }
theorem Bh:Hp.Ml=Hp.Nb b_:=rfl
theorem Np.fold (c:Hp->En->En) (b:∀ h e,kX (c h e) e):∀ (l:List Nat) (h:Hp),Np h (l.foldl (Hp.Nb c) h)
 | [],h=>Np.refl h
 |a::l,h=>(Np.upd h a (c h) (b h)).trans (Np.fold c b l _)
theorem oK (c:Hp->En->En) (d:∀ h e,kX (c h e) e) (b:∀ h g:Hp,(∀ v,g.MO v=h.MO v)->c g=c h) (hi:∀ h e,c h (c h e)=c h e):
 ∀ (l:List Nat) (h:Hp) (n:Nat),(l.foldl (Hp.Nb c) h).ob n=(h.ob n).map fun o=>if n∈l then { o with es:=o.es.map (c h) } else o
 | [],h,n=>by simp
 |a::l,h,n=>by
  have hcn:=Np.upd h a (c h) (d h);have f:c (Hp.Nb c h a)=c h:=b _ _ hcn.MO;simp only [List.foldl_cons];rw [oK c d b hi l _ n,f];unfold Hp.Nb;rw [Hp.Ho];by_cases e:a=n
  ·subst e
   rw [if_pos rfl];cases hb:h.ob a with
   |none=>rfl
   |some o=>
    simp only [Option.map_some,jm,true_or,if_true];split
    ·simp only [List.map_map]
     have:(c h ∘ c h)=c h:=by funext x;exact hi h x
     rw [this]
    ·rfl
  ·rw [if_neg e]
   cases hb:h.ob n with
   |none=>rfl
   |some o=>
    have:(n∈a::l)↔n∈l:=by simp [Ne.symm e]
    simp only [Option.map_some,this]
theorem zM (h g:Hp) (e:∀ v,g.MO v=h.MO v):bU g=bU h:=by funext x;unfold bU;rw [e]
theorem DY (h g:Hp) (e:∀ v,g.MO v=h.MO v):b_ g=b_ h:=by funext x;unfold b_;rw [e]
theorem EG (h:Hp) (e:En):bU h (bU h e)=bU h e:=by
 unfold bU;by_cases x:h.MO e.2=true
 ·rw [if_pos x];simp [Hp.MO]
 ·rw [if_neg x,if_neg x]
theorem D7 (h:Hp) (e:En):b_ h (b_ h e)=b_ h e:=by
 unfold b_;by_cases x:h.MO e.1=true
 ·rw [if_pos x];simp [Hp.MO]
 ·rw [if_neg x,if_neg x]
theorem nK (l:List Nat) (h:Hp) (n:Nat):(l.foldl Hp.MN h).ob n=(h.ob n).map fun o=>if n∈l then { o with es:=o.es.map (bU h) } else o:=oK bU bZ zM EG l h n
theorem lM (l:List Nat) (h:Hp) (n:Nat):(l.foldl Hp.Ml h).ob n=(h.ob n).map fun o=>if n∈l then { o with es:=o.es.map (b_ h) } else o:=oK b_ gu DY D7 l h n
theorem dL:∀ (l:List Nat) (p:Hp × List Nat),(∀ n,(l.foldl Hp.Hy p).1.M5 n=p.1.M5 n)/\(l.foldl Hp.Hy p).2=p.2++l.filter (fun n=>!p.1.M5 n)/\(l.foldl Hp.Hy p).1.pending=p.1.pending++l.filter p.1.M5/\
 (∀ n,((l.foldl Hp.Hy p).1.ob n).map (fun o=>(o.col,o.mode,o.es))=(p.1.ob n).map (fun o=>(o.col,o.mode,o.es)))/\(l.foldl Hp.Hy p).1={ p.1 with objs:=(l.foldl Hp.Hy p).1.objs,pending:=(l.foldl Hp.Hy p).1.pending }/\(l.foldl Hp.Hy p).1.objs.length=p.1.objs.length
 | [],p=>⟨fun _=>rfl,by simp,by simp,fun _=>rfl,rfl,rfl⟩
 |a::l,p=>by
  simp only [List.foldl_cons];obtain ⟨h1,h2,h3,h4,h5,h6⟩:=dL l (Hp.Hy p a);have b:∀ n,((Hp.Hy p a).1.ob n).map (fun o=>(o.col,o.mode,o.es))=(p.1.ob n).map (fun o=>(o.col,o.mode,o.es)):=by
   intro n;unfold Hp.Hy;split
   ·show ((p.1.upd a fun o=>{ o with fin:=false }).ob n).map _=_
    rw [Hp.Ho];split
    ·cases p.1.ob n<;>rfl
    ·rfl
   ·rfl
  have c:∀ n,(Hp.Hy p a).1.M5 n=p.1.M5 n:=by
   intro n;have:=b n;unfold Hp.M5;cases e1:(Hp.Hy p a).1.ob n<;>cases e2:p.1.ob n<;>simp [e1,e2] at this ⊢
   rw [this.1]
  have f:l.filter (Hp.Hy p a).1.M5=l.filter p.1.M5:=by congr 1;funext n;exact c n
  have d:l.filter (fun n=>!(Hp.Hy p a).1.M5 n)=l.filter (fun n=>!p.1.M5 n):=by congr 1;funext n;rw [c n]
  refine ⟨fun n=>(h1 n).trans (c n),?_,?_,fun n=>(h4 n).trans (b n),?_,?_⟩
  ·rw [h2,d,List.filter_cons]
   unfold Hp.Hy;by_cases e:p.1.M5 a=true
   ·simp [e]
   ·simp [e]
  ·rw [h3,f,List.filter_cons]
   unfold Hp.Hy;by_cases e:p.1.M5 a=true
   ·simp [e,Hp.Kj]
   ·simp [e]
  ·rw [h5]
   unfold Hp.Hy;split<;>rfl
  ·rw [h6]
   unfold Hp.Hy;split
   ·simp [Hp.Kj,Hp.upd]
   ·rfl
theorem MP.same {h g:Hp} (t:MP h No) (d:∀ n,(g.ob n).map (fun o=>(o.col,o.mode,o.es))=(h.ob n).map (fun o=>(o.col,o.mode,o.es))) (p:g.grey=h.grey) (m:g.again=h.again) (l:g.weak=h.weak) (j:g.G8=h.G8) (u:g.white=h.white):MP g No:=by
 have b:∀ n c,g.ob n=some c->∃ o,h.ob n=some o/\c.col=o.col/\c.mode=o.mode/\c.es=o.es:=by
  intro n c e;have:=d n;rw [e] at this;cases a:h.ob n with
  |none=>rw [a] at this;simp at this
  |some o=>rw [a] at this;simp at this;exact ⟨o,rfl,this.1,this.2.1,this.2.2⟩
 have i:∀ n,h.Lv n->g.Lv n:=by
  rintro n ⟨o,e⟩;have:=d n;rw [e] at this;cases a:g.ob n with
  |none=>rw [a] at this;simp at this
  |some c=>exact ⟨c,a⟩
 have s:∀ n,g.M5 n=h.M5 n:=by
  intro n;have:=d n;unfold Hp.M5;cases e1:g.ob n<;>cases a:h.ob n<;>simp [e1,a] at this ⊢
  rw [this.1]
 refine ⟨fun n o e=>?_,fun n o e k=>?_,fun n o e k hs=>?_,fun n o e w=>?_,fun n hn=>?_,fun n o e en he r hr=>?_⟩
 ·obtain ⟨o1,e1,a,_⟩:=b n o e
  rw [a];exact t.col n o1 e1
 ·obtain ⟨o1,e1,a,_⟩:=b n o e
  rw [p,m];exact t.M6 n o1 e1 (a ▸ k)
 ·obtain ⟨o1,e1,a,q,f⟩:=b n o e
  exact (t.blk n o1 e1 (a ▸ k) hs).mono q f (fun r x=>by rw [s] at x;exact x) (fun r x=>by rw [j];exact x) (fun r x=>by rw [l];exact x)
 ·obtain ⟨o1,e1,a,_⟩:=b n o e
  rw [u,a];exact t.wc n o1 e1 (a ▸ w)
 ·refine i n (t.ll n ?_)
  rw [p,m,l,j] at hn;exact hn
 ·obtain ⟨o1,e1,a,q,f⟩:=b n o e
  exact i r (t.cl n o1 e1 en (f ▸ he) r hr)
theorem MP.Hw {h:Hp} (t:MP h No):MP h.Hw No:=by
 obtain ⟨f,e,d,b,a,c⟩:=dL h.finals (h,[]);refine t.same (fun n=>?_) ?_ ?_ ?_ ?_ ?_
 ·exact b n
 all_goals (unfold Hp.Hw;rw [a])
theorem Hp.Kl (h:Hp) (n:Nat):h.Hw.M5 n=h.M5 n:=(dL h.finals (h,[])).1 n
theorem Hp.IE (h:Hp):h.Hw.finals=h.finals.filter (fun n=>!h.M5 n)/\h.Hw.pending=h.pending++h.finals.filter h.M5/\h.Hw.roots=h.roots/\h.Hw.grey=h.grey/\h.Hw.again=h.again/\h.Hw.state=h.state/\h.Hw.white=h.white/\h.Hw.objs.length=h.objs.length/\h.Hw.weak=h.weak/\h.Hw.G8=h.G8:=by
 obtain ⟨f,d,c,e,b,a⟩:=dL h.finals (h,[]);refine ⟨d.trans (by simp),c,?_,?_,?_,?_,?_,a,?_,?_⟩
 all_goals (unfold Hp.Hw;rw [b])
theorem Hp.Jz (h:Hp):h.Hw.freed=h.freed/\h.Hw.bytes=h.bytes/\h.Hw.live=h.live/\h.Hw.limit=h.limit/\h.Hw.G6=h.G6/\h.Hw.G9=h.G9:=by
 obtain ⟨f,e,d,c,a,b⟩:=dL h.finals (h,[]);refine ⟨?_,?_,?_,?_,?_,?_⟩
 all_goals (unfold Hp.Hw;rw [a])
theorem Hp.Kw (h:Hp) (n:Nat):h.Hw.Lv n↔h.Lv n:=by
 have:=(dL h.finals (h,[])).2.2.2.1 n;have e:h.Hw.ob n=(h.finals.foldl Hp.Hy (h,[])).1.ob n:=rfl;unfold Hp.Lv;rw [e];cases e1:(h.finals.foldl Hp.Hy (h,[])).1.ob n<;>cases e2:h.ob n<;>simp [e1,e2] at this ⊢
theorem jA:∀ (l:List Nat) (h:Hp),(∀ n∈l,h.Lv n)->∀ n∈l,(h.Hu l).M5 n=false
 | [],h,_,n,hn=>by simp at hn
 |a::l,h,hl,n,hn=>by
  show (Hp.Hu (h.mark a) l).M5 n=false;rcases jm.1 hn with rfl|hn'
  ·exact (M7.Hu _ _).dark (Hp.JZ (hl _ (List.mem_cons_self)))
  ·exact jA l _ (fun n hn=>((M7.mark h a).lv n).2 (hl n (List.mem_cons_of_mem _ hn))) n hn'
def Hp.IK (h:Hp) (o:Ob):Prop:=h.state=2/\fU o.col=true/\o.col≠h.white
def Hp.Ok (h:Hp) (n:Nat):Prop:=∃ o,h.ob n=some o/\¬ h.IK o
structure Inv (h:Hp):Prop where
 w1:h.white<=1
 st:h.state<=2
 zero:h.ob 0=none
 ps:1<=h.objs.length
 md:∀ n o,h.ob n=some o->o.mode<=3
 ls:∀ n,n∈h.roots∨n∈h.pending∨n∈h.finals->h.Ok n
 nc:∀ n o,h.ob n=some o->¬ h.IK o->∀ e∈o.es,∀ r∈dw e,h.Ok r
 s0:h.state=0->∀ n o,h.ob n=some o->o.col=h.white
 s1:h.state=1->MP h No
 s2:h.state=2->h.grey=[]/\1<=h.G9/\h.G9<=h.objs.length/\(∀ n o,h.ob n=some o->o.col<=3)/\∀ n o,h.ob n=some o->n<h.G9->o.col=h.white
section
variable {g h:Hp} {n:Nat} {o:Ob}
def jM (h g:Hp):Prop:=M7 { h with again:=g.again } g
theorem M7.ag (x:M7 h g) (l:List Nat):M7 { h with again:=l } { g with again:=l }:=
 ⟨x.len,x.cont,x.grow,x.La,rfl,x.finals,x.pending,x.roots,x.freed,x.bytes,x.live,x.limit,x.G6,x.state,x.white,x.G9⟩
theorem M7.a (x:M7 h g):jM h g:=by
 have:=x.ag g.again;exact this
theorem jM.trans {a b c:Hp} (x:jM a b) (y:jM b c):jM a c:=by
 have d:=M7.ag x c.again;exact M7.trans d y
theorem jM.He (h:Hp):jM h h.He:=by
 have b:jM h (h.again.foldl Hp.Hr h):=(M7.fold _ M7.Hr h.again h).a;exact M7.ag b []
theorem jM.MK (h:Hp):jM h h.MK:=((M7.alive h).trans (M7.drain _)).a.trans ((jM.He _).trans (M7.settle _).a)
theorem jM.dark {h g:Hp} (x:jM h g) {n:Nat} (e:h.M5 n=false):g.M5 n=false:=M7.dark x e
theorem jM.lv {h g:Hp} (x:jM h g) (n:Nat):g.Lv n↔h.Lv n:=M7.lv x n
theorem MP.MK {h:Hp} (t:MP h No):MP h.MK No:=(t.MQ (Mt.alive h)).drain.He.settle
theorem qE (t:MP h No) (b:∀ n,n∈h.roots∨n∈h.pending->h.Lv n):h.MK.grey=[]/\h.MK.again=[]/\FT h.MK/\∀ n,n∈h.roots∨n∈h.pending->h.MK.M5 n=false:=by
 have c:=(t.MQ (Mt.alive h)).drain.He;obtain ⟨e,d⟩:=Hp.Ji c;refine ⟨e,?_,d,fun n hn=>?_⟩
 ·exact (M7.settle h.alive.drain.He).again
 ·refine (M7.settle _).dark ((jM.He _).dark ((M7.drain _).dark ?_))
  unfold Hp.alive;rcases hn with a|a
  ·exact (M7.Hu _ _).dark (jA _ _ (fun n hn=>b n (.inl hn)) n a)
  ·exact jA _ _ (fun n hn=>((M7.Hu h h.roots).lv n).2 (b n (.inr hn))) n a
theorem MP.at2 {h:Hp} (t:MP h No):MP h.at2 No:=(t.cnt (Np.fold bU bZ h.weak h)).Hw
theorem w_ (h:Hp) (n:Nat):h.at2.M5 n=h.M5 n:=(Hp.Kl _ n).trans ((Np.fold bU bZ h.weak h).M5 n)
theorem dX (h:Hp):h.at2.finals=h.finals.filter (fun n=>!h.M5 n)/\h.at2.pending=h.pending++h.finals.filter h.M5/\h.at2.roots=h.roots/\h.at2.grey=h.grey/\h.at2.again=h.again/\h.at2.state=h.state/\h.at2.white=h.white/\h.at2.objs.length=h.objs.length:=by
 have c:=Np.fold bU bZ h.weak h;obtain ⟨e,d,m,l,k,j,i,f,_⟩:=Hp.IE (h.weak.foldl Hp.MN h);have b:(h.weak.foldl Hp.MN h).M5=h.M5:=by funext n;exact c.M5 n
 have a:(fun n=>!(h.weak.foldl Hp.MN h).M5 n)=fun n=>!h.M5 n:=by funext n;rw [b]
 rw [b] at d;rw [a] at e;refine ⟨e.trans (by rw [show (h.weak.foldl Hp.MN h).finals=h.finals from c.finals]),d.trans (by rw [show (h.weak.foldl Hp.MN h).finals=h.finals from c.finals,show (h.weak.foldl Hp.MN h).pending=h.pending from c.pending]),m.trans c.roots,l.trans c.grey,k.trans c.again,j.trans c.state,i.trans c.white,f.trans c.len⟩
theorem ou (h:Hp) (n:Nat):h.at2.Lv n↔h.Lv n:=(Hp.Kw _ n).trans ((Np.fold bU bZ h.weak h).lv n)
theorem MP.at3 {h:Hp} (t:MP h No):MP h.at3 No:=(t.MQ (Mt.Hu h _)).settle
theorem M7.at3 (h:Hp):M7 h h.at3:=(M7.Hu h _).trans (M7.settle _)
theorem Np.at4 (h:Hp):Np h h.at4:=Np.fold b_ gu _ h
theorem Np.Mi (h:Hp):Np h h.Mi:=(Np.fold bU bZ _ h).trans (Np.Im _)
theorem Ad (t:MP h No) (W:h.grey=[]) (Y:h.again=[]) (X:FT h) (F:∀ n o,h.ob n=some o->o.mode<=3) (e:h.at4.Mi.ob n=some o) (C:fU o.col=false):∀ en∈o.es,∀ r∈dw en,h.M5 r=false:=by
 have N:=Np.at4 h;have S:=Np.fold bU bZ h.at4.weak h.at4;have M:h.at4.Mi.ob n=((h.at4.weak.foldl Hp.MN h.at4).ob n).map (h.at4.weak.foldl Hp.MN h.at4).drop1:=by
  unfold Hp.Mi Hp.Im;rw [Hp.KF]
 have R:h.at4.ob n=(h.ob n).map fun o=>if n∈h.G8++h.weak then { o with es:=o.es.map (b_ h) } else o:=lM _ h n
 have ev:=nK h.at4.weak h.at4 n;have D:bU h.at4=bU h:=zM h h.at4 N.MO;have q:h.at4.weak=h.weak:=N.weak;rw [q,D] at ev;rw [q] at M S;have L:∀ v,(h.weak.foldl Hp.MN h.at4).MO v=h.MO v:=fun v=>(S.MO v).trans (N.MO v);cases hb:h.ob n with
 |none=>
  rw [M,ev,R,hb] at e;simp at e
 |some o3=>
  have E:fU o3.col=false/\o.es=(((o3.es.map (fun en=>if n∈h.G8++h.weak then b_ h en else en)).map (fun en=>if n∈h.weak then bU h en else en)).map (dG h)):=by
   rw [M,ev,R,hb] at e;simp only [Option.map_some,Option.some.injEq] at e;have K:dG (h.weak.foldl Hp.MN h.at4)=dG h:=by funext x;unfold dG;rw [L]
   subst e;unfold Hp.drop1 at C ⊢;rw [K];by_cases V:n∈h.G8++h.weak<;>by_cases U:n∈h.weak<;>simp only [V,U,if_true,if_false] at C ⊢
   all_goals
    split at C
    ·simp_all
    ·refine ⟨by simpa using C,?_⟩
     simp_all
  obtain ⟨s,H⟩:=E;have Z:o3.col=3:=by
   have h4:=t.col n o3 hb;have h5:o3.col≠2:=by
    intro Q;rcases t.M6 n o3 hb Q with k|k
    ·rw [W] at k;simp at k
    ·rw [Y] at k;simp at k
   have Q:o3.col≠0/\o3.col≠1:=by
    constructor<;>(intro k;rw [k] at s;cases s)
   omega
  obtain ⟨s0,s1,s2,T⟩:=t.blk n o3 hb Z (fun x=>x);intro en J r hr;rw [H] at J;simp only [List.map_map,List.mem_map,Function.comp] at J;obtain ⟨f,B,rfl⟩:=J;have hm:=F n o3 hb;have p:kX (if n∈h.G8++h.weak then b_ h f else f) f:=by
   split
   ·exact gu h f
   ·exact kX.refl f
  generalize hk:(if n∈h.G8++h.weak then b_ h f else f)=e1 at *;have i:kX (if n∈h.weak then bU h e1 else e1) e1:=by
   split
   ·exact bZ h e1
   ·exact kX.refl e1
  generalize c:(if n∈h.weak then bU h e1 else e1)=e2 at *;have l:=nE h e2;have d:=l.refs r hr;rcases (by omega:o3.mode=0∨o3.mode=1∨2<=o3.mode) with m|m|m
  ·cases hv:e2.2.isSome with
   |true=>
    have P:=i.some hv;have q1:=p.some (P ▸ hv);rw [P,q1] at d hv;exact s0 m f B hv r d
   |false=>
    unfold dG at hr;have z:e2.2.isNone=true:=by
     cases b:e2.2 with
     |none=>rfl
     |some _=>rw [b] at hv;cases hv
    cases a:h.MO e2.1 with
    |true=>rw [z,a] at hr;simp [dw,bQ] at hr
    |false=>
     rcases eT.1 d with b|b
     ·exact jh a r b
     ·have:e2.2=none:=by simpa using z
      rw [this] at b;simp [bQ] at b
  ·have y:n∈h.G8:=s1 m
   rw [if_pos (List.mem_append_left _ y)] at hk;unfold b_ at hk;have u:=i.refs r d;split at hk
   ·subst hk;simp [dw,bQ] at u
   ·rename_i a
    subst hk;have j:h.MO f.1=false:=by simpa using a
    have A:f∈h.Jj n:=by unfold Hp.Jj;rw [hb];exact B
    rcases eT.1 u with b|b
    ·exact jh j r b
    ·exact jh (X n y f A j) r b
  ·have w:n∈h.weak:=T m
   rw [if_pos (List.mem_append_right _ w)] at hk;rw [if_pos w] at c;unfold b_ at hk;unfold bU at c;rcases eT.1 d with b|b
   ·have G:bQ e2.1=bQ e1.1:=by
     split at c<;>(subst c;rfl)
    rw [G] at b;split at hk
    ·subst hk;simp [bQ] at b
    ·rename_i a
     subst hk;exact jh (by simpa using a) r b
   ·split at c
    ·subst c;simp [bQ] at b
    ·rename_i a
     subst c;exact jh (by simpa using a) r b
end
section
variable {n:Nat}
theorem Hp.IG {h:Hp} (x:h.Ok n):h.Lv n:=⟨x.choose,x.choose_spec.1⟩
theorem Hp.Kq {h:Hp} (a:h.state≠2) (l:h.Lv n):h.Ok n:=by
 obtain ⟨o,e⟩:=l;exact ⟨o,e,fun d=>a d.1⟩
theorem M7.md {h g:Hp} (x:M7 h g) (hm:∀ n o,h.ob n=some o->o.mode<=3):∀ n o,g.ob n=some o->o.mode<=3:=by
 intro n o e;obtain ⟨a,c,b,_⟩:=x.ob e;rw [<-b];exact hm n a c
theorem Np.md {h g:Hp} (x:Np h g) (hm:∀ n o,h.ob n=some o->o.mode<=3):∀ n o,g.ob n=some o->o.mode<=3:=by
 intro n o e;rcases x.ob n with ⟨a,_⟩|⟨o1,o2,a,c,d,b,_⟩
 ·rw [e] at a;cases a
 ·rw [e] at a;cases a;rw [b];exact hm n o1 c
theorem Hp.JN {h:Hp} (hm:∀ n o,h.ob n=some o->o.mode<=3):∀ n o,h.Hw.ob n=some o->o.mode<=3:=by
 intro n o e;have:=(dL h.finals (h,[])).2.2.2.1 n;have a:(h.finals.foldl Hp.Hy (h,[])).1.ob n=some o:=e;rw [a] at this;cases e2:h.ob n with
 |none=>simp [e2] at this
 |some o'=>simp [e2] at this;rw [this.2.1];exact hm n o' e2
theorem Inv.atomic {h:Hp} (i:Inv h) (W:h.state=1):Inv h.atomic/\h.atomic.state=2/\h.atomic.objs.length=h.objs.length/\h.atomic.G9=1:=by
 have t:=i.s1 W;have s:∀ n,n∈h.roots∨n∈h.pending∨n∈h.finals->h.Lv n:=fun n f=>Hp.IG (i.ls n f);have k:=jM.MK h;obtain ⟨Z,F,a0,C⟩:=qE t (fun n f=>s n (f.elim .inl (fun x=>.inr (.inl x))));have S:=t.MK;have f1:h.MK.finals=h.finals:=k.finals;have p1:h.MK.pending=h.pending:=k.pending;have T:h.MK.roots=h.roots:=k.roots;have w1:h.MK.white=h.white:=k.white;have n1:h.MK.objs.length=h.objs.length:=k.len;obtain ⟨N,v,J,Y,u,s2,R,B⟩:=dX h.MK;have H:=S.at2;rw [f1] at N v;rw [p1] at v;rw [T] at J;rw [Z] at Y;rw [F] at u;have K:∀ n,h.MK.at2.Lv n↔h.Lv n:=fun n=>(ou _ n).trans (k.lv n);have c:=M7.at3 h.MK.at2;have G:=H.at3;have tm:=H.MQ (Mt.Hu h.MK.at2 h.MK.at2.pending);obtain ⟨M,D⟩:=Hp.Ji tm;have E:h.MK.at2.at3.again=[]:=c.again.trans u;have j:∀ n o,h.MK.at2.at3.ob n=some o->o.mode<=3:=c.md (Hp.JN ((Np.fold bU bZ h.MK.weak h.MK).md (M7.md k i.md)));have A:∀ n∈h.MK.at2.pending,h.MK.at2.at3.M5 n=false:=by
  intro n f;refine (M7.settle _).dark (jA _ _ (fun m hm=>?_) n f);rw [v] at hm;refine (K m).2 (s m ?_);rcases eT.1 hm with a|a
  ·exact .inr (.inl a)
  ·exact .inr (.inr (List.mem_filter.1 a).1)
 have b:=(Np.at4 h.MK.at2.at3).trans (Np.Mi _);have Q:h.MK.at2.at3.at4.Mi.white=h.white:=b.white.trans (c.white.trans (R.trans w1));have z:=G.cnt b;have key:=fun n o=>Ad G M E D j (n:=n) (o:=o);have P:∀ n o,h.MK.at2.at3.at4.Mi.ob n=some o->(h.atomic.IK o↔fU o.col=true):=by
  intro n o e;constructor
  ·exact fun d=>d.2.1
  ·intro w
   refine ⟨rfl,w,?_⟩;have:=z.wc n o e w;show o.col≠1-h.MK.at2.at3.at4.Mi.white;rw [this,Q];have:=i.w1;omega
 have ok:∀ n,h.MK.at2.at3.Lv n->h.MK.at2.at3.M5 n=false->h.atomic.Ok n:=by
  intro n l w;obtain ⟨o,e⟩:=(b.lv n).2 l;refine ⟨o,e,fun d=>?_⟩;have:=(P n o e).1 d;have a:=b.M5 n;rw [w,Hp.JA e,this] at a;cases a
 have p:∀ n,h.MK.at2.at3.Lv n↔h.Lv n:=fun n=>(c.lv n).trans (K n);refine ⟨⟨?_,au 2,?_,?_,?_,?_,?_,?_,?_,?_⟩,rfl,?_,rfl⟩
 ·show 1-_<=1
  omega
 ·show h.MK.at2.at3.at4.Mi.ob 0=none
  cases e:h.MK.at2.at3.at4.Mi.ob 0 with
  |none=>rfl
  |some o=>
   obtain ⟨U,g⟩:=(p 0).1 ((b.lv 0).1 ⟨o,e⟩);rw [i.zero] at g;cases g
 ·show 1<=h.MK.at2.at3.at4.Mi.objs.length
  rw [b.len,c.len,B,n1];exact i.ps
 ·exact b.md j
 ·intro n f
  have q:n∈h.MK.at2.at3.at4.Mi.roots∨n∈h.MK.at2.at3.at4.Mi.pending∨n∈h.MK.at2.at3.at4.Mi.finals:=f;rw [b.roots,b.pending,b.finals,c.roots,c.pending,c.finals,J,N] at q;rcases q with a|a|a
  ·refine ok n ((p n).2 (s n (.inl a))) (c.dark ?_)
   rw [w_];exact C n (.inl a)
  ·refine ok n ?_ (A n a)
   rw [v] at a;refine (p n).2 (s n ?_);rcases eT.1 a with x|x
   ·exact .inr (.inl x)
   ·exact .inr (.inr (List.mem_filter.1 x).1)
  ·obtain ⟨x,y⟩:=List.mem_filter.1 a
   refine ok n ((p n).2 (s n (.inr (.inr x)))) (c.dark ?_);rw [w_]
   simpa using y
 ·intro n o e nd en L r hr
  have g:h.MK.at2.at3.at4.Mi.ob n=some o:=e;have V:fU o.col=false:=by
   cases hx:fU o.col with
   |false=>rfl
   |true=>exact absurd ((P n o g).2 hx) nd
  exact ok r ((b.lv r).1 (z.cl n o g en L r hr)) (key n o g V en L r hr)
 ·intro x;exact absurd x (by show ¬ (2:Nat)=0;decide)
 ·intro x;exact absurd x (by show ¬ (2:Nat)=1;decide)
 ·intro _
  refine ⟨b.grey.trans M,au 1,?_,z.col,fun n o e f=>?_⟩
  ·show 1<=h.MK.at2.at3.at4.Mi.objs.length
   rw [b.len,c.len,B,n1];exact i.ps
  ·have X:n=0:=by
    have:n<1:=f;omega
   subst X;obtain ⟨U,g⟩:=(p 0).1 ((b.lv 0).1 ⟨o,e⟩);rw [i.zero] at g;cases g
 ·show h.MK.at2.at3.at4.Mi.objs.length=_
  rw [b.len,c.len,B,n1]
end
section
variable {n:Nat} {o:Ob}
theorem Inv.mid {g:Hp} (t:MP g No) (d:g.state=1) (b:g.white<=1) (a:g.ob 0=none) (hp:1<=g.objs.length) (hm:∀ n o,g.ob n=some o->o.mode<=3) (c:∀ n,n∈g.roots∨n∈g.pending∨n∈g.finals->g.Lv n):Inv g:=
 ⟨b,by omega,a,hp,hm,fun n hn=>Hp.Kq (by omega) (c n hn),fun n o e _ en he r hr=>Hp.Kq (by omega) (t.cl n o e en he r hr),fun x=>by omega,fun _=>t,fun x=>by omega⟩
theorem M7.zero {h g:Hp} (x:M7 h g) (a:h.ob 0=none):g.ob 0=none:=by
 have:=x.cont 0;rw [a] at this;cases e:g.ob 0 with
 |none=>rfl
 |some o=>rw [e] at this;simp at this
theorem Inv.MZ {h g:Hp} (i:Inv h) (a:h.state=1) (t:MP g No) (x:M7 h g):Inv g:=
 Inv.mid t (x.state.trans a) (by rw [x.white];exact i.w1) (x.zero i.zero) (by rw [x.len];exact i.ps) (x.md i.md) (fun n hn=>by
  rw [x.roots,x.pending,x.finals] at hn;exact (x.lv n).2 (Hp.IG (i.ls n hn)))
theorem Inv.take {h:Hp} (i:Inv h) (a:h.state=1):Inv h.take.1:=i.MZ a (i.s1 a).take (M7.take h)
theorem Inv.begin {h:Hp} (i:Inv h) (a:h.state=0):Inv h.begin/\h.begin.state=1:=by
 have cl:h.Closed:=fun n o e en he r hr=>Hp.IG (i.nc n o e (fun d=>by have:=d.1;omega) en he r hr);have f:=i.w1;have b:MP { h with state:=1,grey:=[],again:=[],weak:=[],G8:=[] } No:=by
  refine ⟨fun n o e=>?_,fun n o e k=>?_,fun n o e k=>?_,fun n o e w=>i.s0 a n o e,fun n hn=>?_,cl⟩
  ·have:=i.s0 a n o e;omega
  ·have:=i.s0 a n o e;omega
  ·have:=i.s0 a n o e;omega
  ·simp at hn
 have c:Inv { h with state:=1,grey:=[],again:=[],weak:=[],G8:=[] }:=Inv.mid b rfl i.w1 i.zero i.ps i.md (fun n hn=>(show h.Lv n from Hp.IG (i.ls n hn)));refine ⟨c.MZ rfl (b.MQ (Mt.alive _)) (M7.alive _),(M7.alive _).state⟩
theorem Inv.skipped {h:Hp} (i:Inv h) (g:h.state=2):Inv h.skipped:=by
 obtain ⟨a,b,c,d,e⟩:=i.s2 g;refine ⟨i.w1,i.st,i.zero,i.ps,i.md,i.ls,i.nc,i.s0,fun x=>by have:h.state=1:=x;omega,fun _=>⟨a,aI b (h.I5 _),h.Jh _ c,d,fun n o ho hn=>?_⟩⟩;by_cases hx:n<h.G9
 ·exact e n o ho hx
 ·have:=h.skip_none h.G9 n (by omega) hn
  have f:h.ob n=some o:=ho;rw [this] at f;cases f
theorem Hp.Kh (h:Hp) (n m:Nat):Hp.ob { h with objs:=h.objs.set n none } m=if n=m then none else h.ob m:=by
 simp only [Hp.ob,gD];by_cases e:n=m
 ·subst e
  by_cases l:n<h.objs.length<;>simp [l]
 ·simp [e]
theorem Hp.Ia {h:Hp} (e:h.ob n=some o):n<h.objs.length:=by
 have:=Hp.I_ e;exact (aJ.1 this).1
theorem Inv.G_ {h:Hp} (i:Inv h) (v:h.state=2):Inv h.G_/\h.G_.state=2/\h.G_.objs.length=h.objs.length:=by
 obtain ⟨a,b,c,d,e⟩:=i.s2 v;unfold Hp.G_;split
 ·rename_i o ho
  have B:=Hp.Ia ho;split
  ·rename_i hd
   have A:h.IK o:=⟨v,by simp at hd;simp [hd.1],by simp at hd;exact hd.2⟩
   have j:∀ m,Hp.ob { h with objs:=h.objs.set h.G9 none,live:=h.live-1,bytes:=h.bytes-o.size,freed:=h.freed++[h.G9],G9:=h.G9+1 } m=if h.G9=m then none else h.ob m:=fun m=>h.Kh h.G9 m
   have k:∀ n,h.Ok n->Hp.Ok { h with objs:=h.objs.set h.G9 none,live:=h.live-1,bytes:=h.bytes-o.size,freed:=h.freed++[h.G9],G9:=h.G9+1 } n:=by
    rintro n ⟨f,g,nd⟩;refine ⟨f,?_,nd⟩;rw [j];by_cases x:h.G9=n
    ·subst x;rw [ho] at g;cases g;exact absurd A nd
    ·rw [if_neg x];exact g
   have sub:∀ m f,Hp.ob { h with objs:=h.objs.set h.G9 none,live:=h.live-1,bytes:=h.bytes-o.size,freed:=h.freed++[h.G9],G9:=h.G9+1 } m=some f->h.ob m=some f/\m≠h.G9:=by
    intro m f g;rw [j] at g;split at g
    ·cases g
    ·rename_i x;exact ⟨g,fun y=>x y.symm⟩
   refine ⟨⟨i.w1,i.st,?_,?_,fun n f g=>i.md n f (sub n f g).1,fun n hn=>k n (i.ls n hn),fun n f g nd en he r hr=>k r (i.nc n f (sub n f g).1 nd en he r hr),fun x=>by have:h.state=0:=x;omega,fun x=>by have:h.state=1:=x;omega,fun _=>⟨a,?_,?_,fun n f g=>d n f (sub n f g).1,fun n f g hn=>?_⟩⟩,v,by simp⟩
   ·rw [j]
    split
    ·rfl
    ·exact i.zero
   ·have:=i.ps
    simpa using this
   ·show 1<=h.G9+1
    omega
   ·show h.G9+1<=(h.objs.set h.G9 none).length
    simp;omega
   ·have z:n<h.G9+1:=hn
    obtain ⟨l,q⟩:=sub n f g;exact e n f l (by omega)
  ·rename_i hd
   have j:∀ m,Hp.ob { h.upd h.G9 (fun o=>{ o with col:=h.white }) with G9:=h.G9+1 } m=if h.G9=m then (h.ob m).map (fun o=>{ o with col:=h.white }) else h.ob m:=fun m=>h.Ho h.G9 m _
   have sub:∀ m f,Hp.ob { h.upd h.G9 (fun o=>{ o with col:=h.white }) with G9:=h.G9+1 } m=some f->∃ o2,h.ob m=some o2/\o2.mode=f.mode/\o2.es=f.es/\((m=h.G9/\f.col=h.white)∨(m≠h.G9/\f.col=o2.col)):=by
    intro m f g;rw [j] at g;split at g
    ·rename_i x
     subst x;rw [ho] at g;simp at g;subst g;exact ⟨o,ho,rfl,rfl,.inl ⟨rfl,rfl⟩⟩
    ·rename_i x;exact ⟨f,g,rfl,rfl,.inr ⟨fun y=>x y.symm,rfl⟩⟩
   have w:¬ h.IK o:=by
    rintro ⟨_,q,u⟩;simp [q,u] at hd
   have k:∀ n,h.Ok n->Hp.Ok { h.upd h.G9 (fun o=>{ o with col:=h.white }) with G9:=h.G9+1 } n:=by
    rintro n ⟨f,g,nd⟩;unfold Hp.Ok;rw [j];by_cases x:h.G9=n
    ·rw [if_pos x,g]
     exact ⟨_,rfl,fun d=>d.2.2 rfl⟩
    ·rw [if_neg x,g]
     exact ⟨f,rfl,nd⟩
   have C:=i.w1;refine ⟨⟨i.w1,i.st,?_,?_,fun n f g=>?_,fun n hn=>k n (i.ls n hn),fun n f g nd en he r hr=>?_,fun x=>by have:h.state=0:=x;omega,fun x=>by have:h.state=1:=x;omega,fun _=>⟨a,?_,?_,fun n f g=>?_,fun n f g hn=>?_⟩⟩,v,by simp [Hp.upd]⟩
   ·rw [j]
    split
    ·rw [i.zero];rfl
    ·exact i.zero
   ·have:=i.ps
    simpa [Hp.upd] using this
   ·obtain ⟨o2,l,q,u,t⟩:=sub n f g
    rw [<-q];exact i.md n o2 l
   ·obtain ⟨o2,l,q,u,t⟩:=sub n f g
    refine k r (i.nc n o2 l ?_ en (u ▸ he) r hr);rcases t with ⟨s,p⟩|⟨s,p⟩
    ·subst s
     rw [ho] at l;cases l;exact w
    ·intro dd
     exact nd ⟨dd.1,by rw [p];exact dd.2.1,by rw [p];exact dd.2.2⟩
   ·show 1<=h.G9+1
    omega
   ·show h.G9+1<=(h.upd h.G9 _).objs.length
    rw [Hp.Hz];omega
   ·obtain ⟨o2,l,q,u,t⟩:=sub n f g
    rcases t with ⟨s,p⟩|⟨s,p⟩
    ·omega
    ·rw [p];exact d n o2 l
   ·have z:n<h.G9+1:=hn
    obtain ⟨o2,l,q,u,t⟩:=sub n f g;rcases t with ⟨s,p⟩|⟨s,p⟩
    ·exact p
    ·rw [p];exact e n o2 l (by omega)
 ·exact ⟨i,v,rfl⟩
theorem Inv.close {h:Hp} (i:Inv h) (k:h.state=2):Inv h.close:=by
 unfold Hp.close;split
 ·exact i
 ·rename_i hx
  obtain ⟨a,b,c,d,e⟩:=i.s2 k;have g:∀ n,h.Ok n->Hp.Ok { h with state:=0,limit:=max (2*h.bytes) 4096,G6:=0 } n:=by
   rintro n ⟨j,f,nd⟩;exact ⟨j,f,fun d=>by have:(0:Nat)=2:=d.1;omega⟩
  refine ⟨i.w1,Nat.zero_le 2,i.zero,i.ps,i.md,fun n hn=>g n (i.ls n hn),fun n o f nd en he r hr=>g r (i.nc n o f (fun dd=>?_) en he r hr),fun _ n o f=>e n o f ?_,fun x=>by have:(0:Nat)=1:=x;omega,fun x=>by have:(0:Nat)=2:=x;omega⟩
  ·exact dd.2.2 (e n o f (by have:=Hp.Ia (h:=h) f;omega))
  ·have:=Hp.Ia (h:=h) f;omega
theorem Inv.Hg {h:Hp} (i:Inv h) (a:h.state=2):Inv h.Hg:=by
 have c:=i.skipped a;obtain ⟨b,s2,_⟩:=c.G_ a;exact (b.skipped s2).close s2
theorem Inv.advance {h:Hp} (i:Inv h) (c:h.state≠0):Inv h.advance.1:=by
 unfold Hp.advance;split
 ·rename_i a;exact i.Hg a
 ·rename_i a
  have:=i.st;have b:h.state=1:=by omega
  split
  ·exact (i.atomic b).1
  ·exact i.take b
theorem Inv.work {u:Int} {h:Hp} (i:Inv h):Inv (Hp.work u h):=Hp.IC (P:=fun _ h g=>Inv h->Inv g) (fun u h _ i=>i) (fun u h g _ hs x i=>x (i.advance hs)) u h i
theorem Inv.step {u:Int} {h:Hp} (i:Inv h):Inv (Hp.step u h):=by
 unfold Hp.step;split
 ·rename_i a;exact (i.begin a).1.work
 ·exact i.work
end
theorem Hp.JV (h:Hp) (e:h.state=2):h.Hg.phi<h.phi:=by
 have m:=h.I5 h.G9;have b:=h.Jf h.G9;have hp:h.phi=h.objs.length-h.G9+1:=by simp [Hp.phi,e]
 rw [hp];by_cases j:h.skip h.G9<h.objs.length
 ·have i:h.ob (h.skip h.G9)≠none:=fun x=>b ⟨j,x⟩
  have n:∀ g:Hp,g.state=2->g.objs.length=h.objs.length->h.skip h.G9+1<=g.G9->g.skipped.close.phi<h.objs.length-h.G9+1:=by
   intro g d k l;have a:=g.I5 g.G9;unfold Hp.close;split
   ·simp only [Hp.phi,Hp.skipped,d,k]
    simp only [show ¬ (2:Nat)=0 by decide,if_false,if_true];omega
   ·simp only [Hp.phi,if_true]
    omega
  have c:h.skipped.G_.state=2/\h.skipped.G_.objs.length=h.objs.length/\h.skip h.G9+1<=h.skipped.G_.G9:=by
   unfold Hp.G_;split
   ·split
    ·exact ⟨e,by simp [Hp.skipped],au _⟩
    ·exact ⟨e,by simp [Hp.skipped,Hp.upd],au _⟩
   ·rename_i hx
    exact absurd hx i
  exact n _ c.1 c.2.1 c.2.2
 ·have c:h.skipped.G_=h.skipped:=by
   unfold Hp.G_;split
   ·rename_i o ho
    have f:h.ob (h.skip h.G9)=some o:=ho;have:=Hp.Ia f;omega
   ·rfl
  unfold Hp.Hg;rw [c];have a:=h.skipped.I5 h.skipped.G9;unfold Hp.close;rw [if_neg]
  ·simp only [Hp.phi,if_true]
   omega
  ·show ¬ h.skipped.skip (h.skip h.G9)<h.objs.length
   have:h.skip h.G9<=h.skipped.skip (h.skip h.G9):=a;omega
theorem Hp.Iy {h:Hp} (i:Inv h) (g:h.state≠0):h.advance.1.phi<h.phi:=by
 unfold Hp.advance;split
 ·rename_i e;exact h.JV e
 ·rename_i e
  have:=i.st;have d:h.state=1:=by omega
  have hp:h.phi=h.mu+h.objs.length+2:=by simp [Hp.phi,d]
  rw [hp];split
  ·obtain ⟨_,a,b,c⟩:=i.atomic d
   have:h.atomic.phi=h.objs.length-1+1:=by simp [Hp.phi,a,b,c]
   show h.atomic.phi<_;omega
  ·rename_i f
   have j:=h.IX f;have hm:=M7.take h;have:h.take.1.phi=h.take.1.mu+h.objs.length+2:=by simp [Hp.phi,hm.state,d,hm.len]
   omega
def Hp.finish (h:Hp):Hp:=if hs:h.state≠0/\h.advance.1.phi<h.phi then Hp.finish h.advance.1 else h
 termination_by h.phi
 decreasing_by exact hs.2
theorem Hp.I7 (h:Hp) (a:h.state=0):h.finish=h:=by rw [Hp.finish,dif_neg (fun x=>x.1 a)]
theorem Hp.Jw {h:Hp} (i:Inv h) (a:h.state≠0):h.finish=h.advance.1.finish:=by rw [Hp.finish,dif_pos ⟨a,Hp.Iy i a⟩]
theorem Hp.IQ {P:Hp->Hp->Prop} (c:∀ h,h.state=0->P h h) (b:∀ h g,Inv h->h.state≠0->P h.advance.1 g->P h g):∀ h:Hp,Inv h->P h h.finish:=by
 intro h i;by_cases a:h.state=0
 ·rw [h.I7 a];exact c h a
 ·rw [Hp.Jw i a]
  exact b h _ i a (Hp.IQ c b h.advance.1 (i.advance a))
 termination_by h=>h.phi
 decreasing_by exact Hp.Iy (by assumption) (by assumption)
theorem Inv.finish {h:Hp} (i:Inv h):Inv h.finish/\h.finish.state=0:=Hp.IQ (P:=fun h g=>Inv h->Inv g/\g.state=0) (fun h hs i=>⟨i,hs⟩) (fun h g i0 hs x i=>x (i.advance hs)) h i i
theorem Hp.J6:∀ (u:Int) (h:Hp),Inv h->(Hp.work u h).finish=h.finish:=by
 intro u h;refine Hp.IC (P:=fun _ h g=>Inv h->g.finish=h.finish) (fun u h _ _=>rfl) (fun u h g _ hs x i=>?_) u h;rw [x (i.advance hs),Hp.Jw i hs]
def Hp.full (h:Hp):Hp:=h.finish.begin.finish
theorem Inv.full {h:Hp} (i:Inv h):Inv h.full/\h.full.state=0:=(i.finish.1.begin i.finish.2).1.finish
def Hp.Ip (h:Hp):Hp:=
 if hc:256<=h.G6/\h.state≠0/\(Hp.step 64 { h with G6:=h.G6-256 }).G6<h.G6 then Hp.Ip (Hp.step 64 { h with G6:=h.G6-256 }) else h
 termination_by h.G6
 decreasing_by exact hc.2.2
def Hp.I6 (h:Hp):Hp:=
 if h.state=0 then if h.bytes<h.limit then h else Hp.step 64 { h with G6:=0 } else h.Ip
theorem Inv.JB {h:Hp} (i:Inv h) (c:Nat):Inv { h with G6:=c }:=by
 refine ⟨i.w1,i.st,i.zero,i.ps,i.md,i.ls,i.nc,i.s0,fun hs=>?_,i.s2⟩;have t:=i.s1 hs;exact ⟨t.col,t.M6,t.blk,t.wc,t.ll,t.cl⟩
theorem Hp.Ko (h:Hp):h.close.G6<=h.G6:=by
 unfold Hp.close;split
 ·exact au _
 ·exact Nat.zero_le _
theorem Hp.IJ (h:Hp):h.G_.G6=h.G6:=by
 unfold Hp.G_;split
 ·split<;>rfl
 ·rfl
theorem Hp.IW (h:Hp):h.atomic.G6=h.G6/\h.atomic.bytes=h.bytes/\h.atomic.live=h.live/\h.atomic.limit=h.limit/\h.atomic.freed=h.freed/\h.atomic.roots=h.roots:=by
 have d:=jM.MK h;have c:=Np.fold bU bZ h.MK.weak h.MK;have k:=Hp.Jz (h.MK.weak.foldl Hp.MN h.MK);have e:=(Hp.IE (h.MK.weak.foldl Hp.MN h.MK)).2.2.1;have a:=M7.at3 h.MK.at2;have b:=(Np.at4 h.MK.at2.at3).trans (Np.Mi _);refine ⟨?_,?_,?_,?_,?_,?_⟩
 ·exact b.G6.trans (a.G6.trans (k.2.2.2.2.1.trans (c.G6.trans d.G6)))
 ·exact b.bytes.trans (a.bytes.trans (k.2.1.trans (c.bytes.trans d.bytes)))
 ·exact b.live.trans (a.live.trans (k.2.2.1.trans (c.live.trans d.live)))
 ·exact b.limit.trans (a.limit.trans (k.2.2.2.1.trans (c.limit.trans d.limit)))
 ·exact b.freed.trans (a.freed.trans (k.1.trans (c.freed.trans d.freed)))
 ·exact b.roots.trans (a.roots.trans (e.trans (c.roots.trans d.roots)))
theorem Hp.JO (h:Hp):h.advance.1.G6<=h.G6:=by
 unfold Hp.advance;split
 ·show h.skipped.G_.skipped.close.G6<=_
  refine aI (Hp.Ko _) ?_;show h.skipped.G_.G6<=_;rw [Hp.IJ];exact au _
 ·split
  ·exact aO h.IW.1
  ·exact aO (M7.take h).G6
theorem Hp.JY (u:Int) (h:Hp):(Hp.work u h).G6<=h.G6:=Hp.IC (P:=fun _ h g=>g.G6<=h.G6) (fun u h _=>au _) (fun u h g _ _ x=>aI x h.JO) u h
theorem Hp.Jc (u:Int) (h:Hp):(Hp.step u h).G6<=h.G6:=by
 unfold Hp.step;split
 ·exact aI (Hp.JY _ _) (aO (M7.alive _).G6)
 ·exact Hp.JY _ _
theorem Hp.JJ (h:Hp) (b:256<=h.G6) (a:h.state≠0):h.Ip=Hp.Ip (Hp.step 64 { h with G6:=h.G6-256 }):=by
 have c:(Hp.step 64 { h with G6:=h.G6-256 }).G6<h.G6:=by
  have:=Hp.Jc 64 { h with G6:=h.G6-256 };simp only at this;omega
 rw [Hp.Ip,dif_pos ⟨b,a,c⟩]
theorem Hp.IZ (h:Hp) (a:¬ (256<=h.G6/\h.state≠0)):h.Ip=h:=by rw [Hp.Ip,dif_neg (fun x=>a ⟨x.1,x.2.1⟩)]
theorem Hp.I4 {P:Hp->Hp->Prop} (c:∀ h,¬ (256<=h.G6/\h.state≠0)->P h h) (b:∀ h g,256<=h.G6->h.state≠0->P (Hp.step 64 { h with G6:=h.G6-256 }) g->P h g):∀ h:Hp,P h h.Ip:=by
 intro h;by_cases a:256<=h.G6/\h.state≠0
 ·rw [h.JJ a.1 a.2]
  exact b h _ a.1 a.2 (Hp.I4 c b _)
 ·rw [h.IZ a]
  exact c h a
 termination_by h=>h.G6
 decreasing_by
  have:=Hp.Jc 64 { h with G6:=h.G6-256 };simp only at this;omega
theorem Inv.Ip {h:Hp} (i:Inv h):Inv h.Ip:=Hp.I4 (P:=fun h g=>Inv h->Inv g) (fun h _ i=>i) (fun h g _ _ x i=>x (i.JB _).step) h i
theorem Inv.I6 {h:Hp} (i:Inv h):Inv h.I6:=by
 unfold Hp.I6;split
 ·split
  ·exact i
  ·exact (i.JB 0).step
 ·exact i.Ip
end Go.Proofs.YtbpcdfbmnklcjaaGreatDoor
