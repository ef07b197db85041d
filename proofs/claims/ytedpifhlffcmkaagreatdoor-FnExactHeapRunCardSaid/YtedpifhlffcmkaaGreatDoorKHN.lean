
namespace Go.Proofs.YtedpifhlffcmkaaGreatDoor
set_option linter.unusedVariables false
abbrev HV:=Option (Int ⊕ Nat)
abbrev En:=HV × HV
structure Ob where
 col:Nat
 mode:Nat
 es:List En
 fin:Bool
structure Hp where
 objs:List (Option Ob)
 grey:List Nat
 again:List Nat
 weak:List Nat
 D8:List Nat
 finals:List Nat
 pending:List Nat
 roots:List Nat
 freed:List Nat
 bytes:Nat
 live:Nat
 limit:Nat
 D6:Nat
 state:Nat
 white:Nat
 D7:Nat
def Hp.new:Hp:=⟨[none],[],[],[],[],[],[],[],[],0,0,4096,0,0,0,0⟩
def Hp.ob (h:Hp) (n:Nat):Option Ob:=(h.objs[n]?).join
def Hp.upd (h:Hp) (n:Nat) (f:Ob->Ob):Hp:={ h with objs:=h.objs.modify n (Option.map f) }
def eP (c:Nat):Bool:=c==0||c==1
def Hp.JK (h:Hp) (n:Nat):Bool:=match h.ob n with
 |some o=>eP o.col
 |none=>true
def Hp.JG (h:Hp) (v:HV):Bool:=match v with
 |some (.inr n)=>h.JK n
 |_=>false
def Ob.size (o:Ob):Nat:=40+40*o.es.length
def Hp.make (h:Hp) (mode:Nat):Hp:={ h with objs:=h.objs++[some ⟨h.white,mode,[],false⟩],live:=h.live+1,bytes:=h.bytes+40,D6:=h.D6+40 }
def Hp.mark (h:Hp) (n:Nat):Hp:=match h.ob n with
 |some o=>if eP o.col then { h.upd n (fun o=>{ o with col:=2 }) with grey:=h.grey++[n] } else h
 |none=>h
def Hp.Eo (h:Hp) (v:HV):Hp:=match v with
 |some (.inr n)=>h.mark n
 |_=>h
def Hp.Eh (h:Hp) (l:List Nat):Hp:=l.foldl Hp.mark h
def Hp.Ea (p:Hp × Bool) (e:En):Hp × Bool:=if !p.1.JG e.1&&p.1.JG e.2 then (p.1.Eo e.2,true) else p
def Hp.spread (h:Hp) (es:List En):Hp × Bool:=es.foldl Hp.Ea (h,false)
def Hp.key1 (h:Hp) (e:En):Hp:=if e.2.isSome then h.Eo e.1 else h
def Hp.Em (h:Hp) (e:En):Hp:=(h.key1 e).Eo e.2
def Hp.Ey (h:Hp) (n:Nat) (o:Ob):Hp:=
 if o.mode=0 then o.es.foldl Hp.Em h
 else if o.mode=1 then ({ h with D8:=h.D8++[n] }.spread o.es).1
 else if o.mode=2 then (let g:=o.es.foldl Hp.key1 h;{ g with weak:=g.weak++[n] })
 else { h with weak:=h.weak++[n] }
def Hp.scan (h:Hp) (n:Nat):Hp × Nat:=match h.ob n with
 |some o=>((h.upd n (fun o=>{ o with col:=3 })).Ey n o,1+o.es.length)
 |none=>(h,1)
def Hp.Fw (h:Hp) (n:Nat):List En:=((h.ob n).map Ob.es).getD []
def Hp.take (h:Hp):Hp × Nat:=match h.grey.getLast? with
 |some n=>{ h with grey:=h.grey.dropLast }.scan n
 |none=>(h,0)
theorem Hp.Ed (h:Hp) (n m:Nat) (f:Ob->Ob):(h.upd n f).ob m=if n=m then (h.ob m).map f else h.ob m:=by
 simp only [Hp.ob,Hp.upd,List.getElem?_modify]
 by_cases e:n=m
 ·subst e;cases h.objs[n]?<;>simp
 ·simp [e]
theorem Hp.El (h:Hp) (n:Nat) (f:Ob->Ob):(h.upd n f).objs.length=h.objs.length:=by simp [Hp.upd]
section
variable {n:Nat} {o:Ob}
def oP (o:Option Ob):Bool:=match o with
 |some o=>eP o.col
 |none=>false
def Hp.wn (h:Hp):Nat:=h.objs.countP oP
def Hp.mu (h:Hp):Nat:=h.wn+h.grey.length
theorem fT {α:Type} (p:α->Bool) (f:α->α) (hf:∀ x,p (f x)=true->p x=true):∀ (l:List α) (n:Nat),(l.modify n f).countP p<=l.countP p
 | [],n=>by simp
 |a::l,0=>by
  simp only [List.modify_zero_cons,List.countP_cons]
  have:=hf a
  cases h1:p (f a)<;>cases h2:p a<;>simp_all
 |a::l,n+1=>by
  simp only [List.modify_succ_cons,List.countP_cons]
  have:=fT p f hf l n
  omega
theorem fU {α:Type} (p:α->Bool) (f:α->α):∀ (l:List α) (n:Nat) (x:α),l[n]?=some x->p x=true->p (f x)=false->(l.modify n f).countP p+1=l.countP p
 | [],n,x,h,_,_=>by simp at h
 |a::l,0,x,h,h1,h2=>by
  simp at h;subst h
  simp [h1,h2]
 |a::l,n+1,x,h,h1,h2=>by
  simp only [List.modify_succ_cons,List.countP_cons]
  have:=fU p f l n x (by simpa using h) h1 h2
  omega
theorem Hp.E_ {h:Hp} (e:h.ob n=some o):h.objs[n]?=some (some o):=by
 unfold Hp.ob at e
 cases hx:h.objs[n]? with
 |none=>simp [hx] at e
 |some x=>simp [hx] at e;simp [e]
theorem Hp.Gw (h:Hp) (n c:Nat) (hc:eP c=false):(h.upd n fun o=>{ o with col:=c }).wn<=h.wn:=by
 refine fT _ _ ?_ _ _
 intro x hx
 cases x<;>simp_all [oP]
theorem Hp.GV (h:Hp) (n:Nat):(h.mark n).mu=h.mu:=by
 unfold Hp.mark
 split
 ·rename_i o ho
  split
  ·rename_i hw
   have:=fU oP (Option.map fun o:Ob=>{ o with col:=2 }) h.objs n (some o) (Hp.E_ ho) hw rfl
   simp only [Hp.mu,Hp.wn,Hp.upd,List.length_append,List.length_singleton]
   omega
  ·rfl
 ·rfl
theorem Hp.FH (h:Hp) (v:HV):(h.Eo v).mu=h.mu:=by
 unfold Hp.Eo
 split
 ·exact h.GV _
 ·rfl
theorem l8 {α:Type} (f:Hp->α->Hp) (hf:∀ h x,(f h x).mu=h.mu):∀ (l:List α) (h:Hp),(l.foldl f h).mu=h.mu
 | [],h=>rfl
 |a::l,h=>(l8 f hf l (f h a)).trans (hf h a)
theorem Hp.Gu (h:Hp) (e:En):(h.key1 e).mu=h.mu:=by
 unfold Hp.key1
 split
 ·exact h.FH _
 ·rfl
theorem Hp.GH (h:Hp) (e:En):(h.Em e).mu=h.mu:=(Hp.FH _ _).trans (h.Gu e)
theorem Hp.GJ (p:Hp × Bool) (e:En):(Hp.Ea p e).1.mu=p.1.mu:=by
 unfold Hp.Ea
 split
 ·exact Hp.FH _ _
 ·rfl
theorem lK:∀ (es:List En) (p:Hp × Bool),(es.foldl Hp.Ea p).1.mu=p.1.mu
 | [],p=>rfl
 |e::es,p=>(lK es _).trans (Hp.GJ p e)
theorem Hp.Ez (h:Hp) (es:List En):(h.spread es).1.mu=h.mu:=lK es (h,false)
theorem Hp.Hz (h:Hp) (n:Nat) (o:Ob):(h.Ey n o).mu=h.mu:=by
 unfold Hp.Ey
 split
 ·exact l8 _ (fun h x=>h.GH x) _ _
 ·split
  ·exact (Hp.Ez _ _).trans rfl
  ·split
   ·exact (show (o.es.foldl Hp.key1 h).mu=h.mu from l8 _ (fun h x=>h.Gu x) _ _)
   ·rfl
theorem Hp.Ii (h:Hp) (n:Nat):(h.scan n).1.mu<=h.mu:=by
 unfold Hp.scan
 split
 ·rw [Hp.Hz]
  have:=h.Gw n 3 rfl
  simp only [Hp.mu,Hp.upd] at this ⊢
  omega
 ·exact Nat.le_refl _
theorem Hp.ER (h:Hp) (hg:h.grey≠[]):h.take.1.mu+1<=h.mu:=by
 unfold Hp.take
 split
 ·rename_i n hn
  have:=Hp.Ii { h with grey:=h.grey.dropLast } n
  have hl:h.grey.length≠0:=by simpa using hg
  simp only [Hp.mu,Hp.wn,List.length_dropLast] at this ⊢
  omega
 ·rename_i hn
  simp at hn
  exact absurd hn hg
def Hp.nu (h:Hp):Nat:=h.mu+h.D8.length+h.weak.length
theorem Hp.FP (h:Hp) (n:Nat):(h.mark n).D8=h.D8/\(h.mark n).weak=h.weak:=by
 unfold Hp.mark
 split
 ·split<;>exact ⟨rfl,rfl⟩
 ·exact ⟨rfl,rfl⟩
theorem Hp.EF (h:Hp) (v:HV):(h.Eo v).D8=h.D8/\(h.Eo v).weak=h.weak:=by
 unfold Hp.Eo
 split
 ·exact h.FP _
 ·exact ⟨rfl,rfl⟩
theorem dU {α:Type} (f:Hp->α->Hp) (hf:∀ h x,(f h x).D8=h.D8/\(f h x).weak=h.weak):∀ (l:List α) (h:Hp),(l.foldl f h).D8=h.D8/\(l.foldl f h).weak=h.weak
 | [],h=>⟨rfl,rfl⟩
 |a::l,h=>⟨(dU f hf l (f h a)).1.trans (hf h a).1,(dU f hf l (f h a)).2.trans (hf h a).2⟩
theorem Hp.EN (h:Hp) (e:En):(h.key1 e).D8=h.D8/\(h.key1 e).weak=h.weak:=by
 unfold Hp.key1
 split
 ·exact h.EF _
 ·exact ⟨rfl,rfl⟩
theorem Hp.E8 (h:Hp) (e:En):(h.Em e).D8=h.D8/\(h.Em e).weak=h.weak:=
 ⟨(Hp.EF _ _).1.trans (h.EN e).1,(Hp.EF _ _).2.trans (h.EN e).2⟩
theorem Hp.FD (p:Hp × Bool) (e:En):(Hp.Ea p e).1.D8=p.1.D8/\(Hp.Ea p e).1.weak=p.1.weak:=by
 unfold Hp.Ea
 split
 ·exact Hp.EF _ _
 ·exact ⟨rfl,rfl⟩
theorem gN:∀ (es:List En) (p:Hp × Bool),(es.foldl Hp.Ea p).1.D8=p.1.D8/\(es.foldl Hp.Ea p).1.weak=p.1.weak
 | [],p=>⟨rfl,rfl⟩
 |e::es,p=>⟨(gN es _).1.trans (Hp.FD p e).1,(gN es _).2.trans (Hp.FD p e).2⟩
theorem Hp.Et (h:Hp) (es:List En):(h.spread es).1.D8=h.D8/\(h.spread es).1.weak=h.weak:=gN es (h,false)
theorem Hp.EO (h:Hp) (es:List En):(h.spread es).1.nu=h.nu:=by
 simp only [Hp.nu,h.Ez es,(h.Et es).1,(h.Et es).2]
theorem Hp.GN (h:Hp) (n:Nat) (o:Ob):(h.Ey n o).D8.length+(h.Ey n o).weak.length<=h.D8.length+h.weak.length+1:=by
 unfold Hp.Ey
 split
 ·have:=dU Hp.Em (fun h x=>h.E8 x) o.es h
  rw [this.1,this.2];omega
 ·split
  ·have:=Hp.Et { h with D8:=h.D8++[n] } o.es
   rw [this.1,this.2]
   simp only [List.length_append,List.length_singleton];omega
  ·split
   ·have:=dU Hp.key1 (fun h x=>h.EN x) o.es h
    simp only [this.1,this.2,List.length_append,List.length_singleton];omega
   ·simp only [List.length_append,List.length_singleton];omega
theorem Hp.F8 (h:Hp) (hg:h.grey≠[]):h.take.1.nu<=h.nu:=by
 have h1:=h.ER hg
 have h2:h.take.1.D8.length+h.take.1.weak.length<=h.D8.length+h.weak.length+1:=by
  unfold Hp.take
  split
  ·unfold Hp.scan
   split
   ·exact Hp.GN _ _ _
   ·simp only;omega
  ·simp only;omega
 simp only [Hp.nu]
 omega
def Hp.drain (h:Hp):Hp:=if hg:h.grey=[] then h else Hp.drain h.take.1
 termination_by h.mu
 decreasing_by exact h.ER hg
theorem Hp.Gr (h:Hp) (hg:h.grey=[]):h.drain=h:=by rw [Hp.drain,dif_pos hg]
theorem Hp.Fy (h:Hp) (hg:h.grey≠[]):h.drain=h.take.1.drain:=by rw [Hp.drain,dif_neg hg]
theorem Hp.EG {P:Hp->Hp->Prop} (h0:∀ h,h.grey=[]->P h h) (h1:∀ h g,h.grey≠[]->P h.take.1 g->P h g):∀ h:Hp,P h h.drain:=by
 intro h
 rw [Hp.drain]
 split
 ·rename_i hg
  exact h0 h hg
 ·rename_i hg
  exact h1 h _ hg (Hp.EG h0 h1 h.take.1)
 termination_by h=>h.mu
 decreasing_by exact h.ER (by assumption)
theorem Hp.FT (h:Hp):h.drain.grey=[]:=Hp.EG (P:=fun _ g=>g.grey=[]) (fun h e=>e) (fun h g _ e=>e) h
theorem Hp.Ht (h:Hp):h.drain.mu<=h.mu:=Hp.EG (P:=fun h g=>g.mu<=h.mu) (fun h e=>Nat.le_refl _) (fun h g e x=>by have:=h.ER e;omega) h
theorem Hp.FJ (h:Hp):h.drain.nu<=h.nu:=Hp.EG (P:=fun h g=>g.nu<=h.nu) (fun h e=>Nat.le_refl _) (fun h g e x=>by have:=h.F8 e;omega) h
theorem Hp.Ia (h:Hp) (hg:h.grey≠[]):h.drain.mu<h.mu:=by
 rw [h.Fy hg]
 have:=h.ER hg
 have:=Hp.Ht h.take.1
 omega
theorem Hp.Fg (h:Hp):h.drain.mu+h.drain.D8.length<=h.mu+h.D8.length:=by
 refine Hp.EG (P:=fun h g=>g.mu+g.D8.length<=h.mu+h.D8.length) (fun h e=>Nat.le_refl _) (fun h g e x=>?_) h
 have h1:=h.ER e
 have h2:h.take.1.D8.length<=h.D8.length+1:=by
  unfold Hp.take
  split
  ·unfold Hp.scan
   split
   ·unfold Hp.Ey
    split
    ·rename_i o _ _
     have:=dU Hp.Em (fun h x=>h.E8 x) o.es ({ h with grey:=h.grey.dropLast }.upd (by assumption) (fun o=>{ o with col:=3 }))
     rw [this.1];simp only [Hp.upd];omega
    ·split
     ·rename_i o _ _ _
      have:=Hp.Et { ({ h with grey:=h.grey.dropLast }.upd (by assumption) (fun o=>{ o with col:=3 })) with D8:=h.D8++[(by assumption)] } o.es
      simp only [Hp.upd] at this ⊢
      rw [this.1]
      simp
     ·split
      ·rename_i o _ _ _ _
       have:=dU Hp.key1 (fun h x=>h.EN x) o.es ({ h with grey:=h.grey.dropLast }.upd (by assumption) (fun o=>{ o with col:=3 }))
       simp only [this.1];simp only [Hp.upd];omega
      ·simp only [Hp.upd];omega
   ·simp only;omega
  ·simp only;omega
 omega
end
def Hp.over (k:Nat) (p:Hp × Bool):Hp × Bool:=
 if hk:k<p.1.D8.length then
  if (p.1.spread (p.1.Fw (p.1.D8[k]))).2 then Hp.over (k+1) ((p.1.spread (p.1.Fw (p.1.D8[k]))).1.drain,true)
  else Hp.over (k+1) ((p.1.spread (p.1.Fw (p.1.D8[k]))).1,p.2)
 else p
 termination_by p.1.mu+p.1.D8.length-k
 decreasing_by
  ·have h1:=Hp.Fg (p.1.spread (p.1.Fw (p.1.D8[k]))).1
   rw [Hp.Ez,(Hp.Et _ _).1] at h1
   omega
  ·rw [Hp.Ez,(Hp.Et _ _).1]
   omega
theorem Hp.FW (k:Nat) (p:Hp × Bool) (hk:¬ k<p.1.D8.length):Hp.over k p=p:=by rw [Hp.over,dif_neg hk]
theorem Hp.FZ (k:Nat) (p:Hp × Bool) (hk:k<p.1.D8.length) (hs:(p.1.spread (p.1.Fw (p.1.D8[k]))).2=true):Hp.over k p=Hp.over (k+1) ((p.1.spread (p.1.Fw (p.1.D8[k]))).1.drain,true):=by
 rw [Hp.over,dif_pos hk,if_pos hs]
theorem Hp.Gv (k:Nat) (p:Hp × Bool) (hk:k<p.1.D8.length) (hs:(p.1.spread (p.1.Fw (p.1.D8[k]))).2=false):Hp.over k p=Hp.over (k+1) ((p.1.spread (p.1.Fw (p.1.D8[k]))).1,p.2):=by
 rw [Hp.over,dif_pos hk,if_neg (by rw [hs];decide)]
theorem Hp.EJ {P:Nat->Hp × Bool->Hp × Bool->Prop} (h0:∀ k p,¬ k<p.1.D8.length->P k p p)
 (h1:∀ k p q (hk:k<p.1.D8.length),(p.1.spread (p.1.Fw (p.1.D8[k]))).2=true->P (k+1) ((p.1.spread (p.1.Fw (p.1.D8[k]))).1.drain,true) q->P k p q)
 (h2:∀ k p q (hk:k<p.1.D8.length),(p.1.spread (p.1.Fw (p.1.D8[k]))).2=false->P (k+1) ((p.1.spread (p.1.Fw (p.1.D8[k]))).1,p.2) q->P k p q):∀ k p,P k p (Hp.over k p):=by
 intro k p
 by_cases hk:k<p.1.D8.length
 ·cases hs:(p.1.spread (p.1.Fw (p.1.D8[k]))).2
  ·rw [Hp.Gv k p hk hs]
   exact h2 k p _ hk hs (Hp.EJ h0 h1 h2 _ _)
  ·rw [Hp.FZ k p hk hs]
   exact h1 k p _ hk hs (Hp.EJ h0 h1 h2 _ _)
 ·rw [Hp.FW k p hk]
  exact h0 k p hk
 termination_by k p=>p.1.mu+p.1.D8.length-k
 decreasing_by
  ·rw [Hp.Ez,(Hp.Et _ _).1]
   omega
  ·have h9:=Hp.Fg (p.1.spread (p.1.Fw (p.1.D8[k]))).1
   rw [Hp.Ez,(Hp.Et _ _).1] at h9
   omega
def Hp.turns (h:Hp):Hp:=if hm:(Hp.over 0 (h,false)).2=true/\(Hp.over 0 (h,false)).1.mu<h.mu then Hp.turns (Hp.over 0 (h,false)).1 else (Hp.over 0 (h,false)).1
 termination_by h.mu
 decreasing_by exact hm.2
theorem Hp.G9 (h:Hp) (h1:(Hp.over 0 (h,false)).2=true) (h2:(Hp.over 0 (h,false)).1.mu<h.mu):h.turns=(Hp.over 0 (h,false)).1.turns:=by rw [Hp.turns,dif_pos ⟨h1,h2⟩]
theorem Hp.GD (h:Hp) (h1:(Hp.over 0 (h,false)).2=false):h.turns=(Hp.over 0 (h,false)).1:=by rw [Hp.turns,dif_neg (by rw [h1];simp)]
theorem Hp.EX {P:Hp->Hp->Prop} (h1:∀ h g,(Hp.over 0 (h,false)).2=true->(Hp.over 0 (h,false)).1.mu<h.mu->P (Hp.over 0 (h,false)).1 g->P h g)
 (h2:∀ h,¬ ((Hp.over 0 (h,false)).2=true/\(Hp.over 0 (h,false)).1.mu<h.mu)->P h (Hp.over 0 (h,false)).1):∀ h:Hp,P h h.turns:=by
 intro h
 rw [Hp.turns]
 split
 ·rename_i hm
  exact h1 h _ hm.1 hm.2 (Hp.EX h1 h2 _)
 ·rename_i hm
  exact h2 h hm
 termination_by h=>h.mu
 decreasing_by exact (by assumption:_/\_).2
def Hp.settle (h:Hp):Hp:=h.drain.turns
def bq (h:Hp) (e:En):En:=if h.JG e.2 then (e.1,none) else e
def bE (h:Hp) (e:En):En:=if h.JG e.1 then (none,none) else e
def Hp.Jk (h:Hp) (n:Nat):Hp:=h.upd n fun o=>{ o with es:=o.es.map (bq h) }
def Hp.JJ (h:Hp) (n:Nat):Hp:=h.upd n fun o=>{ o with es:=o.es.map (bE h) }
def bP (h:Hp) (e:En):En:=if e.2.isNone&&h.JG e.1 then (none,none) else e
def Hp.drop1 (h:Hp) (o:Ob):Ob:=if eP o.col then o else { o with es:=o.es.map (bP h) }
def Hp.EB (h:Hp):Hp:={ h with objs:=h.objs.map (Option.map h.drop1) }
def Hp.alive (h:Hp):Hp:=(h.Eh h.roots).Eh h.pending
def Hp.Ef (h:Hp) (n:Nat):Hp:={ h.upd n (fun o=>{ o with col:=2 }) with grey:=h.grey++[n] }
def Hp.D_ (h:Hp):Hp:={ h.again.foldl Hp.Ef h with again:=[] }
def Hp.GR (h:Hp) (n:Nat):Hp:={ h.upd n (fun o=>{ o with fin:=false }) with pending:=h.pending++[n] }
def Hp.Ej (p:Hp × List Nat) (n:Nat):Hp × List Nat:=if p.1.JK n then (p.1.GR n,p.2) else (p.1,p.2++[n])
def Hp.Ei (h:Hp):Hp:={ (h.finals.foldl Hp.Ej (h,[])).1 with finals:=(h.finals.foldl Hp.Ej (h,[])).2 }
def Hp.JY (h:Hp):Hp:=h.alive.drain.D_.settle
def Hp.at2 (h:Hp):Hp:=(h.weak.foldl Hp.Jk h).Ei
def Hp.at3 (h:Hp):Hp:=(h.Eh h.pending).settle
def Hp.at4 (h:Hp):Hp:=(h.D8++h.weak).foldl Hp.JJ h
def Hp.Jp (h:Hp):Hp:=(h.weak.foldl Hp.Jk h).EB
def Hp.Jz (h:Hp):Hp:={ h with weak:=[],D8:=[],white:=1-h.white,state:=2,D7:=1 }
def Hp.atomic (h:Hp):Hp:=h.JY.at2.at3.at4.Jp.Jz
def Hp.skip (h:Hp) (k:Nat):Nat:=if hk:k<h.objs.length/\h.ob k=none then Hp.skip h (k+1) else k
 termination_by h.objs.length-k
 decreasing_by omega
theorem Hp.EU (h:Hp):∀ k,k<=h.skip k:=by
 intro k
 rw [Hp.skip]
 split
 ·have:=Hp.EU h (k+1)
  omega
 ·exact Nat.le_refl _
 termination_by k=>h.objs.length-k
 decreasing_by omega
theorem Hp.FC (h:Hp):∀ k,k<=h.objs.length->h.skip k<=h.objs.length:=by
 intro k hk
 rw [Hp.skip]
 split
 ·exact Hp.FC h (k+1) (by omega)
 ·exact hk
 termination_by k=>h.objs.length-k
 decreasing_by omega
theorem Hp.Fj (h:Hp):∀ k,¬ (h.skip k<h.objs.length/\h.ob (h.skip k)=none):=by
 intro k
 rw [Hp.skip]
 split
 ·exact Hp.Fj h (k+1)
 ·assumption
 termination_by k=>h.objs.length-k
 decreasing_by omega
theorem Hp.skip_none (h:Hp):∀ k j,k<=j->j<h.skip k->h.ob j=none:=by
 intro k j hkj hj
 rw [Hp.skip] at hj
 split at hj
 ·rename_i hc
  by_cases e:k=j
  ·subst e;exact hc.2
  ·exact Hp.skip_none h (k+1) j (by omega) hj
 ·omega
 termination_by k=>h.objs.length-k
 decreasing_by omega
def Hp.skipped (h:Hp):Hp:={ h with D7:=h.skip h.D7 }
def Hp.D9 (h:Hp):Hp:=match h.ob h.D7 with
 |some o=>if eP o.col&&o.col !=h.white then { h with objs:=h.objs.set h.D7 none,live:=h.live-1,bytes:=h.bytes-o.size,freed:=h.freed++[h.D7],D7:=h.D7+1 }
  else { h.upd h.D7 (fun o=>{ o with col:=h.white }) with D7:=h.D7+1 }
 |none=>h
def Hp.close (h:Hp):Hp:=if h.D7<h.objs.length then h else { h with state:=0,limit:=max (2*h.bytes) 4096,D6:=0 }
def Hp.Ec (h:Hp):Hp:=h.skipped.D9.skipped.close
def Hp.begin (h:Hp):Hp:={ h with state:=1,grey:=[],again:=[],weak:=[],D8:=[] }.alive
def Hp.advance (h:Hp):Hp × Nat:=
 if h.state=2 then (h.Ec,1) else if h.grey=[] then (h.atomic,1) else h.take
theorem Hp.Gz (h:Hp) (hg:h.grey≠[]):1<=h.take.2:=by
 unfold Hp.take
 split
 ·unfold Hp.scan
  split<;>simp only<;>omega
 ·rename_i hn
  simp at hn
  exact absurd hn hg
theorem Hp.Fb (h:Hp):1<=h.advance.2:=by
 unfold Hp.advance
 split
 ·exact Nat.le_refl _
 ·split
  ·exact Nat.le_refl _
  ·rename_i hg
   exact h.Gz hg
def Hp.work (u:Int) (h:Hp):Hp:=if hu:0<u/\h.state≠0 then Hp.work (u-(h.advance.2:Int)) h.advance.1 else h
 termination_by u.toNat
 decreasing_by have:=h.Fb;omega
theorem Hp.Fh (u:Int) (h:Hp) (hu:¬ (0<u/\h.state≠0)):Hp.work u h=h:=by rw [Hp.work,dif_neg hu]
theorem Hp.F6 (u:Int) (h:Hp) (hu:0<u/\h.state≠0):Hp.work u h=Hp.work (u-(h.advance.2:Int)) h.advance.1:=by rw [Hp.work,dif_pos hu]
theorem Hp.EP {P:Int->Hp->Hp->Prop} (h0:∀ u h,¬ (0<u/\h.state≠0)->P u h h) (h1:∀ u h g,0<u->h.state≠0->P (u-(h.advance.2:Int)) h.advance.1 g->P u h g):∀ u h,P u h (Hp.work u h):=by
 intro u h
 by_cases hu:0<u/\h.state≠0
 ·rw [Hp.F6 u h hu]
  exact h1 u h _ hu.1 hu.2 (Hp.EP h0 h1 _ _)
 ·rw [Hp.Fh u h hu]
  exact h0 u h hu
 termination_by u h=>u.toNat
 decreasing_by have:=h.Fb;omega
def Hp.step (u:Int) (h:Hp):Hp:=if h.state=0 then Hp.work (u-1) h.begin else Hp.work u h
def Hp.phi (h:Hp):Nat:=if h.state=0 then 0 else if h.state=2 then h.objs.length-h.D7+1 else h.mu+h.objs.length+2
section
variable {n:Nat}
def Ob.cont (o:Ob):Nat × List En × Bool:=(o.mode,o.es,o.fin)
structure JM (h g:Hp):Prop where
 len:g.objs.length=h.objs.length
 cont:∀ n,(g.ob n).map Ob.cont=(h.ob n).map Ob.cont
 grow:∀ n,g.JK n=true->h.JK n=true
 Im:∀ n o,g.ob n=some o->eP o.col=true->∃ o',h.ob n=some o'/\o'.col=o.col
 again:g.again=h.again
 finals:g.finals=h.finals
 pending:g.pending=h.pending
 roots:g.roots=h.roots
 freed:g.freed=h.freed
 bytes:g.bytes=h.bytes
 live:g.live=h.live
 limit:g.limit=h.limit
 D6:g.D6=h.D6
 state:g.state=h.state
 white:g.white=h.white
 D7:g.D7=h.D7
theorem JM.refl (h:Hp):JM h h:=⟨rfl,fun _=>rfl,fun _ x=>x,fun n o e _=>⟨o,e,rfl⟩,rfl,rfl,rfl,rfl,rfl,rfl,rfl,rfl,rfl,rfl,rfl,rfl⟩
theorem JM.trans {a b c:Hp} (x:JM a b) (y:JM b c):JM a c:=
 ⟨y.len.trans x.len,fun n=>(y.cont n).trans (x.cont n),fun n e=>x.grow n (y.grow n e),
  fun n o e w=>by
   obtain ⟨o1,h1,h2⟩:=y.Im n o e w
   obtain ⟨o2,h3,h4⟩:=x.Im n o1 h1 (by rw [h2];exact w)
   exact ⟨o2,h3,h4.trans h2⟩,
  y.again.trans x.again,y.finals.trans x.finals,y.pending.trans x.pending,y.roots.trans x.roots,y.freed.trans x.freed,y.bytes.trans x.bytes,y.live.trans x.live,y.limit.trans x.limit,y.D6.trans x.D6,y.state.trans x.state,y.white.trans x.white,y.D7.trans x.D7⟩
theorem Hp.Ih (h:Hp) (n m c:Nat):(h.upd n fun o=>{ o with col:=c }).JK m=(if n=m then (match h.ob m with |some _=>eP c|none=>true) else h.JK m):=by
 unfold Hp.JK
 rw [Hp.Ed]
 by_cases e:n=m
 ·rw [if_pos e,if_pos e]
  cases h.ob m<;>rfl
 ·rw [if_neg e,if_neg e]
theorem Hp.FU {h:Hp} {o:Ob} (e:h.ob n=some o):h.JK n=eP o.col:=by unfold Hp.JK;rw [e]
theorem JM.col (h:Hp) (n c:Nat) (hc:eP c=false):JM h (h.upd n fun o=>{ o with col:=c }):=by
 refine ⟨by simp [Hp.upd],fun m=>?_,fun m hm=>?_,fun m o e w=>?_,rfl,rfl,rfl,rfl,rfl,rfl,rfl,rfl,rfl,rfl,rfl,rfl⟩
 ·rw [Hp.Ed]
  split
  ·cases h.ob m<;>rfl
  ·rfl
 ·rw [Hp.Ih] at hm
  split at hm
  ·unfold Hp.JK
   cases hb:h.ob m with
   |none=>rfl
   |some o=>rw [hb] at hm;simp [hc] at hm
  ·exact hm
 ·rw [Hp.Ed] at e
  split at e
  ·cases hb:h.ob m with
   |none=>rw [hb] at e;simp at e
   |some o'=>
    rw [hb] at e
    simp only [Option.map_some,Option.some.injEq] at e
    subst e
    simp [hc] at w
  ·exact ⟨o,e,rfl⟩
theorem JM.lists {h g:Hp} (x:JM h g) (a b c:List Nat):JM h { g with grey:=a,weak:=b,D8:=c }:=
 ⟨x.len,x.cont,x.grow,x.Im,x.again,x.finals,x.pending,x.roots,x.freed,x.bytes,x.live,x.limit,x.D6,x.state,x.white,x.D7⟩
theorem JM.mark (h:Hp) (n:Nat):JM h (h.mark n):=by
 unfold Hp.mark
 split
 ·split
  ·exact (JM.col h n 2 rfl).lists _ _ _
  ·exact JM.refl h
 ·exact JM.refl h
theorem JM.Eo (h:Hp) (v:HV):JM h (h.Eo v):=by
 unfold Hp.Eo
 split
 ·exact JM.mark h _
 ·exact JM.refl h
theorem JM.fold {α:Type} (f:Hp->α->Hp) (hf:∀ h x,JM h (f h x)):∀ (l:List α) (h:Hp),JM h (l.foldl f h)
 | [],h=>JM.refl h
 |a::l,h=>(hf h a).trans (JM.fold f hf l (f h a))
theorem JM.Eh (h:Hp) (l:List Nat):JM h (h.Eh l):=JM.fold _ JM.mark l h
theorem JM.key1 (h:Hp) (e:En):JM h (h.key1 e):=by
 unfold Hp.key1
 split
 ·exact JM.Eo h _
 ·exact JM.refl h
theorem JM.Em (h:Hp) (e:En):JM h (h.Em e):=(JM.key1 h e).trans (JM.Eo _ _)
theorem JM.Ea (p:Hp × Bool) (e:En):JM p.1 (Hp.Ea p e).1:=by
 unfold Hp.Ea
 split
 ·exact JM.Eo _ _
 ·exact JM.refl _
theorem JM.Fa:∀ (es:List En) (p:Hp × Bool),JM p.1 (es.foldl Hp.Ea p).1
 | [],p=>JM.refl _
 |e::es,p=>(JM.Ea p e).trans (JM.Fa es _)
theorem JM.spread (h:Hp) (es:List En):JM h (h.spread es).1:=JM.Fa es (h,false)
theorem JM.Ey (h:Hp) (n:Nat) (o:Ob):JM h (h.Ey n o):=by
 unfold Hp.Ey
 split
 ·exact JM.fold _ JM.Em _ h
 ·split
  ·exact ((JM.refl h).lists _ _ _).trans (JM.spread _ _)
  ·split
   ·exact (JM.fold _ JM.key1 _ h).lists _ _ _
   ·exact (JM.refl h).lists _ _ _
theorem JM.scan (h:Hp) (n:Nat):JM h (h.scan n).1:=by
 unfold Hp.scan
 split
 ·exact (JM.col h n 3 rfl).trans (JM.Ey _ _ _)
 ·exact JM.refl h
theorem JM.take (h:Hp):JM h h.take.1:=by
 unfold Hp.take
 split
 ·exact ((JM.refl h).lists _ _ _).trans (JM.scan _ _)
 ·exact JM.refl h
theorem JM.drain (h:Hp):JM h h.drain:=Hp.EG (P:=JM) (fun h _=>JM.refl h) (fun h g _ x=>(JM.take h).trans x) h
theorem JM.over (k:Nat) (p:Hp × Bool):JM p.1 (Hp.over k p).1:=
 Hp.EJ (P:=fun _ p q=>JM p.1 q.1) (fun k p _=>JM.refl _) (fun k p q hk _ x=>(JM.spread _ _).trans ((JM.drain _).trans x)) (fun k p q hk _ x=>(JM.spread _ _).trans x) k p
theorem JM.turns (h:Hp):JM h h.turns:=Hp.EX (P:=JM) (fun h g _ _ x=>(JM.over 0 (h,false)).trans x) (fun h _=>JM.over 0 (h,false)) h
theorem JM.settle (h:Hp):JM h h.settle:=(JM.drain h).trans (JM.turns _)
theorem JM.alive (h:Hp):JM h h.alive:=(JM.Eh h _).trans (JM.Eh _ _)
theorem JM.Ef (h:Hp) (n:Nat):JM h (h.Ef n):=(JM.col h n 2 rfl).lists _ _ _
def Hp.Lv (h:Hp) (n:Nat):Prop:=∃ o,h.ob n=some o
theorem JM.lv {h g:Hp} (x:JM h g) (n:Nat):g.Lv n↔h.Lv n:=by
 have:=x.cont n
 unfold Hp.Lv
 cases h1:g.ob n<;>cases h2:h.ob n<;>simp [h1,h2] at this ⊢
theorem JM.ob {h g:Hp} (x:JM h g) {n:Nat} {o:Ob} (e:g.ob n=some o):∃ o',h.ob n=some o'/\o'.mode=o.mode/\o'.es=o.es/\o'.fin=o.fin:=by
 have:=x.cont n
 rw [e] at this
 cases h2:h.ob n with
 |none=>simp [h2] at this
 |some o'=>
  simp [h2,Ob.cont] at this
  exact ⟨o',rfl,this.1.symm,this.2.1.symm,this.2.2.symm⟩
theorem JM.Fw {h g:Hp} (x:JM h g) (n:Nat):g.Fw n=h.Fw n:=by
 have:=x.cont n
 unfold Hp.Fw
 cases h1:g.ob n<;>cases h2:h.ob n<;>simp [h1,h2,Ob.cont] at this ⊢
 exact this.2.1
theorem JM.dark {h g:Hp} (x:JM h g) (e:h.JK n=false):g.JK n=false:=by
 cases hg:g.JK n
 ·rfl
 ·rw [x.grow n hg] at e;cases e
def bn (v:HV):List Nat:=match v with
 |some (.inr r)=>[r]
 |_=>[]
def bM (e:En):List Nat:=bn e.1++bn e.2
def Hp.Closed (h:Hp):Prop:=∀ n o,h.ob n=some o->∀ e∈o.es,∀ r∈bM e,h.Lv r
theorem JM.closed {h g:Hp} (x:JM h g) (c:h.Closed):g.Closed:=by
 intro n o e en he r hr
 obtain ⟨o',h1,_,h2,_⟩:=x.ob e
 exact (x.lv r).2 (c n o' h1 en (by rw [h2];exact he) r hr)
theorem pY {h:Hp} {v:HV} (e:h.JG v=true):∃ r,v=some (.inr r)/\h.JK r=true:=by
 unfold Hp.JG at e
 split at e
 ·exact ⟨_,rfl,e⟩
 ·cases e
theorem fV {h:Hp} {v:HV} (e:h.JG v=false):∀ r∈bn v,h.JK r=false:=by
 intro r hr
 unfold bn at hr
 split at hr
 ·simp at hr;subst hr;exact e
 ·simp at hr
theorem Hp.Gn {h:Hp} (l:h.Lv n):(h.mark n).JK n=false:=by
 obtain ⟨o,e⟩:=l
 unfold Hp.mark
 rw [e]
 simp only
 split
 ·unfold Hp.JK
  have:=h.Ed n n (fun o=>{ o with col:=2 })
  rw [if_pos rfl,e] at this
  show (match (h.upd n fun o=>{ o with col:=2 }).ob n with |some o=>eP o.col|none=>true)=false
  rw [this]
  rfl
 ·rename_i hw
  rw [Hp.FU e]
  simpa using hw
theorem Hp.Fz {h:Hp} {v:HV} (l:∀ r∈bn v,h.Lv r):∀ r∈bn v,(h.Eo v).JK r=false:=by
 intro r hr
 unfold bn at hr
 split at hr
 ·simp at hr;subst hr
  exact Hp.Gn (l _ (by simp [bn]))
 ·simp at hr
end
section
variable {S:Nat->Prop} {n:Nat} {o o':Ob}
def Sc (h:Hp) (n:Nat) (o:Ob):Prop:=
 (o.mode=0->∀ e∈o.es,e.2.isSome=true->∀ r∈bM e,h.JK r=false)/\(o.mode=1->n∈h.D8)/\
 (o.mode=2->∀ e∈o.es,e.2.isSome=true->∀ r∈bn e.1,h.JK r=false)/\(2<=o.mode->n∈h.weak)
theorem Sc.mono {h g:Hp} (s:Sc h n o) (hm:o'.mode=o.mode) (he:o'.es=o.es) (hw:∀ r,g.JK r=true->h.JK r=true) (h1:∀ r∈h.D8,r∈g.D8) (h2:∀ r∈h.weak,r∈g.weak):Sc g n o':=by
 have hd:∀ r,h.JK r=false->g.JK r=false:=fun r e=>by
  cases hg:g.JK r
  ·rfl
  ·rw [hw r hg] at e;cases e
 obtain ⟨a,b,c,d⟩:=s
 refine ⟨fun x e hee hs r hr=>hd r (a (hm ▸ x) e (he ▸ hee) hs r hr),fun x=>h1 n (b (hm ▸ x)),fun x e hee hs r hr=>hd r (c (hm ▸ x) e (he ▸ hee) hs r hr),fun x=>h2 n (d (hm ▸ x))⟩
structure Jl (h:Hp) (S:Nat->Prop):Prop where
 col:∀ n o,h.ob n=some o->o.col<=3
 Jq:∀ n o,h.ob n=some o->o.col=2->n∈h.grey∨n∈h.again
 blk:∀ n o,h.ob n=some o->o.col=3->¬ S n->Sc h n o
 wc:∀ n o,h.ob n=some o->eP o.col=true->o.col=h.white
 ll:∀ n,n∈h.grey∨n∈h.again∨n∈h.weak∨n∈h.D8->h.Lv n
 cl:h.Closed
structure I_ (h g:Hp):Prop where
 md:JM h g
 bl:∀ n o,g.ob n=some o->o.col=3->∃ o',h.ob n=some o'/\o'.col=3
 gr:∀ n o,g.ob n=some o->o.col=2->(∃ o',h.ob n=some o'/\o'.col=2)∨n∈g.grey
 le:∀ n o,g.ob n=some o->o.col<=3∨∃ o',h.ob n=some o'/\o'.col=o.col
 lg:∀ n∈h.grey,n∈g.grey
 lv:∀ n∈g.grey,n∈h.grey∨h.Lv n
 ep:g.D8=h.D8
 wk:g.weak=h.weak
theorem I_.refl (h:Hp):I_ h h:=⟨JM.refl h,fun n o e c=>⟨o,e,c⟩,fun n o e c=>.inl ⟨o,e,c⟩,fun n o e=>.inr ⟨o,e,rfl⟩,fun _ x=>x,fun _ x=>.inl x,rfl,rfl⟩
theorem I_.trans {a b c:Hp} (x:I_ a b) (y:I_ b c):I_ a c:=by
 refine ⟨x.md.trans y.md,fun n o e k=>?_,fun n o e k=>?_,fun n o e=>?_,fun n h=>y.lg n (x.lg n h),fun n h=>?_,y.ep.trans x.ep,y.wk.trans x.wk⟩
 ·obtain ⟨o1,h1,h2⟩:=y.bl n o e k
  exact x.bl n o1 h1 h2
 ·rcases y.gr n o e k with ⟨o1,h1,h2⟩|h1
  ·rcases x.gr n o1 h1 h2 with h3|h3
   ·exact .inl h3
   ·exact .inr (y.lg n h3)
  ·exact .inr h1
 ·rcases y.le n o e with h1|⟨o1,h1,h2⟩
  ·exact .inl h1
  ·rcases x.le n o1 h1 with h3|⟨o2,h3,h4⟩
   ·exact .inl (h2 ▸ h3)
   ·exact .inr ⟨o2,h3,h4.trans h2⟩
 ·rcases y.lv n h with h1|h1
  ·exact x.lv n h1
  ·exact .inr ((x.md.lv n).1 h1)
theorem I_.Ef (h:Hp) (n:Nat) (l:h.Lv n):I_ h (h.Ef n):=by
 refine ⟨JM.Ef h n,fun m o e k=>?_,fun m o e k=>?_,fun m o e=>?_,fun m x=>List.mem_append_left _ x,fun m x=>?_,rfl,rfl⟩
 ·have e':(h.upd n fun o=>{ o with col:=2 }).ob m=some o:=e
  rw [Hp.Ed] at e'
  split at e'
  ·cases hb:h.ob m with
   |none=>rw [hb] at e';simp at e'
   |some o'=>rw [hb] at e';simp at e';subst e';simp at k
  ·exact ⟨o,e',k⟩
 ·have e':(h.upd n fun o=>{ o with col:=2 }).ob m=some o:=e
  rw [Hp.Ed] at e'
  split at e'
  ·rename_i hnm
   right
   show m∈h.grey++[n]
   simp [hnm]
  ·exact .inl ⟨o,e',k⟩
 ·have e':(h.upd n fun o=>{ o with col:=2 }).ob m=some o:=e
  rw [Hp.Ed] at e'
  split at e'
  ·cases hb:h.ob m with
   |none=>rw [hb] at e';simp at e'
   |some o'=>rw [hb] at e';simp at e';subst e';exact .inl (by simp)
  ·exact .inr ⟨o,e',rfl⟩
 ·have x':m∈h.grey++[n]:=x
  rcases List.mem_append.1 x' with y|y
  ·exact .inl y
  ·simp at y;subst y;exact .inr l
theorem Hp.mark_eq (h:Hp) (n:Nat):h.mark n=h∨(h.Lv n/\h.JK n=true/\h.mark n=h.Ef n):=by
 unfold Hp.mark
 split
 ·rename_i o ho
  split
  ·rename_i hw
   exact .inr ⟨⟨o,ho⟩,by rw [Hp.FU ho];exact hw,rfl⟩
  ·exact .inl rfl
 ·exact .inl rfl
theorem I_.mark (h:Hp) (n:Nat):I_ h (h.mark n):=by
 rcases h.mark_eq n with e|⟨l,_,e⟩
 ·rw [e];exact I_.refl h
 ·rw [e];exact I_.Ef h n l
theorem I_.Eo (h:Hp) (v:HV):I_ h (h.Eo v):=by
 unfold Hp.Eo
 split
 ·exact I_.mark h _
 ·exact I_.refl h
theorem I_.fold {α:Type} (f:Hp->α->Hp) (hf:∀ h x,I_ h (f h x)):∀ (l:List α) (h:Hp),I_ h (l.foldl f h)
 | [],h=>I_.refl h
 |a::l,h=>(hf h a).trans (I_.fold f hf l (f h a))
theorem I_.Eh (h:Hp) (l:List Nat):I_ h (h.Eh l):=I_.fold _ I_.mark l h
theorem I_.key1 (h:Hp) (e:En):I_ h (h.key1 e):=by
 unfold Hp.key1
 split
 ·exact I_.Eo h _
 ·exact I_.refl h
theorem I_.Em (h:Hp) (e:En):I_ h (h.Em e):=(I_.key1 h e).trans (I_.Eo _ _)
theorem I_.Ea (p:Hp × Bool) (e:En):I_ p.1 (Hp.Ea p e).1:=by
 unfold Hp.Ea
 split
 ·exact I_.Eo _ _
 ·exact I_.refl _
theorem I_.Fa:∀ (es:List En) (p:Hp × Bool),I_ p.1 (es.foldl Hp.Ea p).1
 | [],p=>I_.refl _
 |e::es,p=>(I_.Ea p e).trans (I_.Fa es _)
theorem I_.spread (h:Hp) (es:List En):I_ h (h.spread es).1:=I_.Fa es (h,false)
theorem I_.alive (h:Hp):I_ h h.alive:=(I_.Eh h _).trans (I_.Eh _ _)
theorem Jl.JN {h g:Hp} (t:Jl h S) (x:I_ h g):Jl g S:=by
 refine ⟨fun n o e=>?_,fun n o e k=>?_,fun n o e k hs=>?_,fun n o e w=>?_,fun n hn=>?_,x.md.closed t.cl⟩
 ·rcases x.le n o e with h1|⟨o',h1,h2⟩
  ·exact h1
  ·rw [<-h2];exact t.col n o' h1
 ·rcases x.gr n o e k with ⟨o',h1,h2⟩|h1
  ·rcases t.Jq n o' h1 h2 with h3|h3
   ·exact .inl (x.lg n h3)
   ·exact .inr (by rw [x.md.again];exact h3)
  ·exact .inl h1
 ·obtain ⟨o',h1,h2⟩:=x.bl n o e k
  obtain ⟨o2,h3,h4,h5,_⟩:=x.md.ob e
  rw [h1] at h3
  cases h3
  exact (t.blk n o' h1 h2 hs).mono h4.symm h5.symm x.md.grow (fun r hr=>by rw [x.ep];exact hr) (fun r hr=>by rw [x.wk];exact hr)
 ·obtain ⟨o',h1,h2⟩:=x.md.Im n o e w
  rw [x.md.white,<-h2]
  exact t.wc n o' h1 (by rw [h2];exact w)
 ·refine (x.md.lv n).2 ?_
  rcases hn with h1|h1|h1|h1
  ·rcases x.lv n h1 with h2|h2
   ·exact t.ll n (.inl h2)
   ·exact h2
  ·exact t.ll n (.inr (.inl (by rw [<-x.md.again];exact h1)))
  ·exact t.ll n (.inr (.inr (.inl (by rw [<-x.wk];exact h1))))
  ·exact t.ll n (.inr (.inr (.inr (by rw [<-x.ep];exact h1))))
theorem nk:∀ (l:List En) (h:Hp),(∀ e∈l,∀ r∈bM e,h.Lv r)->∀ e∈l,e.2.isSome=true->∀ r∈bM e,(l.foldl Hp.Em h).JK r=false
 | [],h,_,e,he,_,_,_=>by simp at he
 |a::l,h,hl,e,he,hs,r,hr=>by
  simp only [List.foldl_cons]
  rcases List.mem_cons.1 he with rfl|he'
  ·refine (JM.fold _ JM.Em l _).dark ?_
   unfold Hp.Em Hp.key1
   rw [if_pos hs]
   rcases List.mem_append.1 hr with h1|h1
   ·exact (JM.Eo _ _).dark (Hp.Fz (fun x hx=>hl _ (List.mem_cons_self) x (List.mem_append_left _ hx)) r h1)
   ·exact Hp.Fz (fun x hx=>((JM.Eo h e.1).lv x).2 (hl _ (List.mem_cons_self) x (List.mem_append_right _ hx))) r h1
  ·exact nk l _ (fun e he r hr=>((JM.Em h a).lv r).2 (hl e (List.mem_cons_of_mem _ he) r hr)) e he' hs r hr
theorem qR:∀ (l:List En) (h:Hp),(∀ e∈l,∀ r∈bM e,h.Lv r)->∀ e∈l,e.2.isSome=true->∀ r∈bn e.1,(l.foldl Hp.key1 h).JK r=false
 | [],h,_,e,he,_,_,_=>by simp at he
 |a::l,h,hl,e,he,hs,r,hr=>by
  simp only [List.foldl_cons]
  rcases List.mem_cons.1 he with rfl|he'
  ·refine (JM.fold _ JM.key1 l _).dark ?_
   unfold Hp.key1
   rw [if_pos hs]
   exact Hp.Fz (fun x hx=>hl _ (List.mem_cons_self) x (List.mem_append_left _ hx)) r hr
  ·exact qR l _ (fun e he r hr=>((JM.key1 h a).lv r).2 (hl e (List.mem_cons_of_mem _ he) r hr)) e he' hs r hr
end
section
variable {S:Nat->Prop} {gs:List Nat} {h:Hp} {n:Nat}
def No:Nat->Prop:=fun _=>False
theorem Jl.lists (t:Jl h S) (n:Nat) (hn:h.Lv n) (a b:List Nat) (ha:a=h.D8∨a=h.D8++[n]) (hb:b=h.weak∨b=h.weak++[n]):Jl { h with D8:=a,weak:=b } S:=by
 have ha1:∀ r∈h.D8,r∈a:=by rcases ha with rfl|rfl<;>simp_all
 have hb1:∀ r∈h.weak,r∈b:=by rcases hb with rfl|rfl<;>simp_all
 refine ⟨t.col,t.Jq,fun m o e k hs=>(t.blk m o e k hs).mono rfl rfl (fun _ x=>x) ha1 hb1,t.wc,fun m hm=>?_,t.cl⟩
 rcases hm with h1|h1|h1|h1
 ·exact t.ll m (.inl h1)
 ·exact t.ll m (.inr (.inl h1))
 ·have h1':m∈b:=h1
  rcases hb with rfl|rfl
  ·exact t.ll m (.inr (.inr (.inl h1')))
  ·rcases List.mem_append.1 h1' with h2|h2
   ·exact t.ll m (.inr (.inr (.inl h2)))
   ·simp at h2;subst h2;exact hn
 ·have h1':m∈a:=h1
  rcases ha with rfl|rfl
  ·exact t.ll m (.inr (.inr (.inr h1')))
  ·rcases List.mem_append.1 h1' with h2|h2
   ·exact t.ll m (.inr (.inr (.inr h2)))
   ·simp at h2;subst h2;exact hn
theorem Jl.done (t:Jl h (fun m=>S m∨m=n)) (hs:∀ o,h.ob n=some o->Sc h n o):Jl h S:=by
 refine ⟨t.col,t.Jq,fun m o e k hS=>?_,t.wc,t.ll,t.cl⟩
 by_cases hm:m=n
 ·subst hm;exact hs o e
 ·exact t.blk m o e k (fun x=>x.elim hS hm)
theorem Jl.pop (t:Jl h S) (hg:h.grey=gs++[n]):Jl ({ h with grey:=gs }.upd n fun o=>{ o with col:=3 }) (fun m=>S m∨m=n):=by
 have hx:=JM.col { h with grey:=gs } n 3 rfl
 have hob:∀ m o,({ h with grey:=gs }.upd n fun o=>{ o with col:=3 }).ob m=some o->(m≠n/\h.ob m=some o)∨(m=n/\o.col=3):=by
  intro m o e
  rw [Hp.Ed] at e
  split at e
  ·rename_i hnm
   right
   cases hb:Hp.ob { h with grey:=gs } m with
   |none=>rw [hb] at e;simp at e
   |some o'=>rw [hb] at e;simp at e;subst e;exact ⟨hnm.symm,rfl⟩
  ·rename_i hnm
   exact .inl ⟨fun x=>hnm x.symm,e⟩
 refine ⟨fun m o e=>?_,fun m o e k=>?_,fun m o e k hs=>?_,fun m o e w=>?_,fun m hm=>?_,hx.closed t.cl⟩
 ·rcases hob m o e with ⟨_,h1⟩|⟨_,h1⟩
  ·exact t.col m o h1
  ·omega
 ·rcases hob m o e with ⟨h0,h1⟩|⟨_,h1⟩
  ·rcases t.Jq m o h1 k with h2|h2
   ·rw [hg] at h2
    rcases List.mem_append.1 h2 with h3|h3
    ·exact .inl h3
    ·simp at h3;exact absurd h3 h0
   ·exact .inr h2
  ·omega
 ·rcases hob m o e with ⟨h0,h1⟩|⟨h0,h1⟩
  ·exact (t.blk m o h1 k (fun x=>hs (.inl x))).mono rfl rfl hx.grow (fun _ x=>x) (fun _ x=>x)
  ·exact absurd (.inr h0) hs
 ·rcases hob m o e with ⟨_,h1⟩|⟨_,h1⟩
  ·exact t.wc m o h1 w
  ·rw [h1] at w;cases w
 ·refine (hx.lv m).2 ?_
  show h.Lv m
  rcases hm with h1|h1|h1|h1
  ·exact t.ll m (.inl (by rw [hg];exact List.mem_append_left _ h1))
  ·exact t.ll m (.inr (.inl h1))
  ·exact t.ll m (.inr (.inr (.inl h1)))
  ·exact t.ll m (.inr (.inr (.inr h1)))
theorem Jl.Ey {h:Hp} {n:Nat} {o:Ob} (t:Jl h (fun m=>No m∨m=n)) (hm:∃ o',h.ob n=some o'/\o'.mode=o.mode/\o'.es=o.es):Jl (h.Ey n o) No:=by
 obtain ⟨o',e,hmo,hes⟩:=hm
 have hl:∀ en∈o.es,∀ r∈bM en,h.Lv r:=fun en he r hr=>t.cl n o' e en (by rw [hes];exact he) r hr
 have key:∀ g:Hp,JM h g->∀ o2,g.ob n=some o2->o2.mode=o.mode/\o2.es=o.es:=by
  intro g hk o2 h2
  obtain ⟨o3,h3,h4,h5,_⟩:=hk.ob h2
  rw [e] at h3;cases h3
  exact ⟨h4.symm.trans hmo,h5.symm.trans hes⟩
 unfold Hp.Ey
 split
 ·rename_i h0
  have hk:=I_.fold _ I_.Em o.es h
  refine (t.JN hk).done (fun o2 h2=>?_)
  obtain ⟨h3,h4⟩:=key _ hk.md o2 h2
  refine ⟨fun _ en he hs r hr=>nk o.es h hl en (h4 ▸ he) hs r hr,fun x=>?_,fun x=>?_,fun x=>?_⟩
  ·omega
  ·omega
  ·omega
 ·split
  ·rename_i h0 h1
   have t1:=t.lists n ⟨o',e⟩ (h.D8++[n]) h.weak (.inr rfl) (.inl rfl)
   have hk:=I_.spread { h with D8:=h.D8++[n] } o.es
   refine (t1.JN hk).done (fun o2 h2=>?_)
   obtain ⟨h3,h4⟩:=key _ (((JM.refl h).lists _ _ _).trans hk.md) o2 h2
   refine ⟨fun x=>?_,fun x=>?_,fun x=>?_,fun x=>?_⟩
   ·omega
   ·rw [hk.ep];simp
   ·omega
   ·omega
  ·split
   ·rename_i h0 h1 h2'
    have hk:=I_.fold _ I_.key1 o.es h
    have t1:=(t.JN hk).lists n ((hk.md.lv n).2 ⟨o',e⟩) (o.es.foldl Hp.key1 h).D8 ((o.es.foldl Hp.key1 h).weak++[n]) (.inl rfl) (.inr rfl)
    refine t1.done (fun o2 h2=>?_)
    obtain ⟨h3,h4⟩:=key _ (hk.md.lists _ _ _) o2 h2
    refine ⟨fun x=>?_,fun x=>?_,fun x en he hs r hr=>?_,fun x=>?_⟩
    ·omega
    ·omega
    ·exact qR o.es h hl en (h4 ▸ he) hs r hr
    ·simp
   ·rename_i h0 h1 h2'
    have t1:=t.lists n ⟨o',e⟩ h.D8 (h.weak++[n]) (.inl rfl) (.inr rfl)
    refine t1.done (fun o2 h2=>?_)
    obtain ⟨h3,h4⟩:=key _ ((JM.refl h).lists _ _ _) o2 h2
    refine ⟨fun x=>?_,fun x=>?_,fun x=>?_,fun x=>?_⟩
    ·omega
    ·omega
    ·omega
    ·simp
theorem Jl.take {h:Hp} (t:Jl h No):Jl h.take.1 No:=by
 unfold Hp.take
 split
 ·rename_i n hn
  have hg:h.grey=h.grey.dropLast++[n]:=by
   obtain ⟨ys,hy⟩:=List.getLast?_eq_some_iff.1 hn
   rw [hy,List.dropLast_concat]
  have tp:=t.pop hg
  unfold Hp.scan
  split
  ·rename_i o ho
   refine tp.Ey ⟨{ o with col:=3 },?_,rfl,rfl⟩
   rw [Hp.Ed,if_pos rfl,ho]
   rfl
  ·rename_i ho
   obtain ⟨o,e⟩:=t.ll n (.inl (by rw [hg];simp))
   have ho':h.ob n=none:=ho
   rw [e] at ho';cases ho'
 ·exact t
theorem Jl.drain {h:Hp} (t:Jl h No):Jl h.drain No:=Hp.EG (P:=fun h g=>Jl h No->Jl g No) (fun h _ t=>t) (fun h g _ x t=>x t.take) h t
theorem Jl.over {k:Nat} {p:Hp × Bool} (t:Jl p.1 No):Jl (Hp.over k p).1 No:=
 Hp.EJ (P:=fun _ p q=>Jl p.1 No->Jl q.1 No) (fun k p _ t=>t) (fun k p q hk _ x t=>x (t.JN (I_.spread _ _)).drain) (fun k p q hk _ x t=>x (t.JN (I_.spread _ _))) k p t
theorem Jl.turns {h:Hp} (t:Jl h No):Jl h.turns No:=Hp.EX (P:=fun h g=>Jl h No->Jl g No) (fun h g _ _ x t=>x (Jl.over (p:=(h,false)) t)) (fun h _ t=>Jl.over (p:=(h,false)) t) h t
theorem Jl.settle {h:Hp} (t:Jl h No):Jl h.settle No:=t.drain.turns
theorem Jl.Io:∀ (l:List Nat) (h:Hp),Jl h No->(∀ n∈l,h.Lv n)->Jl (l.foldl Hp.Ef h) No
 | [],h,t,_=>t
 |a::l,h,t,hl=>Jl.Io l _ (t.JN (I_.Ef h a (hl a (List.mem_cons_self)))) (fun n hn=>((JM.Ef h a).lv n).2 (hl n (List.mem_cons_of_mem _ hn)))
theorem lY:∀ (l:List Nat) (h:Hp),(l.foldl Hp.Ef h).grey=h.grey++l/\(l.foldl Hp.Ef h).again=h.again
 | [],h=>by simp
 |a::l,h=>by
  obtain ⟨h1,h2⟩:=lY l (h.Ef a)
  refine ⟨?_,h2.trans rfl⟩
  simp only [List.foldl_cons]
  rw [h1]
  simp [Hp.Ef]
theorem Jl.D_ {h:Hp} (t:Jl h No):Jl h.D_ No:=by
 have t1:=Jl.Io h.again h t (fun n hn=>t.ll n (.inr (.inl hn)))
 have hg:=lY h.again h
 refine ⟨t1.col,fun n o e k=>?_,t1.blk,t1.wc,fun n hn=>?_,t1.cl⟩
 ·rcases t1.Jq n o e k with h1|h1
  ·exact .inl h1
  ·rw [hg.2] at h1
   refine .inl ?_
   show n∈(h.again.foldl Hp.Ef h).grey
   rw [hg.1]
   exact List.mem_append_right _ h1
 ·refine t1.ll n ?_
  rcases hn with h1|h1|h1|h1
  ·exact .inl h1
  ·have h1':n∈([]:List Nat):=h1
   simp at h1'
  ·exact .inr (.inr (.inl h1))
  ·exact .inr (.inr (.inr h1))
end
section
variable {es:List En}
theorem jc:∀ (es:List En) (p:Hp × Bool),(es.foldl Hp.Ea p).2=false->es.foldl Hp.Ea p=p/\∀ e∈es,p.1.JG e.1=false->p.1.JG e.2=false
 | [],p,_=>⟨rfl,fun _ h=>by simp at h⟩
 |a::l,p,h=>by
  simp only [List.foldl_cons] at h ⊢
  obtain ⟨h1,h2⟩:=jc l _ h
  have hp:(Hp.Ea p a).2=false:=by rw [h1] at h;exact h
  have hc:Hp.Ea p a=p/\(p.1.JG a.1=false->p.1.JG a.2=false):=by
   unfold Hp.Ea at hp ⊢
   split
   ·rename_i hx;rw [if_pos hx] at hp;simp at hp
   ·rename_i hx
    refine ⟨rfl,fun e=>?_⟩
    cases hv:p.1.JG a.2
    ·rfl
    ·simp [e,hv] at hx
  rw [h1,hc.1]
  refine ⟨rfl,fun e he=>?_⟩
  rcases List.mem_cons.1 he with rfl|he'
  ·exact hc.2
  ·have:=h2 e he'
   rw [hc.1] at this
   exact this
theorem Hp.FE {h:Hp} (e:(h.spread es).2=false):(h.spread es).1=h/\∀ e∈es,h.JG e.1=false->h.JG e.2=false:=by
 obtain ⟨h1,h2⟩:=jc es (h,false) e
 exact ⟨by unfold Hp.spread;rw [h1],h2⟩
theorem jF:∀ (es:List En) (p:Hp × Bool),(∀ e∈es,∀ r∈bM e,p.1.Lv r)->(p.2=true->p.1.grey≠[])->(es.foldl Hp.Ea p).2=true->(es.foldl Hp.Ea p).1.grey≠[]
 | [],p,_,h,e=>h e
 |a::l,p,hl,h,e=>by
  simp only [List.foldl_cons] at e ⊢
  refine jF l _ (fun e he r hr=>((JM.Ea p a).lv r).2 (hl e (List.mem_cons_of_mem _ he) r hr)) (fun hx=>?_) e
  unfold Hp.Ea at hx ⊢
  split
  ·rename_i hc
   simp only [Bool.and_eq_true,Bool.not_eq_true'] at hc
   obtain ⟨r,hr,hw⟩:=pY hc.2
   have hlr:=hl a (List.mem_cons_self) r (by simp [bM,bn,hr])
   show (p.1.Eo a.2).grey≠[]
   rw [hr]
   show (p.1.mark r).grey≠[]
   obtain ⟨o,ho⟩:=hlr
   have:p.1.mark r=p.1.Ef r:=by
    unfold Hp.mark
    rw [ho]
    simp only
    rw [if_pos (by rw [<-Hp.FU ho];exact hw)]
    rfl
   rw [this]
   simp [Hp.Ef]
  ·rename_i hc
   rw [if_neg hc] at hx
   exact h hx
theorem Hp.Gs {h:Hp} (hl:∀ e∈es,∀ r∈bM e,h.Lv r) (e:(h.spread es).2=true):(h.spread es).1.grey≠[]:=jF es (h,false) hl (fun x=>by cases x) e
theorem Hp.GK:∀ (k:Nat) (p:Hp × Bool),(Hp.over k p).2=false->Hp.over k p=p/\∀ j (hj:j<p.1.D8.length),k<=j->∀ e∈p.1.Fw (p.1.D8[j]),p.1.JG e.1=false->p.1.JG e.2=false:=by
 intro k p
 refine Hp.EJ (P:=fun k p q=>q.2=false->q=p/\∀ j (hj:j<p.1.D8.length),k<=j->∀ e∈p.1.Fw (p.1.D8[j]),p.1.JG e.1=false->p.1.JG e.2=false) ?_ ?_ ?_ k p
 ·exact fun k p hk _=>⟨rfl,fun j hj hkj=>absurd hj (by omega)⟩
 ·intro k p q hk hs x e
  obtain ⟨h1,_⟩:=x e
  rw [h1] at e
  simp at e
 ·intro k p q hk hs x e
  obtain ⟨h1,h2⟩:=x e
  obtain ⟨h3,h4⟩:=Hp.FE hs
  rw [h3] at h1 h2
  refine ⟨h1,fun j hj hkj=>?_⟩
  by_cases hjk:j=k
  ·subst hjk;exact h4
  ·exact h2 j hj (by omega)
theorem Hp.GX (k:Nat) (p:Hp × Bool):Jl p.1 No->(Hp.over k p).1.mu<=p.1.mu/\((Hp.over k p).2=true->p.2=true∨(Hp.over k p).1.mu<p.1.mu):=by
 refine Hp.EJ (P:=fun k p q=>Jl p.1 No->q.1.mu<=p.1.mu/\(q.2=true->p.2=true∨q.1.mu<p.1.mu)) ?_ ?_ ?_ k p
 ·exact fun k p _ _=>⟨Nat.le_refl _,fun h=>.inl h⟩
 ·intro k p q hk hs x t
  have hlk:p.1.Lv (p.1.D8[k]):=t.ll _ (.inr (.inr (.inr (List.getElem_mem hk))))
  obtain ⟨o,ho⟩:=hlk
  have hl:∀ e∈p.1.Fw (p.1.D8[k]),∀ r∈bM e,p.1.Lv r:=by
   intro e he r hr
   refine t.cl _ o ho e ?_ r hr
   unfold Hp.Fw at he
   rw [ho] at he
   exact he
  have h1:=Hp.Ia _ (Hp.Gs hl hs)
  rw [Hp.Ez] at h1
  obtain ⟨h2,_⟩:=x (t.JN (I_.spread _ _)).drain
  simp only at h2
  exact ⟨by omega,fun _=>.inr (by omega)⟩
 ·intro k p q hk hs x t
  obtain ⟨h2,h3⟩:=x (t.JN (I_.spread _ _))
  simp only [Hp.Ez] at h2 h3
  exact ⟨h2,h3⟩
theorem Hp.Gp (k:Nat) (p:Hp × Bool):p.1.grey=[]->(Hp.over k p).1.grey=[]:=by
 refine Hp.EJ (P:=fun k p q=>p.1.grey=[]->q.1.grey=[]) (fun k p _ h=>h) ?_ ?_ k p
 ·intro k p q hk hs x _
  exact x (Hp.FT _)
 ·intro k p q hk hs x h
  refine x ?_
  show (p.1.spread _).1.grey=[]
  rw [(Hp.FE hs).1]
  exact h
def Dk (h:Hp):Prop:=∀ n∈h.D8,∀ e∈h.Fw n,h.JG e.1=false->h.JG e.2=false
theorem Hp.G5 (h:Hp):Jl h No->h.grey=[]->h.turns.grey=[]/\Dk h.turns:=by
 refine Hp.EX (P:=fun h g=>Jl h No->h.grey=[]->g.grey=[]/\Dk g) ?_ ?_ h
 ·intro h g h1 h2 x t hg
  exact x (Jl.over (p:=(h,false)) t) (Hp.Gp 0 (h,false) hg)
 ·intro h hn t hg
  refine ⟨Hp.Gp 0 (h,false) hg,?_⟩
  cases h2:(Hp.over 0 (h,false)).2 with
  |true=>
   rcases (Hp.GX 0 (h,false) t).2 h2 with h3|h3
   ·cases h3
   ·exact absurd ⟨h2,h3⟩ hn
  |false=>
   obtain ⟨h3,h4⟩:=Hp.GK 0 (h,false) h2
   rw [h3]
   intro n hn e he
   obtain ⟨j,hj,rfl⟩:=List.getElem_of_mem hn
   exact h4 j hj (Nat.zero_le _) e he
theorem Hp.Fx {h:Hp} (t:Jl h No):h.settle.grey=[]/\Dk h.settle:=Hp.G5 _ t.drain (Hp.FT h)
theorem Hp.FM {h:Hp} (t:Jl h No) (e:(Hp.over 0 (h,false)).2=true):(Hp.over 0 (h,false)).1.mu<h.mu:=by
 rcases (Hp.GX 0 (h,false) t).2 e with h3|h3
 ·cases h3
 ·exact h3
theorem Hp.FQ {h:Hp} (t:Jl h No) (e:(Hp.over 0 (h,false)).2=true):h.turns=(Hp.over 0 (h,false)).1.turns:=Hp.G9 h e (Hp.FM t e)
end
def jq (e' e:En):Prop:=e'=e∨e'=(e.1,none)∨e'=(none,none)
theorem jq.refl (e:En):jq e e:=.inl rfl
theorem jq.trans {a b c:En} (x:jq a b) (y:jq b c):jq a c:=by
 rcases x with rfl|rfl|rfl
 ·exact y
 ·rcases y with rfl|rfl|rfl
  ·exact .inr (.inl rfl)
  ·exact .inr (.inl rfl)
  ·exact .inr (.inr rfl)
 ·exact .inr (.inr rfl)
theorem jq.refs {a b:En} (x:jq a b):∀ r∈bM a,r∈bM b:=by
 intro r hr
 rcases x with rfl|rfl|rfl
 ·exact hr
 ·simp [Go.Proofs.YtedpifhlffcmkaaGreatDoor.bM,bn] at hr ⊢
  exact .inl hr
 ·simp [Go.Proofs.YtedpifhlffcmkaaGreatDoor.bM,bn] at hr
theorem jq.some {a b:En} (x:jq a b) (e:a.2.isSome=true):a=b:=by
 rcases x with rfl|rfl|rfl
 ·rfl
 ·simp at e
 ·simp at e
theorem bI (h:Hp) (e:En):jq (bq h e) e:=by
 unfold bq
 split
 ·exact .inr (.inl rfl)
 ·exact .inl rfl
theorem dR (h:Hp) (e:En):jq (bE h e) e:=by
 unfold bE
 split
 ·exact .inr (.inr rfl)
 ·exact .inl rfl
theorem lS (h:Hp) (e:En):jq (bP h e) e:=by
 unfold bP
 split
 ·exact .inr (.inr rfl)
 ·exact .inl rfl
structure J2 (h g:Hp):Prop where
 len:g.objs.length=h.objs.length
 ob:∀ n,(g.ob n=none/\h.ob n=none)∨∃ o o',g.ob n=some o'/\h.ob n=some o/\o'.col=o.col/\o'.mode=o.mode/\o'.fin=o.fin/\∃ c:En->En,(∀ e,jq (c e) e)/\o'.es=o.es.map c
 grey:g.grey=h.grey
 again:g.again=h.again
 weak:g.weak=h.weak
 D8:g.D8=h.D8
 finals:g.finals=h.finals
 pending:g.pending=h.pending
 roots:g.roots=h.roots
 freed:g.freed=h.freed
 bytes:g.bytes=h.bytes
 live:g.live=h.live
 limit:g.limit=h.limit
 D6:g.D6=h.D6
 state:g.state=h.state
 white:g.white=h.white
 D7:g.D7=h.D7
theorem J2.refl (h:Hp):J2 h h:=by
 refine ⟨rfl,fun n=>?_,rfl,rfl,rfl,rfl,rfl,rfl,rfl,rfl,rfl,rfl,rfl,rfl,rfl,rfl,rfl⟩
 cases e:h.ob n with
 |none=>exact .inl ⟨rfl,rfl⟩
 |some o=>exact .inr ⟨o,o,rfl,rfl,rfl,rfl,rfl,id,fun e=>jq.refl e,by simp⟩
theorem J2.trans {a b c:Hp} (x:J2 a b) (y:J2 b c):J2 a c:=by
 refine ⟨y.len.trans x.len,fun n=>?_,y.grey.trans x.grey,y.again.trans x.again,y.weak.trans x.weak,y.D8.trans x.D8,y.finals.trans x.finals,y.pending.trans x.pending,y.roots.trans x.roots,y.freed.trans x.freed,y.bytes.trans x.bytes,y.live.trans x.live,y.limit.trans x.limit,y.D6.trans x.D6,y.state.trans x.state,y.white.trans x.white,y.D7.trans x.D7⟩
 rcases y.ob n with ⟨h1,h2⟩|⟨o,o',h1,h2,h3,h4,h5,f,h6,h7⟩
 ·rcases x.ob n with ⟨h3,h4⟩|⟨o,o',h3,_⟩
  ·exact .inl ⟨h1,h4⟩
  ·rw [h2] at h3;cases h3
 ·rcases x.ob n with ⟨h3,h4⟩|⟨p,p',k1,k2,k3,k4,k5,f',k6,k7⟩
  ·rw [h2] at h3;cases h3
  ·rw [h2] at k1;cases k1
   exact .inr ⟨p,o',h1,k2,h3.trans k3,h4.trans k4,h5.trans k5,f ∘ f',fun e=>(h6 _).trans (k6 e),by rw [h7,k7,List.map_map]⟩
theorem J2.JK {h g:Hp} (x:J2 h g) (n:Nat):g.JK n=h.JK n:=by
 unfold Hp.JK
 rcases x.ob n with ⟨h1,h2⟩|⟨o,o',h1,h2,h3,_⟩
 ·rw [h1,h2]
 ·rw [h1,h2];simp only;rw [h3]
theorem J2.JG {h g:Hp} (x:J2 h g) (v:HV):g.JG v=h.JG v:=by
 unfold Hp.JG
 split
 ·exact x.JK _
 ·rfl
theorem J2.lv {h g:Hp} (x:J2 h g) (n:Nat):g.Lv n↔h.Lv n:=by
 unfold Hp.Lv
 rcases x.ob n with ⟨h1,h2⟩|⟨o,o',h1,h2,h3,_⟩
 ·rw [h1,h2]
 ·rw [h1,h2];simp
theorem J2.upd (h:Hp) (n:Nat) (c:En->En) (hc:∀ e,jq (c e) e):J2 h (h.upd n fun o=>{ o with es:=o.es.map c }):=by
 refine ⟨by simp [Hp.upd],fun m=>?_,rfl,rfl,rfl,rfl,rfl,rfl,rfl,rfl,rfl,rfl,rfl,rfl,rfl,rfl,rfl⟩
 rw [Hp.Ed]
 by_cases e:n=m
 ·rw [if_pos e]
  cases hb:h.ob m with
  |none=>exact .inl ⟨rfl,rfl⟩
  |some o=>exact .inr ⟨o,_,rfl,rfl,rfl,rfl,rfl,c,hc,rfl⟩
 ·rw [if_neg e]
  cases hb:h.ob m with
  |none=>exact .inl ⟨rfl,rfl⟩
  |some o=>exact .inr ⟨o,_,rfl,rfl,rfl,rfl,rfl,id,fun e=>jq.refl e,by simp⟩
theorem Hp.Ib (h:Hp) (f:Ob->Ob) (m:Nat):Hp.ob { h with objs:=h.objs.map (Option.map f) } m=(h.ob m).map f:=by
 simp only [Hp.ob,List.getElem?_map]
 cases h.objs[m]? with
 |none=>rfl
 |some x=>cases x<;>rfl
theorem J2.EB (h:Hp):J2 h h.EB:=by
 refine ⟨by simp [Hp.EB],fun m=>?_,rfl,rfl,rfl,rfl,rfl,rfl,rfl,rfl,rfl,rfl,rfl,rfl,rfl,rfl,rfl⟩
 unfold Hp.EB
 rw [Hp.Ib]
 cases hb:h.ob m with
 |none=>exact .inl ⟨rfl,rfl⟩
 |some o=>
  refine .inr ⟨o,_,rfl,rfl,?_⟩
  unfold Hp.drop1
  split
  ·exact ⟨rfl,rfl,rfl,id,fun e=>jq.refl e,by simp⟩
  ·exact ⟨rfl,rfl,rfl,_,lS h,rfl⟩
theorem Jl.cnt {h g:Hp} (t:Jl h No) (x:J2 h g):Jl g No:=by
 have get:∀ n o',g.ob n=some o'->∃ o,h.ob n=some o/\o'.col=o.col/\o'.mode=o.mode/\∃ c:En->En,(∀ e,jq (c e) e)/\o'.es=o.es.map c:=by
  intro n o' e
  rcases x.ob n with ⟨h1,_⟩|⟨o,o2,h1,h2,h3,h4,h5,c,h6,h7⟩
  ·rw [e] at h1;cases h1
  ·rw [e] at h1;cases h1
   exact ⟨o,h2,h3,h4,c,h6,h7⟩
 refine ⟨fun n o e=>?_,fun n o e k=>?_,fun n o e k hs=>?_,fun n o e w=>?_,fun n hn=>?_,fun n o e en he r hr=>?_⟩
 ·obtain ⟨o1,h1,h2,_⟩:=get n o e
  rw [h2];exact t.col n o1 h1
 ·obtain ⟨o1,h1,h2,_⟩:=get n o e
  rw [x.grey,x.again]
  exact t.Jq n o1 h1 (h2 ▸ k)
 ·obtain ⟨o1,h1,h2,h3,c,h4,h5⟩:=get n o e
  obtain ⟨a,b,cc,d⟩:=t.blk n o1 h1 (h2 ▸ k) hs
  refine ⟨fun m en he hs r hr=>?_,fun m=>?_,fun m en he hs r hr=>?_,fun m=>?_⟩
  ·rw [h5] at he
   obtain ⟨e0,he0,rfl⟩:=List.mem_map.1 he
   have hq:=(h4 e0).some hs
   rw [x.JK]
   rw [hq] at hs hr
   exact a (h3 ▸ m) e0 he0 hs r hr
  ·rw [x.D8];exact b (h3 ▸ m)
  ·rw [h5] at he
   obtain ⟨e0,he0,rfl⟩:=List.mem_map.1 he
   have hq:=(h4 e0).some hs
   rw [x.JK]
   rw [hq] at hs hr
   exact cc (h3 ▸ m) e0 he0 hs r hr
  ·rw [x.weak];exact d (h3 ▸ m)
 ·obtain ⟨o1,h1,h2,_⟩:=get n o e
  rw [x.white,h2]
  exact t.wc n o1 h1 (h2 ▸ w)
 ·refine (x.lv n).2 (t.ll n ?_)
  rw [x.grey,x.again,x.weak,x.D8] at hn
  exact hn
 ·obtain ⟨o1,h1,h2,h3,c,h4,h5⟩:=get n o e
  rw [h5] at he
  obtain ⟨e0,he0,rfl⟩:=List.mem_map.1 he
  exact (x.lv r).2 (t.cl n o1 h1 e0 he0 r ((h4 e0).refs r hr))
def Hp.J3 (c:Hp->En->En) (h:Hp) (n:Nat):Hp:=h.upd n fun o=>{ o with es:=o.es.map (c h) }
theorem xk:Hp.JJ=Hp.J3 bE:=rfl
theorem J2.fold (c:Hp->En->En) (hc:∀ h e,jq (c h e) e):∀ (l:List Nat) (h:Hp),J2 h (l.foldl (Hp.J3 c) h)
 | [],h=>J2.refl h
 |a::l,h=>(J2.upd h a (c h) (hc h)).trans (J2.fold c hc l _)
theorem lQ (c:Hp->En->En) (hc:∀ h e,jq (c h e) e) (hw:∀ h g:Hp,(∀ v,g.JG v=h.JG v)->c g=c h) (hi:∀ h e,c h (c h e)=c h e):
 ∀ (l:List Nat) (h:Hp) (n:Nat),(l.foldl (Hp.J3 c) h).ob n=(h.ob n).map fun o=>if n∈l then { o with es:=o.es.map (c h) } else o
 | [],h,n=>by simp
 |a::l,h,n=>by
  have hcn:=J2.upd h a (c h) (hc h)
  have he:c (Hp.J3 c h a)=c h:=hw _ _ hcn.JG
  simp only [List.foldl_cons]
  rw [lQ c hc hw hi l _ n,he]
  unfold Hp.J3
  rw [Hp.Ed]
  by_cases e:a=n
  ·subst e
   rw [if_pos rfl]
   cases hb:h.ob a with
   |none=>rfl
   |some o=>
    simp only [Option.map_some,List.mem_cons,true_or,if_true]
    split
    ·simp only [List.map_map]
     have:(c h ∘ c h)=c h:=by funext x;exact hi h x
     rw [this]
    ·rfl
  ·rw [if_neg e]
   cases hb:h.ob n with
   |none=>rfl
   |some o=>
    have:(n∈a::l)↔n∈l:=by simp [Ne.symm e]
    simp only [Option.map_some,this]
theorem yA (h g:Hp) (e:∀ v,g.JG v=h.JG v):bq g=bq h:=by funext x;unfold bq;rw [e]
theorem Co (h g:Hp) (e:∀ v,g.JG v=h.JG v):bE g=bE h:=by funext x;unfold bE;rw [e]
theorem BL (h:Hp) (e:En):bq h (bq h e)=bq h e:=by
 unfold bq
 by_cases x:h.JG e.2=true
 ·rw [if_pos x];simp [Hp.JG]
 ·rw [if_neg x,if_neg x]
theorem BS (h:Hp) (e:En):bE h (bE h e)=bE h e:=by
 unfold bE
 by_cases x:h.JG e.1=true
 ·rw [if_pos x];simp [Hp.JG]
 ·rw [if_neg x,if_neg x]
theorem xI (l:List Nat) (h:Hp) (n:Nat):(l.foldl Hp.Jk h).ob n=(h.ob n).map fun o=>if n∈l then { o with es:=o.es.map (bq h) } else o:=lQ bq bI yA BL l h n
theorem lN (l:List Nat) (h:Hp) (n:Nat):(l.foldl Hp.JJ h).ob n=(h.ob n).map fun o=>if n∈l then { o with es:=o.es.map (bE h) } else o:=lQ bE dR Co BS l h n
theorem bY:∀ (l:List Nat) (p:Hp × List Nat),(∀ n,(l.foldl Hp.Ej p).1.JK n=p.1.JK n)/\(l.foldl Hp.Ej p).2=p.2++l.filter (fun n=>!p.1.JK n)/\(l.foldl Hp.Ej p).1.pending=p.1.pending++l.filter p.1.JK/\
 (∀ n,((l.foldl Hp.Ej p).1.ob n).map (fun o=>(o.col,o.mode,o.es))=(p.1.ob n).map (fun o=>(o.col,o.mode,o.es)))/\(l.foldl Hp.Ej p).1={ p.1 with objs:=(l.foldl Hp.Ej p).1.objs,pending:=(l.foldl Hp.Ej p).1.pending }/\(l.foldl Hp.Ej p).1.objs.length=p.1.objs.length
 | [],p=>⟨fun _=>rfl,by simp,by simp,fun _=>rfl,rfl,rfl⟩
 |a::l,p=>by
  simp only [List.foldl_cons]
  obtain ⟨h1,h2,h3,h4,h5,h6⟩:=bY l (Hp.Ej p a)
  have hob:∀ n,((Hp.Ej p a).1.ob n).map (fun o=>(o.col,o.mode,o.es))=(p.1.ob n).map (fun o=>(o.col,o.mode,o.es)):=by
   intro n
   unfold Hp.Ej
   split
   ·show ((p.1.upd a fun o=>{ o with fin:=false }).ob n).map _=_
    rw [Hp.Ed]
    split
    ·cases p.1.ob n<;>rfl
    ·rfl
   ·rfl
  have hw:∀ n,(Hp.Ej p a).1.JK n=p.1.JK n:=by
   intro n
   have:=hob n
   unfold Hp.JK
   cases e1:(Hp.Ej p a).1.ob n<;>cases e2:p.1.ob n<;>simp [e1,e2] at this ⊢
   rw [this.1]
  have hf:l.filter (Hp.Ej p a).1.JK=l.filter p.1.JK:=by congr 1;funext n;exact hw n
  have hf':l.filter (fun n=>!(Hp.Ej p a).1.JK n)=l.filter (fun n=>!p.1.JK n):=by congr 1;funext n;rw [hw n]
  refine ⟨fun n=>(h1 n).trans (hw n),?_,?_,fun n=>(h4 n).trans (hob n),?_,?_⟩
  ·rw [h2,hf',List.filter_cons]
   unfold Hp.Ej
   by_cases e:p.1.JK a=true
   ·simp [e]
   ·simp [e]
  ·rw [h3,hf,List.filter_cons]
   unfold Hp.Ej
   by_cases e:p.1.JK a=true
   ·simp [e,Hp.GR]
   ·simp [e]
  ·rw [h5]
   unfold Hp.Ej
   split<;>rfl
  ·rw [h6]
   unfold Hp.Ej
   split
   ·simp [Hp.GR,Hp.upd]
   ·rfl
theorem Jl.same {h g:Hp} (t:Jl h No) (hob:∀ n,(g.ob n).map (fun o=>(o.col,o.mode,o.es))=(h.ob n).map (fun o=>(o.col,o.mode,o.es))) (h1:g.grey=h.grey) (h2:g.again=h.again) (h3:g.weak=h.weak) (h4:g.D8=h.D8) (h5:g.white=h.white):Jl g No:=by
 have get:∀ n o',g.ob n=some o'->∃ o,h.ob n=some o/\o'.col=o.col/\o'.mode=o.mode/\o'.es=o.es:=by
  intro n o' e
  have:=hob n
  rw [e] at this
  cases e2:h.ob n with
  |none=>rw [e2] at this;simp at this
  |some o=>rw [e2] at this;simp at this;exact ⟨o,rfl,this.1,this.2.1,this.2.2⟩
 have hl:∀ n,h.Lv n->g.Lv n:=by
  rintro n ⟨o,e⟩
  have:=hob n
  rw [e] at this
  cases e2:g.ob n with
  |none=>rw [e2] at this;simp at this
  |some o'=>exact ⟨o',e2⟩
 have hw:∀ n,g.JK n=h.JK n:=by
  intro n
  have:=hob n
  unfold Hp.JK
  cases e1:g.ob n<;>cases e2:h.ob n<;>simp [e1,e2] at this ⊢
  rw [this.1]
 refine ⟨fun n o e=>?_,fun n o e k=>?_,fun n o e k hs=>?_,fun n o e w=>?_,fun n hn=>?_,fun n o e en he r hr=>?_⟩
 ·obtain ⟨o1,e1,e2,_⟩:=get n o e
  rw [e2];exact t.col n o1 e1
 ·obtain ⟨o1,e1,e2,_⟩:=get n o e
  rw [h1,h2];exact t.Jq n o1 e1 (e2 ▸ k)
 ·obtain ⟨o1,e1,e2,e3,e4⟩:=get n o e
  exact (t.blk n o1 e1 (e2 ▸ k) hs).mono e3 e4 (fun r x=>by rw [hw] at x;exact x) (fun r x=>by rw [h4];exact x) (fun r x=>by rw [h3];exact x)
 ·obtain ⟨o1,e1,e2,_⟩:=get n o e
  rw [h5,e2];exact t.wc n o1 e1 (e2 ▸ w)
 ·refine hl n (t.ll n ?_)
  rw [h1,h2,h3,h4] at hn
  exact hn
 ·obtain ⟨o1,e1,e2,e3,e4⟩:=get n o e
  exact hl r (t.cl n o1 e1 en (e4 ▸ he) r hr)
theorem Jl.Ei {h:Hp} (t:Jl h No):Jl h.Ei No:=by
 obtain ⟨h1,h2,h3,h4,h5,h6⟩:=bY h.finals (h,[])
 refine t.same (fun n=>?_) ?_ ?_ ?_ ?_ ?_
 ·exact h4 n
 all_goals (unfold Hp.Ei;rw [h5])
theorem Hp.GL (h:Hp) (n:Nat):h.Ei.JK n=h.JK n:=(bY h.finals (h,[])).1 n
theorem Hp.EW (h:Hp):h.Ei.finals=h.finals.filter (fun n=>!h.JK n)/\h.Ei.pending=h.pending++h.finals.filter h.JK/\h.Ei.roots=h.roots/\h.Ei.grey=h.grey/\h.Ei.again=h.again/\h.Ei.state=h.state/\h.Ei.white=h.white/\h.Ei.objs.length=h.objs.length/\h.Ei.weak=h.weak/\h.Ei.D8=h.D8:=by
 obtain ⟨h1,h2,h3,h4,h5,h6⟩:=bY h.finals (h,[])
 refine ⟨h2.trans (by simp),h3,?_,?_,?_,?_,?_,h6,?_,?_⟩
 all_goals (unfold Hp.Ei;rw [h5])
theorem Hp.FL (h:Hp):h.Ei.freed=h.freed/\h.Ei.bytes=h.bytes/\h.Ei.live=h.live/\h.Ei.limit=h.limit/\h.Ei.D6=h.D6/\h.Ei.D7=h.D7:=by
 obtain ⟨h1,h2,h3,h4,h5,h6⟩:=bY h.finals (h,[])
 refine ⟨?_,?_,?_,?_,?_,?_⟩
 all_goals (unfold Hp.Ei;rw [h5])
theorem Hp.GU (h:Hp) (n:Nat):h.Ei.Lv n↔h.Lv n:=by
 have:=(bY h.finals (h,[])).2.2.2.1 n
 have e:h.Ei.ob n=(h.finals.foldl Hp.Ej (h,[])).1.ob n:=rfl
 unfold Hp.Lv
 rw [e]
 cases e1:(h.finals.foldl Hp.Ej (h,[])).1.ob n<;>cases e2:h.ob n<;>simp [e1,e2] at this ⊢
theorem gX:∀ (l:List Nat) (h:Hp),(∀ n∈l,h.Lv n)->∀ n∈l,(h.Eh l).JK n=false
 | [],h,_,n,hn=>by simp at hn
 |a::l,h,hl,n,hn=>by
  show (Hp.Eh (h.mark a) l).JK n=false
  rcases List.mem_cons.1 hn with rfl|hn'
  ·exact (JM.Eh _ _).dark (Hp.Gn (hl _ (List.mem_cons_self)))
  ·exact gX l _ (fun n hn=>((JM.mark h a).lv n).2 (hl n (List.mem_cons_of_mem _ hn))) n hn'
def Hp.Gg (h:Hp) (o:Ob):Prop:=h.state=2/\eP o.col=true/\o.col≠h.white
def Hp.Ok (h:Hp) (n:Nat):Prop:=∃ o,h.ob n=some o/\¬ h.Gg o
structure Inv (h:Hp):Prop where
 w1:h.white<=1
 st:h.state<=2
 zero:h.ob 0=none
 ps:1<=h.objs.length
 md:∀ n o,h.ob n=some o->o.mode<=3
 ls:∀ n,n∈h.roots∨n∈h.pending∨n∈h.finals->h.Ok n
 nc:∀ n o,h.ob n=some o->¬ h.Gg o->∀ e∈o.es,∀ r∈bM e,h.Ok r
 s0:h.state=0->∀ n o,h.ob n=some o->o.col=h.white
 s1:h.state=1->Jl h No
 s2:h.state=2->h.grey=[]/\1<=h.D7/\h.D7<=h.objs.length/\(∀ n o,h.ob n=some o->o.col<=3)/\∀ n o,h.ob n=some o->n<h.D7->o.col=h.white
section
variable {h:Hp} {n:Nat} {o:Ob}
def iW (h g:Hp):Prop:=JM { h with again:=g.again } g
theorem JM.ag {g:Hp} (x:JM h g) (l:List Nat):JM { h with again:=l } { g with again:=l }:=
 ⟨x.len,x.cont,x.grow,x.Im,rfl,x.finals,x.pending,x.roots,x.freed,x.bytes,x.live,x.limit,x.D6,x.state,x.white,x.D7⟩
theorem JM.a {g:Hp} (x:JM h g):iW h g:=by
 have:=x.ag g.again
 exact this
theorem iW.trans {a b c:Hp} (x:iW a b) (y:iW b c):iW a c:=by
 have h1:=JM.ag x c.again
 exact JM.trans h1 y
theorem iW.D_ (h:Hp):iW h h.D_:=by
 have h1:iW h (h.again.foldl Hp.Ef h):=(JM.fold _ JM.Ef h.again h).a
 exact JM.ag h1 []
theorem iW.JY (h:Hp):iW h h.JY:=((JM.alive h).trans (JM.drain _)).a.trans ((iW.D_ _).trans (JM.settle _).a)
theorem iW.dark {h g:Hp} (x:iW h g) {n:Nat} (e:h.JK n=false):g.JK n=false:=JM.dark x e
theorem iW.lv {h g:Hp} (x:iW h g) (n:Nat):g.Lv n↔h.Lv n:=JM.lv x n
theorem Jl.JY {h:Hp} (t:Jl h No):Jl h.JY No:=(t.JN (I_.alive h)).drain.D_.settle
theorem oO (t:Jl h No) (hl:∀ n,n∈h.roots∨n∈h.pending->h.Lv n):h.JY.grey=[]/\h.JY.again=[]/\Dk h.JY/\∀ n,n∈h.roots∨n∈h.pending->h.JY.JK n=false:=by
 have t1:=(t.JN (I_.alive h)).drain.D_
 obtain ⟨h1,h2⟩:=Hp.Fx t1
 refine ⟨h1,?_,h2,fun n hn=>?_⟩
 ·exact (JM.settle h.alive.drain.D_).again
 ·refine (JM.settle _).dark ((iW.D_ _).dark ((JM.drain _).dark ?_))
  unfold Hp.alive
  rcases hn with h3|h3
  ·exact (JM.Eh _ _).dark (gX _ _ (fun n hn=>hl n (.inl hn)) n h3)
  ·exact gX _ _ (fun n hn=>((JM.Eh h h.roots).lv n).2 (hl n (.inr hn))) n h3
theorem Jl.at2 {h:Hp} (t:Jl h No):Jl h.at2 No:=(t.cnt (J2.fold bq bI h.weak h)).Ei
theorem uj (h:Hp) (n:Nat):h.at2.JK n=h.JK n:=(Hp.GL _ n).trans ((J2.fold bq bI h.weak h).JK n)
theorem dA (h:Hp):h.at2.finals=h.finals.filter (fun n=>!h.JK n)/\h.at2.pending=h.pending++h.finals.filter h.JK/\h.at2.roots=h.roots/\h.at2.grey=h.grey/\h.at2.again=h.again/\h.at2.state=h.state/\h.at2.white=h.white/\h.at2.objs.length=h.objs.length:=by
 have c:=J2.fold bq bI h.weak h
 obtain ⟨h1,h2,h3,h4,h5,h6,h7,h8,_⟩:=Hp.EW (h.weak.foldl Hp.Jk h)
 have hw:(h.weak.foldl Hp.Jk h).JK=h.JK:=by funext n;exact c.JK n
 have hw':(fun n=>!(h.weak.foldl Hp.Jk h).JK n)=fun n=>!h.JK n:=by funext n;rw [hw]
 rw [hw] at h2
 rw [hw'] at h1
 refine ⟨h1.trans (by rw [show (h.weak.foldl Hp.Jk h).finals=h.finals from c.finals]),h2.trans (by rw [show (h.weak.foldl Hp.Jk h).finals=h.finals from c.finals,show (h.weak.foldl Hp.Jk h).pending=h.pending from c.pending]),h3.trans c.roots,h4.trans c.grey,h5.trans c.again,h6.trans c.state,h7.trans c.white,h8.trans c.len⟩
theorem mg (h:Hp) (n:Nat):h.at2.Lv n↔h.Lv n:=(Hp.GU _ n).trans ((J2.fold bq bI h.weak h).lv n)
theorem Jl.at3 {h:Hp} (t:Jl h No):Jl h.at3 No:=(t.JN (I_.Eh h _)).settle
theorem JM.at3 (h:Hp):JM h h.at3:=(JM.Eh h _).trans (JM.settle _)
theorem J2.at4 (h:Hp):J2 h h.at4:=J2.fold bE dR _ h
theorem J2.Jp (h:Hp):J2 h h.Jp:=(J2.fold bq bI _ h).trans (J2.EB _)
theorem xY (t:Jl h No) (hg:h.grey=[]) (ha:h.again=[]) (hc:Dk h) (hmd:∀ n o,h.ob n=some o->o.mode<=3) (e:h.at4.Jp.ob n=some o) (hw:eP o.col=false):∀ en∈o.es,∀ r∈bM en,h.JK r=false:=by
 have c4:=J2.at4 h
 have cv:=J2.fold bq bI h.at4.weak h.at4
 have e5:h.at4.Jp.ob n=((h.at4.weak.foldl Hp.Jk h.at4).ob n).map (h.at4.weak.foldl Hp.Jk h.at4).drop1:=by
  unfold Hp.Jp Hp.EB
  rw [Hp.Ib]
 have e4:h.at4.ob n=(h.ob n).map fun o=>if n∈h.D8++h.weak then { o with es:=o.es.map (bE h) } else o:=lN _ h n
 have ev:=xI h.at4.weak h.at4 n
 have hv4:bq h.at4=bq h:=yA h h.at4 c4.JG
 have hwk:h.at4.weak=h.weak:=c4.weak
 rw [hwk,hv4] at ev
 rw [hwk] at e5 cv
 have hd5:∀ v,(h.weak.foldl Hp.Jk h.at4).JG v=h.JG v:=fun v=>(cv.JG v).trans (c4.JG v)
 cases hb:h.ob n with
 |none=>
  rw [e5,ev,e4,hb] at e
  simp at e
 |some o3=>
  have hn3:eP o3.col=false/\o.es=(((o3.es.map (fun en=>if n∈h.D8++h.weak then bE h en else en)).map (fun en=>if n∈h.weak then bq h en else en)).map (bP h)):=by
   rw [e5,ev,e4,hb] at e
   simp only [Option.map_some,Option.some.injEq] at e
   have hdr:bP (h.weak.foldl Hp.Jk h.at4)=bP h:=by funext x;unfold bP;rw [hd5]
   subst e
   unfold Hp.drop1 at hw ⊢
   rw [hdr]
   by_cases m1:n∈h.D8++h.weak<;>by_cases m2:n∈h.weak<;>simp only [m1,m2,if_true,if_false] at hw ⊢
   all_goals
    split at hw
    ·simp_all
    ·refine ⟨by simpa using hw,?_⟩
     simp_all
  obtain ⟨hw3,hes⟩:=hn3
  have h3:o3.col=3:=by
   have h4:=t.col n o3 hb
   have h5:o3.col≠2:=by
    intro h6
    rcases t.Jq n o3 hb h6 with h7|h7
    ·rw [hg] at h7;simp at h7
    ·rw [ha] at h7;simp at h7
   have h6:o3.col≠0/\o3.col≠1:=by
    constructor<;>(intro h7;rw [h7] at hw3;cases hw3)
   omega
  obtain ⟨s0,s1,s2,s3⟩:=t.blk n o3 hb h3 (fun x=>x)
  intro en he r hr
  rw [hes] at he
  simp only [List.map_map,List.mem_map,Function.comp] at he
  obtain ⟨e0,he0,rfl⟩:=he
  have hm:=hmd n o3 hb
  have sub1:jq (if n∈h.D8++h.weak then bE h e0 else e0) e0:=by
   split
   ·exact dR h e0
   ·exact jq.refl e0
  generalize hk:(if n∈h.D8++h.weak then bE h e0 else e0)=e1 at *
  have sub2:jq (if n∈h.weak then bq h e1 else e1) e1:=by
   split
   ·exact bI h e1
   ·exact jq.refl e1
  generalize hk2:(if n∈h.weak then bq h e1 else e1)=e2 at *
  have sub3:=lS h e2
  have hr2:=sub3.refs r hr
  rcases (by omega:o3.mode=0∨o3.mode=1∨2<=o3.mode) with m|m|m
  ·cases hv:e2.2.isSome with
   |true=>
    have q2:=sub2.some hv
    have q1:=sub1.some (q2 ▸ hv)
    rw [q2,q1] at hr2 hv
    exact s0 m e0 he0 hv r hr2
   |false=>
    unfold bP at hr
    have hn2:e2.2.isNone=true:=by
     cases h9:e2.2 with
     |none=>rfl
     |some _=>rw [h9] at hv;cases hv
    cases hkw:h.JG e2.1 with
    |true=>rw [hn2,hkw] at hr;simp [bM,bn] at hr
    |false=>
     rcases List.mem_append.1 hr2 with h9|h9
     ·exact fV hkw r h9
     ·have:e2.2=none:=by simpa using hn2
      rw [this] at h9;simp [bn] at h9
  ·have hne:n∈h.D8:=s1 m
   rw [if_pos (List.mem_append_left _ hne)] at hk
   unfold bE at hk
   have hr1:=sub2.refs r hr2
   split at hk
   ·subst hk;simp [bM,bn] at hr1
   ·rename_i hkw
    subst hk
    have hkw':h.JG e0.1=false:=by simpa using hkw
    have hes0:e0∈h.Fw n:=by unfold Hp.Fw;rw [hb];exact he0
    rcases List.mem_append.1 hr1 with h9|h9
    ·exact fV hkw' r h9
    ·exact fV (hc n hne e0 hes0 hkw') r h9
  ·have hnw:n∈h.weak:=s3 m
   rw [if_pos (List.mem_append_right _ hnw)] at hk
   rw [if_pos hnw] at hk2
   unfold bE at hk
   unfold bq at hk2
   rcases List.mem_append.1 hr2 with h9|h9
   ·have hk1:bn e2.1=bn e1.1:=by
     split at hk2<;>(subst hk2;rfl)
    rw [hk1] at h9
    split at hk
    ·subst hk;simp [bn] at h9
    ·rename_i hkw
     subst hk
     exact fV (by simpa using hkw) r h9
   ·split at hk2
    ·subst hk2;simp [bn] at h9
    ·rename_i hkw
     subst hk2
     exact fV (by simpa using hkw) r h9
end
section
variable {n:Nat}
theorem Hp.ES {h:Hp} (x:h.Ok n):h.Lv n:=⟨x.choose,x.choose_spec.1⟩
theorem Hp.Iq {h:Hp} (hs:h.state≠2) (l:h.Lv n):h.Ok n:=by
 obtain ⟨o,e⟩:=l
 exact ⟨o,e,fun d=>hs d.1⟩
theorem JM.md {h g:Hp} (x:JM h g) (hm:∀ n o,h.ob n=some o->o.mode<=3):∀ n o,g.ob n=some o->o.mode<=3:=by
 intro n o e
 obtain ⟨o',h1,h2,_⟩:=x.ob e
 rw [<-h2];exact hm n o' h1
theorem J2.md {h g:Hp} (x:J2 h g) (hm:∀ n o,h.ob n=some o->o.mode<=3):∀ n o,g.ob n=some o->o.mode<=3:=by
 intro n o e
 rcases x.ob n with ⟨h1,_⟩|⟨o1,o2,h1,h2,h3,h4,_⟩
 ·rw [e] at h1;cases h1
 ·rw [e] at h1;cases h1;rw [h4];exact hm n o1 h2
theorem Hp.Gj {h:Hp} (hm:∀ n o,h.ob n=some o->o.mode<=3):∀ n o,h.Ei.ob n=some o->o.mode<=3:=by
 intro n o e
 have:=(bY h.finals (h,[])).2.2.2.1 n
 have e':(h.finals.foldl Hp.Ej (h,[])).1.ob n=some o:=e
 rw [e'] at this
 cases e2:h.ob n with
 |none=>simp [e2] at this
 |some o'=>simp [e2] at this;rw [this.2.1];exact hm n o' e2
theorem Inv.atomic {h:Hp} (i:Inv h) (hs:h.state=1):Inv h.atomic/\h.atomic.state=2/\h.atomic.objs.length=h.objs.length/\h.atomic.D7=1:=by
 have t:=i.s1 hs
 have hl:∀ n,n∈h.roots∨n∈h.pending∨n∈h.finals->h.Lv n:=fun n hn=>Hp.ES (i.ls n hn)
 have a1:=iW.JY h
 obtain ⟨g1,ag1,cv1,dk1⟩:=oO t (fun n hn=>hl n (hn.elim .inl (fun x=>.inr (.inl x))))
 have t1:=t.JY
 have f1:h.JY.finals=h.finals:=a1.finals
 have p1:h.JY.pending=h.pending:=a1.pending
 have r1:h.JY.roots=h.roots:=a1.roots
 have w1:h.JY.white=h.white:=a1.white
 have n1:h.JY.objs.length=h.objs.length:=a1.len
 obtain ⟨f2,p2,r2,g2,ag2,s2,w2,n2⟩:=dA h.JY
 have t2:=t1.at2
 rw [f1] at f2 p2
 rw [p1] at p2
 rw [r1] at r2
 rw [g1] at g2
 rw [ag1] at ag2
 have l2:∀ n,h.JY.at2.Lv n↔h.Lv n:=fun n=>(mg _ n).trans (a1.lv n)
 have m3:=JM.at3 h.JY.at2
 have t3:=t2.at3
 have tm:=t2.JN (I_.Eh h.JY.at2 h.JY.at2.pending)
 obtain ⟨g3,cv3⟩:=Hp.Fx tm
 have ag3:h.JY.at2.at3.again=[]:=m3.again.trans ag2
 have hmd3:∀ n o,h.JY.at2.at3.ob n=some o->o.mode<=3:=m3.md (Hp.Gj ((J2.fold bq bI h.JY.weak h.JY).md (JM.md a1 i.md)))
 have pd3:∀ n∈h.JY.at2.pending,h.JY.at2.at3.JK n=false:=by
  intro n hn
  refine (JM.settle _).dark (gX _ _ (fun m hm=>?_) n hn)
  rw [p2] at hm
  refine (l2 m).2 (hl m ?_)
  rcases List.mem_append.1 hm with h9|h9
  ·exact .inr (.inl h9)
  ·exact .inr (.inr (List.mem_filter.1 h9).1)
 have c5:=(J2.at4 h.JY.at2.at3).trans (J2.Jp _)
 have w5:h.JY.at2.at3.at4.Jp.white=h.white:=c5.white.trans (m3.white.trans (w2.trans w1))
 have t5:=t3.cnt c5
 have key:=fun n o=>xY t3 g3 ag3 cv3 hmd3 (n:=n) (o:=o)
 have dm:∀ n o,h.JY.at2.at3.at4.Jp.ob n=some o->(h.atomic.Gg o↔eP o.col=true):=by
  intro n o e
  constructor
  ·exact fun d=>d.2.1
  ·intro w
   refine ⟨rfl,w,?_⟩
   have:=t5.wc n o e w
   show o.col≠1-h.JY.at2.at3.at4.Jp.white
   rw [this,w5]
   have:=i.w1
   omega
 have ok:∀ n,h.JY.at2.at3.Lv n->h.JY.at2.at3.JK n=false->h.atomic.Ok n:=by
  intro n l w
  obtain ⟨o,e⟩:=(c5.lv n).2 l
  refine ⟨o,e,fun d=>?_⟩
  have:=(dm n o e).1 d
  have h9:=c5.JK n
  rw [w,Hp.FU e,this] at h9
  cases h9
 have l3:∀ n,h.JY.at2.at3.Lv n↔h.Lv n:=fun n=>(m3.lv n).trans (l2 n)
 refine ⟨⟨?_,Nat.le_refl 2,?_,?_,?_,?_,?_,?_,?_,?_⟩,rfl,?_,rfl⟩
 ·show 1-_<=1
  omega
 ·show h.JY.at2.at3.at4.Jp.ob 0=none
  cases e:h.JY.at2.at3.at4.Jp.ob 0 with
  |none=>rfl
  |some o=>
   obtain ⟨o',e'⟩:=(l3 0).1 ((c5.lv 0).1 ⟨o,e⟩)
   rw [i.zero] at e';cases e'
 ·show 1<=h.JY.at2.at3.at4.Jp.objs.length
  rw [c5.len,m3.len,n2,n1]
  exact i.ps
 ·exact c5.md hmd3
 ·intro n hn
  have hn':n∈h.JY.at2.at3.at4.Jp.roots∨n∈h.JY.at2.at3.at4.Jp.pending∨n∈h.JY.at2.at3.at4.Jp.finals:=hn
  rw [c5.roots,c5.pending,c5.finals,m3.roots,m3.pending,m3.finals,r2,f2] at hn'
  rcases hn' with h9|h9|h9
  ·refine ok n ((l3 n).2 (hl n (.inl h9))) (m3.dark ?_)
   rw [uj]
   exact dk1 n (.inl h9)
  ·refine ok n ?_ (pd3 n h9)
   rw [p2] at h9
   refine (l3 n).2 (hl n ?_)
   rcases List.mem_append.1 h9 with x|x
   ·exact .inr (.inl x)
   ·exact .inr (.inr (List.mem_filter.1 x).1)
  ·obtain ⟨x,y⟩:=List.mem_filter.1 h9
   refine ok n ((l3 n).2 (hl n (.inr (.inr x)))) (m3.dark ?_)
   rw [uj]
   simpa using y
 ·intro n o e nd en he r hr
  have e':h.JY.at2.at3.at4.Jp.ob n=some o:=e
  have hw:eP o.col=false:=by
   cases hx:eP o.col with
   |false=>rfl
   |true=>exact absurd ((dm n o e').2 hx) nd
  exact ok r ((c5.lv r).1 (t5.cl n o e' en he r hr)) (key n o e' hw en he r hr)
 ·intro x;exact absurd x (by show ¬ (2:Nat)=0;decide)
 ·intro x;exact absurd x (by show ¬ (2:Nat)=1;decide)
 ·intro _
  refine ⟨c5.grey.trans g3,Nat.le_refl 1,?_,t5.col,fun n o e hn=>?_⟩
  ·show 1<=h.JY.at2.at3.at4.Jp.objs.length
   rw [c5.len,m3.len,n2,n1]
   exact i.ps
  ·have h0:n=0:=by
    have:n<1:=hn
    omega
   subst h0
   obtain ⟨o',e'⟩:=(l3 0).1 ((c5.lv 0).1 ⟨o,e⟩)
   rw [i.zero] at e';cases e'
 ·show h.JY.at2.at3.at4.Jp.objs.length=_
  rw [c5.len,m3.len,n2,n1]
end
section
variable {n:Nat} {o:Ob}
theorem Inv.mid {g:Hp} (t:Jl g No) (hs:g.state=1) (hw:g.white<=1) (hz:g.ob 0=none) (hp:1<=g.objs.length) (hm:∀ n o,g.ob n=some o->o.mode<=3) (hl:∀ n,n∈g.roots∨n∈g.pending∨n∈g.finals->g.Lv n):Inv g:=
 ⟨hw,by omega,hz,hp,hm,fun n hn=>Hp.Iq (by omega) (hl n hn),fun n o e _ en he r hr=>Hp.Iq (by omega) (t.cl n o e en he r hr),fun x=>by omega,fun _=>t,fun x=>by omega⟩
theorem JM.zero {h g:Hp} (x:JM h g) (hz:h.ob 0=none):g.ob 0=none:=by
 have:=x.cont 0
 rw [hz] at this
 cases e:g.ob 0 with
 |none=>rfl
 |some o=>rw [e] at this;simp at this
theorem Inv.JF {h g:Hp} (i:Inv h) (hs:h.state=1) (t:Jl g No) (x:JM h g):Inv g:=
 Inv.mid t (x.state.trans hs) (by rw [x.white];exact i.w1) (x.zero i.zero) (by rw [x.len];exact i.ps) (x.md i.md) (fun n hn=>by
  rw [x.roots,x.pending,x.finals] at hn
  exact (x.lv n).2 (Hp.ES (i.ls n hn)))
theorem Inv.take {h:Hp} (i:Inv h) (hs:h.state=1):Inv h.take.1:=i.JF hs (i.s1 hs).take (JM.take h)
theorem Inv.begin {h:Hp} (i:Inv h) (hs:h.state=0):Inv h.begin/\h.begin.state=1:=by
 have cl:h.Closed:=fun n o e en he r hr=>Hp.ES (i.nc n o e (fun d=>by have:=d.1;omega) en he r hr)
 have hw:=i.w1
 have t0:Jl { h with state:=1,grey:=[],again:=[],weak:=[],D8:=[] } No:=by
  refine ⟨fun n o e=>?_,fun n o e k=>?_,fun n o e k=>?_,fun n o e w=>i.s0 hs n o e,fun n hn=>?_,cl⟩
  ·have:=i.s0 hs n o e;omega
  ·have:=i.s0 hs n o e;omega
  ·have:=i.s0 hs n o e;omega
  ·simp at hn
 have i0:Inv { h with state:=1,grey:=[],again:=[],weak:=[],D8:=[] }:=Inv.mid t0 rfl i.w1 i.zero i.ps i.md (fun n hn=>(show h.Lv n from Hp.ES (i.ls n hn)))
 refine ⟨i0.JF rfl (t0.JN (I_.alive _)) (JM.alive _),(JM.alive _).state⟩
theorem Inv.skipped {h:Hp} (i:Inv h) (hs:h.state=2):Inv h.skipped:=by
 obtain ⟨a,b,c,d,e⟩:=i.s2 hs
 refine ⟨i.w1,i.st,i.zero,i.ps,i.md,i.ls,i.nc,i.s0,fun x=>by have:h.state=1:=x;omega,fun _=>⟨a,Nat.le_trans b (h.EU _),h.FC _ c,d,fun n o ho hn=>?_⟩⟩
 by_cases hx:n<h.D7
 ·exact e n o ho hx
 ·have:=h.skip_none h.D7 n (by omega) hn
  have ho':h.ob n=some o:=ho
  rw [this] at ho';cases ho'
theorem Hp.G_ (h:Hp) (n m:Nat):Hp.ob { h with objs:=h.objs.set n none } m=if n=m then none else h.ob m:=by
 simp only [Hp.ob,List.getElem?_set]
 by_cases e:n=m
 ·subst e
  by_cases l:n<h.objs.length<;>simp [l]
 ·simp [e]
theorem Hp.Es {h:Hp} (e:h.ob n=some o):n<h.objs.length:=by
 have:=Hp.E_ e
 exact (List.getElem?_eq_some_iff.1 this).1
theorem Inv.D9 {h:Hp} (i:Inv h) (hs:h.state=2):Inv h.D9/\h.D9.state=2/\h.D9.objs.length=h.objs.length:=by
 obtain ⟨a,b,c,d,e⟩:=i.s2 hs
 unfold Hp.D9
 split
 ·rename_i o ho
  have hlt:=Hp.Es ho
  split
  ·rename_i hd
   have hdm:h.Gg o:=⟨hs,by simp at hd;simp [hd.1],by simp at hd;exact hd.2⟩
   have hob:∀ m,Hp.ob { h with objs:=h.objs.set h.D7 none,live:=h.live-1,bytes:=h.bytes-o.size,freed:=h.freed++[h.D7],D7:=h.D7+1 } m=if h.D7=m then none else h.ob m:=fun m=>h.G_ h.D7 m
   have hok:∀ n,h.Ok n->Hp.Ok { h with objs:=h.objs.set h.D7 none,live:=h.live-1,bytes:=h.bytes-o.size,freed:=h.freed++[h.D7],D7:=h.D7+1 } n:=by
    rintro n ⟨o',e',nd⟩
    refine ⟨o',?_,nd⟩
    rw [hob]
    by_cases x:h.D7=n
    ·subst x;rw [ho] at e';cases e';exact absurd hdm nd
    ·rw [if_neg x];exact e'
   have sub:∀ m o',Hp.ob { h with objs:=h.objs.set h.D7 none,live:=h.live-1,bytes:=h.bytes-o.size,freed:=h.freed++[h.D7],D7:=h.D7+1 } m=some o'->h.ob m=some o'/\m≠h.D7:=by
    intro m o' e'
    rw [hob] at e'
    split at e'
    ·cases e'
    ·rename_i x;exact ⟨e',fun y=>x y.symm⟩
   refine ⟨⟨i.w1,i.st,?_,?_,fun n o' e'=>i.md n o' (sub n o' e').1,fun n hn=>hok n (i.ls n hn),fun n o' e' nd en he r hr=>hok r (i.nc n o' (sub n o' e').1 nd en he r hr),fun x=>by have:h.state=0:=x;omega,fun x=>by have:h.state=1:=x;omega,fun _=>⟨a,?_,?_,fun n o' e'=>d n o' (sub n o' e').1,fun n o' e' hn=>?_⟩⟩,hs,by simp⟩
   ·rw [hob]
    split
    ·rfl
    ·exact i.zero
   ·have:=i.ps
    simpa using this
   ·show 1<=h.D7+1
    omega
   ·show h.D7+1<=(h.objs.set h.D7 none).length
    simp;omega
   ·have hn':n<h.D7+1:=hn
    obtain ⟨h1,h2⟩:=sub n o' e'
    exact e n o' h1 (by omega)
  ·rename_i hd
   have hob:∀ m,Hp.ob { h.upd h.D7 (fun o=>{ o with col:=h.white }) with D7:=h.D7+1 } m=if h.D7=m then (h.ob m).map (fun o=>{ o with col:=h.white }) else h.ob m:=fun m=>h.Ed h.D7 m _
   have sub:∀ m o',Hp.ob { h.upd h.D7 (fun o=>{ o with col:=h.white }) with D7:=h.D7+1 } m=some o'->∃ o2,h.ob m=some o2/\o2.mode=o'.mode/\o2.es=o'.es/\((m=h.D7/\o'.col=h.white)∨(m≠h.D7/\o'.col=o2.col)):=by
    intro m o' e'
    rw [hob] at e'
    split at e'
    ·rename_i x
     subst x
     rw [ho] at e'
     simp at e'
     subst e'
     exact ⟨o,ho,rfl,rfl,.inl ⟨rfl,rfl⟩⟩
    ·rename_i x;exact ⟨o',e',rfl,rfl,.inr ⟨fun y=>x y.symm,rfl⟩⟩
   have hnd:¬ h.Gg o:=by
    rintro ⟨_,h2,h3⟩
    simp [h2,h3] at hd
   have hok:∀ n,h.Ok n->Hp.Ok { h.upd h.D7 (fun o=>{ o with col:=h.white }) with D7:=h.D7+1 } n:=by
    rintro n ⟨o',e',nd⟩
    unfold Hp.Ok
    rw [hob]
    by_cases x:h.D7=n
    ·rw [if_pos x,e']
     exact ⟨_,rfl,fun d=>d.2.2 rfl⟩
    ·rw [if_neg x,e']
     exact ⟨o',rfl,nd⟩
   have hw:=i.w1
   refine ⟨⟨i.w1,i.st,?_,?_,fun n o' e'=>?_,fun n hn=>hok n (i.ls n hn),fun n o' e' nd en he r hr=>?_,fun x=>by have:h.state=0:=x;omega,fun x=>by have:h.state=1:=x;omega,fun _=>⟨a,?_,?_,fun n o' e'=>?_,fun n o' e' hn=>?_⟩⟩,hs,by simp [Hp.upd]⟩
   ·rw [hob]
    split
    ·rw [i.zero];rfl
    ·exact i.zero
   ·have:=i.ps
    simpa [Hp.upd] using this
   ·obtain ⟨o2,h1,h2,h3,h4⟩:=sub n o' e'
    rw [<-h2];exact i.md n o2 h1
   ·obtain ⟨o2,h1,h2,h3,h4⟩:=sub n o' e'
    refine hok r (i.nc n o2 h1 ?_ en (h3 ▸ he) r hr)
    rcases h4 with ⟨h5,h6⟩|⟨h5,h6⟩
    ·subst h5
     rw [ho] at h1;cases h1
     exact hnd
    ·intro dd
     exact nd ⟨dd.1,by rw [h6];exact dd.2.1,by rw [h6];exact dd.2.2⟩
   ·show 1<=h.D7+1
    omega
   ·show h.D7+1<=(h.upd h.D7 _).objs.length
    rw [Hp.El];omega
   ·obtain ⟨o2,h1,h2,h3,h4⟩:=sub n o' e'
    rcases h4 with ⟨h5,h6⟩|⟨h5,h6⟩
    ·omega
    ·rw [h6];exact d n o2 h1
   ·have hn':n<h.D7+1:=hn
    obtain ⟨o2,h1,h2,h3,h4⟩:=sub n o' e'
    rcases h4 with ⟨h5,h6⟩|⟨h5,h6⟩
    ·exact h6
    ·rw [h6];exact e n o2 h1 (by omega)
 ·exact ⟨i,hs,rfl⟩
theorem Inv.close {h:Hp} (i:Inv h) (hs:h.state=2):Inv h.close:=by
 unfold Hp.close
 split
 ·exact i
 ·rename_i hx
  obtain ⟨a,b,c,d,e⟩:=i.s2 hs
  have hok:∀ n,h.Ok n->Hp.Ok { h with state:=0,limit:=max (2*h.bytes) 4096,D6:=0 } n:=by
   rintro n ⟨o',e',nd⟩
   exact ⟨o',e',fun d=>by have:(0:Nat)=2:=d.1;omega⟩
  refine ⟨i.w1,Nat.zero_le 2,i.zero,i.ps,i.md,fun n hn=>hok n (i.ls n hn),fun n o e' nd en he r hr=>hok r (i.nc n o e' (fun dd=>?_) en he r hr),fun _ n o e'=>e n o e' ?_,fun x=>by have:(0:Nat)=1:=x;omega,fun x=>by have:(0:Nat)=2:=x;omega⟩
  ·exact dd.2.2 (e n o e' (by have:=Hp.Es (h:=h) e';omega))
  ·have:=Hp.Es (h:=h) e';omega
theorem Inv.Ec {h:Hp} (i:Inv h) (hs:h.state=2):Inv h.Ec:=by
 have i1:=i.skipped hs
 obtain ⟨i2,s2,_⟩:=i1.D9 hs
 exact (i2.skipped s2).close s2
theorem Inv.advance {h:Hp} (i:Inv h) (hs:h.state≠0):Inv h.advance.1:=by
 unfold Hp.advance
 split
 ·rename_i h2;exact i.Ec h2
 ·rename_i h2
  have:=i.st
  have h1:h.state=1:=by omega
  split
  ·exact (i.atomic h1).1
  ·exact i.take h1
theorem Inv.work {u:Int} {h:Hp} (i:Inv h):Inv (Hp.work u h):=Hp.EP (P:=fun _ h g=>Inv h->Inv g) (fun u h _ i=>i) (fun u h g _ hs x i=>x (i.advance hs)) u h i
theorem Inv.step {u:Int} {h:Hp} (i:Inv h):Inv (Hp.step u h):=by
 unfold Hp.step
 split
 ·rename_i hs;exact (i.begin hs).1.work
 ·exact i.work
end
theorem Hp.Gc (h:Hp) (hs:h.state=2):h.Ec.phi<h.phi:=by
 have hge:=h.EU h.D7
 have hend:=h.Fj h.D7
 have hp:h.phi=h.objs.length-h.D7+1:=by simp [Hp.phi,hs]
 rw [hp]
 by_cases hlt:h.skip h.D7<h.objs.length
 ·have hne:h.ob (h.skip h.D7)≠none:=fun x=>hend ⟨hlt,x⟩
  have h2:∀ g:Hp,g.state=2->g.objs.length=h.objs.length->h.skip h.D7+1<=g.D7->g.skipped.close.phi<h.objs.length-h.D7+1:=by
   intro g hs2 hl2 hsw
   have hge2:=g.EU g.D7
   unfold Hp.close
   split
   ·simp only [Hp.phi,Hp.skipped,hs2,hl2]
    simp only [show ¬ (2:Nat)=0 by decide,if_false,if_true]
    omega
   ·simp only [Hp.phi,if_true]
    omega
  have h3:h.skipped.D9.state=2/\h.skipped.D9.objs.length=h.objs.length/\h.skip h.D7+1<=h.skipped.D9.D7:=by
   unfold Hp.D9
   split
   ·split
    ·exact ⟨hs,by simp [Hp.skipped],Nat.le_refl _⟩
    ·exact ⟨hs,by simp [Hp.skipped,Hp.upd],Nat.le_refl _⟩
   ·rename_i hx
    exact absurd hx hne
  exact h2 _ h3.1 h3.2.1 h3.2.2
 ·have h3:h.skipped.D9=h.skipped:=by
   unfold Hp.D9
   split
   ·rename_i o ho
    have ho':h.ob (h.skip h.D7)=some o:=ho
    have:=Hp.Es ho'
    omega
   ·rfl
  unfold Hp.Ec
  rw [h3]
  have hge2:=h.skipped.EU h.skipped.D7
  unfold Hp.close
  rw [if_neg]
  ·simp only [Hp.phi,if_true]
   omega
  ·show ¬ h.skipped.skip (h.skip h.D7)<h.objs.length
   have:h.skip h.D7<=h.skipped.skip (h.skip h.D7):=hge2
   omega
theorem Hp.EH {h:Hp} (i:Inv h) (hs:h.state≠0):h.advance.1.phi<h.phi:=by
 unfold Hp.advance
 split
 ·rename_i h2;exact h.Gc h2
 ·rename_i h2
  have:=i.st
  have h1:h.state=1:=by omega
  have hp:h.phi=h.mu+h.objs.length+2:=by simp [Hp.phi,h1]
  rw [hp]
  split
  ·obtain ⟨_,a,b,c⟩:=i.atomic h1
   have:h.atomic.phi=h.objs.length-1+1:=by simp [Hp.phi,a,b,c]
   show h.atomic.phi<_
   omega
  ·rename_i hg
   have h3:=h.ER hg
   have hm:=JM.take h
   have:h.take.1.phi=h.take.1.mu+h.objs.length+2:=by simp [Hp.phi,hm.state,h1,hm.len]
   omega
def Hp.finish (h:Hp):Hp:=if hs:h.state≠0/\h.advance.1.phi<h.phi then Hp.finish h.advance.1 else h
 termination_by h.phi
 decreasing_by exact hs.2
theorem Hp.EZ (h:Hp) (hs:h.state=0):h.finish=h:=by rw [Hp.finish,dif_neg (fun x=>x.1 hs)]
theorem Hp.FN {h:Hp} (i:Inv h) (hs:h.state≠0):h.finish=h.advance.1.finish:=by rw [Hp.finish,dif_pos ⟨hs,Hp.EH i hs⟩]
theorem Hp.EY {P:Hp->Hp->Prop} (h0:∀ h,h.state=0->P h h) (h1:∀ h g,Inv h->h.state≠0->P h.advance.1 g->P h g):∀ h:Hp,Inv h->P h h.finish:=by
 intro h i
 by_cases hs:h.state=0
 ·rw [h.EZ hs];exact h0 h hs
 ·rw [Hp.FN i hs]
  exact h1 h _ i hs (Hp.EY h0 h1 h.advance.1 (i.advance hs))
 termination_by h=>h.phi
 decreasing_by exact Hp.EH (by assumption) (by assumption)
theorem Inv.finish {h:Hp} (i:Inv h):Inv h.finish/\h.finish.state=0:=Hp.EY (P:=fun h g=>Inv h->Inv g/\g.state=0) (fun h hs i=>⟨i,hs⟩) (fun h g i0 hs x i=>x (i.advance hs)) h i i
theorem Hp.Gt:∀ (u:Int) (h:Hp),Inv h->(Hp.work u h).finish=h.finish:=by
 intro u h
 refine Hp.EP (P:=fun _ h g=>Inv h->g.finish=h.finish) (fun u h _ _=>rfl) (fun u h g _ hs x i=>?_) u h
 rw [x (i.advance hs),Hp.FN i hs]
def Hp.full (h:Hp):Hp:=h.finish.begin.finish
theorem Inv.full {h:Hp} (i:Inv h):Inv h.full/\h.full.state=0:=(i.finish.1.begin i.finish.2).1.finish
def Hp.ED (h:Hp):Hp:=
 if hc:256<=h.D6/\h.state≠0/\(Hp.step 64 { h with D6:=h.D6-256 }).D6<h.D6 then Hp.ED (Hp.step 64 { h with D6:=h.D6-256 }) else h
 termination_by h.D6
 decreasing_by exact hc.2.2
def Hp.Fe (h:Hp):Hp:=
 if h.state=0 then if h.bytes<h.limit then h else Hp.step 64 { h with D6:=0 } else h.ED
theorem Inv.F9 {h:Hp} (i:Inv h) (c:Nat):Inv { h with D6:=c }:=by
 refine ⟨i.w1,i.st,i.zero,i.ps,i.md,i.ls,i.nc,i.s0,fun hs=>?_,i.s2⟩
 have t:=i.s1 hs
 exact ⟨t.col,t.Jq,t.blk,t.wc,t.ll,t.cl⟩
theorem Hp.GQ (h:Hp):h.close.D6<=h.D6:=by
 unfold Hp.close
 split
 ·exact Nat.le_refl _
 ·exact Nat.zero_le _
theorem Hp.EL (h:Hp):h.D9.D6=h.D6:=by
 unfold Hp.D9
 split
 ·split<;>rfl
 ·rfl
theorem Hp.E9 (h:Hp):h.atomic.D6=h.D6/\h.atomic.bytes=h.bytes/\h.atomic.live=h.live/\h.atomic.limit=h.limit/\h.atomic.freed=h.freed/\h.atomic.roots=h.roots:=by
 have a1:=iW.JY h
 have c1:=J2.fold bq bI h.JY.weak h.JY
 have k:=Hp.FL (h.JY.weak.foldl Hp.Jk h.JY)
 have k2:=(Hp.EW (h.JY.weak.foldl Hp.Jk h.JY)).2.2.1
 have m3:=JM.at3 h.JY.at2
 have c5:=(J2.at4 h.JY.at2.at3).trans (J2.Jp _)
 refine ⟨?_,?_,?_,?_,?_,?_⟩
 ·exact c5.D6.trans (m3.D6.trans (k.2.2.2.2.1.trans (c1.D6.trans a1.D6)))
 ·exact c5.bytes.trans (m3.bytes.trans (k.2.1.trans (c1.bytes.trans a1.bytes)))
 ·exact c5.live.trans (m3.live.trans (k.2.2.1.trans (c1.live.trans a1.live)))
 ·exact c5.limit.trans (m3.limit.trans (k.2.2.2.1.trans (c1.limit.trans a1.limit)))
 ·exact c5.freed.trans (m3.freed.trans (k.1.trans (c1.freed.trans a1.freed)))
 ·exact c5.roots.trans (m3.roots.trans (k2.trans (c1.roots.trans a1.roots)))
theorem Hp.Gl (h:Hp):h.advance.1.D6<=h.D6:=by
 unfold Hp.advance
 split
 ·show h.skipped.D9.skipped.close.D6<=_
  refine Nat.le_trans (Hp.GQ _) ?_
  show h.skipped.D9.D6<=_
  rw [Hp.EL]
  exact Nat.le_refl _
 ·split
  ·exact Nat.le_of_eq h.E9.1
  ·exact Nat.le_of_eq (JM.take h).D6
theorem Hp.Gi (u:Int) (h:Hp):(Hp.work u h).D6<=h.D6:=Hp.EP (P:=fun _ h g=>g.D6<=h.D6) (fun u h _=>Nat.le_refl _) (fun u h g _ _ x=>Nat.le_trans x h.Gl) u h
theorem Hp.Fq (u:Int) (h:Hp):(Hp.step u h).D6<=h.D6:=by
 unfold Hp.step
 split
 ·exact Nat.le_trans (Hp.Gi _ _) (Nat.le_of_eq (JM.alive _).D6)
 ·exact Hp.Gi _ _
theorem Hp.FY (h:Hp) (hc:256<=h.D6) (hs:h.state≠0):h.ED=Hp.ED (Hp.step 64 { h with D6:=h.D6-256 }):=by
 have h9:(Hp.step 64 { h with D6:=h.D6-256 }).D6<h.D6:=by
  have:=Hp.Fq 64 { h with D6:=h.D6-256 }
  simp only at this
  omega
 rw [Hp.ED,dif_pos ⟨hc,hs,h9⟩]
theorem Hp.ET (h:Hp) (hc:¬ (256<=h.D6/\h.state≠0)):h.ED=h:=by rw [Hp.ED,dif_neg (fun x=>hc ⟨x.1,x.2.1⟩)]
theorem Hp.Fp {P:Hp->Hp->Prop} (h0:∀ h,¬ (256<=h.D6/\h.state≠0)->P h h) (h1:∀ h g,256<=h.D6->h.state≠0->P (Hp.step 64 { h with D6:=h.D6-256 }) g->P h g):∀ h:Hp,P h h.ED:=by
 intro h
 by_cases hc:256<=h.D6/\h.state≠0
 ·rw [h.FY hc.1 hc.2]
  exact h1 h _ hc.1 hc.2 (Hp.Fp h0 h1 _)
 ·rw [h.ET hc]
  exact h0 h hc
 termination_by h=>h.D6
 decreasing_by
  have:=Hp.Fq 64 { h with D6:=h.D6-256 }
  simp only at this
  omega
theorem Inv.ED {h:Hp} (i:Inv h):Inv h.ED:=Hp.Fp (P:=fun h g=>Inv h->Inv g) (fun h _ i=>i) (fun h g _ _ x i=>x (i.F9 _).step) h i
theorem Inv.Fe {h:Hp} (i:Inv h):Inv h.Fe:=by
 unfold Hp.Fe
 split
 ·split
  ·exact i
  ·exact (i.F9 0).step
 ·exact i.ED
section
variable {e:En} {es':List En} {m n:Nat} {o:Ob}
def Hp.Reach (h:Hp) (n:Nat):Prop:=∀ S:Nat->Prop,(∀ r∈h.roots,S r)->(∀ m o e,S m->h.ob m=some o->e∈o.es->e.2.isSome=true->∀ r∈bM e,S r)->S n
theorem Hp.FI {h:Hp} (i:Inv h) (r:h.Reach n):h.Ok n:=
 r h.Ok (fun r hr=>i.ls r (.inl hr)) (fun m o e hm ho he _ r hr=>by
   obtain ⟨o',e',nd⟩:=hm
   rw [ho] at e';cases e'
   exact i.nc m o ho nd e he r hr)
theorem Hp.FV {h:Hp} (hn:n∈h.roots):h.Reach n:=fun S hr _=>hr n hn
theorem Hp.Fv {h:Hp} (hm:h.Reach m) (ho:h.ob m=some o) (he:e∈o.es) (hs:e.2.isSome=true) {r:Nat} (hr:r∈bM e):h.Reach r:=
 fun S h1 h2=>h2 m o e (hm S h1 h2) ho he hs r hr
theorem Inv.same {h g:Hp} (i:Inv h) (hob:∀ n,(g.ob n).map (fun o=>(o.col,o.mode,o.es))=(h.ob n).map (fun o=>(o.col,o.mode,o.es))) (hl:g.objs.length=h.objs.length) (h1:g.grey=h.grey) (h2:g.again=h.again) (h3:g.weak=h.weak) (h4:g.D8=h.D8) (h5:g.white=h.white) (h6:g.state=h.state) (h7:g.D7=h.D7)
 (hls:∀ n,n∈g.roots∨n∈g.pending∨n∈g.finals->h.Ok n):Inv g:=by
 have get:∀ n o',g.ob n=some o'->∃ o,h.ob n=some o/\o'.col=o.col/\o'.mode=o.mode/\o'.es=o.es:=by
  intro n o' e
  have:=hob n
  rw [e] at this
  cases e2:h.ob n with
  |none=>rw [e2] at this;simp at this
  |some o=>rw [e2] at this;simp at this;exact ⟨o,rfl,this.1,this.2.1,this.2.2⟩
 have hok:∀ n,h.Ok n->g.Ok n:=by
  rintro n ⟨o,e,nd⟩
  have:=hob n
  rw [e] at this
  cases e2:g.ob n with
  |none=>rw [e2] at this;simp at this
  |some o'=>
   rw [e2] at this;simp at this
   exact ⟨o',e2,fun d=>nd ⟨h6 ▸ d.1,this.1 ▸ d.2.1,by rw [<-this.1,<-h5];exact d.2.2⟩⟩
 refine ⟨by rw [h5];exact i.w1,by rw [h6];exact i.st,?_,by rw [hl];exact i.ps,fun n o e=>?_,fun n hn=>hok n (hls n hn),fun n o e nd en he r hr=>?_,fun hs n o e=>?_,fun hs=>(i.s1 (h6 ▸ hs)).same hob h1 h2 h3 h4 h5,fun hs=>?_⟩
 ·cases e:g.ob 0 with
  |none=>rfl
  |some o=>obtain ⟨o',e',_⟩:=get 0 o e;rw [i.zero] at e';cases e'
 ·obtain ⟨o',e',_,h8,_⟩:=get n o e;rw [h8];exact i.md n o' e'
 ·obtain ⟨o',e',h8,_,h9⟩:=get n o e
  exact hok r (i.nc n o' e' (fun d=>nd ⟨h6.trans d.1,by rw [h8];exact d.2.1,by rw [h8,h5];exact d.2.2⟩) en (h9 ▸ he) r hr)
 ·obtain ⟨o',e',h8,_⟩:=get n o e;rw [h8,h5];exact i.s0 (h6 ▸ hs) n o' e'
 ·obtain ⟨a,b,c,d,e⟩:=i.s2 (h6 ▸ hs)
  refine ⟨h1.trans a,by rw [h7];exact b,by rw [h7,hl];exact c,fun n o x=>?_,fun n o x hn=>?_⟩
  ·obtain ⟨o',e',h8,_⟩:=get n o x;rw [h8];exact d n o' e'
  ·obtain ⟨o',e',h8,_⟩:=get n o x;rw [h8,h5];exact e n o' e' (h7 ▸ hn)
theorem Inv.re {h g:Hp} (i:Inv h) (ho:h.ob n=some o) (hok:h.Ok n) (hr:∀ e∈es',∀ r∈bM e,h.Ok r)
 (hob:∀ m,g.ob m=if n=m then some ⟨if o.col=3/\h.state=1 then 2 else o.col,o.mode,es',o.fin⟩ else h.ob m) (hl:g.objs.length=h.objs.length) (h1:g.grey=h.grey) (h2:g.again=if o.col=3/\h.state=1 then h.again++[n] else h.again) (h3:g.weak=h.weak) (h4:g.D8=h.D8) (h5:g.white=h.white) (h6:g.state=h.state) (h7:g.D7=h.D7) (h8:g.roots=h.roots) (h9:g.pending=h.pending) (h10:g.finals=h.finals):Inv g:=by
 have hc:∀ c,c=(if o.col=3/\h.state=1 then 2 else o.col)->eP c=eP o.col/\(c=o.col∨(c=2/\o.col=3/\h.state=1)):=by
  intro c e
  subst e
  split
  ·rename_i x;exact ⟨by rw [x.1];rfl,.inr ⟨rfl,x⟩⟩
  ·exact ⟨rfl,.inl rfl⟩
 have get:∀ m o',g.ob m=some o'->∃ o2,h.ob m=some o2/\eP o'.col=eP o2.col/\o'.mode=o2.mode/\((m≠n/\o'=o2)∨(m=n/\o2=o/\o'.es=es'/\(o'.col=o.col∨(o'.col=2/\o.col=3/\h.state=1)))):=by
  intro m o' e
  rw [hob] at e
  split at e
  ·rename_i x
   subst x
   simp only [Option.some.injEq] at e
   obtain ⟨a,b⟩:=hc _ rfl
   subst e
   exact ⟨o,ho,a,rfl,.inr ⟨rfl,rfl,rfl,b⟩⟩
  ·rename_i x;exact ⟨o',e,rfl,rfl,.inl ⟨fun y=>x y.symm,rfl⟩⟩
 have hcol:h.state=2->∀ c,c=(if o.col=3/\h.state=1 then 2 else o.col)->c=o.col:=by
  intro hs c e
  rcases (hc c e).2 with x|x
  ·exact x
  ·omega
 have hokg:∀ m,h.Ok m->g.Ok m:=by
  rintro m ⟨o2,e2,nd⟩
  unfold Hp.Ok
  rw [hob]
  split
  ·rename_i x
   subst x
   rw [ho] at e2;cases e2
   refine ⟨_,rfl,fun d=>nd ?_⟩
   have hs:h.state=2:=h6 ▸ d.1
   have hcc:=hcol hs _ rfl
   have d2:=d.2
   simp only at d2
   rw [hcc,h5] at d2
   exact ⟨hs,d2⟩
  ·exact ⟨o2,e2,fun d=>nd ⟨h6 ▸ d.1,d.2.1,h5 ▸ d.2.2⟩⟩
 have hW:∀ m,g.JK m=h.JK m:=by
  intro m
  unfold Hp.JK
  rw [hob]
  by_cases x:n=m
  ·subst x
   rw [if_pos rfl,ho]
   exact (hc _ rfl).1
  ·rw [if_neg x]
 have hLv:∀ m,h.Lv m->g.Lv m:=by
  rintro m ⟨o2,e2⟩
  unfold Hp.Lv
  rw [hob]
  split
  ·exact ⟨_,rfl⟩
  ·exact ⟨o2,e2⟩
 refine ⟨by rw [h5];exact i.w1,by rw [h6];exact i.st,?_,by rw [hl];exact i.ps,fun m o' e=>?_,fun m hm=>hokg m (i.ls m (by rw [h8,h9,h10] at hm;exact hm)),fun m o' e nd en he r hrr=>?_,fun hs m o' e=>?_,fun hs=>?_,fun hs=>?_⟩
 ·rw [hob]
  split
  ·rename_i x;subst x;rw [i.zero] at ho;cases ho
  ·exact i.zero
 ·obtain ⟨o2,e2,_,h11,_⟩:=get m o' e;rw [h11];exact i.md m o2 e2
 ·obtain ⟨o2,e2,hw,_,h12⟩:=get m o' e
  rcases h12 with ⟨_,rfl⟩|⟨rfl,rfl,h13,h14⟩
  ·exact hokg r (i.nc m o' e2 (fun d=>nd ⟨h6.trans d.1,d.2.1,by rw [h5];exact d.2.2⟩) en he r hrr)
  ·exact hokg r (hr en (h13 ▸ he) r hrr)
 ·have hs':h.state=0:=h6 ▸ hs
  obtain ⟨o2,e2,hw,_,h12⟩:=get m o' e
  rw [h5]
  rcases h12 with ⟨_,rfl⟩|⟨rfl,rfl,h13,h14⟩
  ·exact i.s0 hs' m o' e2
  ·rcases h14 with x|x
   ·rw [x];exact i.s0 hs' m o2 e2
   ·omega
 ·have hs':h.state=1:=h6 ▸ hs
  have t:=i.s1 hs'
  have hag:∀ m∈h.again,m∈g.again:=by
   intro m hm
   rw [h2]
   split
   ·exact List.mem_append_left _ hm
   ·exact hm
  refine ⟨fun m o' e=>?_,fun m o' e k=>?_,fun m o' e k hS=>?_,fun m o' e w=>?_,fun m hm=>?_,fun m o' e en he r hrr=>?_⟩
  ·obtain ⟨o2,e2,hw,_,h12⟩:=get m o' e
   have:=t.col m o2 e2
   rcases h12 with ⟨_,rfl⟩|⟨rfl,rfl,h13,h14⟩
   ·exact this
   ·omega
  ·obtain ⟨o2,e2,hw,_,h12⟩:=get m o' e
   rw [h1]
   rcases h12 with ⟨_,rfl⟩|⟨rfl,rfl,h13,h14⟩
   ·exact (t.Jq m o' e2 k).imp id (hag m)
   ·rcases h14 with x|x
    ·exact (t.Jq m o2 e2 (x ▸ k)).imp id (hag m)
    ·right
     rw [h2,if_pos ⟨x.2.1,hs'⟩]
     simp
  ·obtain ⟨o2,e2,hw,_,h12⟩:=get m o' e
   rcases h12 with ⟨_,rfl⟩|⟨rfl,rfl,h13,h14⟩
   ·exact (t.blk m o' e2 k hS).mono rfl rfl (fun r x=>by rw [hW] at x;exact x) (fun r x=>by rw [h4];exact x) (fun r x=>by rw [h3];exact x)
   ·have hx:=hob m
    rw [if_pos rfl,e] at hx
    simp only [Option.some.injEq] at hx
    rcases h14 with x|x
    ·rw [hx] at k
     simp only at k
     split at k
     ·omega
     ·rename_i y;exact absurd ⟨k,hs'⟩ y
    ·omega
  ·obtain ⟨o2,e2,hw,_,h12⟩:=get m o' e
   rw [h5]
   rcases h12 with ⟨_,rfl⟩|⟨rfl,rfl,h13,h14⟩
   ·exact t.wc m o' e2 w
   ·rcases h14 with x|x
    ·rw [x];exact t.wc m o2 e2 (hw ▸ w)
    ·rw [x.1] at w;cases w
  ·rw [h1,h2,h3,h4] at hm
   refine hLv m ?_
   rcases hm with x|x|x|x
   ·exact t.ll m (.inl x)
   ·split at x
    ·rcases List.mem_append.1 x with y|y
     ·exact t.ll m (.inr (.inl y))
     ·simp at y;subst y;exact ⟨o,ho⟩
    ·exact t.ll m (.inr (.inl x))
   ·exact t.ll m (.inr (.inr (.inl x)))
   ·exact t.ll m (.inr (.inr (.inr x)))
  ·obtain ⟨o2,e2,hw,_,h12⟩:=get m o' e
   rcases h12 with ⟨_,rfl⟩|⟨rfl,rfl,h13,h14⟩
   ·exact hLv r (t.cl m o' e2 en he r hrr)
   ·exact hLv r (Hp.ES (hr en (h13 ▸ he) r hrr))
 ·have hs':h.state=2:=h6 ▸ hs
  obtain ⟨a,b,c,d,e⟩:=i.s2 hs'
  refine ⟨h1.trans a,by rw [h7];exact b,by rw [h7,hl];exact c,fun m o' x=>?_,fun m o' x hn=>?_⟩
  ·obtain ⟨o2,e2,hw,_,h12⟩:=get m o' x
   have:=d m o2 e2
   rcases h12 with ⟨_,rfl⟩|⟨rfl,rfl,h13,h14⟩<;>omega
  ·obtain ⟨o2,e2,hw,_,h12⟩:=get m o' x
   rw [h5]
   have h15:=e m o2 e2 (h7 ▸ hn)
   rcases h12 with ⟨_,rfl⟩|⟨rfl,rfl,h13,h14⟩
   ·exact h15
   ·rcases h14 with y|y
    ·rw [y];exact h15
    ·omega
end
end Go.Proofs.YtedpifhlffcmkaaGreatDoor
