import Derived.Test.YtbpcdfbmnklcjaaGreatDoorProg
namespace Go.Proofs.YtbpcdfbmnklcjaaGreatDoor
open Go
abbrev au:=@Nat.le_refl
abbrev aI:=@Nat.le_trans
abbrev aX:=@Nat.lt_of_lt_of_le
abbrev aO:=@Nat.le_of_eq
abbrev dh:=@Nat.le_of_lt
abbrev aJ:=@List.getElem?_eq_some_iff
abbrev aH:=@List.getElem?_set_ne
abbrev aN:=@List.getElem?_eq_getElem
abbrev dY:=@List.getElem?_set_self
abbrev bq:=@List.getD_eq_getElem?_getD
abbrev aW:=@List.mem_of_getElem?
abbrev dF:=@List.getElem?_append_left
abbrev fI:=@List.getElem?_append_right
abbrev fD:=@List.getElem?_eq_none
abbrev aM:=@World.cell?_of_block
abbrev bM:=@Array.size_push
abbrev aG:=@Below.refl
abbrev aT:=@List.length_append
abbrev bI:=@List.length_map
abbrev bX:=@List.length_take
abbrev bf:=@List.take_length
abbrev bN:=@List.length_set
abbrev bY:=@List.getElem?_set
abbrev fZ:=@List.length_cons
abbrev aY:=@List.mem_append
abbrev eT:=@List.mem_cons
abbrev jF:=@beq_eq_false_iff_ne
abbrev jI:=@World.cell?_setCell_other
end Go.Proofs.YtbpcdfbmnklcjaaGreatDoor
namespace Go.Proofs.YtbpcdfbmnklcjaaGreatDoor
set_option linter.unusedVariables false
abbrev HV:=Option (Int ⊕ Nat)
abbrev En:=HV × HV
structure Ob where
 col:Nat
 mode:Nat
 es:List En
 fin:Bool
structure Hp where
 objs:List (Option Ob)
 grey:List Nat
 again:List Nat
 weak:List Nat
 GZ:List Nat
 finals:List Nat
 pending:List Nat
 roots:List Nat
 freed:List Nat
 bytes:Nat
 live:Nat
 limit:Nat
 GY:Nat
 state:Nat
 white:Nat
 G5:Nat
def Hp.new:Hp:=⟨[none],[],[],[],[],[],[],[],[],0,0,4096,0,0,0,0⟩
def Hp.ob (h:Hp) (n:Nat):Option Ob:=(h.objs[n]?).join
def Hp.upd (h:Hp) (n:Nat) (f:Ob->Ob):Hp:={ h with objs:=h.objs.modify n (Option.map f) }
def gu (c:Nat):Bool:=c==0||c==1
def Hp.M4 (h:Hp) (n:Nat):Bool:=match h.ob n with
 |some o=>gu o.col
 |none=>true
def Hp.ME (h:Hp) (v:HV):Bool:=match v with
 |some (.inr n)=>h.M4 n
 |_=>false
def Ob.size (o:Ob):Nat:=40+40*o.es.length
def Hp.make (h:Hp) (mode:Nat):Hp:={ h with objs:=h.objs++[some ⟨h.white,mode,[],false⟩],live:=h.live+1,bytes:=h.bytes+40,GY:=h.GY+40 }
def Hp.mark (h:Hp) (n:Nat):Hp:=match h.ob n with
 |some o=>if gu o.col then { h.upd n (fun o=>{ o with col:=2 }) with grey:=h.grey++[n] } else h
 |none=>h
def Hp.Hz (h:Hp) (v:HV):Hp:=match v with
 |some (.inr n)=>h.mark n
 |_=>h
def Hp.Ho (h:Hp) (l:List Nat):Hp:=l.foldl Hp.mark h
def Hp.He (p:Hp × Bool) (e:En):Hp × Bool:=if !p.1.ME e.1&&p.1.ME e.2 then (p.1.Hz e.2,true) else p
def Hp.spread (h:Hp) (es:List En):Hp × Bool:=es.foldl Hp.He (h,false)
def Hp.key1 (h:Hp) (e:En):Hp:=if e.2.isSome then h.Hz e.1 else h
def Hp.Hw (h:Hp) (e:En):Hp:=(h.key1 e).Hz e.2
def Hp.Ih (h:Hp) (n:Nat) (o:Ob):Hp:=
 if o.mode=0 then o.es.foldl Hp.Hw h
 else if o.mode=1 then ({ h with GZ:=h.GZ++[n] }.spread o.es).1
 else if o.mode=2 then (let g:=o.es.foldl Hp.key1 h;{ g with weak:=g.weak++[n] })
 else { h with weak:=h.weak++[n] }
def Hp.scan (h:Hp) (n:Nat):Hp × Nat:=match h.ob n with
 |some o=>((h.upd n (fun o=>{ o with col:=3 })).Ih n o,1+o.es.length)
 |none=>(h,1)
def Hp.Jf (h:Hp) (n:Nat):List En:=((h.ob n).map Ob.es).getD []
def Hp.take (h:Hp):Hp × Nat:=match h.grey.getLast? with
 |some n=>{ h with grey:=h.grey.dropLast }.scan n
 |none=>(h,0)
theorem Hp.Hf (h:Hp) (n m:Nat) (f:Ob->Ob):(h.upd n f).ob m=if n=m then (h.ob m).map f else h.ob m:=by
 simp only [Hp.ob,Hp.upd,List.getElem?_modify];by_cases e:n=m
 ·subst e;cases h.objs[n]?<;>simp
 ·simp [e]
theorem Hp.Hu (h:Hp) (n:Nat) (f:Ob->Ob):(h.upd n f).objs.length=h.objs.length:=by simp [Hp.upd]
section
variable {n:Nat} {o:Ob}
def q8 (o:Option Ob):Bool:=match o with
 |some o=>gu o.col
 |none=>false
def Hp.wn (h:Hp):Nat:=h.objs.countP q8
def Hp.mu (h:Hp):Nat:=h.wn+h.grey.length
theorem iV {α:Type} (p:α->Bool) (f:α->α) (b:∀ x,p (f x)=true->p x=true):∀ (l:List α) (n:Nat),(l.modify n f).countP p<=l.countP p
 | [],n=>by simp
 |a::l,0=>by
  simp only [List.modify_zero_cons,List.countP_cons];have:=b a;cases h1:p (f a)<;>cases h2:p a<;>simp_all
 |a::l,n+1=>by
  simp only [List.modify_succ_cons,List.countP_cons];have:=iV p f b l n;omega
theorem ji {α:Type} (p:α->Bool) (f:α->α):∀ (l:List α) (n:Nat) (x:α),l[n]?=some x->p x=true->p (f x)=false->(l.modify n f).countP p+1=l.countP p
 | [],n,x,h,_,_=>by simp at h
 |a::l,0,x,h,h1,h2=>by
  simp at h;subst h;simp [h1,h2]
 |a::l,n+1,x,h,h1,h2=>by
  simp only [List.modify_succ_cons,List.countP_cons];have:=ji p f l n x (by simpa using h) h1 h2;omega
theorem Hp.I8 {h:Hp} (e:h.ob n=some o):h.objs[n]?=some (some o):=by
 unfold Hp.ob at e;cases hx:h.objs[n]? with
 |none=>simp [hx] at e
 |some x=>simp [hx] at e;simp [e]
theorem Hp.J_ (h:Hp) (n c:Nat) (a:gu c=false):(h.upd n fun o=>{ o with col:=c }).wn<=h.wn:=by
 refine iV _ _ ?_ _ _;intro x hx;cases x<;>simp_all [q8]
theorem Hp.KC (h:Hp) (n:Nat):(h.mark n).mu=h.mu:=by
 unfold Hp.mark;split
 ·rename_i o ho
  split
  ·rename_i a
   have:=ji q8 (Option.map fun o:Ob=>{ o with col:=2 }) h.objs n (some o) (Hp.I8 ho) a rfl;simp only [Hp.mu,Hp.wn,Hp.upd,aT,List.length_singleton];omega
  ·rfl
 ·rfl
theorem Hp.Jp (h:Hp) (v:HV):(h.Hz v).mu=h.mu:=by
 unfold Hp.Hz;split
 ·exact h.KC _
 ·rfl
theorem nW {α:Type} (f:Hp->α->Hp) (b:∀ h x,(f h x).mu=h.mu):∀ (l:List α) (h:Hp),(l.foldl f h).mu=h.mu
 | [],h=>rfl
 |a::l,h=>(nW f b l (f h a)).trans (b h a)
theorem Hp.J4 (h:Hp) (e:En):(h.key1 e).mu=h.mu:=by
 unfold Hp.key1;split
 ·exact h.Jp _
 ·rfl
theorem Hp.J9 (h:Hp) (e:En):(h.Hw e).mu=h.mu:=(Hp.Jp _ _).trans (h.J4 e)
theorem Hp.Kg (p:Hp × Bool) (e:En):(Hp.He p e).1.mu=p.1.mu:=by
 unfold Hp.He;split
 ·exact Hp.Jp _ _
 ·rfl
theorem n_:∀ (es:List En) (p:Hp × Bool),(es.foldl Hp.He p).1.mu=p.1.mu
 | [],p=>rfl
 |e::es,p=>(n_ es _).trans (Hp.Kg p e)
theorem Hp.Ii (h:Hp) (es:List En):(h.spread es).1.mu=h.mu:=n_ es (h,false)
theorem Hp.KJ (h:Hp) (n:Nat) (o:Ob):(h.Ih n o).mu=h.mu:=by
 unfold Hp.Ih;split
 ·exact nW _ (fun h x=>h.J9 x) _ _
 ·split
  ·exact (Hp.Ii _ _).trans rfl
  ·split
   ·exact (show (o.es.foldl Hp.key1 h).mu=h.mu from nW _ (fun h x=>h.J4 x) _ _)
   ·rfl
theorem Hp.KR (h:Hp) (n:Nat):(h.scan n).1.mu<=h.mu:=by
 unfold Hp.scan;split
 ·rw [Hp.KJ]
  have:=h.J_ n 3 rfl;simp only [Hp.mu,Hp.upd] at this ⊢;omega
 ·exact au _
theorem Hp.IQ (h:Hp) (b:h.grey≠[]):h.take.1.mu+1<=h.mu:=by
 unfold Hp.take;split
 ·rename_i n a
  have:=Hp.KR { h with grey:=h.grey.dropLast } n;have c:h.grey.length≠0:=by simpa using b
  simp only [Hp.mu,Hp.wn,List.length_dropLast] at this ⊢;omega
 ·rename_i a
  simp at a;exact absurd a b
def Hp.nu (h:Hp):Nat:=h.mu+h.GZ.length+h.weak.length
theorem Hp.Jq (h:Hp) (n:Nat):(h.mark n).GZ=h.GZ/\(h.mark n).weak=h.weak:=by
 unfold Hp.mark;split
 ·split<;>exact ⟨rfl,rfl⟩
 ·exact ⟨rfl,rfl⟩
theorem Hp.Iq (h:Hp) (v:HV):(h.Hz v).GZ=h.GZ/\(h.Hz v).weak=h.weak:=by
 unfold Hp.Hz;split
 ·exact h.Jq _
 ·exact ⟨rfl,rfl⟩
theorem gN {α:Type} (f:Hp->α->Hp) (b:∀ h x,(f h x).GZ=h.GZ/\(f h x).weak=h.weak):∀ (l:List α) (h:Hp),(l.foldl f h).GZ=h.GZ/\(l.foldl f h).weak=h.weak
 | [],h=>⟨rfl,rfl⟩
 |a::l,h=>⟨(gN f b l (f h a)).1.trans (b h a).1,(gN f b l (f h a)).2.trans (b h a).2⟩
theorem Hp.IL (h:Hp) (e:En):(h.key1 e).GZ=h.GZ/\(h.key1 e).weak=h.weak:=by
 unfold Hp.key1;split
 ·exact h.Iq _
 ·exact ⟨rfl,rfl⟩
theorem Hp.I5 (h:Hp) (e:En):(h.Hw e).GZ=h.GZ/\(h.Hw e).weak=h.weak:=
 ⟨(Hp.Iq _ _).1.trans (h.IL e).1,(Hp.Iq _ _).2.trans (h.IL e).2⟩
theorem Hp.Jj (p:Hp × Bool) (e:En):(Hp.He p e).1.GZ=p.1.GZ/\(Hp.He p e).1.weak=p.1.weak:=by
 unfold Hp.He;split
 ·exact Hp.Iq _ _
 ·exact ⟨rfl,rfl⟩
theorem jq:∀ (es:List En) (p:Hp × Bool),(es.foldl Hp.He p).1.GZ=p.1.GZ/\(es.foldl Hp.He p).1.weak=p.1.weak
 | [],p=>⟨rfl,rfl⟩
 |e::es,p=>⟨(jq es _).1.trans (Hp.Jj p e).1,(jq es _).2.trans (Hp.Jj p e).2⟩
theorem Hp.Ic (h:Hp) (es:List En):(h.spread es).1.GZ=h.GZ/\(h.spread es).1.weak=h.weak:=jq es (h,false)
theorem Hp.II (h:Hp) (es:List En):(h.spread es).1.nu=h.nu:=by
 simp only [Hp.nu,h.Ii es,(h.Ic es).1,(h.Ic es).2]
theorem Hp.Kj (h:Hp) (n:Nat) (o:Ob):(h.Ih n o).GZ.length+(h.Ih n o).weak.length<=h.GZ.length+h.weak.length+1:=by
 unfold Hp.Ih;split
 ·have:=gN Hp.Hw (fun h x=>h.I5 x) o.es h
  rw [this.1,this.2];omega
 ·split
  ·have:=Hp.Ic { h with GZ:=h.GZ++[n] } o.es
   rw [this.1,this.2];simp only [aT,List.length_singleton];omega
  ·split
   ·have:=gN Hp.key1 (fun h x=>h.IL x) o.es h
    simp only [this.1,this.2,aT,List.length_singleton];omega
   ·simp only [aT,List.length_singleton];omega
theorem Hp.JD (h:Hp) (a:h.grey≠[]):h.take.1.nu<=h.nu:=by
 have c:=h.IQ a;have b:h.take.1.GZ.length+h.take.1.weak.length<=h.GZ.length+h.weak.length+1:=by
  unfold Hp.take;split
  ·unfold Hp.scan
   split
   ·exact Hp.Kj _ _ _
   ·simp only;omega
  ·simp only;omega
 simp only [Hp.nu];omega
def Hp.drain (h:Hp):Hp:=if hg:h.grey=[] then h else Hp.drain h.take.1
 termination_by h.mu
 decreasing_by exact h.IQ hg
theorem Hp.JN (h:Hp) (a:h.grey=[]):h.drain=h:=by rw [Hp.drain,dif_pos a]
theorem Hp.Jd (h:Hp) (a:h.grey≠[]):h.drain=h.take.1.drain:=by rw [Hp.drain,dif_neg a]
theorem Hp.Im {P:Hp->Hp->Prop} (c:∀ h,h.grey=[]->P h h) (b:∀ h g,h.grey≠[]->P h.take.1 g->P h g):∀ h:Hp,P h h.drain:=by
 intro h;rw [Hp.drain];split
 ·rename_i a
  exact c h a
 ·rename_i a
  exact b h _ a (Hp.Im c b h.take.1)
 termination_by h=>h.mu
 decreasing_by exact h.IQ (by assumption)
theorem Hp.JA (h:Hp):h.drain.grey=[]:=Hp.Im (P:=fun _ g=>g.grey=[]) (fun h e=>e) (fun h g _ e=>e) h
theorem Hp.KN (h:Hp):h.drain.mu<=h.mu:=Hp.Im (P:=fun h g=>g.mu<=h.mu) (fun h e=>au _) (fun h g e x=>by have:=h.IQ e;omega) h
theorem Hp.Jo (h:Hp):h.drain.nu<=h.nu:=Hp.Im (P:=fun h g=>g.nu<=h.nu) (fun h e=>au _) (fun h g e x=>by have:=h.JD e;omega) h
theorem Hp.KH (h:Hp) (a:h.grey≠[]):h.drain.mu<h.mu:=by
 rw [h.Jd a];have:=h.IQ a;have:=Hp.KN h.take.1;omega
theorem Hp.Jb (h:Hp):h.drain.mu+h.drain.GZ.length<=h.mu+h.GZ.length:=by
 refine Hp.Im (P:=fun h g=>g.mu+g.GZ.length<=h.mu+h.GZ.length) (fun h e=>au _) (fun h g e x=>?_) h;have b:=h.IQ e;have a:h.take.1.GZ.length<=h.GZ.length+1:=by
  unfold Hp.take;split
  ·unfold Hp.scan
   split
   ·unfold Hp.Ih
    split
    ·rename_i o _ _
     have:=gN Hp.Hw (fun h x=>h.I5 x) o.es ({ h with grey:=h.grey.dropLast }.upd (by assumption) (fun o=>{ o with col:=3 }));rw [this.1];simp only [Hp.upd];omega
    ·split
     ·rename_i o _ _ _
      have:=Hp.Ic { ({ h with grey:=h.grey.dropLast }.upd (by assumption) (fun o=>{ o with col:=3 })) with GZ:=h.GZ++[(by assumption)] } o.es;simp only [Hp.upd] at this ⊢;rw [this.1];simp
     ·split
      ·rename_i o _ _ _ _
       have:=gN Hp.key1 (fun h x=>h.IL x) o.es ({ h with grey:=h.grey.dropLast }.upd (by assumption) (fun o=>{ o with col:=3 }));simp only [this.1];simp only [Hp.upd];omega
      ·simp only [Hp.upd];omega
   ·simp only;omega
  ·simp only;omega
 omega
end
def Hp.over (k:Nat) (p:Hp × Bool):Hp × Bool:=
 if hk:k<p.1.GZ.length then
  if (p.1.spread (p.1.Jf (p.1.GZ[k]))).2 then Hp.over (k+1) ((p.1.spread (p.1.Jf (p.1.GZ[k]))).1.drain,true)
  else Hp.over (k+1) ((p.1.spread (p.1.Jf (p.1.GZ[k]))).1,p.2)
 else p
 termination_by p.1.mu+p.1.GZ.length-k
 decreasing_by
  ·have h1:=Hp.Jb (p.1.spread (p.1.Jf (p.1.GZ[k]))).1
   rw [Hp.Ii,(Hp.Ic _ _).1] at h1;omega
  ·rw [Hp.Ii,(Hp.Ic _ _).1]
   omega
theorem Hp.JH (k:Nat) (p:Hp × Bool) (hk:¬ k<p.1.GZ.length):Hp.over k p=p:=by rw [Hp.over,dif_neg hk]
theorem Hp.JC (k:Nat) (p:Hp × Bool) (hk:k<p.1.GZ.length) (a:(p.1.spread (p.1.Jf (p.1.GZ[k]))).2=true):Hp.over k p=Hp.over (k+1) ((p.1.spread (p.1.Jf (p.1.GZ[k]))).1.drain,true):=by
 rw [Hp.over,dif_pos hk,if_pos a]
theorem Hp.J2 (k:Nat) (p:Hp × Bool) (hk:k<p.1.GZ.length) (a:(p.1.spread (p.1.Jf (p.1.GZ[k]))).2=false):Hp.over k p=Hp.over (k+1) ((p.1.spread (p.1.Jf (p.1.GZ[k]))).1,p.2):=by
 rw [Hp.over,dif_pos hk,if_neg (by rw [a];decide)]
theorem Hp.Ip {P:Nat->Hp × Bool->Hp × Bool->Prop} (c:∀ k p,¬ k<p.1.GZ.length->P k p p)
 (b:∀ k p q (hk:k<p.1.GZ.length),(p.1.spread (p.1.Jf (p.1.GZ[k]))).2=true->P (k+1) ((p.1.spread (p.1.Jf (p.1.GZ[k]))).1.drain,true) q->P k p q)
 (a:∀ k p q (hk:k<p.1.GZ.length),(p.1.spread (p.1.Jf (p.1.GZ[k]))).2=false->P (k+1) ((p.1.spread (p.1.Jf (p.1.GZ[k]))).1,p.2) q->P k p q):∀ k p,P k p (Hp.over k p):=by
 intro k p;by_cases hk:k<p.1.GZ.length
 ·cases hs:(p.1.spread (p.1.Jf (p.1.GZ[k]))).2
  ·rw [Hp.J2 k p hk hs]
   exact a k p _ hk hs (Hp.Ip c b a _ _)
  ·rw [Hp.JC k p hk hs]
   exact b k p _ hk hs (Hp.Ip c b a _ _)
 ·rw [Hp.JH k p hk]
  exact c k p hk
 termination_by k p=>p.1.mu+p.1.GZ.length-k
 decreasing_by
  ·rw [Hp.Ii,(Hp.Ic _ _).1]
   omega
  ·have d:=Hp.Jb (p.1.spread (p.1.Jf (p.1.GZ[k]))).1
   rw [Hp.Ii,(Hp.Ic _ _).1] at d;omega
def Hp.turns (h:Hp):Hp:=if hm:(Hp.over 0 (h,false)).2=true/\(Hp.over 0 (h,false)).1.mu<h.mu then Hp.turns (Hp.over 0 (h,false)).1 else (Hp.over 0 (h,false)).1
 termination_by h.mu
 decreasing_by exact hm.2
theorem Hp.Km (h:Hp) (b:(Hp.over 0 (h,false)).2=true) (a:(Hp.over 0 (h,false)).1.mu<h.mu):h.turns=(Hp.over 0 (h,false)).1.turns:=by rw [Hp.turns,dif_pos ⟨b,a⟩]
theorem Hp.J7 (h:Hp) (a:(Hp.over 0 (h,false)).2=false):h.turns=(Hp.over 0 (h,false)).1:=by rw [Hp.turns,dif_neg (by rw [a];simp)]
theorem Hp.IJ {P:Hp->Hp->Prop} (b:∀ h g,(Hp.over 0 (h,false)).2=true->(Hp.over 0 (h,false)).1.mu<h.mu->P (Hp.over 0 (h,false)).1 g->P h g)
 (a:∀ h,¬ ((Hp.over 0 (h,false)).2=true/\(Hp.over 0 (h,false)).1.mu<h.mu)->P h (Hp.over 0 (h,false)).1):∀ h:Hp,P h h.turns:=by
 intro h;rw [Hp.turns];split
 ·rename_i hm
  exact b h _ hm.1 hm.2 (Hp.IJ b a _)
 ·rename_i hm
  exact a h hm
 termination_by h=>h.mu
 decreasing_by exact (by assumption:_/\_).2
def Hp.settle (h:Hp):Hp:=h.drain.turns
def bT (h:Hp) (e:En):En:=if h.ME e.2 then (e.1,none) else e
def b_ (h:Hp) (e:En):En:=if h.ME e.1 then (none,none) else e
def Hp.Mv (h:Hp) (n:Nat):Hp:=h.upd n fun o=>{ o with es:=o.es.map (bT h) }
def Hp.MX (h:Hp) (n:Nat):Hp:=h.upd n fun o=>{ o with es:=o.es.map (b_ h) }
def dH (h:Hp) (e:En):En:=if e.2.isNone&&h.ME e.1 then (none,none) else e
def Hp.drop1 (h:Hp) (o:Ob):Ob:=if gu o.col then o else { o with es:=o.es.map (dH h) }
def Hp.Ik (h:Hp):Hp:={ h with objs:=h.objs.map (Option.map h.drop1) }
def Hp.alive (h:Hp):Hp:=(h.Ho h.roots).Ho h.pending
def Hp.Hg (h:Hp) (n:Nat):Hp:={ h.upd n (fun o=>{ o with col:=2 }) with grey:=h.grey++[n] }
def Hp.G8 (h:Hp):Hp:={ h.again.foldl Hp.Hg h with again:=[] }
def Hp.Kh (h:Hp) (n:Nat):Hp:={ h.upd n (fun o=>{ o with fin:=false }) with pending:=h.pending++[n] }
def Hp.Ht (p:Hp × List Nat) (n:Nat):Hp × List Nat:=if p.1.M4 n then (p.1.Kh n,p.2) else (p.1,p.2++[n])
def Hp.Hr (h:Hp):Hp:={ (h.finals.foldl Hp.Ht (h,[])).1 with finals:=(h.finals.foldl Hp.Ht (h,[])).2 }
def Hp.M6 (h:Hp):Hp:=h.alive.drain.G8.settle
def Hp.at2 (h:Hp):Hp:=(h.weak.foldl Hp.Mv h).Hr
def Hp.at3 (h:Hp):Hp:=(h.Ho h.pending).settle
def Hp.at4 (h:Hp):Hp:=(h.GZ++h.weak).foldl Hp.MX h
def Hp.Mh (h:Hp):Hp:=(h.weak.foldl Hp.Mv h).Ik
def Hp.Mx (h:Hp):Hp:={ h with weak:=[],GZ:=[],white:=1-h.white,state:=2,G5:=1 }
def Hp.atomic (h:Hp):Hp:=h.M6.at2.at3.at4.Mh.Mx
def Hp.skip (h:Hp) (k:Nat):Nat:=if hk:k<h.objs.length/\h.ob k=none then Hp.skip h (k+1) else k
 termination_by h.objs.length-k
 decreasing_by omega
theorem Hp.IY (h:Hp):∀ k,k<=h.skip k:=by
 intro k;rw [Hp.skip];split
 ·have:=Hp.IY h (k+1)
  omega
 ·exact au _
 termination_by k=>h.objs.length-k
 decreasing_by omega
theorem Hp.Jg (h:Hp):∀ k,k<=h.objs.length->h.skip k<=h.objs.length:=by
 intro k hk;rw [Hp.skip];split
 ·exact Hp.Jg h (k+1) (by omega)
 ·exact hk
 termination_by k=>h.objs.length-k
 decreasing_by omega
theorem Hp.I_ (h:Hp):∀ k,¬ (h.skip k<h.objs.length/\h.ob (h.skip k)=none):=by
 intro k;rw [Hp.skip];split
 ·exact Hp.I_ h (k+1)
 ·assumption
 termination_by k=>h.objs.length-k
 decreasing_by omega
theorem Hp.skip_none (h:Hp):∀ k j,k<=j->j<h.skip k->h.ob j=none:=by
 intro k j b a;rw [Hp.skip] at a;split at a
 ·rename_i c
  by_cases e:k=j
  ·subst e;exact c.2
  ·exact Hp.skip_none h (k+1) j (by omega) a
 ·omega
 termination_by k=>h.objs.length-k
 decreasing_by omega
def Hp.skipped (h:Hp):Hp:={ h with G5:=h.skip h.G5 }
def Hp.G6 (h:Hp):Hp:=match h.ob h.G5 with
 |some o=>if gu o.col&&o.col !=h.white then { h with objs:=h.objs.set h.G5 none,live:=h.live-1,bytes:=h.bytes-o.size,freed:=h.freed++[h.G5],G5:=h.G5+1 }
  else { h.upd h.G5 (fun o=>{ o with col:=h.white }) with G5:=h.G5+1 }
 |none=>h
def Hp.close (h:Hp):Hp:=if h.G5<h.objs.length then h else { h with state:=0,limit:=max (2*h.bytes) 4096,GY:=0 }
def Hp.G_ (h:Hp):Hp:=h.skipped.G6.skipped.close
def Hp.begin (h:Hp):Hp:={ h with state:=1,grey:=[],again:=[],weak:=[],GZ:=[] }.alive
def Hp.advance (h:Hp):Hp × Nat:=
 if h.state=2 then (h.G_,1) else if h.grey=[] then (h.atomic,1) else h.take
theorem Hp.J8 (h:Hp) (b:h.grey≠[]):1<=h.take.2:=by
 unfold Hp.take;split
 ·unfold Hp.scan
  split<;>simp only<;>omega
 ·rename_i a
  simp at a;exact absurd a b
theorem Hp.I7 (h:Hp):1<=h.advance.2:=by
 unfold Hp.advance;split
 ·exact au _
 ·split
  ·exact au _
  ·rename_i a
   exact h.J8 a
def Hp.work (u:Int) (h:Hp):Hp:=if hu:0<u/\h.state≠0 then Hp.work (u-(h.advance.2:Int)) h.advance.1 else h
 termination_by u.toNat
 decreasing_by have:=h.I7;omega
theorem Hp.Ja (u:Int) (h:Hp) (a:¬ (0<u/\h.state≠0)):Hp.work u h=h:=by rw [Hp.work,dif_neg a]
theorem Hp.JG (u:Int) (h:Hp) (a:0<u/\h.state≠0):Hp.work u h=Hp.work (u-(h.advance.2:Int)) h.advance.1:=by rw [Hp.work,dif_pos a]
theorem Hp.Iz {P:Int->Hp->Hp->Prop} (c:∀ u h,¬ (0<u/\h.state≠0)->P u h h) (b:∀ u h g,0<u->h.state≠0->P (u-(h.advance.2:Int)) h.advance.1 g->P u h g):∀ u h,P u h (Hp.work u h):=by
 intro u h;by_cases a:0<u/\h.state≠0
 ·rw [Hp.JG u h a]
  exact b u h _ a.1 a.2 (Hp.Iz c b _ _)
 ·rw [Hp.Ja u h a]
  exact c u h a
 termination_by u h=>u.toNat
 decreasing_by have:=h.I7;omega
def Hp.step (u:Int) (h:Hp):Hp:=if h.state=0 then Hp.work (u-1) h.begin else Hp.work u h
def Hp.phi (h:Hp):Nat:=if h.state=0 then 0 else if h.state=2 then h.objs.length-h.G5+1 else h.mu+h.objs.length+2
section
variable {n:Nat}
def Ob.cont (o:Ob):Nat × List En × Bool:=(o.mode,o.es,o.fin)
structure Np (h g:Hp):Prop where
 len:g.objs.length=h.objs.length
 cont:∀ n,(g.ob n).map Ob.cont=(h.ob n).map Ob.cont
 grow:∀ n,g.M4 n=true->h.M4 n=true
 KZ:∀ n o,g.ob n=some o->gu o.col=true->∃ o',h.ob n=some o'/\o'.col=o.col
 again:g.again=h.again
 finals:g.finals=h.finals
 pending:g.pending=h.pending
 roots:g.roots=h.roots
 freed:g.freed=h.freed
 bytes:g.bytes=h.bytes
 live:g.live=h.live
 limit:g.limit=h.limit
 GY:g.GY=h.GY
 state:g.state=h.state
 white:g.white=h.white
 G5:g.G5=h.G5
theorem Np.refl (h:Hp):Np h h:=⟨rfl,fun _=>rfl,fun _ x=>x,fun n o e _=>⟨o,e,rfl⟩,rfl,rfl,rfl,rfl,rfl,rfl,rfl,rfl,rfl,rfl,rfl,rfl⟩
theorem Np.trans {a b c:Hp} (x:Np a b) (y:Np b c):Np a c:=
 ⟨y.len.trans x.len,fun n=>(y.cont n).trans (x.cont n),fun n e=>x.grow n (y.grow n e),
  fun n o e w=>by
   obtain ⟨o1,h,d⟩:=y.KZ n o e w;obtain ⟨o2,g,f⟩:=x.KZ n o1 h (by rw [d];exact w);exact ⟨o2,g,f.trans d⟩,
  y.again.trans x.again,y.finals.trans x.finals,y.pending.trans x.pending,y.roots.trans x.roots,y.freed.trans x.freed,y.bytes.trans x.bytes,y.live.trans x.live,y.limit.trans x.limit,y.GY.trans x.GY,y.state.trans x.state,y.white.trans x.white,y.G5.trans x.G5⟩
theorem Hp.KQ (h:Hp) (n m c:Nat):(h.upd n fun o=>{ o with col:=c }).M4 m=(if n=m then (match h.ob m with |some _=>gu c|none=>true) else h.M4 m):=by
 unfold Hp.M4;rw [Hp.Hf];by_cases e:n=m
 ·rw [if_pos e,if_pos e]
  cases h.ob m<;>rfl
 ·rw [if_neg e,if_neg e]
theorem Hp.Ju {h:Hp} {o:Ob} (e:h.ob n=some o):h.M4 n=gu o.col:=by unfold Hp.M4;rw [e]
theorem Np.col (h:Hp) (n c:Nat) (a:gu c=false):Np h (h.upd n fun o=>{ o with col:=c }):=by
 refine ⟨by simp [Hp.upd],fun m=>?_,fun m hm=>?_,fun m o e w=>?_,rfl,rfl,rfl,rfl,rfl,rfl,rfl,rfl,rfl,rfl,rfl,rfl⟩
 ·rw [Hp.Hf]
  split
  ·cases h.ob m<;>rfl
  ·rfl
 ·rw [Hp.KQ] at hm
  split at hm
  ·unfold Hp.M4
   cases hb:h.ob m with
   |none=>rfl
   |some o=>rw [hb] at hm;simp [a] at hm
  ·exact hm
 ·rw [Hp.Hf] at e
  split at e
  ·cases hb:h.ob m with
   |none=>rw [hb] at e;simp at e
   |some o'=>
    rw [hb] at e;simp only [Option.map_some,Option.some.injEq] at e;subst e;simp [a] at w
  ·exact ⟨o,e,rfl⟩
theorem Np.lists {h g:Hp} (x:Np h g) (a b c:List Nat):Np h { g with grey:=a,weak:=b,GZ:=c }:=
 ⟨x.len,x.cont,x.grow,x.KZ,x.again,x.finals,x.pending,x.roots,x.freed,x.bytes,x.live,x.limit,x.GY,x.state,x.white,x.G5⟩
theorem Np.mark (h:Hp) (n:Nat):Np h (h.mark n):=by
 unfold Hp.mark;split
 ·split
  ·exact (Np.col h n 2 rfl).lists _ _ _
  ·exact Np.refl h
 ·exact Np.refl h
theorem Np.Hz (h:Hp) (v:HV):Np h (h.Hz v):=by
 unfold Hp.Hz;split
 ·exact Np.mark h _
 ·exact Np.refl h
theorem Np.fold {α:Type} (f:Hp->α->Hp) (b:∀ h x,Np h (f h x)):∀ (l:List α) (h:Hp),Np h (l.foldl f h)
 | [],h=>Np.refl h
 |a::l,h=>(b h a).trans (Np.fold f b l (f h a))
theorem Np.Ho (h:Hp) (l:List Nat):Np h (h.Ho l):=Np.fold _ Np.mark l h
theorem Np.key1 (h:Hp) (e:En):Np h (h.key1 e):=by
 unfold Hp.key1;split
 ·exact Np.Hz h _
 ·exact Np.refl h
theorem Np.Hw (h:Hp) (e:En):Np h (h.Hw e):=(Np.key1 h e).trans (Np.Hz _ _)
theorem Np.He (p:Hp × Bool) (e:En):Np p.1 (Hp.He p e).1:=by
 unfold Hp.He;split
 ·exact Np.Hz _ _
 ·exact Np.refl _
theorem Np.I9:∀ (es:List En) (p:Hp × Bool),Np p.1 (es.foldl Hp.He p).1
 | [],p=>Np.refl _
 |e::es,p=>(Np.He p e).trans (Np.I9 es _)
theorem Np.spread (h:Hp) (es:List En):Np h (h.spread es).1:=Np.I9 es (h,false)
theorem Np.Ih (h:Hp) (n:Nat) (o:Ob):Np h (h.Ih n o):=by
 unfold Hp.Ih;split
 ·exact Np.fold _ Np.Hw _ h
 ·split
  ·exact ((Np.refl h).lists _ _ _).trans (Np.spread _ _)
  ·split
   ·exact (Np.fold _ Np.key1 _ h).lists _ _ _
   ·exact (Np.refl h).lists _ _ _
theorem Np.scan (h:Hp) (n:Nat):Np h (h.scan n).1:=by
 unfold Hp.scan;split
 ·exact (Np.col h n 3 rfl).trans (Np.Ih _ _ _)
 ·exact Np.refl h
theorem Np.take (h:Hp):Np h h.take.1:=by
 unfold Hp.take;split
 ·exact ((Np.refl h).lists _ _ _).trans (Np.scan _ _)
 ·exact Np.refl h
theorem Np.drain (h:Hp):Np h h.drain:=Hp.Im (P:=Np) (fun h _=>Np.refl h) (fun h g _ x=>(Np.take h).trans x) h
theorem Np.over (k:Nat) (p:Hp × Bool):Np p.1 (Hp.over k p).1:=
 Hp.Ip (P:=fun _ p q=>Np p.1 q.1) (fun k p _=>Np.refl _) (fun k p q hk _ x=>(Np.spread _ _).trans ((Np.drain _).trans x)) (fun k p q hk _ x=>(Np.spread _ _).trans x) k p
theorem Np.turns (h:Hp):Np h h.turns:=Hp.IJ (P:=Np) (fun h g _ _ x=>(Np.over 0 (h,false)).trans x) (fun h _=>Np.over 0 (h,false)) h
theorem Np.settle (h:Hp):Np h h.settle:=(Np.drain h).trans (Np.turns _)
theorem Np.alive (h:Hp):Np h h.alive:=(Np.Ho h _).trans (Np.Ho _ _)
theorem Np.Hg (h:Hp) (n:Nat):Np h (h.Hg n):=(Np.col h n 2 rfl).lists _ _ _
def Hp.Lv (h:Hp) (n:Nat):Prop:=∃ o,h.ob n=some o
theorem Np.lv {h g:Hp} (x:Np h g) (n:Nat):g.Lv n↔h.Lv n:=by
 have:=x.cont n;unfold Hp.Lv;cases h1:g.ob n<;>cases h2:h.ob n<;>simp [h1,h2] at this ⊢
theorem Np.ob {h g:Hp} (x:Np h g) {n:Nat} {o:Ob} (e:g.ob n=some o):∃ o',h.ob n=some o'/\o'.mode=o.mode/\o'.es=o.es/\o'.fin=o.fin:=by
 have:=x.cont n;rw [e] at this;cases h2:h.ob n with
 |none=>simp [h2] at this
 |some o'=>
  simp [h2,Ob.cont] at this;exact ⟨o',rfl,this.1.symm,this.2.1.symm,this.2.2.symm⟩
theorem Np.Jf {h g:Hp} (x:Np h g) (n:Nat):g.Jf n=h.Jf n:=by
 have:=x.cont n;unfold Hp.Jf;cases h1:g.ob n<;>cases h2:h.ob n<;>simp [h1,h2,Ob.cont] at this ⊢
 exact this.2.1
theorem Np.dark {h g:Hp} (x:Np h g) (e:h.M4 n=false):g.M4 n=false:=by
 cases hg:g.M4 n
 ·rfl
 ·rw [x.grow n hg] at e;cases e
def bQ (v:HV):List Nat:=match v with
 |some (.inr r)=>[r]
 |_=>[]
def dw (e:En):List Nat:=bQ e.1++bQ e.2
def Hp.Closed (h:Hp):Prop:=∀ n o,h.ob n=some o->∀ e∈o.es,∀ r∈dw e,h.Lv r
theorem Np.closed {h g:Hp} (x:Np h g) (c:h.Closed):g.Closed:=by
 intro n o e en b r hr;obtain ⟨a,f,_,d,_⟩:=x.ob e;exact (x.lv r).2 (c n a f en (by rw [d];exact b) r hr)
theorem oL {h:Hp} {v:HV} (e:h.ME v=true):∃ r,v=some (.inr r)/\h.M4 r=true:=by
 unfold Hp.ME at e;split at e
 ·exact ⟨_,rfl,e⟩
 ·cases e
theorem je {h:Hp} {v:HV} (e:h.ME v=false):∀ r∈bQ v,h.M4 r=false:=by
 intro r hr;unfold bQ at hr;split at hr
 ·simp at hr;subst hr;exact e
 ·simp at hr
theorem Hp.JU {h:Hp} (l:h.Lv n):(h.mark n).M4 n=false:=by
 obtain ⟨o,e⟩:=l;unfold Hp.mark;rw [e];simp only;split
 ·unfold Hp.M4
  have:=h.Hf n n (fun o=>{ o with col:=2 });rw [if_pos rfl,e] at this;show (match (h.upd n fun o=>{ o with col:=2 }).ob n with |some o=>gu o.col|none=>true)=false;rw [this];rfl
 ·rename_i a
  rw [Hp.Ju e]
  simpa using a
theorem Hp.Je {h:Hp} {v:HV} (l:∀ r∈bQ v,h.Lv r):∀ r∈bQ v,(h.Hz v).M4 r=false:=by
 intro r hr;unfold bQ at hr;split at hr
 ·simp at hr;subst hr
  exact Hp.JU (l _ (by simp [bQ]))
 ·simp at hr
end
end Go.Proofs.YtbpcdfbmnklcjaaGreatDoor
