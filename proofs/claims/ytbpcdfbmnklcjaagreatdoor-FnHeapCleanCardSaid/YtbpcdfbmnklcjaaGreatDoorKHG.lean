import Derived.Test.YtbpcdfbmnklcjaaGreatDoorProg
import Derived.WalkKit
import Derived.ProofKit
import Derived.OpenShut
import Derived.BigRegion
import Derived.Deep.RegionHeld3
import Derived.Deep.Slices
namespace Go.Proofs.YtbpcdfbmnklcjaaGreatDoor
open Go Go.RowKit
abbrev au:=@Nat.le_refl
abbrev aI:=@Nat.le_trans
abbrev aW:=@Nat.lt_of_lt_of_le
abbrev aO:=@Nat.le_of_eq
abbrev dh:=@Nat.le_of_lt
abbrev aJ:=@List.getElem?_eq_some_iff
abbrev aH:=@List.getElem?_set_ne
abbrev aN:=@List.getElem?_eq_getElem
abbrev dY:=@List.getElem?_set_self
abbrev bq:=@List.getD_eq_getElem?_getD
abbrev aX:=@List.mem_of_getElem?
abbrev dF:=@List.getElem?_append_left
abbrev fI:=@List.getElem?_append_right
abbrev fC:=@List.getElem?_map
abbrev aM:=@List.getElem?_eq_none
abbrev bM:=@World.cell?_of_block
abbrev aG:=@Array.size_push
abbrev aT:=@Below.refl
abbrev bI:=@List.length_append
abbrev bY:=@List.length_map
abbrev bf:=@List.length_take
abbrev bN:=@List.take_length
abbrev bX:=@List.length_set
abbrev gD:=@List.getElem?_set
abbrev aY:=@List.length_cons
abbrev eT:=@List.mem_append
abbrev jm:=@List.mem_cons
abbrev jH:=@beq_eq_false_iff_ne
abbrev Nz:=@World.cell?_setCell_other
end Go.Proofs.YtbpcdfbmnklcjaaGreatDoor
namespace Go.Proofs.YtbpcdfbmnklcjaaGreatDoor
set_option linter.unusedVariables false
abbrev HV:=Option (Int ⊕ Nat)
abbrev En:=HV × HV
structure Ob where
 col:Nat
 mode:Nat
 es:List En
 fin:Bool
structure Hp where
 objs:List (Option Ob)
 grey:List Nat
 again:List Nat
 weak:List Nat
 G8:List Nat
 finals:List Nat
 pending:List Nat
 roots:List Nat
 freed:List Nat
 bytes:Nat
 live:Nat
 limit:Nat
 G6:Nat
 state:Nat
 white:Nat
 G9:Nat
def Hp.new:Hp:=⟨[none],[],[],[],[],[],[],[],[],0,0,4096,0,0,0,0⟩
def Hp.ob (h:Hp) (n:Nat):Option Ob:=(h.objs[n]?).join
def Hp.upd (h:Hp) (n:Nat) (f:Ob->Ob):Hp:={ h with objs:=h.objs.modify n (Option.map f) }
def fU (c:Nat):Bool:=c==0||c==1
def Hp.M5 (h:Hp) (n:Nat):Bool:=match h.ob n with
 |some o=>fU o.col
 |none=>true
def Hp.MO (h:Hp) (v:HV):Bool:=match v with
 |some (.inr n)=>h.M5 n
 |_=>false
def Ob.size (o:Ob):Nat:=40+40*o.es.length
def Hp.make (h:Hp) (mode:Nat):Hp:={ h with objs:=h.objs++[some ⟨h.white,mode,[],false⟩],live:=h.live+1,bytes:=h.bytes+40,G6:=h.G6+40 }
def Hp.mark (h:Hp) (n:Nat):Hp:=match h.ob n with
 |some o=>if fU o.col then { h.upd n (fun o=>{ o with col:=2 }) with grey:=h.grey++[n] } else h
 |none=>h
def Hp.Ib (h:Hp) (v:HV):Hp:=match v with
 |some (.inr n)=>h.mark n
 |_=>h
def Hp.Hu (h:Hp) (l:List Nat):Hp:=l.foldl Hp.mark h
def Hp.Hl (p:Hp × Bool) (e:En):Hp × Bool:=if !p.1.MO e.1&&p.1.MO e.2 then (p.1.Ib e.2,true) else p
def Hp.spread (h:Hp) (es:List En):Hp × Bool:=es.foldl Hp.Hl (h,false)
def Hp.key1 (h:Hp) (e:En):Hp:=if e.2.isSome then h.Ib e.1 else h
def Hp.H_ (h:Hp) (e:En):Hp:=(h.key1 e).Ib e.2
def Hp.Ik (h:Hp) (n:Nat) (o:Ob):Hp:=
 if o.mode=0 then o.es.foldl Hp.H_ h
 else if o.mode=1 then ({ h with G8:=h.G8++[n] }.spread o.es).1
 else if o.mode=2 then (let g:=o.es.foldl Hp.key1 h;{ g with weak:=g.weak++[n] })
 else { h with weak:=h.weak++[n] }
def Hp.scan (h:Hp) (n:Nat):Hp × Nat:=match h.ob n with
 |some o=>((h.upd n (fun o=>{ o with col:=3 })).Ik n o,1+o.es.length)
 |none=>(h,1)
def Hp.Jj (h:Hp) (n:Nat):List En:=((h.ob n).map Ob.es).getD []
def Hp.take (h:Hp):Hp × Nat:=match h.grey.getLast? with
 |some n=>{ h with grey:=h.grey.dropLast }.scan n
 |none=>(h,0)
theorem Hp.Ho (h:Hp) (n m:Nat) (f:Ob->Ob):(h.upd n f).ob m=if n=m then (h.ob m).map f else h.ob m:=by
 simp only [Hp.ob,Hp.upd,List.getElem?_modify];by_cases e:n=m
 ·subst e;cases h.objs[n]?<;>simp
 ·simp [e]
theorem Hp.Hz (h:Hp) (n:Nat) (f:Ob->Ob):(h.upd n f).objs.length=h.objs.length:=by simp [Hp.upd]
section
variable {n:Nat} {o:Ob}
def q8 (o:Option Ob):Bool:=match o with
 |some o=>fU o.col
 |none=>false
def Hp.wn (h:Hp):Nat:=h.objs.countP q8
def Hp.mu (h:Hp):Nat:=h.wn+h.grey.length
theorem jc {α:Type} (p:α->Bool) (f:α->α) (b:∀ x,p (f x)=true->p x=true):∀ (l:List α) (n:Nat),(l.modify n f).countP p<=l.countP p
 | [],n=>by simp
 |a::l,0=>by
  simp only [List.modify_zero_cons,List.countP_cons];have:=b a;cases h1:p (f a)<;>cases h2:p a<;>simp_all
 |a::l,n+1=>by
  simp only [List.modify_succ_cons,List.countP_cons];have:=jc p f b l n;omega
theorem iZ {α:Type} (p:α->Bool) (f:α->α):∀ (l:List α) (n:Nat) (x:α),l[n]?=some x->p x=true->p (f x)=false->(l.modify n f).countP p+1=l.countP p
 | [],n,x,h,_,_=>by simp at h
 |a::l,0,x,h,h1,h2=>by
  simp at h;subst h;simp [h1,h2]
 |a::l,n+1,x,h,h1,h2=>by
  simp only [List.modify_succ_cons,List.countP_cons];have:=iZ p f l n x (by simpa using h) h1 h2;omega
theorem Hp.I_ {h:Hp} (e:h.ob n=some o):h.objs[n]?=some (some o):=by
 unfold Hp.ob at e;cases hx:h.objs[n]? with
 |none=>simp [hx] at e
 |some x=>simp [hx] at e;simp [e]
theorem Hp.Kc (h:Hp) (n c:Nat) (a:fU c=false):(h.upd n fun o=>{ o with col:=c }).wn<=h.wn:=by
 refine jc _ _ ?_ _ _;intro x hx;cases x<;>simp_all [q8]
theorem Hp.KC (h:Hp) (n:Nat):(h.mark n).mu=h.mu:=by
 unfold Hp.mark;split
 ·rename_i o ho
  split
  ·rename_i a
   have:=iZ q8 (Option.map fun o:Ob=>{ o with col:=2 }) h.objs n (some o) (Hp.I_ ho) a rfl;simp only [Hp.mu,Hp.wn,Hp.upd,bI,List.length_singleton];omega
  ·rfl
 ·rfl
theorem Hp.Js (h:Hp) (v:HV):(h.Ib v).mu=h.mu:=by
 unfold Hp.Ib;split
 ·exact h.KC _
 ·rfl
theorem nZ {α:Type} (f:Hp->α->Hp) (b:∀ h x,(f h x).mu=h.mu):∀ (l:List α) (h:Hp),(l.foldl f h).mu=h.mu
 | [],h=>rfl
 |a::l,h=>(nZ f b l (f h a)).trans (b h a)
theorem Hp.OY (h:Hp) (l:List Nat):(h.Hu l).mu=h.mu:=nZ _ (fun h x=>h.KC x) l h
theorem Hp.J5 (h:Hp) (e:En):(h.key1 e).mu=h.mu:=by
 unfold Hp.key1;split
 ·exact h.Js _
 ·rfl
theorem Hp.Ki (h:Hp) (e:En):(h.H_ e).mu=h.mu:=(Hp.Js _ _).trans (h.J5 e)
theorem Hp.Kk (p:Hp × Bool) (e:En):(Hp.Hl p e).1.mu=p.1.mu:=by
 unfold Hp.Hl;split
 ·exact Hp.Js _ _
 ·rfl
theorem oG:∀ (es:List En) (p:Hp × Bool),(es.foldl Hp.Hl p).1.mu=p.1.mu
 | [],p=>rfl
 |e::es,p=>(oG es _).trans (Hp.Kk p e)
theorem Hp.Il (h:Hp) (es:List En):(h.spread es).1.mu=h.mu:=oG es (h,false)
theorem Hp.KR (h:Hp) (n:Nat) (o:Ob):(h.Ik n o).mu=h.mu:=by
 unfold Hp.Ik;split
 ·exact nZ _ (fun h x=>h.Ki x) _ _
 ·split
  ·exact (Hp.Il _ _).trans rfl
  ·split
   ·exact (show (o.es.foldl Hp.key1 h).mu=h.mu from nZ _ (fun h x=>h.J5 x) _ _)
   ·rfl
theorem Hp.KV (h:Hp) (n:Nat):(h.scan n).1.mu<=h.mu:=by
 unfold Hp.scan;split
 ·rw [Hp.KR]
  have:=h.Kc n 3 rfl;simp only [Hp.mu,Hp.upd] at this ⊢;omega
 ·exact au _
theorem Hp.IX (h:Hp) (b:h.grey≠[]):h.take.1.mu+1<=h.mu:=by
 unfold Hp.take;split
 ·rename_i n a
  have:=Hp.KV { h with grey:=h.grey.dropLast } n;have c:h.grey.length≠0:=by simpa using b
  simp only [Hp.mu,Hp.wn,List.length_dropLast] at this ⊢;omega
 ·rename_i a
  simp at a;exact absurd a b
def Hp.nu (h:Hp):Nat:=h.mu+h.G8.length+h.weak.length
theorem Hp.Jt (h:Hp) (n:Nat):(h.mark n).G8=h.G8/\(h.mark n).weak=h.weak:=by
 unfold Hp.mark;split
 ·split<;>exact ⟨rfl,rfl⟩
 ·exact ⟨rfl,rfl⟩
theorem Hp.Iw (h:Hp) (v:HV):(h.Ib v).G8=h.G8/\(h.Ib v).weak=h.weak:=by
 unfold Hp.Ib;split
 ·exact h.Jt _
 ·exact ⟨rfl,rfl⟩
theorem gJ {α:Type} (f:Hp->α->Hp) (b:∀ h x,(f h x).G8=h.G8/\(f h x).weak=h.weak):∀ (l:List α) (h:Hp),(l.foldl f h).G8=h.G8/\(l.foldl f h).weak=h.weak
 | [],h=>⟨rfl,rfl⟩
 |a::l,h=>⟨(gJ f b l (f h a)).1.trans (b h a).1,(gJ f b l (f h a)).2.trans (b h a).2⟩
theorem Hp.IU (h:Hp) (e:En):(h.key1 e).G8=h.G8/\(h.key1 e).weak=h.weak:=by
 unfold Hp.key1;split
 ·exact h.Iw _
 ·exact ⟨rfl,rfl⟩
theorem Hp.I8 (h:Hp) (e:En):(h.H_ e).G8=h.G8/\(h.H_ e).weak=h.weak:=
 ⟨(Hp.Iw _ _).1.trans (h.IU e).1,(Hp.Iw _ _).2.trans (h.IU e).2⟩
theorem Hp.Jm (p:Hp × Bool) (e:En):(Hp.Hl p e).1.G8=p.1.G8/\(Hp.Hl p e).1.weak=p.1.weak:=by
 unfold Hp.Hl;split
 ·exact Hp.Iw _ _
 ·exact ⟨rfl,rfl⟩
theorem jr:∀ (es:List En) (p:Hp × Bool),(es.foldl Hp.Hl p).1.G8=p.1.G8/\(es.foldl Hp.Hl p).1.weak=p.1.weak
 | [],p=>⟨rfl,rfl⟩
 |e::es,p=>⟨(jr es _).1.trans (Hp.Jm p e).1,(jr es _).2.trans (Hp.Jm p e).2⟩
theorem Hp.Ih (h:Hp) (es:List En):(h.spread es).1.G8=h.G8/\(h.spread es).1.weak=h.weak:=jr es (h,false)
theorem Hp.IL (h:Hp) (es:List En):(h.spread es).1.nu=h.nu:=by
 simp only [Hp.nu,h.Il es,(h.Ih es).1,(h.Ih es).2]
theorem Hp.Kn (h:Hp) (n:Nat) (o:Ob):(h.Ik n o).G8.length+(h.Ik n o).weak.length<=h.G8.length+h.weak.length+1:=by
 unfold Hp.Ik;split
 ·have:=gJ Hp.H_ (fun h x=>h.I8 x) o.es h
  rw [this.1,this.2];omega
 ·split
  ·have:=Hp.Ih { h with G8:=h.G8++[n] } o.es
   rw [this.1,this.2];simp only [bI,List.length_singleton];omega
  ·split
   ·have:=gJ Hp.key1 (fun h x=>h.IU x) o.es h
    simp only [this.1,this.2,bI,List.length_singleton];omega
   ·simp only [bI,List.length_singleton];omega
theorem Hp.JE (h:Hp) (a:h.grey≠[]):h.take.1.nu<=h.nu:=by
 have c:=h.IX a;have b:h.take.1.G8.length+h.take.1.weak.length<=h.G8.length+h.weak.length+1:=by
  unfold Hp.take;split
  ·unfold Hp.scan
   split
   ·exact Hp.Kn _ _ _
   ·simp only;omega
  ·simp only;omega
 simp only [Hp.nu];omega
def Hp.drain (h:Hp):Hp:=if hg:h.grey=[] then h else Hp.drain h.take.1
 termination_by h.mu
 decreasing_by exact h.IX hg
theorem Hp.J2 (h:Hp) (a:h.grey=[]):h.drain=h:=by rw [Hp.drain,dif_pos a]
theorem Hp.Jg (h:Hp) (a:h.grey≠[]):h.drain=h.take.1.drain:=by rw [Hp.drain,dif_neg a]
theorem Hp.Iq {P:Hp->Hp->Prop} (c:∀ h,h.grey=[]->P h h) (b:∀ h g,h.grey≠[]->P h.take.1 g->P h g):∀ h:Hp,P h h.drain:=by
 intro h;rw [Hp.drain];split
 ·rename_i a
  exact c h a
 ·rename_i a
  exact b h _ a (Hp.Iq c b h.take.1)
 termination_by h=>h.mu
 decreasing_by exact h.IX (by assumption)
theorem Hp.JC (h:Hp):h.drain.grey=[]:=Hp.Iq (P:=fun _ g=>g.grey=[]) (fun h e=>e) (fun h g _ e=>e) h
theorem Hp.KG (h:Hp):h.drain.mu<=h.mu:=Hp.Iq (P:=fun h g=>g.mu<=h.mu) (fun h e=>au _) (fun h g e x=>by have:=h.IX e;omega) h
theorem Hp.Jr (h:Hp):h.drain.nu<=h.nu:=Hp.Iq (P:=fun h g=>g.nu<=h.nu) (fun h e=>au _) (fun h g e x=>by have:=h.JE e;omega) h
theorem Hp.KQ (h:Hp) (a:h.grey≠[]):h.drain.mu<h.mu:=by
 rw [h.Jg a];have:=h.IX a;have:=Hp.KG h.take.1;omega
theorem Hp.Jd (h:Hp):h.drain.mu+h.drain.G8.length<=h.mu+h.G8.length:=by
 refine Hp.Iq (P:=fun h g=>g.mu+g.G8.length<=h.mu+h.G8.length) (fun h e=>au _) (fun h g e x=>?_) h;have b:=h.IX e;have a:h.take.1.G8.length<=h.G8.length+1:=by
  unfold Hp.take;split
  ·unfold Hp.scan
   split
   ·unfold Hp.Ik
    split
    ·rename_i o _ _
     have:=gJ Hp.H_ (fun h x=>h.I8 x) o.es ({ h with grey:=h.grey.dropLast }.upd (by assumption) (fun o=>{ o with col:=3 }));rw [this.1];simp only [Hp.upd];omega
    ·split
     ·rename_i o _ _ _
      have:=Hp.Ih { ({ h with grey:=h.grey.dropLast }.upd (by assumption) (fun o=>{ o with col:=3 })) with G8:=h.G8++[(by assumption)] } o.es;simp only [Hp.upd] at this ⊢;rw [this.1];simp
     ·split
      ·rename_i o _ _ _ _
       have:=gJ Hp.key1 (fun h x=>h.IU x) o.es ({ h with grey:=h.grey.dropLast }.upd (by assumption) (fun o=>{ o with col:=3 }));simp only [this.1];simp only [Hp.upd];omega
      ·simp only [Hp.upd];omega
   ·simp only;omega
  ·simp only;omega
 omega
end
def Hp.over (k:Nat) (p:Hp × Bool):Hp × Bool:=
 if hk:k<p.1.G8.length then
  if (p.1.spread (p.1.Jj (p.1.G8[k]))).2 then Hp.over (k+1) ((p.1.spread (p.1.Jj (p.1.G8[k]))).1.drain,true)
  else Hp.over (k+1) ((p.1.spread (p.1.Jj (p.1.G8[k]))).1,p.2)
 else p
 termination_by p.1.mu+p.1.G8.length-k
 decreasing_by
  ·have h1:=Hp.Jd (p.1.spread (p.1.Jj (p.1.G8[k]))).1
   rw [Hp.Il,(Hp.Ih _ _).1] at h1;omega
  ·rw [Hp.Il,(Hp.Ih _ _).1]
   omega
theorem Hp.JG (k:Nat) (p:Hp × Bool) (hk:¬ k<p.1.G8.length):Hp.over k p=p:=by rw [Hp.over,dif_neg hk]
theorem Hp.JH (k:Nat) (p:Hp × Bool) (hk:k<p.1.G8.length) (a:(p.1.spread (p.1.Jj (p.1.G8[k]))).2=true):Hp.over k p=Hp.over (k+1) ((p.1.spread (p.1.Jj (p.1.G8[k]))).1.drain,true):=by
 rw [Hp.over,dif_pos hk,if_pos a]
theorem Hp.J4 (k:Nat) (p:Hp × Bool) (hk:k<p.1.G8.length) (a:(p.1.spread (p.1.Jj (p.1.G8[k]))).2=false):Hp.over k p=Hp.over (k+1) ((p.1.spread (p.1.Jj (p.1.G8[k]))).1,p.2):=by
 rw [Hp.over,dif_pos hk,if_neg (by rw [a];decide)]
theorem Hp.Iu {P:Nat->Hp × Bool->Hp × Bool->Prop} (c:∀ k p,¬ k<p.1.G8.length->P k p p)
 (b:∀ k p q (hk:k<p.1.G8.length),(p.1.spread (p.1.Jj (p.1.G8[k]))).2=true->P (k+1) ((p.1.spread (p.1.Jj (p.1.G8[k]))).1.drain,true) q->P k p q)
 (a:∀ k p q (hk:k<p.1.G8.length),(p.1.spread (p.1.Jj (p.1.G8[k]))).2=false->P (k+1) ((p.1.spread (p.1.Jj (p.1.G8[k]))).1,p.2) q->P k p q):∀ k p,P k p (Hp.over k p):=by
 intro k p;by_cases hk:k<p.1.G8.length
 ·cases hs:(p.1.spread (p.1.Jj (p.1.G8[k]))).2
  ·rw [Hp.J4 k p hk hs]
   exact a k p _ hk hs (Hp.Iu c b a _ _)
  ·rw [Hp.JH k p hk hs]
   exact b k p _ hk hs (Hp.Iu c b a _ _)
 ·rw [Hp.JG k p hk]
  exact c k p hk
 termination_by k p=>p.1.mu+p.1.G8.length-k
 decreasing_by
  ·rw [Hp.Il,(Hp.Ih _ _).1]
   omega
  ·have d:=Hp.Jd (p.1.spread (p.1.Jj (p.1.G8[k]))).1
   rw [Hp.Il,(Hp.Ih _ _).1] at d;omega
def Hp.turns (h:Hp):Hp:=if hm:(Hp.over 0 (h,false)).2=true/\(Hp.over 0 (h,false)).1.mu<h.mu then Hp.turns (Hp.over 0 (h,false)).1 else (Hp.over 0 (h,false)).1
 termination_by h.mu
 decreasing_by exact hm.2
theorem Hp.KD (h:Hp) (b:(Hp.over 0 (h,false)).2=true) (a:(Hp.over 0 (h,false)).1.mu<h.mu):h.turns=(Hp.over 0 (h,false)).1.turns:=by rw [Hp.turns,dif_pos ⟨b,a⟩]
theorem Hp.J9 (h:Hp) (a:(Hp.over 0 (h,false)).2=false):h.turns=(Hp.over 0 (h,false)).1:=by rw [Hp.turns,dif_neg (by rw [a];simp)]
theorem Hp.IV {P:Hp->Hp->Prop} (b:∀ h g,(Hp.over 0 (h,false)).2=true->(Hp.over 0 (h,false)).1.mu<h.mu->P (Hp.over 0 (h,false)).1 g->P h g)
 (a:∀ h,¬ ((Hp.over 0 (h,false)).2=true/\(Hp.over 0 (h,false)).1.mu<h.mu)->P h (Hp.over 0 (h,false)).1):∀ h:Hp,P h h.turns:=by
 intro h;rw [Hp.turns];split
 ·rename_i hm
  exact b h _ hm.1 hm.2 (Hp.IV b a _)
 ·rename_i hm
  exact a h hm
 termination_by h=>h.mu
 decreasing_by exact (by assumption:_/\_).2
def Hp.settle (h:Hp):Hp:=h.drain.turns
def bU (h:Hp) (e:En):En:=if h.MO e.2 then (e.1,none) else e
def b_ (h:Hp) (e:En):En:=if h.MO e.1 then (none,none) else e
def Hp.MN (h:Hp) (n:Nat):Hp:=h.upd n fun o=>{ o with es:=o.es.map (bU h) }
def Hp.Ml (h:Hp) (n:Nat):Hp:=h.upd n fun o=>{ o with es:=o.es.map (b_ h) }
def dG (h:Hp) (e:En):En:=if e.2.isNone&&h.MO e.1 then (none,none) else e
def Hp.drop1 (h:Hp) (o:Ob):Ob:=if fU o.col then o else { o with es:=o.es.map (dG h) }
def Hp.Im (h:Hp):Hp:={ h with objs:=h.objs.map (Option.map h.drop1) }
def Hp.alive (h:Hp):Hp:=(h.Hu h.roots).Hu h.pending
def Hp.Hr (h:Hp) (n:Nat):Hp:={ h.upd n (fun o=>{ o with col:=2 }) with grey:=h.grey++[n] }
def Hp.He (h:Hp):Hp:={ h.again.foldl Hp.Hr h with again:=[] }
def Hp.Kj (h:Hp) (n:Nat):Hp:={ h.upd n (fun o=>{ o with fin:=false }) with pending:=h.pending++[n] }
def Hp.Hy (p:Hp × List Nat) (n:Nat):Hp × List Nat:=if p.1.M5 n then (p.1.Kj n,p.2) else (p.1,p.2++[n])
def Hp.Hw (h:Hp):Hp:={ (h.finals.foldl Hp.Hy (h,[])).1 with finals:=(h.finals.foldl Hp.Hy (h,[])).2 }
def Hp.MK (h:Hp):Hp:=h.alive.drain.He.settle
def Hp.at2 (h:Hp):Hp:=(h.weak.foldl Hp.MN h).Hw
def Hp.at3 (h:Hp):Hp:=(h.Hu h.pending).settle
def Hp.at4 (h:Hp):Hp:=(h.G8++h.weak).foldl Hp.Ml h
def Hp.Mi (h:Hp):Hp:=(h.weak.foldl Hp.MN h).Im
def Hp.Mq (h:Hp):Hp:={ h with weak:=[],G8:=[],white:=1-h.white,state:=2,G9:=1 }
def Hp.atomic (h:Hp):Hp:=h.MK.at2.at3.at4.Mi.Mq
def Hp.skip (h:Hp) (k:Nat):Nat:=if hk:k<h.objs.length/\h.ob k=none then Hp.skip h (k+1) else k
 termination_by h.objs.length-k
 decreasing_by omega
theorem Hp.I5 (h:Hp):∀ k,k<=h.skip k:=by
 intro k;rw [Hp.skip];split
 ·have:=Hp.I5 h (k+1)
  omega
 ·exact au _
 termination_by k=>h.objs.length-k
 decreasing_by omega
theorem Hp.Jh (h:Hp):∀ k,k<=h.objs.length->h.skip k<=h.objs.length:=by
 intro k hk;rw [Hp.skip];split
 ·exact Hp.Jh h (k+1) (by omega)
 ·exact hk
 termination_by k=>h.objs.length-k
 decreasing_by omega
theorem Hp.Jf (h:Hp):∀ k,¬ (h.skip k<h.objs.length/\h.ob (h.skip k)=none):=by
 intro k;rw [Hp.skip];split
 ·exact Hp.Jf h (k+1)
 ·assumption
 termination_by k=>h.objs.length-k
 decreasing_by omega
theorem Hp.skip_none (h:Hp):∀ k j,k<=j->j<h.skip k->h.ob j=none:=by
 intro k j b a;rw [Hp.skip] at a;split at a
 ·rename_i c
  by_cases e:k=j
  ·subst e;exact c.2
  ·exact Hp.skip_none h (k+1) j (by omega) a
 ·omega
 termination_by k=>h.objs.length-k
 decreasing_by omega
def Hp.skipped (h:Hp):Hp:={ h with G9:=h.skip h.G9 }
def Hp.G_ (h:Hp):Hp:=match h.ob h.G9 with
 |some o=>if fU o.col&&o.col !=h.white then { h with objs:=h.objs.set h.G9 none,live:=h.live-1,bytes:=h.bytes-o.size,freed:=h.freed++[h.G9],G9:=h.G9+1 }
  else { h.upd h.G9 (fun o=>{ o with col:=h.white }) with G9:=h.G9+1 }
 |none=>h
def Hp.close (h:Hp):Hp:=if h.G9<h.objs.length then h else { h with state:=0,limit:=max (2*h.bytes) 4096,G6:=0 }
def Hp.Hg (h:Hp):Hp:=h.skipped.G_.skipped.close
def Hp.begin (h:Hp):Hp:={ h with state:=1,grey:=[],again:=[],weak:=[],G8:=[] }.alive
def Hp.advance (h:Hp):Hp × Nat:=
 if h.state=2 then (h.Hg,1) else if h.grey=[] then (h.atomic,1) else h.take
theorem Hp.J_ (h:Hp) (b:h.grey≠[]):1<=h.take.2:=by
 unfold Hp.take;split
 ·unfold Hp.scan
  split<;>simp only<;>omega
 ·rename_i a
  simp at a;exact absurd a b
theorem Hp.Jb (h:Hp):1<=h.advance.2:=by
 unfold Hp.advance;split
 ·exact au _
 ·split
  ·exact au _
  ·rename_i a
   exact h.J_ a
def Hp.work (u:Int) (h:Hp):Hp:=if hu:0<u/\h.state≠0 then Hp.work (u-(h.advance.2:Int)) h.advance.1 else h
 termination_by u.toNat
 decreasing_by have:=h.Jb;omega
theorem Hp.Je (u:Int) (h:Hp) (a:¬ (0<u/\h.state≠0)):Hp.work u h=h:=by rw [Hp.work,dif_neg a]
theorem Hp.JK (u:Int) (h:Hp) (a:0<u/\h.state≠0):Hp.work u h=Hp.work (u-(h.advance.2:Int)) h.advance.1:=by rw [Hp.work,dif_pos a]
theorem Hp.IC {P:Int->Hp->Hp->Prop} (c:∀ u h,¬ (0<u/\h.state≠0)->P u h h) (b:∀ u h g,0<u->h.state≠0->P (u-(h.advance.2:Int)) h.advance.1 g->P u h g):∀ u h,P u h (Hp.work u h):=by
 intro u h;by_cases a:0<u/\h.state≠0
 ·rw [Hp.JK u h a]
  exact b u h _ a.1 a.2 (Hp.IC c b _ _)
 ·rw [Hp.Je u h a]
  exact c u h a
 termination_by u h=>u.toNat
 decreasing_by have:=h.Jb;omega
def Hp.step (u:Int) (h:Hp):Hp:=if h.state=0 then Hp.work (u-1) h.begin else Hp.work u h
def Hp.phi (h:Hp):Nat:=if h.state=0 then 0 else if h.state=2 then h.objs.length-h.G9+1 else h.mu+h.objs.length+2
section
variable {n:Nat}
def Ob.cont (o:Ob):Nat × List En × Bool:=(o.mode,o.es,o.fin)
structure M7 (h g:Hp):Prop where
 len:g.objs.length=h.objs.length
 cont:∀ n,(g.ob n).map Ob.cont=(h.ob n).map Ob.cont
 grow:∀ n,g.M5 n=true->h.M5 n=true
 La:∀ n o,g.ob n=some o->fU o.col=true->∃ o',h.ob n=some o'/\o'.col=o.col
 again:g.again=h.again
 finals:g.finals=h.finals
 pending:g.pending=h.pending
 roots:g.roots=h.roots
 freed:g.freed=h.freed
 bytes:g.bytes=h.bytes
 live:g.live=h.live
 limit:g.limit=h.limit
 G6:g.G6=h.G6
 state:g.state=h.state
 white:g.white=h.white
 G9:g.G9=h.G9
theorem M7.refl (h:Hp):M7 h h:=⟨rfl,fun _=>rfl,fun _ x=>x,fun n o e _=>⟨o,e,rfl⟩,rfl,rfl,rfl,rfl,rfl,rfl,rfl,rfl,rfl,rfl,rfl,rfl⟩
theorem M7.trans {a b c:Hp} (x:M7 a b) (y:M7 b c):M7 a c:=
 ⟨y.len.trans x.len,fun n=>(y.cont n).trans (x.cont n),fun n e=>x.grow n (y.grow n e),
  fun n o e w=>by
   obtain ⟨o1,h,d⟩:=y.La n o e w;obtain ⟨o2,g,f⟩:=x.La n o1 h (by rw [d];exact w);exact ⟨o2,g,f.trans d⟩,
  y.again.trans x.again,y.finals.trans x.finals,y.pending.trans x.pending,y.roots.trans x.roots,y.freed.trans x.freed,y.bytes.trans x.bytes,y.live.trans x.live,y.limit.trans x.limit,y.G6.trans x.G6,y.state.trans x.state,y.white.trans x.white,y.G9.trans x.G9⟩
theorem Hp.KT (h:Hp) (n m c:Nat):(h.upd n fun o=>{ o with col:=c }).M5 m=(if n=m then (match h.ob m with |some _=>fU c|none=>true) else h.M5 m):=by
 unfold Hp.M5;rw [Hp.Ho];by_cases e:n=m
 ·rw [if_pos e,if_pos e]
  cases h.ob m<;>rfl
 ·rw [if_neg e,if_neg e]
theorem Hp.JA {h:Hp} {o:Ob} (e:h.ob n=some o):h.M5 n=fU o.col:=by unfold Hp.M5;rw [e]
theorem M7.col (h:Hp) (n c:Nat) (a:fU c=false):M7 h (h.upd n fun o=>{ o with col:=c }):=by
 refine ⟨by simp [Hp.upd],fun m=>?_,fun m hm=>?_,fun m o e w=>?_,rfl,rfl,rfl,rfl,rfl,rfl,rfl,rfl,rfl,rfl,rfl,rfl⟩
 ·rw [Hp.Ho]
  split
  ·cases h.ob m<;>rfl
  ·rfl
 ·rw [Hp.KT] at hm
  split at hm
  ·unfold Hp.M5
   cases hb:h.ob m with
   |none=>rfl
   |some o=>rw [hb] at hm;simp [a] at hm
  ·exact hm
 ·rw [Hp.Ho] at e
  split at e
  ·cases hb:h.ob m with
   |none=>rw [hb] at e;simp at e
   |some o'=>
    rw [hb] at e;simp only [Option.map_some,Option.some.injEq] at e;subst e;simp [a] at w
  ·exact ⟨o,e,rfl⟩
theorem M7.lists {h g:Hp} (x:M7 h g) (a b c:List Nat):M7 h { g with grey:=a,weak:=b,G8:=c }:=
 ⟨x.len,x.cont,x.grow,x.La,x.again,x.finals,x.pending,x.roots,x.freed,x.bytes,x.live,x.limit,x.G6,x.state,x.white,x.G9⟩
theorem M7.mark (h:Hp) (n:Nat):M7 h (h.mark n):=by
 unfold Hp.mark;split
 ·split
  ·exact (M7.col h n 2 rfl).lists _ _ _
  ·exact M7.refl h
 ·exact M7.refl h
theorem M7.Ib (h:Hp) (v:HV):M7 h (h.Ib v):=by
 unfold Hp.Ib;split
 ·exact M7.mark h _
 ·exact M7.refl h
theorem M7.fold {α:Type} (f:Hp->α->Hp) (b:∀ h x,M7 h (f h x)):∀ (l:List α) (h:Hp),M7 h (l.foldl f h)
 | [],h=>M7.refl h
 |a::l,h=>(b h a).trans (M7.fold f b l (f h a))
theorem M7.Hu (h:Hp) (l:List Nat):M7 h (h.Hu l):=M7.fold _ M7.mark l h
theorem M7.key1 (h:Hp) (e:En):M7 h (h.key1 e):=by
 unfold Hp.key1;split
 ·exact M7.Ib h _
 ·exact M7.refl h
theorem M7.H_ (h:Hp) (e:En):M7 h (h.H_ e):=(M7.key1 h e).trans (M7.Ib _ _)
theorem M7.Hl (p:Hp × Bool) (e:En):M7 p.1 (Hp.Hl p e).1:=by
 unfold Hp.Hl;split
 ·exact M7.Ib _ _
 ·exact M7.refl _
theorem M7.Ja:∀ (es:List En) (p:Hp × Bool),M7 p.1 (es.foldl Hp.Hl p).1
 | [],p=>M7.refl _
 |e::es,p=>(M7.Hl p e).trans (M7.Ja es _)
theorem M7.spread (h:Hp) (es:List En):M7 h (h.spread es).1:=M7.Ja es (h,false)
theorem M7.Ik (h:Hp) (n:Nat) (o:Ob):M7 h (h.Ik n o):=by
 unfold Hp.Ik;split
 ·exact M7.fold _ M7.H_ _ h
 ·split
  ·exact ((M7.refl h).lists _ _ _).trans (M7.spread _ _)
  ·split
   ·exact (M7.fold _ M7.key1 _ h).lists _ _ _
   ·exact (M7.refl h).lists _ _ _
theorem M7.scan (h:Hp) (n:Nat):M7 h (h.scan n).1:=by
 unfold Hp.scan;split
 ·exact (M7.col h n 3 rfl).trans (M7.Ik _ _ _)
 ·exact M7.refl h
theorem M7.take (h:Hp):M7 h h.take.1:=by
 unfold Hp.take;split
 ·exact ((M7.refl h).lists _ _ _).trans (M7.scan _ _)
 ·exact M7.refl h
theorem M7.drain (h:Hp):M7 h h.drain:=Hp.Iq (P:=M7) (fun h _=>M7.refl h) (fun h g _ x=>(M7.take h).trans x) h
theorem M7.over (k:Nat) (p:Hp × Bool):M7 p.1 (Hp.over k p).1:=
 Hp.Iu (P:=fun _ p q=>M7 p.1 q.1) (fun k p _=>M7.refl _) (fun k p q hk _ x=>(M7.spread _ _).trans ((M7.drain _).trans x)) (fun k p q hk _ x=>(M7.spread _ _).trans x) k p
theorem M7.turns (h:Hp):M7 h h.turns:=Hp.IV (P:=M7) (fun h g _ _ x=>(M7.over 0 (h,false)).trans x) (fun h _=>M7.over 0 (h,false)) h
theorem M7.settle (h:Hp):M7 h h.settle:=(M7.drain h).trans (M7.turns _)
theorem M7.alive (h:Hp):M7 h h.alive:=(M7.Hu h _).trans (M7.Hu _ _)
theorem M7.Hr (h:Hp) (n:Nat):M7 h (h.Hr n):=(M7.col h n 2 rfl).lists _ _ _
def Hp.Lv (h:Hp) (n:Nat):Prop:=∃ o,h.ob n=some o
theorem M7.lv {h g:Hp} (x:M7 h g) (n:Nat):g.Lv n↔h.Lv n:=by
 have:=x.cont n;unfold Hp.Lv;cases h1:g.ob n<;>cases h2:h.ob n<;>simp [h1,h2] at this ⊢
theorem M7.ob {h g:Hp} (x:M7 h g) {n:Nat} {o:Ob} (e:g.ob n=some o):∃ o',h.ob n=some o'/\o'.mode=o.mode/\o'.es=o.es/\o'.fin=o.fin:=by
 have:=x.cont n;rw [e] at this;cases h2:h.ob n with
 |none=>simp [h2] at this
 |some o'=>
  simp [h2,Ob.cont] at this;exact ⟨o',rfl,this.1.symm,this.2.1.symm,this.2.2.symm⟩
theorem M7.Jj {h g:Hp} (x:M7 h g) (n:Nat):g.Jj n=h.Jj n:=by
 have:=x.cont n;unfold Hp.Jj;cases h1:g.ob n<;>cases h2:h.ob n<;>simp [h1,h2,Ob.cont] at this ⊢
 exact this.2.1
theorem M7.dark {h g:Hp} (x:M7 h g) (e:h.M5 n=false):g.M5 n=false:=by
 cases hg:g.M5 n
 ·rfl
 ·rw [x.grow n hg] at e;cases e
def bQ (v:HV):List Nat:=match v with
 |some (.inr r)=>[r]
 |_=>[]
def dw (e:En):List Nat:=bQ e.1++bQ e.2
def Hp.Closed (h:Hp):Prop:=∀ n o,h.ob n=some o->∀ e∈o.es,∀ r∈dw e,h.Lv r
theorem M7.closed {h g:Hp} (x:M7 h g) (c:h.Closed):g.Closed:=by
 intro n o e en b r hr;obtain ⟨a,f,_,d,_⟩:=x.ob e;exact (x.lv r).2 (c n a f en (by rw [d];exact b) r hr)
theorem ow {h:Hp} {v:HV} (e:h.MO v=true):∃ r,v=some (.inr r)/\h.M5 r=true:=by
 unfold Hp.MO at e;split at e
 ·exact ⟨_,rfl,e⟩
 ·cases e
theorem jh {h:Hp} {v:HV} (e:h.MO v=false):∀ r∈bQ v,h.M5 r=false:=by
 intro r hr;unfold bQ at hr;split at hr
 ·simp at hr;subst hr;exact e
 ·simp at hr
theorem Hp.JZ {h:Hp} (l:h.Lv n):(h.mark n).M5 n=false:=by
 obtain ⟨o,e⟩:=l;unfold Hp.mark;rw [e];simp only;split
 ·unfold Hp.M5
  have:=h.Ho n n (fun o=>{ o with col:=2 });rw [if_pos rfl,e] at this;show (match (h.upd n fun o=>{ o with col:=2 }).ob n with |some o=>fU o.col|none=>true)=false;rw [this];rfl
 ·rename_i a
  rw [Hp.JA e]
  simpa using a
theorem Hp.Jk {h:Hp} {v:HV} (l:∀ r∈bQ v,h.Lv r):∀ r∈bQ v,(h.Ib v).M5 r=false:=by
 intro r hr;unfold bQ at hr;split at hr
 ·simp at hr;subst hr
  exact Hp.JZ (l _ (by simp [bQ]))
 ·simp at hr
end
section
variable {S:Nat->Prop} {n:Nat} {o o':Ob}
def Sc (h:Hp) (n:Nat) (o:Ob):Prop:=
 (o.mode=0->∀ e∈o.es,e.2.isSome=true->∀ r∈dw e,h.M5 r=false)/\(o.mode=1->n∈h.G8)/\
 (o.mode=2->∀ e∈o.es,e.2.isSome=true->∀ r∈bQ e.1,h.M5 r=false)/\(2<=o.mode->n∈h.weak)
theorem Sc.mono {h g:Hp} (s:Sc h n o) (hm:o'.mode=o.mode) (f:o'.es=o.es) (i:∀ r,g.M5 r=true->h.M5 r=true) (k:∀ r∈h.G8,r∈g.G8) (j:∀ r∈h.weak,r∈g.weak):Sc g n o':=by
 have hd:∀ r,h.M5 r=false->g.M5 r=false:=fun r e=>by
  cases hg:g.M5 r
  ·rfl
  ·rw [i r hg] at e;cases e
 obtain ⟨a,b,c,d⟩:=s;refine ⟨fun x e hee hs r hr=>hd r (a (hm ▸ x) e (f ▸ hee) hs r hr),fun x=>k n (b (hm ▸ x)),fun x e hee hs r hr=>hd r (c (hm ▸ x) e (f ▸ hee) hs r hr),fun x=>j n (d (hm ▸ x))⟩
structure MP (h:Hp) (S:Nat->Prop):Prop where
 col:∀ n o,h.ob n=some o->o.col<=3
 M6:∀ n o,h.ob n=some o->o.col=2->n∈h.grey∨n∈h.again
 blk:∀ n o,h.ob n=some o->o.col=3->¬ S n->Sc h n o
 wc:∀ n o,h.ob n=some o->fU o.col=true->o.col=h.white
 ll:∀ n,n∈h.grey∨n∈h.again∨n∈h.weak∨n∈h.G8->h.Lv n
 cl:h.Closed
structure Mt (h g:Hp):Prop where
 md:M7 h g
 bl:∀ n o,g.ob n=some o->o.col=3->∃ o',h.ob n=some o'/\o'.col=3
 gr:∀ n o,g.ob n=some o->o.col=2->(∃ o',h.ob n=some o'/\o'.col=2)∨n∈g.grey
 le:∀ n o,g.ob n=some o->o.col<=3∨∃ o',h.ob n=some o'/\o'.col=o.col
 lg:∀ n∈h.grey,n∈g.grey
 lv:∀ n∈g.grey,n∈h.grey∨h.Lv n
 ep:g.G8=h.G8
 wk:g.weak=h.weak
theorem Mt.refl (h:Hp):Mt h h:=⟨M7.refl h,fun n o e c=>⟨o,e,c⟩,fun n o e c=>.inl ⟨o,e,c⟩,fun n o e=>.inr ⟨o,e,rfl⟩,fun _ x=>x,fun _ x=>.inl x,rfl,rfl⟩
theorem Mt.trans {a b c:Hp} (x:Mt a b) (y:Mt b c):Mt a c:=by
 refine ⟨x.md.trans y.md,fun n o e k=>?_,fun n o e k=>?_,fun n o e=>?_,fun n h=>y.lg n (x.lg n h),fun n h=>?_,y.ep.trans x.ep,y.wk.trans x.wk⟩
 ·obtain ⟨o1,d,g⟩:=y.bl n o e k
  exact x.bl n o1 d g
 ·rcases y.gr n o e k with ⟨o1,d,g⟩|d
  ·rcases x.gr n o1 d g with f|f
   ·exact .inl f
   ·exact .inr (y.lg n f)
  ·exact .inr d
 ·rcases y.le n o e with d|⟨o1,d,g⟩
  ·exact .inl d
  ·rcases x.le n o1 d with f|⟨o2,f,i⟩
   ·exact .inl (g ▸ f)
   ·exact .inr ⟨o2,f,i.trans g⟩
 ·rcases y.lv n h with d|d
  ·exact x.lv n d
  ·exact .inr ((x.md.lv n).1 d)
theorem Mt.Hr (h:Hp) (n:Nat) (l:h.Lv n):Mt h (h.Hr n):=by
 refine ⟨M7.Hr h n,fun m o e k=>?_,fun m o e k=>?_,fun m o e=>?_,fun m x=>List.mem_append_left _ x,fun m x=>?_,rfl,rfl⟩
 ·have a:(h.upd n fun o=>{ o with col:=2 }).ob m=some o:=e
  rw [Hp.Ho] at a;split at a
  ·cases hb:h.ob m with
   |none=>rw [hb] at a;simp at a
   |some o'=>rw [hb] at a;simp at a;subst a;simp at k
  ·exact ⟨o,a,k⟩
 ·have a:(h.upd n fun o=>{ o with col:=2 }).ob m=some o:=e
  rw [Hp.Ho] at a;split at a
  ·rename_i b
   right;show m∈h.grey++[n];simp [b]
  ·exact .inl ⟨o,a,k⟩
 ·have a:(h.upd n fun o=>{ o with col:=2 }).ob m=some o:=e
  rw [Hp.Ho] at a;split at a
  ·cases hb:h.ob m with
   |none=>rw [hb] at a;simp at a
   |some o'=>rw [hb] at a;simp at a;subst a;exact .inl (by simp)
  ·exact .inr ⟨o,a,rfl⟩
 ·have c:m∈h.grey++[n]:=x
  rcases eT.1 c with y|y
  ·exact .inl y
  ·simp at y;subst y;exact .inr l
theorem Hp.mark_eq (h:Hp) (n:Nat):h.mark n=h∨(h.Lv n/\h.M5 n=true/\h.mark n=h.Hr n):=by
 unfold Hp.mark;split
 ·rename_i o ho
  split
  ·rename_i a
   exact .inr ⟨⟨o,ho⟩,by rw [Hp.JA ho];exact a,rfl⟩
  ·exact .inl rfl
 ·exact .inl rfl
theorem Mt.mark (h:Hp) (n:Nat):Mt h (h.mark n):=by
 rcases h.mark_eq n with e|⟨l,_,e⟩
 ·rw [e];exact Mt.refl h
 ·rw [e];exact Mt.Hr h n l
theorem Mt.Ib (h:Hp) (v:HV):Mt h (h.Ib v):=by
 unfold Hp.Ib;split
 ·exact Mt.mark h _
 ·exact Mt.refl h
theorem Mt.fold {α:Type} (f:Hp->α->Hp) (b:∀ h x,Mt h (f h x)):∀ (l:List α) (h:Hp),Mt h (l.foldl f h)
 | [],h=>Mt.refl h
 |a::l,h=>(b h a).trans (Mt.fold f b l (f h a))
theorem Mt.Hu (h:Hp) (l:List Nat):Mt h (h.Hu l):=Mt.fold _ Mt.mark l h
theorem Mt.key1 (h:Hp) (e:En):Mt h (h.key1 e):=by
 unfold Hp.key1;split
 ·exact Mt.Ib h _
 ·exact Mt.refl h
theorem Mt.H_ (h:Hp) (e:En):Mt h (h.H_ e):=(Mt.key1 h e).trans (Mt.Ib _ _)
theorem Mt.Hl (p:Hp × Bool) (e:En):Mt p.1 (Hp.Hl p e).1:=by
 unfold Hp.Hl;split
 ·exact Mt.Ib _ _
 ·exact Mt.refl _
theorem Mt.Ja:∀ (es:List En) (p:Hp × Bool),Mt p.1 (es.foldl Hp.Hl p).1
 | [],p=>Mt.refl _
 |e::es,p=>(Mt.Hl p e).trans (Mt.Ja es _)
theorem Mt.spread (h:Hp) (es:List En):Mt h (h.spread es).1:=Mt.Ja es (h,false)
theorem Mt.alive (h:Hp):Mt h h.alive:=(Mt.Hu h _).trans (Mt.Hu _ _)
theorem MP.MQ {h g:Hp} (t:MP h S) (x:Mt h g):MP g S:=by
 refine ⟨fun n o e=>?_,fun n o e k=>?_,fun n o e k hs=>?_,fun n o e w=>?_,fun n hn=>?_,x.md.closed t.cl⟩
 ·rcases x.le n o e with a|⟨o',a,b⟩
  ·exact a
  ·rw [<-b];exact t.col n o' a
 ·rcases x.gr n o e k with ⟨o',a,b⟩|a
  ·rcases t.M6 n o' a b with c|c
   ·exact .inl (x.lg n c)
   ·exact .inr (by rw [x.md.again];exact c)
  ·exact .inl a
 ·obtain ⟨o',a,b⟩:=x.bl n o e k
  obtain ⟨o2,c,f,d,_⟩:=x.md.ob e;rw [a] at c;cases c;exact (t.blk n o' a b hs).mono f.symm d.symm x.md.grow (fun r hr=>by rw [x.ep];exact hr) (fun r hr=>by rw [x.wk];exact hr)
 ·obtain ⟨o',a,b⟩:=x.md.La n o e w
  rw [x.md.white,<-b];exact t.wc n o' a (by rw [b];exact w)
 ·refine (x.md.lv n).2 ?_
  rcases hn with a|a|a|a
  ·rcases x.lv n a with b|b
   ·exact t.ll n (.inl b)
   ·exact b
  ·exact t.ll n (.inr (.inl (by rw [<-x.md.again];exact a)))
  ·exact t.ll n (.inr (.inr (.inl (by rw [<-x.wk];exact a))))
  ·exact t.ll n (.inr (.inr (.inr (by rw [<-x.ep];exact a))))
theorem pQ:∀ (l:List En) (h:Hp),(∀ e∈l,∀ r∈dw e,h.Lv r)->∀ e∈l,e.2.isSome=true->∀ r∈dw e,(l.foldl Hp.H_ h).M5 r=false
 | [],h,_,e,he,_,_,_=>by simp at he
 |a::l,h,hl,e,he,hs,r,hr=>by
  simp only [List.foldl_cons];rcases jm.1 he with rfl|he'
  ·refine (M7.fold _ M7.H_ l _).dark ?_
   unfold Hp.H_ Hp.key1;rw [if_pos hs];rcases eT.1 hr with h1|h1
   ·exact (M7.Ib _ _).dark (Hp.Jk (fun x hx=>hl _ (List.mem_cons_self) x (List.mem_append_left _ hx)) r h1)
   ·exact Hp.Jk (fun x hx=>((M7.Ib h e.1).lv x).2 (hl _ (List.mem_cons_self) x (List.mem_append_right _ hx))) r h1
  ·exact pQ l _ (fun e he r hr=>((M7.H_ h a).lv r).2 (hl e (List.mem_cons_of_mem _ he) r hr)) e he' hs r hr
theorem sI:∀ (l:List En) (h:Hp),(∀ e∈l,∀ r∈dw e,h.Lv r)->∀ e∈l,e.2.isSome=true->∀ r∈bQ e.1,(l.foldl Hp.key1 h).M5 r=false
 | [],h,_,e,he,_,_,_=>by simp at he
 |a::l,h,hl,e,he,hs,r,hr=>by
  simp only [List.foldl_cons];rcases jm.1 he with rfl|he'
  ·refine (M7.fold _ M7.key1 l _).dark ?_
   unfold Hp.key1;rw [if_pos hs];exact Hp.Jk (fun x hx=>hl _ (List.mem_cons_self) x (List.mem_append_left _ hx)) r hr
  ·exact sI l _ (fun e he r hr=>((M7.key1 h a).lv r).2 (hl e (List.mem_cons_of_mem _ he) r hr)) e he' hs r hr
end
section
variable {S:Nat->Prop} {gs:List Nat} {h:Hp} {n:Nat}
def No:Nat->Prop:=fun _=>False
theorem MP.lists (t:MP h S) (n:Nat) (j:h.Lv n) (a b:List Nat) (l:a=h.G8∨a=h.G8++[n]) (hb:b=h.weak∨b=h.weak++[n]):MP { h with G8:=a,weak:=b } S:=by
 have i:∀ r∈h.G8,r∈a:=by rcases l with rfl|rfl<;>simp_all
 have g:∀ r∈h.weak,r∈b:=by rcases hb with rfl|rfl<;>simp_all
 refine ⟨t.col,t.M6,fun m o e k hs=>(t.blk m o e k hs).mono rfl rfl (fun _ x=>x) i g,t.wc,fun m hm=>?_,t.cl⟩;rcases hm with f|f|f|f
 ·exact t.ll m (.inl f)
 ·exact t.ll m (.inr (.inl f))
 ·have c:m∈b:=f
  rcases hb with rfl|rfl
  ·exact t.ll m (.inr (.inr (.inl c)))
  ·rcases eT.1 c with d|d
   ·exact t.ll m (.inr (.inr (.inl d)))
   ·simp at d;subst d;exact j
 ·have c:m∈a:=f
  rcases l with rfl|rfl
  ·exact t.ll m (.inr (.inr (.inr c)))
  ·rcases eT.1 c with d|d
   ·exact t.ll m (.inr (.inr (.inr d)))
   ·simp at d;subst d;exact j
theorem MP.done (t:MP h (fun m=>S m∨m=n)) (a:∀ o,h.ob n=some o->Sc h n o):MP h S:=by
 refine ⟨t.col,t.M6,fun m o e k hS=>?_,t.wc,t.ll,t.cl⟩;by_cases hm:m=n
 ·subst hm;exact a o e
 ·exact t.blk m o e k (fun x=>x.elim hS hm)
theorem MP.pop (t:MP h S) (i:h.grey=gs++[n]):MP ({ h with grey:=gs }.upd n fun o=>{ o with col:=3 }) (fun m=>S m∨m=n):=by
 have hx:=M7.col { h with grey:=gs } n 3 rfl;have b:∀ m o,({ h with grey:=gs }.upd n fun o=>{ o with col:=3 }).ob m=some o->(m≠n/\h.ob m=some o)∨(m=n/\o.col=3):=by
  intro m o e;rw [Hp.Ho] at e;split at e
  ·rename_i c
   right;cases hb:Hp.ob { h with grey:=gs } m with
   |none=>rw [hb] at e;simp at e
   |some o'=>rw [hb] at e;simp at e;subst e;exact ⟨c.symm,rfl⟩
  ·rename_i c
   exact .inl ⟨fun x=>c x.symm,e⟩
 refine ⟨fun m o e=>?_,fun m o e k=>?_,fun m o e k hs=>?_,fun m o e w=>?_,fun m hm=>?_,hx.closed t.cl⟩
 ·rcases b m o e with ⟨_,a⟩|⟨_,a⟩
  ·exact t.col m o a
  ·omega
 ·rcases b m o e with ⟨g,a⟩|⟨_,a⟩
  ·rcases t.M6 m o a k with f|f
   ·rw [i] at f
    rcases eT.1 f with d|d
    ·exact .inl d
    ·simp at d;exact absurd d g
   ·exact .inr f
  ·omega
 ·rcases b m o e with ⟨g,a⟩|⟨g,a⟩
  ·exact (t.blk m o a k (fun x=>hs (.inl x))).mono rfl rfl hx.grow (fun _ x=>x) (fun _ x=>x)
  ·exact absurd (.inr g) hs
 ·rcases b m o e with ⟨_,a⟩|⟨_,a⟩
  ·exact t.wc m o a w
  ·rw [a] at w;cases w
 ·refine (hx.lv m).2 ?_
  show h.Lv m;rcases hm with a|a|a|a
  ·exact t.ll m (.inl (by rw [i];exact List.mem_append_left _ a))
  ·exact t.ll m (.inr (.inl a))
  ·exact t.ll m (.inr (.inr (.inl a)))
  ·exact t.ll m (.inr (.inr (.inr a)))
theorem MP.Ik {h:Hp} {n:Nat} {o:Ob} (t:MP h (fun m=>No m∨m=n)) (hm:∃ o',h.ob n=some o'/\o'.mode=o.mode/\o'.es=o.es):MP (h.Ik n o) No:=by
 obtain ⟨o',e,i,f⟩:=hm;have l:∀ en∈o.es,∀ r∈dw en,h.Lv r:=fun en he r hr=>t.cl n o' e en (by rw [f];exact he) r hr;have key:∀ g:Hp,M7 h g->∀ o2,g.ob n=some o2->o2.mode=o.mode/\o2.es=o.es:=by
  intro g hk o2 a;obtain ⟨o3,c,b,q,_⟩:=hk.ob a;rw [e] at c;cases c;exact ⟨b.symm.trans i,q.symm.trans f⟩
 unfold Hp.Ik;split
 ·rename_i k
  have hk:=Mt.fold _ Mt.H_ o.es h;refine (t.MQ hk).done (fun o2 a=>?_);obtain ⟨c,b⟩:=key _ hk.md o2 a;refine ⟨fun _ en he hs r hr=>pQ o.es h l en (b ▸ he) hs r hr,fun x=>?_,fun x=>?_,fun x=>?_⟩
  ·omega
  ·omega
  ·omega
 ·split
  ·rename_i k p
   have d:=t.lists n ⟨o',e⟩ (h.G8++[n]) h.weak (.inr rfl) (.inl rfl);have hk:=Mt.spread { h with G8:=h.G8++[n] } o.es;refine (d.MQ hk).done (fun o2 a=>?_);obtain ⟨c,b⟩:=key _ (((M7.refl h).lists _ _ _).trans hk.md) o2 a;refine ⟨fun x=>?_,fun x=>?_,fun x=>?_,fun x=>?_⟩
   ·omega
   ·rw [hk.ep];simp
   ·omega
   ·omega
  ·split
   ·rename_i k p j
    have hk:=Mt.fold _ Mt.key1 o.es h;have d:=(t.MQ hk).lists n ((hk.md.lv n).2 ⟨o',e⟩) (o.es.foldl Hp.key1 h).G8 ((o.es.foldl Hp.key1 h).weak++[n]) (.inl rfl) (.inr rfl);refine d.done (fun o2 a=>?_);obtain ⟨c,b⟩:=key _ (hk.md.lists _ _ _) o2 a;refine ⟨fun x=>?_,fun x=>?_,fun x en he hs r hr=>?_,fun x=>?_⟩
    ·omega
    ·omega
    ·exact sI o.es h l en (b ▸ he) hs r hr
    ·simp
   ·rename_i k p j
    have d:=t.lists n ⟨o',e⟩ h.G8 (h.weak++[n]) (.inl rfl) (.inr rfl);refine d.done (fun o2 a=>?_);obtain ⟨c,b⟩:=key _ ((M7.refl h).lists _ _ _) o2 a;refine ⟨fun x=>?_,fun x=>?_,fun x=>?_,fun x=>?_⟩
    ·omega
    ·omega
    ·omega
    ·simp
theorem MP.take {h:Hp} (t:MP h No):MP h.take.1 No:=by
 unfold Hp.take;split
 ·rename_i n f
  have b:h.grey=h.grey.dropLast++[n]:=by
   obtain ⟨g,d⟩:=List.getLast?_eq_some_iff.1 f;rw [d,List.dropLast_concat]
  have c:=t.pop b;unfold Hp.scan;split
  ·rename_i o ho
   refine c.Ik ⟨{ o with col:=3 },?_,rfl,rfl⟩;rw [Hp.Ho,if_pos rfl,ho];rfl
  ·rename_i ho
   obtain ⟨o,e⟩:=t.ll n (.inl (by rw [b];simp));have a:h.ob n=none:=ho;rw [e] at a;cases a
 ·exact t
theorem MP.drain {h:Hp} (t:MP h No):MP h.drain No:=Hp.Iq (P:=fun h g=>MP h No->MP g No) (fun h _ t=>t) (fun h g _ x t=>x t.take) h t
theorem MP.over {k:Nat} {p:Hp × Bool} (t:MP p.1 No):MP (Hp.over k p).1 No:=
 Hp.Iu (P:=fun _ p q=>MP p.1 No->MP q.1 No) (fun k p _ t=>t) (fun k p q hk _ x t=>x (t.MQ (Mt.spread _ _)).drain) (fun k p q hk _ x t=>x (t.MQ (Mt.spread _ _))) k p t
theorem MP.turns {h:Hp} (t:MP h No):MP h.turns No:=Hp.IV (P:=fun h g=>MP h No->MP g No) (fun h g _ _ x t=>x (MP.over (p:=(h,false)) t)) (fun h _ t=>MP.over (p:=(h,false)) t) h t
theorem MP.settle {h:Hp} (t:MP h No):MP h.settle No:=t.drain.turns
theorem MP.Lf:∀ (l:List Nat) (h:Hp),MP h No->(∀ n∈l,h.Lv n)->MP (l.foldl Hp.Hr h) No
 | [],h,t,_=>t
 |a::l,h,t,hl=>MP.Lf l _ (t.MQ (Mt.Hr h a (hl a (List.mem_cons_self)))) (fun n hn=>((M7.Hr h a).lv n).2 (hl n (List.mem_cons_of_mem _ hn)))
theorem nD:∀ (l:List Nat) (h:Hp),(l.foldl Hp.Hr h).grey=h.grey++l/\(l.foldl Hp.Hr h).again=h.again
 | [],h=>by simp
 |a::l,h=>by
  obtain ⟨h1,h2⟩:=nD l (h.Hr a);refine ⟨?_,h2.trans rfl⟩;simp only [List.foldl_cons];rw [h1];simp [Hp.Hr]
theorem MP.He {h:Hp} (t:MP h No):MP h.He No:=by
 have b:=MP.Lf h.again h t (fun n hn=>t.ll n (.inr (.inl hn)));have d:=nD h.again h;refine ⟨b.col,fun n o e k=>?_,b.blk,b.wc,fun n hn=>?_,b.cl⟩
 ·rcases b.M6 n o e k with a|a
  ·exact .inl a
  ·rw [d.2] at a
   refine .inl ?_;show n∈(h.again.foldl Hp.Hr h).grey;rw [d.1];exact List.mem_append_right _ a
 ·refine b.ll n ?_
  rcases hn with a|a|a|a
  ·exact .inl a
  ·have c:n∈([]:List Nat):=a
   simp at c
  ·exact .inr (.inr (.inl a))
  ·exact .inr (.inr (.inr a))
end
section
variable {es:List En}
theorem kH:∀ (es:List En) (p:Hp × Bool),(es.foldl Hp.Hl p).2=false->es.foldl Hp.Hl p=p/\∀ e∈es,p.1.MO e.1=false->p.1.MO e.2=false
 | [],p,_=>⟨rfl,fun _ h=>by simp at h⟩
 |a::l,p,h=>by
  simp only [List.foldl_cons] at h ⊢;obtain ⟨h1,h2⟩:=kH l _ h;have hp:(Hp.Hl p a).2=false:=by rw [h1] at h;exact h
  have c:Hp.Hl p a=p/\(p.1.MO a.1=false->p.1.MO a.2=false):=by
   unfold Hp.Hl at hp ⊢;split
   ·rename_i hx;rw [if_pos hx] at hp;simp at hp
   ·rename_i hx
    refine ⟨rfl,fun e=>?_⟩;cases hv:p.1.MO a.2
    ·rfl
    ·simp [e,hv] at hx
  rw [h1,c.1];refine ⟨rfl,fun e he=>?_⟩;rcases jm.1 he with rfl|b
  ·exact c.2
  ·have:=h2 e b
   rw [c.1] at this;exact this
theorem Hp.Jp {h:Hp} (e:(h.spread es).2=false):(h.spread es).1=h/\∀ e∈es,h.MO e.1=false->h.MO e.2=false:=by
 obtain ⟨b,a⟩:=kH es (h,false) e;exact ⟨by unfold Hp.spread;rw [b],a⟩
theorem lN:∀ (es:List En) (p:Hp × Bool),(∀ e∈es,∀ r∈dw e,p.1.Lv r)->(p.2=true->p.1.grey≠[])->(es.foldl Hp.Hl p).2=true->(es.foldl Hp.Hl p).1.grey≠[]
 | [],p,_,h,e=>h e
 |a::l,p,hl,h,e=>by
  simp only [List.foldl_cons] at e ⊢;refine lN l _ (fun e he r hr=>((M7.Hl p a).lv r).2 (hl e (List.mem_cons_of_mem _ he) r hr)) (fun hx=>?_) e;unfold Hp.Hl at hx ⊢;split
  ·rename_i hc
   simp only [Bool.and_eq_true,Bool.not_eq_true'] at hc;obtain ⟨r,hr,hw⟩:=ow hc.2;have b:=hl a (List.mem_cons_self) r (by simp [dw,bQ,hr]);show (p.1.Ib a.2).grey≠[];rw [hr];show (p.1.mark r).grey≠[];obtain ⟨o,ho⟩:=b;have:p.1.mark r=p.1.Hr r:=by
    unfold Hp.mark;rw [ho];simp only;rw [if_pos (by rw [<-Hp.JA ho];exact hw)];rfl
   rw [this];simp [Hp.Hr]
  ·rename_i hc
   rw [if_neg hc] at hx;exact h hx
theorem Hp.J8 {h:Hp} (a:∀ e∈es,∀ r∈dw e,h.Lv r) (e:(h.spread es).2=true):(h.spread es).1.grey≠[]:=lN es (h,false) a (fun x=>by cases x) e
theorem Hp.Km:∀ (k:Nat) (p:Hp × Bool),(Hp.over k p).2=false->Hp.over k p=p/\∀ j (a:j<p.1.G8.length),k<=j->∀ e∈p.1.Jj (p.1.G8[j]),p.1.MO e.1=false->p.1.MO e.2=false:=by
 intro k p;refine Hp.Iu (P:=fun k p q=>q.2=false->q=p/\∀ j (a:j<p.1.G8.length),k<=j->∀ e∈p.1.Jj (p.1.G8[j]),p.1.MO e.1=false->p.1.MO e.2=false) ?_ ?_ ?_ k p
 ·exact fun k p hk _=>⟨rfl,fun j a hkj=>absurd a (by omega)⟩
 ·intro k p q hk d x e
  obtain ⟨b,_⟩:=x e;rw [b] at e;simp at e
 ·intro k p q hk d x e
  obtain ⟨b,f⟩:=x e;obtain ⟨h,g⟩:=Hp.Jp d;rw [h] at b f;refine ⟨b,fun j a hkj=>?_⟩;by_cases c:j=k
  ·subst c;exact g
  ·exact f j a (by omega)
theorem Hp.Ku (k:Nat) (p:Hp × Bool):MP p.1 No->(Hp.over k p).1.mu<=p.1.mu/\((Hp.over k p).2=true->p.2=true∨(Hp.over k p).1.mu<p.1.mu):=by
 refine Hp.Iu (P:=fun k p q=>MP p.1 No->q.1.mu<=p.1.mu/\(q.2=true->p.2=true∨q.1.mu<p.1.mu)) ?_ ?_ ?_ k p
 ·exact fun k p _ _=>⟨au _,fun h=>.inl h⟩
 ·intro k p q hk d x t
  have b:p.1.Lv (p.1.G8[k]):=t.ll _ (.inr (.inr (.inr (List.getElem_mem hk))));obtain ⟨o,ho⟩:=b;have g:∀ e∈p.1.Jj (p.1.G8[k]),∀ r∈dw e,p.1.Lv r:=by
   intro e c r hr;refine t.cl _ o ho e ?_ r hr;unfold Hp.Jj at c;rw [ho] at c;exact c
  have i:=Hp.KQ _ (Hp.J8 g d);rw [Hp.Il] at i;obtain ⟨a,_⟩:=x (t.MQ (Mt.spread _ _)).drain;simp only at a;exact ⟨by omega,fun _=>.inr (by omega)⟩
 ·intro k p q hk d x t
  obtain ⟨a,f⟩:=x (t.MQ (Mt.spread _ _));simp only [Hp.Il] at a f;exact ⟨a,f⟩
theorem Hp.JQ (k:Nat) (p:Hp × Bool):p.1.grey=[]->(Hp.over k p).1.grey=[]:=by
 refine Hp.Iu (P:=fun k p q=>p.1.grey=[]->q.1.grey=[]) (fun k p _ h=>h) ?_ ?_ k p
 ·intro k p q hk a x _
  exact x (Hp.JC _)
 ·intro k p q hk a x h
  refine x ?_;show (p.1.spread _).1.grey=[];rw [(Hp.Jp a).1];exact h
def FT (h:Hp):Prop:=∀ n∈h.G8,∀ e∈h.Jj n,h.MO e.1=false->h.MO e.2=false
theorem Hp.Ky (h:Hp):MP h No->h.grey=[]->h.turns.grey=[]/\FT h.turns:=by
 refine Hp.IV (P:=fun h g=>MP h No->h.grey=[]->g.grey=[]/\FT g) ?_ ?_ h
 ·intro h g l b x t d
  exact x (MP.over (p:=(h,false)) t) (Hp.JQ 0 (h,false) d)
 ·intro h c t d
  refine ⟨Hp.JQ 0 (h,false) d,?_⟩;cases b:(Hp.over 0 (h,false)).2 with
  |true=>
   rcases (Hp.Ku 0 (h,false) t).2 b with a|a
   ·cases a
   ·exact absurd ⟨b,a⟩ c
  |false=>
   obtain ⟨a,k⟩:=Hp.Km 0 (h,false) b;rw [a];intro n c e i;obtain ⟨j,f,rfl⟩:=List.getElem_of_mem c;exact k j f (Nat.zero_le _) e i
theorem Hp.Ji {h:Hp} (t:MP h No):h.settle.grey=[]/\FT h.settle:=Hp.Ky _ t.drain (Hp.JC h)
theorem Hp.Jv {h:Hp} (t:MP h No) (e:(Hp.over 0 (h,false)).2=true):(Hp.over 0 (h,false)).1.mu<h.mu:=by
 rcases (Hp.Ku 0 (h,false) t).2 e with a|a
 ·cases a
 ·exact a
theorem Hp.Jy {h:Hp} (t:MP h No) (e:(Hp.over 0 (h,false)).2=true):h.turns=(Hp.over 0 (h,false)).1.turns:=Hp.KD h e (Hp.Jv t e)
end
end Go.Proofs.YtbpcdfbmnklcjaaGreatDoor
