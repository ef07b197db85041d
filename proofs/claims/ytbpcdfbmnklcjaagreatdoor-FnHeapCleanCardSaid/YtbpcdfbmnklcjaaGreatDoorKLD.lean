import Derived.Test.YtbpcdfbmnklcjaaGreatDoorKJM
import Derived.Test.YtbpcdfbmnklcjaaGreatDoorKJP
namespace Go.Proofs.YtbpcdfbmnklcjaaGreatDoor
set_option linter.unusedVariables false
variable {A C kd:Int} {b:Bk} {h:Hp} {k:Nat} {r:Rn} {sn:List Bool}
noncomputable def Oa (l:List dA):Nat->Bk
 |0=>Bk.new
 |k+1=>match l[k]? with
  |some o=>if (cK (cZ (l.take k)).2 o.1 o.2.1 o.2.2.1 o.2.2.2).1.code=0 then (Oa l k).act o.1 o.2.1 o.2.2.1 o.2.2.2 else Oa l k
  |none=>Oa l k
def OI (o:dA):Prop:=o.1≠5/\(o.1=1->o.2.1≠2)
theorem NI {l:List dA} {o:dA} (h:l[k]?=some o):Oa l (k+1)=if (cK (cZ (l.take k)).2 o.1 o.2.1 o.2.2.1 o.2.2.2).1.code=0 then (Oa l k).act o.1 o.2.1 o.2.2.1 o.2.2.2 else Oa l k:=by
 rw [Oa,h]
theorem Oy {l:List dA} (e:l.length<=5000) (hp:∀ o∈l,OI o):∀ k,k<=l.length->O_ k (Oa l k) (cZ (l.take k)).2
 |0,_=>by rw [List.take_zero];exact O_.new
 |k+1,hk=>by
  have c:=Oy e hp k (by omega);have ho:l[k]?=some l[k]:=aN (by omega);obtain ⟨p1,d⟩:=hp _ (List.getElem_mem (show k<l.length by omega));rw [NI ho,fH ho];show O_ (k+1) _ (cK (cZ (l.take k)).2 l[k].1 l[k].2.1 l[k].2.2.1 l[k].2.2.2).2;split
  ·rename_i a;exact c.yes (by omega) a p1 d
  ·rename_i a;exact c.no (by omega) a
theorem Oe (n:mg h) (g:sn.length=h.objs.length) (f:∀ k,sn[k]?=some true↔h.Lv k):h.live=sn.count true:=by
 rw [n.2];have key:(cu h).map on=sn.map (fun b=>if b then 1 else 0):=by
  refine List.ext_getElem? (fun k=>?_);rw [fC,fC,iw];by_cases c:k<h.objs.length
  ·rw [if_pos c]
   have i:k<sn.length:=by omega
   have d:=f k;rw [aN i] at d ⊢;unfold Hp.Lv at d;cases ho:h.ob k with
   |none=>
    rw [ho] at d;cases hb:sn[k] with
    |false=>rfl
    |true=>rw [hb] at d;obtain ⟨o,e⟩:=d.1 rfl;cases e
   |some o=>
    rw [ho] at d;have:=d.2 ⟨o,rfl⟩;simp at this;rw [this];rfl
  ·rw [if_neg c,aM (by omega)];rfl
 unfold gZ;rw [key];clear key f g
 induction sn with
 |nil=>rfl
 |cons a l ih=>cases a<;>simp [ih]<;>omega
def OG (b:Bk) (a:An):Prop:=a.code=0/\a.state=0/\a.pend=0/\∀ sn:List Bool,sn.length=b.modes.length->(∀ k,sn[k]?=some true↔b.Rc k)->a.live=(sn.count true:Int)
theorem O_.last {a:An} (c:O_ k b r) (f:r.h.state=0) (hr:∀ n,r.h.Lv n->b.Rc n) (d:a.code=0/\a.live=(r.h.live:Int)/\a.state=(r.h.state:Int)/\a.pend=(r.h.pending.length:Int)):OG b a:=by
 obtain ⟨p,m,l,j⟩:=d;refine ⟨p,by rw [l,f];rfl,by rw [j,c.s.fin.2];rfl,fun sn h1 h2=>?_⟩;rw [m,Oe c.x.ok.g.n (h1.trans c.x.bk.ml) (fun n=>⟨fun e=>Hp.IG (c.x.bk.ok c.x.ok.g.i c.x.ok.o ((h2 n).1 e)),fun e=>(h2 n).2 (hr n e)⟩)]
theorem ND {B:Int} (h:kd=6/\A=1000000∨kd=7):(cK r kd A B C).1.code=0:=by
 unfold cK;have a:bG r.h r.hand kd A B C:=by
  rcases h with ⟨rfl,_⟩|rfl<;>exact ⟨fun e=>absurd e (by decide),fun e=>absurd e (by decide),fun e=>absurd e (by decide),fun e=>absurd e (by decide)⟩
 rw [if_pos a];have c:(fF r.h.forget r.root kd A B C).code=0:=by
  rcases h with ⟨rfl,rfl⟩|rfl<;>rfl
 simp only;rw [if_neg (by rw [c];simp)]
theorem NM (b:Bk) (A B C:Int) (h:kd=6∨kd=7):b.act kd A B C=b:=by rcases h with rfl|rfl<;>rfl
theorem O_.full {k:Nat} {b:Bk} {r:Rn} (c:O_ k b r) (hk:k+1<=5000):OG b (cK r 7 0 0 0).1:=by
 have d:=ND (r:=r) (kd:=7) (A:=0) (B:=0) (C:=0) (.inr rfl);have e:=c.yes hk d (by decide) (by decide);rw [NM b 0 0 0 (.inr rfl)] at e;obtain ⟨_,_,i,m,l,j⟩:=NP d;have a:(cK r 7 0 0 0).2.h=r.h.forget.full:=i;have p:Pd b r.h.forget:=⟨(c.x.ok.forget (by omega)).g,c.x.wm.same (g:=r.h.forget) (fun _=>rfl) rfl rfl,c.s.roots (g:=r.h.forget) b.roots rfl c.s.f,c.u⟩
 obtain ⟨_,o,n⟩:=p.full c.roots;exact e.last (by rw [a];exact o) (by rw [a];exact n) ⟨d,m,l,j⟩
theorem O_.step {k:Nat} {b:Bk} {r:Rn} (c:O_ k b r) (hk:k+1<=1603):O_ (k+1) b (cK r 6 1000000 0 0).2/\(cK r 6 1000000 0 0).2.h.state=0/\(r.h.state=0->OG b (cK r 6 1000000 0 0).1):=by
 have d:=ND (r:=r) (kd:=6) (A:=1000000) (B:=0) (C:=0) (.inl ⟨rfl,rfl⟩);have e:=c.yes (by omega) d (by decide) (by decide);rw [NM b 1000000 0 0 (.inl rfl)] at e;obtain ⟨_,_,i,m,l,j⟩:=NP d;have a:(cK r 6 1000000 0 0).2.h=Hp.step 1000000 r.h.forget:=i;have x1:=c.x.ok.forget (show k<=5000 by omega);have p:Pd b r.h.forget:=⟨x1.g,c.x.wm.same (g:=r.h.forget) (fun _=>rfl) rfl rfl,c.s.roots (g:=r.h.forget) b.roots rfl c.s.f,c.u⟩
 obtain ⟨_,o,n⟩:=p.O7 x1.b (by omega) c.roots;have s0:(cK r 6 1000000 0 0).2.h.state=0:=by rw [a];exact o
 exact ⟨e,s0,fun h0=>e.last s0 (by rw [a];exact n h0) ⟨d,m,l,j⟩⟩
def Nv (d:Bool):List dA:=if d then [(7,0,0,0)] else [(6,1000000,0,0),(6,1000000,0,0)]
theorem N_ (d:Bool):1<=(Nv d).length/\(Nv d).length<=2:=by cases d<;>decide
theorem Og (d:Bool):∀ o∈Nv d,OI o:=by
 intro o ho;cases d<;>simp [Nv] at ho<;>subst ho<;>exact ⟨by decide,fun e=>absurd e (by decide)⟩
theorem Od {l:List dA} (p:l.length<=1600) (hp:∀ o∈l,OI o) (d:Bool):OG (Oa (l++Nv d) (l++Nv d).length) (xA (dZ (l++Nv d)) ((l++Nv d).length-1)):=by
 have a:(l++Nv d).length=l.length+(Nv d).length:=bI;have q:=N_ d;have g:∀ o∈l++Nv d,OI o:=fun o ho=>(eT.1 ho).elim (hp o) (Og d o);have c:=Oy (l:=l++Nv d) (by omega) g l.length (by omega);have e:∀ j o,(Nv d)[j]?=some o->(l++Nv d)[l.length+j]?=some o:=fun j o h=>by rw [fI (by omega)];simpa using h
 cases d with
 |true=>
  have f:(l++Nv true)[l.length]?=some (7,0,0,0):=e 0 _ rfl;have i:(l++Nv true).length=l.length+1:=a;rw [i,show l.length+1-1=l.length by omega,EC (by omega) f,NI f,if_pos (ND (.inr rfl)),NM _ _ _ _ (.inr rfl)];exact c.full (by omega)
 |false=>
  have f:(l++Nv false)[l.length]?=some (6,1000000,0,0):=e 0 _ rfl;have m:(l++Nv false)[l.length+1]?=some (6,1000000,0,0):=e 1 _ rfl;have i:(l++Nv false).length=l.length+1+1:=a;rw [i,show l.length+1+1-1=l.length+1 by omega,EC (by omega) m,NI m,if_pos (ND (.inl ⟨rfl,rfl⟩)),NM _ _ _ _ (.inl rfl),NI f,if_pos (ND (.inl ⟨rfl,rfl⟩)),NM _ _ _ _ (.inl rfl),fH f];obtain ⟨n,s2,_⟩:=c.step (by omega);exact (n.step (by omega)).2.2 s2
theorem NV (f:Nat->Nat) (n:Nat):(gQ f n).length<=4998->(gQ f n).length<=1600:=by
 have a:dN n<=400:=by unfold dN;split<;>omega
 unfold gQ;split
 ·have c:=rE f n (dS f n (0,88172645463325252+(n:Int))) (k:=2) (by omega) (by omega)
  rw [List.length_replicate];omega
 ·obtain ⟨_,c,_⟩:=DI f n (dS f n (0,88172645463325252+(n:Int))) (2*dN n) (by omega)
  intro _;omega
end Go.Proofs.YtbpcdfbmnklcjaaGreatDoor
