import Derived.Test.YtbpcdfbmnklcjaaGreatDoorKHK
import Derived.Test.YtbpcdfbmnklcjaaGreatDoorKHS0
namespace Go.Proofs.YtbpcdfbmnklcjaaGreatDoor
set_option linter.unusedVariables false
section
variable {n:Nat} {o:Ob}
theorem Inv.mid {g:Hp} (t:M5 g No) (d:g.state=1) (b:g.white<=1) (a:g.ob 0=none) (hp:1<=g.objs.length) (hm:∀ n o,g.ob n=some o->o.mode<=3) (c:∀ n,n∈g.roots∨n∈g.pending∨n∈g.finals->g.Lv n):Inv g:=
 ⟨b,by omega,a,hp,hm,fun n hn=>Hp.Kn (by omega) (c n hn),fun n o e _ en he r hr=>Hp.Kn (by omega) (t.cl n o e en he r hr),fun x=>by omega,fun _=>t,fun x=>by omega⟩
theorem Np.zero {h g:Hp} (x:Np h g) (a:h.ob 0=none):g.ob 0=none:=by
 have:=x.cont 0;rw [a] at this;cases e:g.ob 0 with
 |none=>rfl
 |some o=>rw [e] at this;simp at this
theorem Inv.M7 {h g:Hp} (i:Inv h) (a:h.state=1) (t:M5 g No) (x:Np h g):Inv g:=
 Inv.mid t (x.state.trans a) (by rw [x.white];exact i.w1) (x.zero i.zero) (by rw [x.len];exact i.ps) (x.md i.md) (fun n hn=>by
  rw [x.roots,x.pending,x.finals] at hn;exact (x.lv n).2 (Hp.IB (i.ls n hn)))
theorem Inv.take {h:Hp} (i:Inv h) (a:h.state=1):Inv h.take.1:=i.M7 a (i.s1 a).take (Np.take h)
theorem Inv.begin {h:Hp} (i:Inv h) (a:h.state=0):Inv h.begin/\h.begin.state=1:=by
 have cl:h.Closed:=fun n o e en he r hr=>Hp.IB (i.nc n o e (fun d=>by have:=d.1;omega) en he r hr);have f:=i.w1;have b:M5 { h with state:=1,grey:=[],again:=[],weak:=[],GZ:=[] } No:=by
  refine ⟨fun n o e=>?_,fun n o e k=>?_,fun n o e k=>?_,fun n o e w=>i.s0 a n o e,fun n hn=>?_,cl⟩
  ·have:=i.s0 a n o e;omega
  ·have:=i.s0 a n o e;omega
  ·have:=i.s0 a n o e;omega
  ·simp at hn
 have c:Inv { h with state:=1,grey:=[],again:=[],weak:=[],GZ:=[] }:=Inv.mid b rfl i.w1 i.zero i.ps i.md (fun n hn=>(show h.Lv n from Hp.IB (i.ls n hn)));refine ⟨c.M7 rfl (b.Mq (Nk.alive _)) (Np.alive _),(Np.alive _).state⟩
theorem Inv.skipped {h:Hp} (i:Inv h) (g:h.state=2):Inv h.skipped:=by
 obtain ⟨a,b,c,d,e⟩:=i.s2 g;refine ⟨i.w1,i.st,i.zero,i.ps,i.md,i.ls,i.nc,i.s0,fun x=>by have:h.state=1:=x;omega,fun _=>⟨a,aI b (h.IY _),h.Jg _ c,d,fun n o ho hn=>?_⟩⟩;by_cases hx:n<h.G5
 ·exact e n o ho hx
 ·have:=h.skip_none h.G5 n (by omega) hn
  have f:h.ob n=some o:=ho;rw [this] at f;cases f
theorem Hp.Kc (h:Hp) (n m:Nat):Hp.ob { h with objs:=h.objs.set n none } m=if n=m then none else h.ob m:=by
 simp only [Hp.ob,bY];by_cases e:n=m
 ·subst e
  by_cases l:n<h.objs.length<;>simp [l]
 ·simp [e]
theorem Hp.Hy {h:Hp} (e:h.ob n=some o):n<h.objs.length:=by
 have:=Hp.I8 e;exact (aJ.1 this).1
theorem Inv.G6 {h:Hp} (i:Inv h) (v:h.state=2):Inv h.G6/\h.G6.state=2/\h.G6.objs.length=h.objs.length:=by
 obtain ⟨a,b,c,d,e⟩:=i.s2 v;unfold Hp.G6;split
 ·rename_i o ho
  have B:=Hp.Hy ho;split
  ·rename_i hd
   have A:h.IG o:=⟨v,by simp at hd;simp [hd.1],by simp at hd;exact hd.2⟩
   have j:∀ m,Hp.ob { h with objs:=h.objs.set h.G5 none,live:=h.live-1,bytes:=h.bytes-o.size,freed:=h.freed++[h.G5],G5:=h.G5+1 } m=if h.G5=m then none else h.ob m:=fun m=>h.Kc h.G5 m
   have k:∀ n,h.Ok n->Hp.Ok { h with objs:=h.objs.set h.G5 none,live:=h.live-1,bytes:=h.bytes-o.size,freed:=h.freed++[h.G5],G5:=h.G5+1 } n:=by
    rintro n ⟨f,g,nd⟩;refine ⟨f,?_,nd⟩;rw [j];by_cases x:h.G5=n
    ·subst x;rw [ho] at g;cases g;exact absurd A nd
    ·rw [if_neg x];exact g
   have sub:∀ m f,Hp.ob { h with objs:=h.objs.set h.G5 none,live:=h.live-1,bytes:=h.bytes-o.size,freed:=h.freed++[h.G5],G5:=h.G5+1 } m=some f->h.ob m=some f/\m≠h.G5:=by
    intro m f g;rw [j] at g;split at g
    ·cases g
    ·rename_i x;exact ⟨g,fun y=>x y.symm⟩
   refine ⟨⟨i.w1,i.st,?_,?_,fun n f g=>i.md n f (sub n f g).1,fun n hn=>k n (i.ls n hn),fun n f g nd en he r hr=>k r (i.nc n f (sub n f g).1 nd en he r hr),fun x=>by have:h.state=0:=x;omega,fun x=>by have:h.state=1:=x;omega,fun _=>⟨a,?_,?_,fun n f g=>d n f (sub n f g).1,fun n f g hn=>?_⟩⟩,v,by simp⟩
   ·rw [j]
    split
    ·rfl
    ·exact i.zero
   ·have:=i.ps
    simpa using this
   ·show 1<=h.G5+1
    omega
   ·show h.G5+1<=(h.objs.set h.G5 none).length
    simp;omega
   ·have z:n<h.G5+1:=hn
    obtain ⟨l,q⟩:=sub n f g;exact e n f l (by omega)
  ·rename_i hd
   have j:∀ m,Hp.ob { h.upd h.G5 (fun o=>{ o with col:=h.white }) with G5:=h.G5+1 } m=if h.G5=m then (h.ob m).map (fun o=>{ o with col:=h.white }) else h.ob m:=fun m=>h.Hf h.G5 m _
   have sub:∀ m f,Hp.ob { h.upd h.G5 (fun o=>{ o with col:=h.white }) with G5:=h.G5+1 } m=some f->∃ o2,h.ob m=some o2/\o2.mode=f.mode/\o2.es=f.es/\((m=h.G5/\f.col=h.white)∨(m≠h.G5/\f.col=o2.col)):=by
    intro m f g;rw [j] at g;split at g
    ·rename_i x
     subst x;rw [ho] at g;simp at g;subst g;exact ⟨o,ho,rfl,rfl,.inl ⟨rfl,rfl⟩⟩
    ·rename_i x;exact ⟨f,g,rfl,rfl,.inr ⟨fun y=>x y.symm,rfl⟩⟩
   have w:¬ h.IG o:=by
    rintro ⟨_,q,u⟩;simp [q,u] at hd
   have k:∀ n,h.Ok n->Hp.Ok { h.upd h.G5 (fun o=>{ o with col:=h.white }) with G5:=h.G5+1 } n:=by
    rintro n ⟨f,g,nd⟩;unfold Hp.Ok;rw [j];by_cases x:h.G5=n
    ·rw [if_pos x,g]
     exact ⟨_,rfl,fun d=>d.2.2 rfl⟩
    ·rw [if_neg x,g]
     exact ⟨f,rfl,nd⟩
   have C:=i.w1;refine ⟨⟨i.w1,i.st,?_,?_,fun n f g=>?_,fun n hn=>k n (i.ls n hn),fun n f g nd en he r hr=>?_,fun x=>by have:h.state=0:=x;omega,fun x=>by have:h.state=1:=x;omega,fun _=>⟨a,?_,?_,fun n f g=>?_,fun n f g hn=>?_⟩⟩,v,by simp [Hp.upd]⟩
   ·rw [j]
    split
    ·rw [i.zero];rfl
    ·exact i.zero
   ·have:=i.ps
    simpa [Hp.upd] using this
   ·obtain ⟨o2,l,q,u,t⟩:=sub n f g
    rw [<-q];exact i.md n o2 l
   ·obtain ⟨o2,l,q,u,t⟩:=sub n f g
    refine k r (i.nc n o2 l ?_ en (u ▸ he) r hr);rcases t with ⟨s,p⟩|⟨s,p⟩
    ·subst s
     rw [ho] at l;cases l;exact w
    ·intro dd
     exact nd ⟨dd.1,by rw [p];exact dd.2.1,by rw [p];exact dd.2.2⟩
   ·show 1<=h.G5+1
    omega
   ·show h.G5+1<=(h.upd h.G5 _).objs.length
    rw [Hp.Hu];omega
   ·obtain ⟨o2,l,q,u,t⟩:=sub n f g
    rcases t with ⟨s,p⟩|⟨s,p⟩
    ·omega
    ·rw [p];exact d n o2 l
   ·have z:n<h.G5+1:=hn
    obtain ⟨o2,l,q,u,t⟩:=sub n f g;rcases t with ⟨s,p⟩|⟨s,p⟩
    ·exact p
    ·rw [p];exact e n o2 l (by omega)
 ·exact ⟨i,v,rfl⟩
theorem Inv.close {h:Hp} (i:Inv h) (k:h.state=2):Inv h.close:=by
 unfold Hp.close;split
 ·exact i
 ·rename_i hx
  obtain ⟨a,b,c,d,e⟩:=i.s2 k;have g:∀ n,h.Ok n->Hp.Ok { h with state:=0,limit:=max (2*h.bytes) 4096,GY:=0 } n:=by
   rintro n ⟨j,f,nd⟩;exact ⟨j,f,fun d=>by have:(0:Nat)=2:=d.1;omega⟩
  refine ⟨i.w1,Nat.zero_le 2,i.zero,i.ps,i.md,fun n hn=>g n (i.ls n hn),fun n o f nd en he r hr=>g r (i.nc n o f (fun dd=>?_) en he r hr),fun _ n o f=>e n o f ?_,fun x=>by have:(0:Nat)=1:=x;omega,fun x=>by have:(0:Nat)=2:=x;omega⟩
  ·exact dd.2.2 (e n o f (by have:=Hp.Hy (h:=h) f;omega))
  ·have:=Hp.Hy (h:=h) f;omega
theorem Inv.G_ {h:Hp} (i:Inv h) (a:h.state=2):Inv h.G_:=by
 have c:=i.skipped a;obtain ⟨b,s2,_⟩:=c.G6 a;exact (b.skipped s2).close s2
theorem Inv.advance {h:Hp} (i:Inv h) (c:h.state≠0):Inv h.advance.1:=by
 unfold Hp.advance;split
 ·rename_i a;exact i.G_ a
 ·rename_i a
  have:=i.st;have b:h.state=1:=by omega
  split
  ·exact (i.atomic b).1
  ·exact i.take b
theorem Inv.work {u:Int} {h:Hp} (i:Inv h):Inv (Hp.work u h):=Hp.Iz (P:=fun _ h g=>Inv h->Inv g) (fun u h _ i=>i) (fun u h g _ hs x i=>x (i.advance hs)) u h i
theorem Inv.step {u:Int} {h:Hp} (i:Inv h):Inv (Hp.step u h):=by
 unfold Hp.step;split
 ·rename_i a;exact (i.begin a).1.work
 ·exact i.work
end
theorem Hp.JW (h:Hp) (e:h.state=2):h.G_.phi<h.phi:=by
 have m:=h.IY h.G5;have b:=h.I_ h.G5;have hp:h.phi=h.objs.length-h.G5+1:=by simp [Hp.phi,e]
 rw [hp];by_cases j:h.skip h.G5<h.objs.length
 ·have i:h.ob (h.skip h.G5)≠none:=fun x=>b ⟨j,x⟩
  have n:∀ g:Hp,g.state=2->g.objs.length=h.objs.length->h.skip h.G5+1<=g.G5->g.skipped.close.phi<h.objs.length-h.G5+1:=by
   intro g d k l;have a:=g.IY g.G5;unfold Hp.close;split
   ·simp only [Hp.phi,Hp.skipped,d,k]
    simp only [show ¬ (2:Nat)=0 by decide,if_false,if_true];omega
   ·simp only [Hp.phi,if_true]
    omega
  have c:h.skipped.G6.state=2/\h.skipped.G6.objs.length=h.objs.length/\h.skip h.G5+1<=h.skipped.G6.G5:=by
   unfold Hp.G6;split
   ·split
    ·exact ⟨e,by simp [Hp.skipped],au _⟩
    ·exact ⟨e,by simp [Hp.skipped,Hp.upd],au _⟩
   ·rename_i hx
    exact absurd hx i
  exact n _ c.1 c.2.1 c.2.2
 ·have c:h.skipped.G6=h.skipped:=by
   unfold Hp.G6;split
   ·rename_i o ho
    have f:h.ob (h.skip h.G5)=some o:=ho;have:=Hp.Hy f;omega
   ·rfl
  unfold Hp.G_;rw [c];have a:=h.skipped.IY h.skipped.G5;unfold Hp.close;rw [if_neg]
  ·simp only [Hp.phi,if_true]
   omega
  ·show ¬ h.skipped.skip (h.skip h.G5)<h.objs.length
   have:h.skip h.G5<=h.skipped.skip (h.skip h.G5):=a;omega
theorem Hp.Iw {h:Hp} (i:Inv h) (g:h.state≠0):h.advance.1.phi<h.phi:=by
 unfold Hp.advance;split
 ·rename_i e;exact h.JW e
 ·rename_i e
  have:=i.st;have d:h.state=1:=by omega
  have hp:h.phi=h.mu+h.objs.length+2:=by simp [Hp.phi,d]
  rw [hp];split
  ·obtain ⟨_,a,b,c⟩:=i.atomic d
   have:h.atomic.phi=h.objs.length-1+1:=by simp [Hp.phi,a,b,c]
   show h.atomic.phi<_;omega
  ·rename_i f
   have j:=h.IQ f;have hm:=Np.take h;have:h.take.1.phi=h.take.1.mu+h.objs.length+2:=by simp [Hp.phi,hm.state,d,hm.len]
   omega
def Hp.finish (h:Hp):Hp:=if hs:h.state≠0/\h.advance.1.phi<h.phi then Hp.finish h.advance.1 else h
 termination_by h.phi
 decreasing_by exact hs.2
theorem Hp.I4 (h:Hp) (a:h.state=0):h.finish=h:=by rw [Hp.finish,dif_neg (fun x=>x.1 a)]
theorem Hp.Jt {h:Hp} (i:Inv h) (a:h.state≠0):h.finish=h.advance.1.finish:=by rw [Hp.finish,dif_pos ⟨a,Hp.Iw i a⟩]
theorem Hp.IK {P:Hp->Hp->Prop} (c:∀ h,h.state=0->P h h) (b:∀ h g,Inv h->h.state≠0->P h.advance.1 g->P h g):∀ h:Hp,Inv h->P h h.finish:=by
 intro h i;by_cases a:h.state=0
 ·rw [h.I4 a];exact c h a
 ·rw [Hp.Jt i a]
  exact b h _ i a (Hp.IK c b h.advance.1 (i.advance a))
 termination_by h=>h.phi
 decreasing_by exact Hp.Iw (by assumption) (by assumption)
theorem Inv.finish {h:Hp} (i:Inv h):Inv h.finish/\h.finish.state=0:=Hp.IK (P:=fun h g=>Inv h->Inv g/\g.state=0) (fun h hs i=>⟨i,hs⟩) (fun h g i0 hs x i=>x (i.advance hs)) h i i
theorem Hp.J5:∀ (u:Int) (h:Hp),Inv h->(Hp.work u h).finish=h.finish:=by
 intro u h;refine Hp.Iz (P:=fun _ h g=>Inv h->g.finish=h.finish) (fun u h _ _=>rfl) (fun u h g _ hs x i=>?_) u h;rw [x (i.advance hs),Hp.Jt i hs]
def Hp.full (h:Hp):Hp:=h.finish.begin.finish
theorem Inv.full {h:Hp} (i:Inv h):Inv h.full/\h.full.state=0:=(i.finish.1.begin i.finish.2).1.finish
def Hp.Il (h:Hp):Hp:=
 if hc:256<=h.GY/\h.state≠0/\(Hp.step 64 { h with GY:=h.GY-256 }).GY<h.GY then Hp.Il (Hp.step 64 { h with GY:=h.GY-256 }) else h
 termination_by h.GY
 decreasing_by exact hc.2.2
def Hp.I6 (h:Hp):Hp:=
 if h.state=0 then if h.bytes<h.limit then h else Hp.step 64 { h with GY:=0 } else h.Il
theorem Inv.Jy {h:Hp} (i:Inv h) (c:Nat):Inv { h with GY:=c }:=by
 refine ⟨i.w1,i.st,i.zero,i.ps,i.md,i.ls,i.nc,i.s0,fun hs=>?_,i.s2⟩;have t:=i.s1 hs;exact ⟨t.col,t.M_,t.blk,t.wc,t.ll,t.cl⟩
theorem Hp.Ki (h:Hp):h.close.GY<=h.GY:=by
 unfold Hp.close;split
 ·exact au _
 ·exact Nat.zero_le _
theorem Hp.IE (h:Hp):h.G6.GY=h.GY:=by
 unfold Hp.G6;split
 ·split<;>rfl
 ·rfl
theorem Hp.IU (h:Hp):h.atomic.GY=h.GY/\h.atomic.bytes=h.bytes/\h.atomic.live=h.live/\h.atomic.limit=h.limit/\h.atomic.freed=h.freed/\h.atomic.roots=h.roots:=by
 have d:=kD.M6 h;have c:=MU.fold bT bZ h.M6.weak h.M6;have k:=Hp.Js (h.M6.weak.foldl Hp.Mv h.M6);have e:=(Hp.Iy (h.M6.weak.foldl Hp.Mv h.M6)).2.2.1;have a:=Np.at3 h.M6.at2;have b:=(MU.at4 h.M6.at2.at3).trans (MU.Mh _);refine ⟨?_,?_,?_,?_,?_,?_⟩
 ·exact b.GY.trans (a.GY.trans (k.2.2.2.2.1.trans (c.GY.trans d.GY)))
 ·exact b.bytes.trans (a.bytes.trans (k.2.1.trans (c.bytes.trans d.bytes)))
 ·exact b.live.trans (a.live.trans (k.2.2.1.trans (c.live.trans d.live)))
 ·exact b.limit.trans (a.limit.trans (k.2.2.2.1.trans (c.limit.trans d.limit)))
 ·exact b.freed.trans (a.freed.trans (k.1.trans (c.freed.trans d.freed)))
 ·exact b.roots.trans (a.roots.trans (e.trans (c.roots.trans d.roots)))
theorem Hp.JM (h:Hp):h.advance.1.GY<=h.GY:=by
 unfold Hp.advance;split
 ·show h.skipped.G6.skipped.close.GY<=_
  refine aI (Hp.Ki _) ?_;show h.skipped.G6.GY<=_;rw [Hp.IE];exact au _
 ·split
  ·exact aO h.IU.1
  ·exact aO (Np.take h).GY
theorem Hp.JR (u:Int) (h:Hp):(Hp.work u h).GY<=h.GY:=Hp.Iz (P:=fun _ h g=>g.GY<=h.GY) (fun u h _=>au _) (fun u h g _ _ x=>aI x h.JM) u h
theorem Hp.Jc (u:Int) (h:Hp):(Hp.step u h).GY<=h.GY:=by
 unfold Hp.step;split
 ·exact aI (Hp.JR _ _) (aO (Np.alive _).GY)
 ·exact Hp.JR _ _
theorem Hp.JI (h:Hp) (b:256<=h.GY) (a:h.state≠0):h.Il=Hp.Il (Hp.step 64 { h with GY:=h.GY-256 }):=by
 have c:(Hp.step 64 { h with GY:=h.GY-256 }).GY<h.GY:=by
  have:=Hp.Jc 64 { h with GY:=h.GY-256 };simp only at this;omega
 rw [Hp.Il,dif_pos ⟨b,a,c⟩]
theorem Hp.IX (h:Hp) (a:¬ (256<=h.GY/\h.state≠0)):h.Il=h:=by rw [Hp.Il,dif_neg (fun x=>a ⟨x.1,x.2.1⟩)]
theorem Hp.IW {P:Hp->Hp->Prop} (c:∀ h,¬ (256<=h.GY/\h.state≠0)->P h h) (b:∀ h g,256<=h.GY->h.state≠0->P (Hp.step 64 { h with GY:=h.GY-256 }) g->P h g):∀ h:Hp,P h h.Il:=by
 intro h;by_cases a:256<=h.GY/\h.state≠0
 ·rw [h.JI a.1 a.2]
  exact b h _ a.1 a.2 (Hp.IW c b _)
 ·rw [h.IX a]
  exact c h a
 termination_by h=>h.GY
 decreasing_by
  have:=Hp.Jc 64 { h with GY:=h.GY-256 };simp only at this;omega
theorem Inv.Il {h:Hp} (i:Inv h):Inv h.Il:=Hp.IW (P:=fun h g=>Inv h->Inv g) (fun h _ i=>i) (fun h g _ _ x i=>x (i.Jy _).step) h i
theorem Inv.I6 {h:Hp} (i:Inv h):Inv h.I6:=by
 unfold Hp.I6;split
 ·split
  ·exact i
  ·exact (i.Jy 0).step
 ·exact i.Il
section
variable {e:En} {es':List En} {m n:Nat} {o:Ob}
def Hp.Reach (h:Hp) (n:Nat):Prop:=∀ S:Nat->Prop,(∀ r∈h.roots,S r)->(∀ m o e,S m->h.ob m=some o->e∈o.es->e.2.isSome=true->∀ r∈dw e,S r)->S n
theorem Hp.Jm {h:Hp} (i:Inv h) (r:h.Reach n):h.Ok n:=
 r h.Ok (fun r hr=>i.ls r (.inl hr)) (fun m o e hm ho he _ r hr=>by
   obtain ⟨b,a,nd⟩:=hm;rw [ho] at a;cases a;exact i.nc m o ho nd e he r hr)
theorem Hp.Jz {h:Hp} (a:n∈h.roots):h.Reach n:=fun S hr _=>hr n a
theorem Hp.Ji {h:Hp} (hm:h.Reach m) (ho:h.ob m=some o) (b:e∈o.es) (a:e.2.isSome=true) {r:Nat} (hr:r∈dw e):h.Reach r:=
 fun S h1 h2=>h2 m o e (hm S h1 h2) ho b a r hr
theorem Inv.same {h g:Hp} (i:Inv h) (p:∀ n,(g.ob n).map (fun o=>(o.col,o.mode,o.es))=(h.ob n).map (fun o=>(o.col,o.mode,o.es))) (w:g.objs.length=h.objs.length) (y:g.grey=h.grey) (C:g.again=h.again) (B:g.weak=h.weak) (A:g.GZ=h.GZ) (s:g.white=h.white) (q:g.state=h.state) (v:g.G5=h.G5)
 (u:∀ n,n∈g.roots∨n∈g.pending∨n∈g.finals->h.Ok n):Inv g:=by
 have j:∀ n f,g.ob n=some f->∃ o,h.ob n=some o/\f.col=o.col/\f.mode=o.mode/\f.es=o.es:=by
  intro n f e;have:=p n;rw [e] at this;cases e2:h.ob n with
  |none=>rw [e2] at this;simp at this
  |some o=>rw [e2] at this;simp at this;exact ⟨o,rfl,this.1,this.2.1,this.2.2⟩
 have t:∀ n,h.Ok n->g.Ok n:=by
  rintro n ⟨o,e,nd⟩;have:=p n;rw [e] at this;cases e2:g.ob n with
  |none=>rw [e2] at this;simp at this
  |some f=>
   rw [e2] at this;simp at this;exact ⟨f,e2,fun d=>nd ⟨q ▸ d.1,this.1 ▸ d.2.1,by rw [<-this.1,<-s];exact d.2.2⟩⟩
 refine ⟨by rw [s];exact i.w1,by rw [q];exact i.st,?_,by rw [w];exact i.ps,fun n o e=>?_,fun n hn=>t n (u n hn),fun n o e nd en he r hr=>?_,fun hs n o e=>?_,fun hs=>(i.s1 (q ▸ hs)).same p y C B A s,fun hs=>?_⟩
 ·cases e:g.ob 0 with
  |none=>rfl
  |some o=>obtain ⟨f,k,_⟩:=j 0 o e;rw [i.zero] at k;cases k
 ·obtain ⟨f,k,_,l,_⟩:=j n o e;rw [l];exact i.md n f k
 ·obtain ⟨f,k,l,_,z⟩:=j n o e
  exact t r (i.nc n f k (fun d=>nd ⟨q.trans d.1,by rw [l];exact d.2.1,by rw [l,s];exact d.2.2⟩) en (z ▸ he) r hr)
 ·obtain ⟨f,k,l,_⟩:=j n o e;rw [l,s];exact i.s0 (q ▸ hs) n f k
 ·obtain ⟨a,b,c,d,e⟩:=i.s2 (q ▸ hs)
  refine ⟨y.trans a,by rw [v];exact b,by rw [v,w];exact c,fun n o x=>?_,fun n o x hn=>?_⟩
  ·obtain ⟨f,k,l,_⟩:=j n o x;rw [l];exact d n f k
  ·obtain ⟨f,k,l,_⟩:=j n o x;rw [l,s];exact e n f k (v ▸ hn)
theorem Inv.re {h g:Hp} (i:Inv h) (ho:h.ob n=some o) (V:h.Ok n) (hr:∀ e∈es',∀ r∈dw e,h.Ok r)
 (v:∀ m,g.ob m=if n=m then some ⟨if o.col=3/\h.state=1 then 2 else o.col,o.mode,es',o.fin⟩ else h.ob m) (S:g.objs.length=h.objs.length) (Q:g.grey=h.grey) (M:g.again=if o.col=3/\h.state=1 then h.again++[n] else h.again) (U:g.weak=h.weak) (T:g.GZ=h.GZ) (E:g.white=h.white) (D:g.state=h.state) (L:g.G5=h.G5) (Y:g.roots=h.roots) (X:g.pending=h.pending) (P:g.finals=h.finals):Inv g:=by
 have K:∀ c,c=(if o.col=3/\h.state=1 then 2 else o.col)->gu c=gu o.col/\(c=o.col∨(c=2/\o.col=3/\h.state=1)):=by
  intro c e;subst e;split
  ·rename_i x;exact ⟨by rw [x.1];rfl,.inr ⟨rfl,x⟩⟩
  ·exact ⟨rfl,.inl rfl⟩
 have s:∀ m f,g.ob m=some f->∃ o2,h.ob m=some o2/\gu f.col=gu o2.col/\f.mode=o2.mode/\((m≠n/\f=o2)∨(m=n/\o2=o/\f.es=es'/\(f.col=o.col∨(f.col=2/\o.col=3/\h.state=1)))):=by
  intro m f e;rw [v] at e;split at e
  ·rename_i x
   subst x;simp only [Option.some.injEq] at e;obtain ⟨a,b⟩:=K _ rfl;subst e;exact ⟨o,ho,a,rfl,.inr ⟨rfl,rfl,rfl,b⟩⟩
  ·rename_i x;exact ⟨f,e,rfl,rfl,.inl ⟨fun y=>x y.symm,rfl⟩⟩
 have F:h.state=2->∀ c,c=(if o.col=3/\h.state=1 then 2 else o.col)->c=o.col:=by
  intro B c e;rcases (K c e).2 with x|x
  ·exact x
  ·omega
 have z:∀ m,h.Ok m->g.Ok m:=by
  rintro m ⟨o2,l,nd⟩;unfold Hp.Ok;rw [v];split
  ·rename_i x
   subst x;rw [ho] at l;cases l;refine ⟨_,rfl,fun d=>nd ?_⟩;have B:h.state=2:=D ▸ d.1;have J:=F B _ rfl;have R:=d.2;simp only at R;rw [J,E] at R;exact ⟨B,R⟩
  ·exact ⟨o2,l,fun d=>nd ⟨D ▸ d.1,d.2.1,E ▸ d.2.2⟩⟩
 have W:∀ m,g.M4 m=h.M4 m:=by
  intro m;unfold Hp.M4;rw [v];by_cases x:n=m
  ·subst x
   rw [if_pos rfl,ho];exact (K _ rfl).1
  ·rw [if_neg x]
 have C:∀ m,h.Lv m->g.Lv m:=by
  rintro m ⟨o2,l⟩;unfold Hp.Lv;rw [v];split
  ·exact ⟨_,rfl⟩
  ·exact ⟨o2,l⟩
 refine ⟨by rw [E];exact i.w1,by rw [D];exact i.st,?_,by rw [S];exact i.ps,fun m f e=>?_,fun m hm=>z m (i.ls m (by rw [Y,X,P] at hm;exact hm)),fun m f e nd en he r hrr=>?_,fun B m f e=>?_,fun B=>?_,fun B=>?_⟩
 ·rw [v]
  split
  ·rename_i x;subst x;rw [i.zero] at ho;cases ho
  ·exact i.zero
 ·obtain ⟨o2,l,_,N,_⟩:=s m f e;rw [N];exact i.md m o2 l
 ·obtain ⟨o2,l,A,_,j⟩:=s m f e
  rcases j with ⟨_,rfl⟩|⟨rfl,rfl,q,p⟩
  ·exact z r (i.nc m f l (fun d=>nd ⟨D.trans d.1,d.2.1,by rw [E];exact d.2.2⟩) en he r hrr)
  ·exact z r (hr en (q ▸ he) r hrr)
 ·have u:h.state=0:=D ▸ B
  obtain ⟨o2,l,A,_,j⟩:=s m f e;rw [E];rcases j with ⟨_,rfl⟩|⟨rfl,rfl,q,p⟩
  ·exact i.s0 u m f l
  ·rcases p with x|x
   ·rw [x];exact i.s0 u m o2 l
   ·omega
 ·have u:h.state=1:=D ▸ B
  have t:=i.s1 u;have G:∀ m∈h.again,m∈g.again:=by
   intro m hm;rw [M];split
   ·exact List.mem_append_left _ hm
   ·exact hm
  refine ⟨fun m f e=>?_,fun m f e k=>?_,fun m f e k hS=>?_,fun m f e w=>?_,fun m hm=>?_,fun m f e en he r hrr=>?_⟩
  ·obtain ⟨o2,l,A,_,j⟩:=s m f e
   have:=t.col m o2 l;rcases j with ⟨_,rfl⟩|⟨rfl,rfl,q,p⟩
   ·exact this
   ·omega
  ·obtain ⟨o2,l,A,_,j⟩:=s m f e
   rw [Q];rcases j with ⟨_,rfl⟩|⟨rfl,rfl,q,p⟩
   ·exact (t.M_ m f l k).imp id (G m)
   ·rcases p with x|x
    ·exact (t.M_ m o2 l (x ▸ k)).imp id (G m)
    ·right
     rw [M,if_pos ⟨x.2.1,u⟩];simp
  ·obtain ⟨o2,l,A,_,j⟩:=s m f e
   rcases j with ⟨_,rfl⟩|⟨rfl,rfl,q,p⟩
   ·exact (t.blk m f l k hS).mono rfl rfl (fun r x=>by rw [W] at x;exact x) (fun r x=>by rw [T];exact x) (fun r x=>by rw [U];exact x)
   ·have hx:=v m
    rw [if_pos rfl,e] at hx;simp only [Option.some.injEq] at hx;rcases p with x|x
    ·rw [hx] at k
     simp only at k;split at k
     ·omega
     ·rename_i y;exact absurd ⟨k,u⟩ y
    ·omega
  ·obtain ⟨o2,l,A,_,j⟩:=s m f e
   rw [E];rcases j with ⟨_,rfl⟩|⟨rfl,rfl,q,p⟩
   ·exact t.wc m f l w
   ·rcases p with x|x
    ·rw [x];exact t.wc m o2 l (A ▸ w)
    ·rw [x.1] at w;cases w
  ·rw [Q,M,U,T] at hm
   refine C m ?_;rcases hm with x|x|x|x
   ·exact t.ll m (.inl x)
   ·split at x
    ·rcases aY.1 x with y|y
     ·exact t.ll m (.inr (.inl y))
     ·simp at y;subst y;exact ⟨o,ho⟩
    ·exact t.ll m (.inr (.inl x))
   ·exact t.ll m (.inr (.inr (.inl x)))
   ·exact t.ll m (.inr (.inr (.inr x)))
  ·obtain ⟨o2,l,A,_,j⟩:=s m f e
   rcases j with ⟨_,rfl⟩|⟨rfl,rfl,q,p⟩
   ·exact C r (t.cl m f l en he r hrr)
   ·exact C r (Hp.IB (hr en (q ▸ he) r hrr))
 ·have u:h.state=2:=D ▸ B
  obtain ⟨a,b,c,d,e⟩:=i.s2 u;refine ⟨Q.trans a,by rw [L];exact b,by rw [L,S];exact c,fun m f x=>?_,fun m f x hn=>?_⟩
  ·obtain ⟨o2,l,A,_,j⟩:=s m f x
   have:=d m o2 l;rcases j with ⟨_,rfl⟩|⟨rfl,rfl,q,p⟩<;>omega
  ·obtain ⟨o2,l,A,_,j⟩:=s m f x
   rw [E];have H:=e m o2 l (L ▸ hn);rcases j with ⟨_,rfl⟩|⟨rfl,rfl,q,p⟩
   ·exact H
   ·rcases p with y|y
    ·rw [y];exact H
    ·omega
end
section
variable {e:En} {es es':List En} {n:Nat} {o:Ob}
def Hp.back (h:Hp) (n:Nat):Hp:=match h.ob n with
 |some o=>if o.col=3/\h.state=1 then { h.upd n (fun o=>{ o with col:=2 }) with again:=h.again++[n] } else h
 |none=>h
def aZ (es:List En):Nat:=(es.filter fun e=>e.2.isNone).length
def aS (es:List En):List En:=if es.length<16∨2*aZ es<=es.length then es else es.filter fun e=>e.2.isSome
def kR (es:List En) (k:HV):Option Nat:=es.findIdx? (fun e=>e.1==k)
def Hp.putAt (h:Hp) (n i:Nat) (v:HV):Hp:=(h.upd n fun o=>{ o with es:=o.es.modify i fun e=>(e.1,v) }).back n
def Hp.H_ (h:Hp) (n:Nat) (o:Ob) (k v:HV):Hp:=
 Hp.back { h.upd n (fun o=>{ o with es:=aS o.es++[(k,v)] }) with bytes:=h.bytes-40*(o.es.length-(aS o.es).length)+40,GY:=h.GY+40 } n
def Hp.put (h:Hp) (n:Nat) (k v:HV):Hp:=match h.ob n with
 |none=>h
 |some o=>match kR o.es k with
  |some i=>h.putAt n i v
  |none=>if v.isNone then h else h.H_ n o k v
theorem Hp.IV (h:Hp) (x:Option Ob) (m:Nat):Hp.ob { h with objs:=h.objs++[x] } m=if m=h.objs.length then x else h.ob m:=by
 simp only [Hp.ob];rcases Nat.lt_trichotomy m h.objs.length with c|c|c
 ·rw [dF c,if_neg (by omega)]
 ·subst c
  simp
 ·rw [if_neg (by omega),fD (by simp;omega),fD (by omega)]
theorem Hp.JB {h g:Hp} (ho:h.ob n=some o) (a:∀ m,g.ob m=if n=m then some { o with es:=es' } else h.ob m) (b:g.state=h.state):
 (∀ m,(g.back n).ob m=if n=m then some ⟨if o.col=3/\h.state=1 then 2 else o.col,o.mode,es',o.fin⟩ else h.ob m)/\(g.back n).again=(if o.col=3/\h.state=1 then g.again++[n] else g.again):=by
 have d:g.ob n=some { o with es:=es' }:=by rw [a,if_pos rfl]
 unfold Hp.back;rw [d];simp only [b];by_cases c:o.col=3/\h.state=1
 ·rw [if_pos c,if_pos c,if_pos c]
  refine ⟨fun m=>?_,rfl⟩;show (g.upd n fun o=>{ o with col:=2 }).ob m=_;rw [Hp.Hf,a];by_cases x:n=m
  ·subst x;simp
  ·simp [x]
 ·rw [if_neg c,if_neg c,if_neg c]
  exact ⟨a,rfl⟩
theorem Hp.Ib (g:Hp) (n:Nat):(g.back n).objs.length=g.objs.length/\(g.back n).grey=g.grey/\(g.back n).weak=g.weak/\(g.back n).GZ=g.GZ/\(g.back n).white=g.white/\(g.back n).state=g.state/\(g.back n).G5=g.G5/\(g.back n).roots=g.roots/\(g.back n).pending=g.pending/\(g.back n).finals=g.finals/\(g.back n).bytes=g.bytes/\(g.back n).GY=g.GY/\(g.back n).live=g.live/\(g.back n).limit=g.limit/\(g.back n).freed=g.freed:=by
 unfold Hp.back;split
 ·split
  ·exact ⟨by simp [Hp.upd],rfl,rfl,rfl,rfl,rfl,rfl,rfl,rfl,rfl,rfl,rfl,rfl,rfl,rfl⟩
  ·exact ⟨rfl,rfl,rfl,rfl,rfl,rfl,rfl,rfl,rfl,rfl,rfl,rfl,rfl,rfl,rfl⟩
 ·exact ⟨rfl,rfl,rfl,rfl,rfl,rfl,rfl,rfl,rfl,rfl,rfl,rfl,rfl,rfl,rfl⟩
theorem jg (h:e∈aS es):e∈es:=by
 unfold aS at h;split at h
 ·exact h
 ·exact (List.mem_filter.1 h).1
theorem Inv.putAt {h:Hp} (i:Inv h) {n j:Nat} {o:Ob} {v:HV} (ho:h.ob n=some o) (b:h.Ok n) (w:∀ r∈bQ v,h.Ok r):Inv (h.putAt n j v):=by
 have z:∀ m,(h.upd n fun o=>{ o with es:=o.es.modify j fun e=>(e.1,v) }).ob m=if n=m then some { o with es:=o.es.modify j fun e=>(e.1,v) } else h.ob m:=by
  intro m;rw [Hp.Hf];by_cases x:n=m
  ·subst x;rw [if_pos rfl,if_pos rfl,ho];rfl
  ·rw [if_neg x,if_neg x]
 obtain ⟨B,A⟩:=Hp.JB ho z rfl;obtain ⟨u,t,s,p,k5,l,k,g,f,c,_⟩:=Hp.Ib (h.upd n fun o=>{ o with es:=o.es.modify j fun e=>(e.1,v) }) n;obtain ⟨C,d,nd⟩:=id b;rw [ho] at d;cases d;refine i.re ho b (fun e he r hr=>?_) B (u.trans (h.Hu n _)) t A s p k5 l k g f c;rw [List.mem_iff_getElem?] at he;obtain ⟨q,a⟩:=he;rw [List.getElem?_modify] at a;cases hb:o.es[q]? with
 |none=>rw [hb] at a;simp at a
 |some e0=>
  rw [hb] at a;have hm:e0∈o.es:=aW hb;by_cases x:j=q
  ·simp [x] at a
   subst a;rcases aY.1 hr with y|y
   ·exact i.nc n o ho nd e0 hm r (List.mem_append_left _ y)
   ·exact w r y
  ·simp [x] at a
   subst a;exact i.nc n o ho nd e0 hm r hr
theorem Inv.H_ {h:Hp} (i:Inv h) {n:Nat} {o:Ob} {k v:HV} (ho:h.ob n=some o) (a:h.Ok n) (hk:∀ r∈bQ k,h.Ok r) (t:∀ r∈bQ v,h.Ok r):Inv (h.H_ n o k v):=by
 have u:∀ m,Hp.ob { h.upd n (fun o=>{ o with es:=aS o.es++[(k,v)] }) with bytes:=h.bytes-40*(o.es.length-(aS o.es).length)+40,GY:=h.GY+40 } m=if n=m then some { o with es:=aS o.es++[(k,v)] } else h.ob m:=by
  intro m;show (h.upd n fun o=>{ o with es:=aS o.es++[(k,v)] }).ob m=_;rw [Hp.Hf];by_cases x:n=m
  ·subst x;rw [if_pos rfl,if_pos rfl,ho];rfl
  ·rw [if_neg x,if_neg x]
 obtain ⟨z,w⟩:=Hp.JB ho u rfl;obtain ⟨s,q,p,l,k5,j,g,f,d,b,_⟩:=Hp.Ib { h.upd n (fun o=>{ o with es:=aS o.es++[(k,v)] }) with bytes:=h.bytes-40*(o.es.length-(aS o.es).length)+40,GY:=h.GY+40 } n;obtain ⟨A,c,nd⟩:=id a;rw [ho] at c;cases c;refine i.re ho a (fun e he r hr=>?_) z (s.trans (h.Hu n _)) q w p l k5 j g f d b;rcases aY.1 he with x|x
 ·exact i.nc n o ho nd e (jg x) r hr
 ·simp at x
  subst x;rcases aY.1 hr with y|y
  ·exact hk r y
  ·exact t r y
theorem Inv.put {h:Hp} (i:Inv h) {n:Nat} {k v:HV} (a:h.Ok n) (hk:∀ r∈bQ k,h.Ok r) (b:∀ r∈bQ v,h.Ok r):Inv (h.put n k v):=by
 unfold Hp.put;split
 ·exact i
 ·rename_i o ho
  split
  ·exact i.putAt ho a b
  ·split
   ·exact i
   ·exact i.H_ ho a hk b
theorem Inv.make {h:Hp} (i:Inv h) {m:Nat} (hm:m<=3):Inv (h.make m)/\(h.make m).Ok h.objs.length:=by
 have g:∀ n,(h.make m).ob n=if n=h.objs.length then some ⟨h.white,m,[],false⟩ else h.ob n:=fun n=>h.IV _ n
 have q:=i.w1;have hx:h.ob h.objs.length=none:=by simp [Hp.ob]
 have j:∀ n,h.Ok n->(h.make m).Ok n:=by
  rintro n ⟨o,e,nd⟩;refine ⟨o,?_,nd⟩;rw [g,if_neg (by intro c;subst c;rw [hx] at e;cases e)];exact e
 have l:∀ n,h.Lv n->(h.make m).Lv n:=by
  rintro n ⟨o,e⟩;refine ⟨o,?_⟩;rw [g,if_neg (by intro c;subst c;rw [hx] at e;cases e)];exact e
 have f:∀ n o,(h.make m).ob n=some o->(n=h.objs.length/\o=⟨h.white,m,[],false⟩)∨h.ob n=some o:=by
  intro n o e;rw [g] at e;split at e
  ·rename_i c;simp at e;exact .inl ⟨c,e.symm⟩
  ·exact .inr e
 have p:∀ n,(h.make m).M4 n=h.M4 n:=by
  intro n;unfold Hp.M4;rw [g];by_cases c:n=h.objs.length
  ·subst c
   rw [if_pos rfl,hx];show gu h.white=true;rcases (by omega:h.white=0∨h.white=1) with z|z<;>rw [z]<;>rfl
  ·rw [if_neg c]
 refine ⟨⟨i.w1,i.st,?_,?_,fun n o e=>?_,fun n hn=>j n (i.ls n hn),fun n o e nd en he r hr=>?_,fun hs n o e=>?_,fun hs=>?_,fun hs=>?_⟩,?_⟩
 ·rw [g,if_neg (by have:=i.ps;omega)]
  exact i.zero
 ·show 1<=(h.objs++[_]).length
  simp
 ·rcases f n o e with ⟨_,rfl⟩|x
  ·exact hm
  ·exact i.md n o x
 ·rcases f n o e with ⟨_,rfl⟩|x
  ·simp at he
  ·exact j r (i.nc n o x nd en he r hr)
 ·rcases f n o e with ⟨_,rfl⟩|x
  ·rfl
  ·exact i.s0 hs n o x
 ·have t:=i.s1 hs
  refine ⟨fun n o e=>?_,fun n o e k=>?_,fun n o e k hS=>?_,fun n o e w=>?_,fun n hn=>l n (t.ll n hn),fun n o e en he r hr=>?_⟩
  ·rcases f n o e with ⟨_,rfl⟩|x
   ·show h.white<=3
    omega
   ·exact t.col n o x
  ·rcases f n o e with ⟨_,rfl⟩|x
   ·have:h.white=2:=k
    omega
   ·exact t.M_ n o x k
  ·rcases f n o e with ⟨_,rfl⟩|x
   ·have:h.white=3:=k
    omega
   ·exact (t.blk n o x k hS).mono rfl rfl (fun r y=>by rw [p] at y;exact y) (fun _ y=>y) (fun _ y=>y)
  ·rcases f n o e with ⟨_,rfl⟩|x
   ·rfl
   ·exact t.wc n o x w
  ·rcases f n o e with ⟨_,rfl⟩|x
   ·simp at he
   ·exact l r (t.cl n o x en he r hr)
 ·obtain ⟨a,b,c,d,e⟩:=i.s2 hs
  refine ⟨a,b,?_,fun n o x=>?_,fun n o x hn=>?_⟩
  ·show h.G5<=(h.objs++[_]).length
   simp;omega
  ·rcases f n o x with ⟨_,rfl⟩|y
   ·show h.white<=3
    omega
   ·exact d n o y
  ·rcases f n o x with ⟨_,rfl⟩|y
   ·rfl
   ·exact e n o y hn
 ·refine ⟨⟨h.white,m,[],false⟩,?_,fun d=>d.2.2 rfl⟩
  rw [g,if_pos rfl]
def Hp.G9 (h:Hp) (l:List Nat):Hp:={ h with roots:=l }
theorem Inv.G9 {h:Hp} (i:Inv h) {l:List Nat} (a:∀ n∈l,h.Ok n):Inv (h.G9 l):=
 i.same (fun _=>rfl) rfl rfl rfl rfl rfl rfl rfl rfl (fun n hn=>by
  rcases hn with x|x|x
  ·exact a n x
  ·exact i.ls n (.inr (.inl x))
  ·exact i.ls n (.inr (.inr x)))
def Hp.Iu (h:Hp) (n:Nat):Hp:={ h.upd n (fun o=>{ o with fin:=true }) with finals:=h.finals++[n] }
theorem Inv.Iu {h:Hp} (i:Inv h) {n:Nat} (a:h.Ok n):Inv (h.Iu n):=by
 refine i.same (fun m=>?_) (h.Hu n _) rfl rfl rfl rfl rfl rfl rfl (fun m hm=>?_)
 ·show ((h.upd n fun o=>{ o with fin:=true }).ob m).map _=_
  rw [Hp.Hf];split
  ·cases h.ob m<;>rfl
  ·rfl
 ·rcases hm with x|x|x
  ·exact i.ls m (.inl x)
  ·exact i.ls m (.inr (.inl x))
  ·have b:m∈h.finals++[n]:=x
   rcases aY.1 b with y|y
   ·exact i.ls m (.inr (.inr y))
   ·simp at y;subst y;exact a
def Hp.pop (h:Hp):Hp:={ h with pending:=h.pending.dropLast }
theorem Inv.pop {h:Hp} (i:Inv h):Inv h.pop:=i.same (fun _=>rfl) rfl rfl rfl rfl rfl rfl rfl rfl (fun n hn=>by
 rcases hn with x|x|x
 ·exact i.ls n (.inl x)
 ·exact i.ls n (.inr (.inl (List.dropLast_subset _ x)))
 ·exact i.ls n (.inr (.inr x)))
def Hp.forget (h:Hp):Hp:={ h with freed:=[] }
theorem Inv.forget {h:Hp} (i:Inv h):Inv h.forget:=i.same (fun _=>rfl) rfl rfl rfl rfl rfl rfl rfl rfl (fun n hn=>i.ls n hn)
theorem Inv.new:Inv Hp.new:=by
 have a:∀ n,Hp.new.ob n=none:=by
  intro n;simp only [Hp.ob,Hp.new];cases n<;>rfl
 refine ⟨by decide,by decide,a 0,by decide,fun n o e=>?_,fun n hn=>?_,fun n o e=>?_,fun _ n o e=>?_,fun hs=>?_,fun hs=>?_⟩
 ·rw [a] at e;cases e
 ·simp [Hp.new] at hn
 ·rw [a] at e;cases e
 ·rw [a] at e;cases e
 ·cases hs
 ·cases hs
end
section
variable {n:Nat} {o:Ob}
def cu (h:Hp):List (Option Nat):=h.objs.map (Option.map fun o=>o.es.length)
def gZ (f:Option Nat->Nat) (l:List (Option Nat)):Nat:=(l.map f).sum
def wt:Option Nat->Nat
 |some k=>40+40*k
 |none=>0
def on:Option Nat->Nat
 |some _=>1
 |none=>0
theorem jJ (f:Option Nat->Nat):∀ (l:List (Option Nat)) (n:Nat) (x y:Option Nat),l[n]?=some y->gZ f (l.set n x)+f y=gZ f l+f x
 | [],n,x,y,h=>by simp at h
 |a::l,0,x,y,h=>by simp at h;subst h;simp [gZ];omega
 |a::l,n+1,x,y,h=>by
  have:=jJ f l n x y (by simpa using h);simp [gZ] at this ⊢;omega
theorem tu (f:Option Nat->Nat) (l:List (Option Nat)) (x:Option Nat):gZ f (l++[x])=gZ f l+f x:=by simp [gZ]
theorem rD (f:Option Nat->Nat):∀ (l:List (Option Nat)) (n:Nat) (y:Option Nat),l[n]?=some y->f y<=gZ f l
 | [],n,y,h=>by simp at h
 |a::l,0,y,h=>by simp at h;subst h;simp [gZ]
 |a::l,n+1,y,h=>by
  have:=rD f l n y (by simpa using h);simp [gZ] at this ⊢;omega
theorem Dv:∀ l:List (Option Nat),gZ on l<=l.length
 | []=>by simp [gZ]
 |a::l=>by
  have:=Dv l;cases a<;>simp [gZ,on] at this ⊢<;>omega
theorem iC (h:Hp) (n:Nat):(cu h)[n]?=if n<h.objs.length then some ((h.ob n).map fun o=>o.es.length) else none:=by
 unfold cu;rw [List.getElem?_map];split
 ·rename_i c
  have:h.ob n=h.objs[n]:=by simp [Hp.ob,c]
  rw [this];simp [c]
 ·rename_i c
  rw [fD (by omega)];rfl
theorem jC {h g:Hp} (a:g.objs.length=h.objs.length) (b:∀ n,(g.ob n).map (fun o=>o.es.length)=(h.ob n).map (fun o=>o.es.length)):cu g=cu h:=by
 refine List.ext_getElem? (fun n=>?_);rw [iC,iC,a,b n]
theorem Np.lens {h g:Hp} (x:Np h g):Go.Proofs.YtbpcdfbmnklcjaaGreatDoor.cu g=Go.Proofs.YtbpcdfbmnklcjaaGreatDoor.cu h:=by
 refine jC x.len (fun n=>?_);have:=x.cont n;cases e1:g.ob n<;>cases e2:h.ob n<;>simp [e1,e2,Ob.cont] at this ⊢
 rw [this.2.1]
theorem MU.lens {h g:Hp} (x:MU h g):Go.Proofs.YtbpcdfbmnklcjaaGreatDoor.cu g=Go.Proofs.YtbpcdfbmnklcjaaGreatDoor.cu h:=by
 refine jC x.len (fun n=>?_);rcases x.ob n with ⟨b,a⟩|⟨o,e,b,a,_,_,_,c,_,d⟩
 ·rw [b,a]
 ·rw [b,a]
  simp [d]
theorem xZ {h g:Hp} (b:g.objs.length=h.objs.length) (a:∀ n,(g.ob n).map (fun o=>(o.col,o.mode,o.es))=(h.ob n).map (fun o=>(o.col,o.mode,o.es))):cu g=cu h:=by
 refine jC b (fun n=>?_);have:=a n;cases e1:g.ob n<;>cases e2:h.ob n<;>simp [e1,e2] at this ⊢
 rw [this.2.2]
theorem rJ (h:Hp):cu h.Hr=cu h:=by
 obtain ⟨_,_,_,b,_,a⟩:=dL h.finals (h,[]);exact xZ (g:=h.Hr) a b
theorem rU (h:Hp):cu h.atomic=cu h:=by
 have a:=(MU.at4 h.M6.at2.at3).trans (MU.Mh _);show cu h.M6.at2.at3.at4.Mh=_;rw [a.lens,(Np.at3 h.M6.at2).lens];show cu (h.M6.weak.foldl Hp.Mv h.M6).Hr=_;rw [rJ];exact (MU.fold bT bZ h.M6.weak h.M6).lens.trans (show cu h.M6=cu { h with again:=h.M6.again } from Np.lens (kD.M6 h))
def mg (h:Hp):Prop:=h.bytes=gZ wt (cu h)/\h.live=gZ on (cu h)
theorem mg.of {h g:Hp} (x:mg h) (b:cu g=cu h) (hb:g.bytes=h.bytes) (a:g.live=h.live):mg g:=by
 unfold mg;rw [b,hb,a];exact x
theorem mg.free {h:Hp} (x:mg h) (e:h.ob n=some o):o.size<=h.bytes/\1<=h.live/\o.es.length*40<=h.bytes/\h.bytes-o.size=gZ wt ((cu h).set n none)/\h.live-1=gZ on ((cu h).set n none):=by
 have g:=Hp.Hy e;have a:(cu h)[n]?=some (some o.es.length):=by rw [iC,if_pos g,e];rfl
 have f:=jJ wt (cu h) n none _ a;have d:=jJ on (cu h) n none _ a;have c:=rD wt (cu h) n _ a;have b:=rD on (cu h) n _ a;rw [<-x.1] at f c;rw [<-x.2] at d b;simp only [wt,on] at f d c b;unfold Ob.size;refine ⟨c,b,?_,?_,?_⟩<;>omega
theorem rX (h:Hp) (n:Nat):cu { h with objs:=h.objs.set n none }=(cu h).set n none:=by
 unfold cu;simp [List.map_set]
theorem mg.G6 {h:Hp} (x:mg h):mg h.G6/\h.G6.freed.length+h.G6.live=h.freed.length+h.live/\h.G6.bytes<=h.bytes:=by
 unfold Hp.G6;split
 ·rename_i o ho
  split
  ·obtain ⟨e,d,c,b,a⟩:=x.free ho
   refine ⟨⟨?_,?_⟩,?_,?_⟩
   ·show h.bytes-o.size=gZ wt (cu { h with objs:=h.objs.set h.G5 none })
    rw [rX];exact b
   ·show h.live-1=gZ on (cu { h with objs:=h.objs.set h.G5 none })
    rw [rX];exact a
   ·simp;omega
   ·simp
  ·refine ⟨x.of ?_ rfl rfl,rfl,au _⟩
   refine jC (h.Hu h.G5 _) (fun n=>?_);show ((h.upd h.G5 fun o=>{ o with col:=h.white }).ob n).map _=_;rw [Hp.Hf];split
   ·cases h.ob n<;>rfl
   ·rfl
 ·exact ⟨x,rfl,au _⟩
theorem BR {h:Hp} (x:mg h) (i:Inv h):h.live+1<=h.objs.length:=by
 have b:(cu h)[0]?=some none:=by rw [iC,if_pos (show 0<h.objs.length from i.ps),i.zero];rfl
 cases e:cu h with
 |nil=>rw [e] at b;simp at b
 |cons a l=>
  rw [e] at b;simp at b;have f:=Dv l;have d:(cu h).length=h.objs.length:=by simp [cu]
  have c:=x.2;rw [e,b] at c;rw [e] at d;simp [gZ,on] at c f d;omega
structure Sm (h:Hp):Prop where
 len:h.objs.length<=5001
 nu:h.nu+h.again.length<=20000
 fp:h.finals.length+h.pending.length<=5000
 fr:h.freed.length+h.live<=10000
 Nh:h.bytes<=200000
 cr:h.GY<=200000
 lim:h.limit<=404096
 rt:h.roots.length<=5001
 es:∀ n o,h.ob n=some o->o.es.length<=5000
theorem Sm.M7 {h g:Hp} (s:Sm h) (x:Np h g) (d:g.nu<=h.nu):Sm g:=by
 refine ⟨by rw [x.len];exact s.len,?_,by rw [x.finals,x.pending];exact s.fp,by rw [x.freed,x.live];exact s.fr,by rw [x.bytes];exact s.Nh,by rw [x.GY];exact s.cr,by rw [x.limit];exact s.lim,by rw [x.roots];exact s.rt,fun n o e=>?_⟩
 ·have:=s.nu
  rw [x.again];omega
 ·obtain ⟨a,c,_,b,_⟩:=x.ob e
  rw [<-b];exact s.es n a c
theorem Hp.Io (h:Hp) (n:Nat):(h.mark n).nu=h.nu:=by
 simp only [Hp.nu,h.KC n,(h.Jq n).1,(h.Jq n).2]
theorem Sm.mark {h:Hp} (s:Sm h) (n:Nat):Sm (h.mark n):=s.M7 (Np.mark h n) (aO (h.Io n))
theorem Sm.Hz {h:Hp} (s:Sm h) (v:HV):Sm (h.Hz v):=by
 unfold Hp.Hz;split
 ·exact s.mark _
 ·exact s
theorem Sm.foldM {h:Hp} (s:Sm h) {α:Type} (f:Hp->α->Hp) (b:∀ h x,Sm h->Sm (f h x)):∀ (l:List α) (h:Hp),Sm h->Sm (l.foldl f h)
 | [],h,s=>s
 |a::l,h,s=>Sm.foldM s f b l (f h a) (b h a s)
theorem Sm.Ho {h:Hp} (s:Sm h) (l:List Nat):Sm (h.Ho l):=s.foldM Hp.mark (fun h x s=>s.mark x) l h s
theorem Sm.alive {h:Hp} (s:Sm h):Sm h.alive:=(s.Ho _).Ho _
theorem Sm.spread {h:Hp} (s:Sm h) (es:List En):Sm (h.spread es).1:=s.M7 (Np.spread h es) (aO (h.II es))
theorem Sm.take {h:Hp} (s:Sm h) (a:h.grey≠[]):Sm h.take.1:=s.M7 (Np.take h) (h.JD a)
theorem Sm.drain {h:Hp} (s:Sm h):Sm h.drain:=s.M7 (Np.drain h) h.Jo
theorem Hp.JF (k:Nat) (p:Hp × Bool):(Hp.over k p).1.nu<=p.1.nu:=by
 refine Hp.Ip (P:=fun k p q=>q.1.nu<=p.1.nu) (fun k p _=>au _) ?_ ?_ k p
 ·intro k p q hk a x
  refine aI x (aI (Hp.Jo _) (aO (Hp.II _ _)))
 ·intro k p q hk a x
  exact aI x (aO (Hp.II _ _))
theorem Hp.Ke (h:Hp):h.turns.nu<=h.nu:=Hp.IJ (P:=fun h g=>g.nu<=h.nu) (fun h g _ _ x=>aI x (Hp.JF 0 (h,false))) (fun h _=>Hp.JF 0 (h,false)) h
theorem Hp.JY (h:Hp):h.settle.nu<=h.nu:=aI (Hp.Ke _) h.Jo
theorem Sm.over {p:Hp × Bool} {k:Nat} (s:Sm p.1):Sm (Hp.over k p).1:=s.M7 (Np.over k p) (Hp.JF k p)
theorem Sm.settle {h:Hp} (s:Sm h):Sm h.settle:=s.M7 (Np.settle h) h.JY
theorem Sm.turns {h:Hp} (s:Sm h):Sm h.turns:=s.M7 (Np.turns h) h.Ke
theorem yH (h:Hp) (n:Nat):(h.Hg n).nu<=h.nu+1:=by
 have:=h.J_ n 2 rfl;have e:(h.Hg n).wn=(h.upd n fun o=>{ o with col:=2 }).wn:=rfl;show (h.Hg n).wn+(h.grey++[n]).length+h.GZ.length+h.weak.length<=h.wn+h.grey.length+h.GZ.length+h.weak.length+1;rw [e];simp;omega
theorem nU:∀ (l:List Nat) (h:Hp),(l.foldl Hp.Hg h).nu<=h.nu+l.length
 | [],h=>by simp
 |a::l,h=>by
  have h1:=nU l (h.Hg a);have b:=yH h a;simp only [List.foldl_cons,fZ];omega
theorem qU (h:Hp):h.G8.nu<=h.nu+h.again.length:=nU h.again h
theorem Sm.G8 {h:Hp} (s:Sm h):Sm h.G8:=by
 have x:=Np.fold _ Np.Hg h.again h;refine ⟨by rw [show h.G8.objs.length=_ from x.len];exact s.len,?_,by rw [show h.G8.finals=_ from x.finals,show h.G8.pending=_ from x.pending];exact s.fp,by rw [show h.G8.freed=_ from x.freed,show h.G8.live=_ from x.live];exact s.fr,by rw [show h.G8.bytes=_ from x.bytes];exact s.Nh,by rw [show h.G8.GY=_ from x.GY];exact s.cr,by rw [show h.G8.limit=_ from x.limit];exact s.lim,by rw [show h.G8.roots=_ from x.roots];exact s.rt,fun n o e=>?_⟩
 ·have b:=s.nu
  have a:=qU h;have d:h.G8.again.length=0:=rfl;omega
 ·obtain ⟨c,b,_,a,_⟩:=x.ob e
  rw [<-a];exact s.es n c b
end
end Go.Proofs.YtbpcdfbmnklcjaaGreatDoor
namespace Go.Proofs.YtbpcdfbmnklcjaaGreatDoor
open Go Go.RowKit
set_option linter.unusedVariables false
section
variable {B B' N T T' base n n' s s' size:Nat} {S:Nat->Prop} {f:Nat->Value} {h h':Hp} {o:Ob} {v v':Value} {w w':World} {xs xs':List Value}
def vk (v:HV):Int:=match v with
 |none=>0
 |some (.inl _)=>2
 |some (.inr _)=>5
def vi (v:HV):Int:=match v with
 |some (.inl z)=>z
 |_=>0
def vr (v:HV):Nat:=match v with
 |some (.inr n)=>n
 |_=>0
def vR (v:HV):List Value:=[.int .i64 (vk v),.int .i64 (vi v),.int .u64 0,.string ByteArray.empty,.int .i64 (vr v)]
def iT (e:En):List Value:=vR e.1++vR e.2
def j_ (es:List En):List Value:=es.flatMap iT
def Dx (l:List Nat):List Value:=l.flatMap fun n=>vR (some (.inr n))
theorem lu {α:Type} (f:α->List Value) (s:Nat) (b:∀ x,(f x).length=s):∀ l:List α,(l.flatMap f).length=l.length*s
 | []=>by simp
 |a::l=>by
  rw [List.flatMap_cons,aT,b,lu f s b l,fZ,Nat.add_mul];omega
theorem eX {α:Type} (f:α->List Value) (s:Nat) (b:∀ x,(f x).length=s):∀ (l:List α) (i j:Nat) (x:α),l[i]?=some x->j<s->(l.flatMap f)[i*s+j]?=(f x)[j]?
 | [],i,j,x,h,_=>by simp at h
 |a::l,0,j,x,h,hj=>by
  simp at h;subst h;rw [List.flatMap_cons,dF (by rw [b];omega)];simp
 |a::l,i+1,j,x,h,hj=>by
  rw [List.flatMap_cons,fI (by rw [b,Nat.add_mul];omega),b];have e:(i+1)*s+j-s=i*s+j:=by rw [Nat.add_mul];omega
  rw [e];exact eX f s b l i j x (by simpa using h) hj
theorem ny (es:List En):(j_ es).length=es.length*10:=lu iT 10 (fun _=>rfl) es
structure SM where
 H:Nat
 oS:Value
 ob:Nat->Nat
 es:Nat->Value
 li:Nat->Value
 rS:Value
def eO (k:Nat):Prop:=k=7∨k=8∨k=9∨k=10∨k=11∨k=12∨k=15
def h_ (h:Hp) (k:Nat):List Nat:=if k=7 then h.grey else if k=8 then h.again else if k=9 then h.weak else if k=10 then h.GZ else if k=11 then h.finals else if k=12 then h.pending else h.freed
def dD (h:Hp) (k:Nat) (l:List Nat):Hp:=if k=7 then { h with grey:=l } else if k=8 then { h with again:=l } else if k=9 then { h with weak:=l } else if k=10 then { h with GZ:=l } else if k=11 then { h with finals:=l } else if k=12 then { h with pending:=l } else { h with freed:=l }
def uz (h:Hp) (L:SM) (k:Nat):Value:=
 if k=0 then L.oS else if k=1 then .int .i64 h.bytes else if k=2 then .int .i64 h.live else if k=3 then .int .i64 h.limit else if k=4 then .int .i64 h.GY else if k=5 then .int .i64 h.state else if k=6 then .int .i64 h.white
 else if k=13 then L.rS else if k=14 then .int .i64 h.G5 else if k=16 then .bool false else if k=17 then .int .i64 64 else L.li k
def kY (r:Nat->Value) (kd col:Nat) (dd:Bool) (md:Nat) (ev:Value) (fn:Bool) (k:Nat):Value:=
 if k=0 then .int .i64 kd else if k=1 then .int .i64 col else if k=2 then .bool dd else if k=3 then .int .i64 0 else if k=4 then .int .i64 md else if k=5 then ev else if k=22 then .bool fn else r k
def dZ (l:List Nat):List Value:=l.map fun (n:Nat)=>Value.int .i64 (n:Int)
structure MW (base:Nat) (S:Nat->Prop) (h:Hp) (L:SM) (w:World):Prop where
 hp:aD w 105 L.H 18 (uz h L)
 oo:w.ownsRow base 90 1 L.oS h.objs.length ((List.range h.objs.length).map fun n=>.pointer (some ⟨L.ob n,0,none⟩))
 ob:∀ n o,h.ob n=some o->∃ r,aD w 101 (L.ob n) 25 (kY r 5 o.col false o.mode (L.es n) o.fin)
 dd:∀ n,n<h.objs.length->h.ob n=none->∃ r c,gu c=true/\aD w 101 (L.ob n) 25 (kY r 0 c true 0 (.slice none 0 0) false)
 en:∀ n o,h.ob n=some o->w.ownsRow base 122 10 (L.es n) o.es.length (j_ o.es)
 li:∀ k,eO k->w.ownsRow base 3 1 (L.li k) (h_ h k).length (dZ (h_ h k))
 ro:w.ownsRow base 95 5 L.rS h.roots.length (Dx h.roots)
 ij:∀ n m,n<h.objs.length->m<h.objs.length->L.ob n=L.ob m->n=m
 ei:∀ n m o o' g,h.ob n=some o->h.ob m=some o'->(L.es n).ownBlock=some g->(L.es m).ownBlock=some g->n=m
 lj:∀ k k' g,eO k->eO k'->(L.li k).ownBlock=some g->(L.li k').ownBlock=some g->k=k'
 bH:base<=L.H
 bo:∀ n,n<h.objs.length->base<=L.ob n
 bs:base<=w.heap.size
 sH:S L.H
 so:∀ n,n<h.objs.length->S (L.ob n)
 sO:∀ g,L.oS.ownBlock=some g->S g
 se:∀ n o g,h.ob n=some o->(L.es n).ownBlock=some g->S g
 sl:∀ k g,eO k->(L.li k).ownBlock=some g->S g
 sr:∀ g,L.rS.ownBlock=some g->S g
 up:∀ b,w.heap.size<=b->S b
theorem ay {g:Nat} (h:w.ownsRow B T s v n xs) (c:v.ownBlock=some g):aD w T g (n*s) (fun j=>xs.getD j (.bool false)):=by
 obtain ⟨k,⟨rfl,l⟩|⟨d,b,a,rfl,hb,i,hr⟩⟩:=h
 ·simp [Value.ownBlock] at c
 ·have e:d=g:=by simpa [Value.ownBlock] using c
  subst e;exact mq ⟨k,.inr ⟨d,b,a,rfl,hb,i,hr⟩⟩
theorem ak {g:Nat} (h:w.ownsRow B T s v n xs) (h':aD w T' g N f) (a:T≠T'):v.ownBlock≠some g:=fun e=>(ay h e).apart h' a rfl
theorem aV {g:Nat} (h:w.ownsRow B T s v n xs) (h':w.ownsRow B' T' s' v' n' xs') (a:T≠T') (e:v'.ownBlock=some g):v.ownBlock≠some g:=ak h (ay h' e) a
theorem aj {e:Nat} (h:w.ownsRow base e size v n xs) (k:Keeps w w' S) (m:∀ g,v.ownBlock=some g->¬ S g):w'.ownsRow base e size v n xs:=by
 obtain ⟨j,p|⟨g,i,d,rfl,b,a,hr⟩⟩:=h
 ·exact ⟨j,.inl p⟩
 ·have l:g<w.heap.size:=by
   rcases Nat.lt_or_ge g w.heap.size with c|c
   ·exact c
   ·rw [Array.getElem?_eq_none c] at a;cases a
  exact ⟨j,.inr ⟨g,i,d,rfl,b,(k.block g l (m g (by simp [Value.ownBlock]))).trans a,hr⟩⟩
theorem MW.out {L:SM} (a:MW base S h L w) (k:Keeps w w' (fun b=>¬ S b)):MW base S h L w':=by
 refine ⟨a.hp.keep k (fun x=>x a.sH),aj a.oo k (fun g hg x=>x (a.sO g hg)),fun n o e=>?_,fun n hn e=>?_,fun n o e=>aj (a.en n o e) k (fun g hg x=>x (a.se n o g e hg)),fun j hj=>aj (a.li j hj) k (fun g hg x=>x (a.sl j g hj hg)),aj a.ro k (fun g hg x=>x (a.sr g hg)),a.ij,a.ei,a.lj,a.bH,a.bo,aI a.bs k.size,a.sH,a.so,a.sO,a.se,a.sl,a.sr,fun b hb=>a.up b (aI k.size hb)⟩
 ·obtain ⟨r,hr⟩:=a.ob n o e
  exact ⟨r,hr.keep k (fun x=>x (a.so n (Hp.Hy e)))⟩
 ·obtain ⟨r,c,d,hr⟩:=a.dd n hn e
  exact ⟨r,c,d,hr.keep k (fun x=>x (a.so n hn))⟩
theorem MW.low {L:SM} (a:MW base S h L w) (k:Below w.heap.size w w'):MW base S h L w':=a.out (Keeps.of k (au _) _)
theorem MW.alloc {base:Nat} {S:Nat->Prop} {h:Hp} {L:SM} {w:World} (a:MW base S h L w) (o:Obj):MW base S h L (w.alloc o):=a.low (aU w o)
theorem MW.hdr {L:SM} (a:MW base S h L w) (k:Nat) (x:Value) (hk:k<18) (d:h'.objs=h.objs) (q:∀ k,eO k->h_ h' k=h_ h k) (hr:h'.roots=h.roots) (l:∀ i,i<18->(if i=k then x else uz h L i)=uz h' L i):
 MW base S h' L (w.setCell ⟨L.H,k,none⟩ x)/\Keeps w (w.setCell ⟨L.H,k,none⟩ x) S:=by
 have kk:Keeps w (w.setCell ⟨L.H,k,none⟩ x) (fun b=>b=L.H):=Keeps.setCell (S:=fun b=>b=L.H) (Keeps.refl w _) rfl x;have hb:∀ n,h'.ob n=h.ob n:=fun n=>by unfold Hp.ob;rw [d]
 have hH:∀ {T s n:Nat} {v:Value} {xs:List Value},w.ownsRow base T s v n xs->T≠105->∀ g,v.ownBlock=some g->¬ g=L.H:=fun h1 h2 g h3 h4=>ak h1 a.hp h2 (h4 ▸ h3);refine ⟨⟨(a.hp.set hk x).congr l,?_,fun n o e=>?_,fun n hn e=>?_,fun n o e=>?_,fun j hj=>?_,?_,?_,?_,a.lj,a.bH,?_,aI a.bs kk.size,a.sH,?_,a.sO,?_,a.sl,a.sr,fun b hb=>a.up b (aI kk.size hb)⟩,kk.mono (fun b e=>e ▸ a.sH)⟩
 ·rw [d];exact aj a.oo kk (hH a.oo (by decide))
 ·rw [hb] at e
  obtain ⟨r,hr⟩:=a.ob n o e;exact ⟨r,hr.keep kk (fun e=>hr.apart a.hp (by decide) e)⟩
 ·rw [hb] at e
  rw [d] at hn;obtain ⟨r,c,l,hr⟩:=a.dd n hn e;exact ⟨r,c,l,hr.keep kk (fun e=>hr.apart a.hp (by decide) e)⟩
 ·rw [hb] at e;exact aj (a.en n o e) kk (hH (a.en n o e) (by decide))
 ·rw [q j hj];exact aj (a.li j hj) kk (hH (a.li j hj) (by decide))
 ·rw [hr];exact aj a.ro kk (hH a.ro (by decide))
 ·rw [d];exact a.ij
 ·intro n m o p g;rw [hb,hb];exact a.ei n m o p g
 ·rw [d];exact a.bo
 ·rw [d];exact a.so
 ·intro n o g;rw [hb];exact a.se n o g
theorem MW.M0 {L:SM} (a:MW base S h L w) (n:Nat) (k:Nat) (x:Value) (f:Ob->Ob) (hk:k<25) (ho:h.ob n=some o) (E:(f o).mode=o.mode/\(f o).es=o.es)
 (H:∀ r i,(if i=k then x else kY r 5 o.col false o.mode (L.es n) o.fin i)=kY r 5 (f o).col false o.mode (L.es n) (f o).fin i):
 MW base S (h.upd n f) L (w.setCell ⟨L.ob n,k,none⟩ x)/\Keeps w (w.setCell ⟨L.ob n,k,none⟩ x) S:=by
 have kk:Keeps w (w.setCell ⟨L.ob n,k,none⟩ x) (fun b=>b=L.ob n):=Keeps.setCell (S:=fun b=>b=L.ob n) (Keeps.refl w _) rfl x;have u:(h.upd n f).objs.length=h.objs.length:=h.Hu n f;obtain ⟨r0,t⟩:=a.ob n o ho;have z:=Hp.Hy ho;have hH:∀ {T s n':Nat} {v:Value} {xs:List Value},w.ownsRow base T s v n' xs->T≠101->∀ g,v.ownBlock=some g->¬ g=L.ob n:=fun h1 h2 g y C=>ak h1 t h2 (C ▸ y);have p:∀ m l,(h.upd n f).ob m=some l->∃ o2,h.ob m=some o2/\l.es=o2.es/\(m=n->o2=o/\l=f o)/\(m≠n->l=o2):=by
  intro m l e;rw [Hp.Hf] at e;split at e
  ·rename_i c
   subst c;rw [ho] at e;simp at e;subst e;exact ⟨o,ho,E.2,fun _=>⟨rfl,rfl⟩,fun c=>absurd rfl c⟩
  ·rename_i c
   exact ⟨l,e,rfl,fun d=>absurd d.symm c,fun _=>rfl⟩
 refine ⟨⟨a.hp.keep kk (fun e=>a.hp.apart t (by decide) e),?_,fun m l e=>?_,fun m hm e=>?_,fun m l e=>?_,fun j hj=>aj (a.li j hj) kk (hH (a.li j hj) (by decide)),aj a.ro kk (hH a.ro (by decide)),?_,?_,a.lj,a.bH,?_,aI a.bs kk.size,a.sH,?_,a.sO,?_,a.sl,a.sr,fun b hb=>a.up b (aI kk.size hb)⟩,kk.mono (fun b e=>e ▸ a.so n z)⟩
 ·rw [u];exact aj a.oo kk (hH a.oo (by decide))
 ·obtain ⟨o2,q,y,C,J⟩:=p m l e
  by_cases c:m=n
  ·subst c
   obtain ⟨rfl,rfl⟩:=C rfl;refine ⟨r0,?_⟩;rw [E.1];exact (t.set hk x).congr (fun i _=>H r0 i)
  ·obtain rfl:=J c
   obtain ⟨r,hr⟩:=a.ob m l q;exact ⟨r,hr.keep kk (fun e=>c (a.ij m n (Hp.Hy q) z e))⟩
 ·rw [u] at hm
  rw [Hp.Hf] at e;have q:h.ob m=none/\m≠n:=by
   split at e
   ·rename_i c
    subst c;rw [ho] at e;simp at e
   ·rename_i c;exact ⟨e,fun d=>c d.symm⟩
  obtain ⟨r,c,A,hr⟩:=a.dd m hm q.1;exact ⟨r,c,A,hr.keep kk (fun e=>q.2 (a.ij m n hm z e))⟩
 ·obtain ⟨o2,q,y,_⟩:=p m l e
  rw [y];exact aj (a.en m o2 q) kk (hH (a.en m o2 q) (by decide))
 ·rw [u];exact a.ij
 ·intro m D o1 o2 g e1 q
  obtain ⟨p1,q1,_⟩:=p m o1 e1;obtain ⟨G,F,_⟩:=p D o2 q;exact a.ei m D p1 G g q1 F
 ·rw [u];exact a.bo
 ·rw [u];exact a.so
 ·intro m l g e
  obtain ⟨p1,q1,_⟩:=p m l e;exact a.se m p1 g q1
end
section
variable {Q:Exit->Act->World->Prop} {S:Nat->Prop} {ac:Act} {base j k:Nat} {h:Hp} {ops:Array Oper} {rest:List Oper} {w w1 wr:World}
theorem vU (h:Hp) (L:SM) (hk:eO k) (v':Value) (a:List Nat):∀ i,i<18->(if i=k then v' else uz h L i)=uz (dD h k a) { L with li:=fun j=>if j=k then v' else L.li j } i:=by
 intro i hi;have:i=0∨i=1∨i=2∨i=3∨i=4∨i=5∨i=6∨i=7∨i=8∨i=9∨i=10∨i=11∨i=12∨i=13∨i=14∨i=15∨i=16∨i=17:=by omega
 rcases hk with rfl|rfl|rfl|rfl|rfl|rfl|rfl<;>rcases this with rfl|rfl|rfl|rfl|rfl|rfl|rfl|rfl|rfl|rfl|rfl|rfl|rfl|rfl|rfl|rfl|rfl|rfl<;>rfl
theorem qI (h:Hp) (hk:eO k) (b:eO j) (a:List Nat):h_ (dD h k a) j=if j=k then a else h_ h j:=by
 rcases hk with rfl|rfl|rfl|rfl|rfl|rfl|rfl<;>rcases b with rfl|rfl|rfl|rfl|rfl|rfl|rfl<;>rfl
theorem iJ (h:Hp) (k:Nat) (a:List Nat):(dD h k a).objs=h.objs/\(dD h k a).roots=h.roots:=by
 unfold dD;split
 ·exact ⟨rfl,rfl⟩
 split
 ·exact ⟨rfl,rfl⟩
 split
 ·exact ⟨rfl,rfl⟩
 split
 ·exact ⟨rfl,rfl⟩
 split
 ·exact ⟨rfl,rfl⟩
 split
 ·exact ⟨rfl,rfl⟩
 ·exact ⟨rfl,rfl⟩
theorem MW.JV {L:SM} (a:MW base S h L w) (k:Nat) (hk:eO k) (kk:Keeps w w1 (fun b=>(L.li k).ownBlock=some b)) (v':Value) (z:List Nat) (hown:w1.ownsRow base 3 1 v' z.length (dZ z)) (F:∀ g,v'.ownBlock=some g->(L.li k).ownBlock=some g∨w.heap.size<=g):
 aD w1 105 L.H 18 (uz h L)/\MW base S (dD h k z) { L with li:=fun j=>if j=k then v' else L.li j } (w1.setCell ⟨L.H,k,none⟩ v')/\Keeps w (w1.setCell ⟨L.H,k,none⟩ v') S:=by
 have B:k<18:=by rcases hk with rfl|rfl|rfl|rfl|rfl|rfl|rfl<;>decide
 obtain ⟨ho,G⟩:=iJ h k z;have d:∀ n,(dD h k z).ob n=h.ob n:=fun n=>by unfold Hp.ob;rw [ho]
 have t:aD w1 105 L.H 18 (uz h L):=a.hp.keep kk (fun e=>ak (a.li k hk) a.hp (by decide) e);have p:Keeps w (w1.setCell ⟨L.H,k,none⟩ v') (fun b=>(L.li k).ownBlock=some b∨b=L.H):=(kk.mono (fun b e=>Or.inl e)).trans (Keeps.setCell (S:=fun b=>(L.li k).ownBlock=some b∨b=L.H) (Keeps.refl w1 _) (.inr rfl) v');have J:∀ {T s n:Nat} {v:Value} {P:List Value},w.ownsRow base T s v n P->T≠105->T≠3->∀ g,v.ownBlock=some g->¬ ((L.li k).ownBlock=some g∨g=L.H):=by
  intro T s n v P C M K g U i;rcases i with i|i
  ·exact aV C (a.li k hk) K i U
  ·exact ak C a.hp M (i ▸ U)
 have R:∀ {T g N:Nat} {f:Nat->Value},aD w T g N f->T≠105->T≠3->¬ ((L.li k).ownBlock=some g∨g=L.H):=by
  intro T g N f C M K i;rcases i with i|i
  ·exact ak (a.li k hk) C (Ne.symm K) i
  ·exact C.apart a.hp M i
 refine ⟨t,⟨(t.set B v').congr (vU h L hk v' z),?_,fun n o e=>?_,fun n hn e=>?_,fun n o e=>?_,fun j l=>?_,?_,?_,?_,?_,a.bH,?_,aI a.bs p.size,a.sH,?_,a.sO,?_,?_,a.sr,fun b hb=>a.up b (aI p.size hb)⟩,?_⟩
 ·rw [ho];exact aj a.oo p (J a.oo (by decide) (by decide))
 ·rw [d] at e
  obtain ⟨r,hr⟩:=a.ob n o e;exact ⟨r,hr.keep p (R hr (by decide) (by decide))⟩
 ·rw [d] at e
  rw [ho] at hn;obtain ⟨r,c,W,hr⟩:=a.dd n hn e;exact ⟨r,c,W,hr.keep p (R hr (by decide) (by decide))⟩
 ·rw [d] at e;exact aj (a.en n o e) p (J (a.en n o e) (by decide) (by decide))
 ·rw [qI h hk l]
  by_cases c:j=k
  ·simp only [c,if_true]
   exact aj hown (Keeps.setCell (S:=fun b=>b=L.H) (Keeps.refl w1 _) rfl v') (fun g hg e=>ak hown t (by decide) (e ▸ hg))
  ·simp only [c,if_false]
   refine aj (a.li j l) p (fun g hg e=>?_);rcases e with e|e
   ·exact c (a.lj j k g l hk hg e)
   ·exact ak (a.li j l) a.hp (by decide) (e ▸ hg)
 ·rw [G];exact aj a.ro p (J a.ro (by decide) (by decide))
 ·rw [ho];exact a.ij
 ·intro n m o V g;rw [d,d];exact a.ei n m o V g
 ·intro j E g l u e y
  have A:∀ q,eO q->(L.li q).ownBlock=some g->g<w.heap.size:=fun q hq e=>(ay (a.li q hq) e).lt;by_cases c:j=k<;>by_cases D:E=k
  ·rw [c,D]
  ·simp only [c,D,if_true,if_false] at e y
   rcases F g e with x|x
   ·rw [c];exact a.lj k E g hk u x y
   ·have:=A E u y;omega
  ·simp only [c,D,if_true,if_false] at e y
   rcases F g y with x|x
   ·rw [D];exact a.lj j k g l hk e x
   ·have:=A j l e;omega
  ·simp only [c,D,if_false] at e y
   exact a.lj j E g l u e y
 ·rw [ho];exact a.bo
 ·rw [ho];exact a.so
 ·intro n o g;rw [d];exact a.se n o g
 ·intro j g l e
  by_cases c:j=k
  ·simp only [c,if_true] at e
   rcases F g e with x|x
   ·exact a.sl k g hk x
   ·exact a.up g x
  ·simp only [c,if_false] at e
   exact a.sl j g l e
 ·refine p.mono (fun b e=>?_)
  rcases e with e|e
  ·exact a.sl k b hk e
  ·exact e ▸ a.sH
theorem iX:(Tryz.prog.info? 3).map (fun i=>(i.zero,i.size,i.bytes))=some (some (.int .i64 0),1,8):=by kernel_rfl
theorem MW.app {L:SM} (a:MW base S h L wr) (k:Nat) (hk:eO k) (n:Nat) {o:Oper} (m:o.guard=none) (s x:Operand)
 (ho:o.op=.call { callee:=.builtin .append,args:=#[s,x],argTypes:=#[30,30] }) (z:ac.eval s=L.li k) (hx:ac.eval x=.slice (some ⟨wr.heap.size,0,none⟩) 1 1) (q:(h_ h k).length<=1000000)
 (A:∀ (g f:Nat) (w':World),aD w' 105 L.H 18 (uz h L)->MW base S (dD h k (h_ h k++[n])) { L with li:=fun j=>if j=k then .slice (some ⟨g,0,none⟩) ((h_ h k).length+1) f else L.li j } (w'.setCell ⟨L.H,k,none⟩ (.slice (some ⟨g,0,none⟩) ((h_ h k).length+1) f))->Keeps wr (w'.setCell ⟨L.H,k,none⟩ (.slice (some ⟨g,0,none⟩) ((h_ h k).length+1) f)) S->wpList Tryz.prog ops Q rest (ac.put o.dst (.slice (some ⟨g,0,none⟩) ((h_ h k).length+1) f)) w'):
 wpList Tryz.prog ops Q (o::rest) ac (wr.alloc (.cells #[.int .i64 (n:Int)] 3)):=by
 have hb:=a.bs;refine fC m s x 30 3 1 8 (.int .i64 0) ho Tryz.underlying30 iX rfl (by decide) base (L.li k) (h_ h k).length (dZ (h_ h k)) [.int .i64 (n:Int)] (a.li k hk) z hx rfl (fun u hu=>by simp at hu;subst hu;rfl) (by omega) (by decide) hb ?_;intro v' w' r D C B;have i:Below base wr w':=D base wr (aG _ _) (au _);have kk:Keeps wr w' (fun b=>(L.li k).ownBlock=some b):=⟨i.os,i.tape,i.output,i.size,fun b hb' hn=>C b hb' hn⟩
 have l:∃ g f,v'=.slice (some ⟨g,0,none⟩) ((h_ h k).length+1) f:=by
  rcases r.2 with ⟨_,F⟩|⟨g,f,E,y,_⟩
  ·omega
  ·exact ⟨g,f,y⟩
 obtain ⟨g,f,rfl⟩:=l;have p:w'.ownsRow base 3 1 (.slice (some ⟨g,0,none⟩) ((h_ h k).length+1) f) (h_ h k++[n]).length (dZ (h_ h k++[n])):=by
  simpa [dZ] using r
 obtain ⟨p1,v,t⟩:=a.JV k hk kk _ _ p (fun g' e=>by
  by_cases c:(L.li k).ownBlock=some g'
  ·exact .inl c
  ·right
   rcases Nat.lt_or_ge g' wr.heap.size with d|d
   ·exact absurd e (B g' d c)
   ·exact d)
 exact A g f w' p1 v t
end
set_option maxHeartbeats 6400000
set_option maxRecDepth 100000
section
variable {S:Nat->Prop} {base n:Nat} {h:Hp} {w:World}
structure Lm (L L':SM):Prop where
 H:L'.H=L.H
 oS:L'.oS=L.oS
 ob:L'.ob=L.ob
 es:L'.es=L.es
 rS:L'.rS=L.rS
 li:∀ k,k≠7->k≠9->k≠10->L'.li k=L.li k
theorem Lm.refl (L:SM):Lm L L:=⟨rfl,rfl,rfl,rfl,rfl,fun _ _ _ _=>rfl⟩
theorem Lm.trans {a b c:SM} (x:Lm a b) (y:Lm b c):Lm a c:=
 ⟨y.H.trans x.H,y.oS.trans x.oS,y.ob.trans x.ob,y.es.trans x.es,y.rS.trans x.rS,fun k h1 h2 h3=>(y.li k h1 h2 h3).trans (x.li k h1 h2 h3)⟩
theorem Lm.set (L:SM) (k:Nat) (hk:k=7∨k=9∨k=10) (v:Value):Lm L { L with li:=fun j=>if j=k then v else L.li j }:=by
 refine ⟨rfl,rfl,rfl,rfl,rfl,fun j h1 h2 h3=>?_⟩;have:j≠k:=by omega
 simp [this]
theorem MW.slot {L:SM} (a:MW base S h L w) (hp:1<=h.objs.length):∃ g cap,L.oS=.slice (some ⟨g,0,none⟩) h.objs.length cap/\h.objs.length<=cap/\∀ n,n<h.objs.length->w.cell? ⟨g,n,none⟩=some (.pointer (some ⟨L.ob n,0,none⟩)):=by
 rcases a.oo.2 with ⟨_,f⟩|⟨g,cap,e,b,_,_,d,_⟩
 ·omega
 ·refine ⟨g,cap,b,d,fun n hn=>?_⟩
  have hr:=ay a.oo (g:=g) (by rw [b];simp [Value.ownBlock]);rw [hr.c n];simp [bq,hn]
theorem MW.any {L:SM} (a:MW base S h L w) (b:n<h.objs.length):∃ r kd c md ev fn,aD w 101 (L.ob n) 25 (kY r kd c ((h.ob n).isNone) md ev fn)/\gu c=h.M4 n/\(∀ o,h.ob n=some o->kd=5/\c=o.col/\md=o.mode/\ev=L.es n/\fn=o.fin):=by
 cases e:h.ob n with
 |none=>
  obtain ⟨r,c,d,hr⟩:=a.dd n b e;exact ⟨r,0,c,0,_,false,hr,by rw [d];unfold Hp.M4;rw [e],fun o x=>by cases x⟩
 |some o=>
  obtain ⟨r,hr⟩:=a.ob n o e;exact ⟨r,5,o.col,o.mode,_,o.fin,hr,(Hp.Ju e).symm,fun o' x=>by cases x;exact ⟨rfl,rfl,rfl,rfl,rfl⟩⟩
theorem ql (c:Nat):(gu c=true/\(c=0∨c=1))∨(gu c=false/\c≠0/\c≠1):=by
 by_cases b:c=0
 ·exact .inl ⟨by rw [b];rfl,.inl b⟩
 ·by_cases a:c=1
  ·exact .inl ⟨by rw [a];rfl,.inr a⟩
  ·exact .inr ⟨by simp [gu,b,a],b,a⟩
theorem gW (w:World) (b c:Nat) (j:w.cell? ⟨b,1,none⟩=some (.int .i64 c)):Calls Tryz.prog 91 #[.pointer (some ⟨b,0,none⟩)] w fun e w'=>e=.returned (.bool (gu c))/\w'=w:=by
 have hr:gu c=(((c:Int)==0)||((c:Int)==1)):=by
  unfold gu;rcases ql c with ⟨_,h|h⟩|⟨_,g,f⟩
  ·subst h;rfl
  ·subst h;rfl
  ·have e1:((c:Int)==0)=false:=by simp;omega
   have i:((c:Int)==1)=false:=by simp;omega
   rw [e1,i];simp [g,f]
 rw [hr];clear hr;go_enter Tryz.func91,Tryz.ntmps91;by_cases d:((c:Int)==0)=true
 ·go_wp2
  go_ret;exact ⟨by simp [d],rfl⟩
 ·have a:((c:Int)==0)=false:=by simpa using d
  go_wp2;go_ret;exact ⟨by simp [a],rfl⟩
theorem jQ {L:SM} (a:MW base S h L w) (s:Sm h) (M:h.ob 0=none) (n:Nat) (F:n<h.objs.length):
 Calls Tryz.prog 89 #[.pointer (some ⟨L.H,0,none⟩),.int .i64 (n:Int)] w fun e w'=>e=.returned (.tuple #[])/\∃ L',Lm L L'/\MW base S (h.mark n) L' w'/\Keeps w w' S:=by
 have p:=ah a;have T:=a.bs;have Q:=s.len;have A:(h_ h 7).length<=1000000:=by
  have:=s.nu;simp only [Hp.nu,Hp.mu] at this;show h.grey.length<=_;omega
 by_cases U:n=0
 ·subst U
  have hm:h.mark 0=h:=by unfold Hp.mark;rw [M]
  rw [hm];go_enter Tryz.func89,Tryz.ntmps89;go_wp2
  ((try simp only [Exit.inBlock,Exit.then]);refine bodyPost_ret (results_none rfl _ _ _) rfl ?_)
  exact ⟨rfl,L,Lm.refl L,p.o,Keeps.refl _ _⟩
 ·obtain ⟨g,C,v,G,j⟩:=a.slot (by omega)
  have R:=j n F;obtain ⟨r,kd,c,md,ev,fn,d,t,f⟩:=a.any F;have c0:w.cell? ⟨L.H,0,none⟩=some (.slice (some ⟨g,0,none⟩) h.objs.length C):=by rw [<-v];exact a.hp.c 0
  have V:w.cell? ⟨L.ob n,1,none⟩=some (.int .i64 c):=d.c 1;have J:w.cell? ⟨L.ob n,2,none⟩=some (.bool (h.ob n).isNone):=d.c 2;have z1:=d.Nq 1;have P:((n:Int)==0)=false:=by simp;omega
  have HI:=ah (gW w (L.ob n) c V);have K:=ah f;have HW:=ah t;clear a j f t d;go_enter Tryz.func89,Tryz.ntmps89;go_wp2_with fail;refine HI.out.mono ?_;rintro e w' ⟨rfl,N⟩;obtain rfl:=N.symm;cases hd:h.ob n with
  |none=>
   have hx:(h.ob n).isNone=true:=by rw [hd];rfl
   have hm:h.mark n=h:=by unfold Hp.mark;rw [hd]
   rw [hx] at J;have m:=ah hm;clear hm;clear hx;have D:=ah hd;clear hd;rcases hv:gu c with _|_
   ·go_wp2
    go_end0;exact ⟨rfl,L,Lm.refl L,by rw [m.o];exact p.o,Keeps.refl _ _⟩
   ·go_wp2
    go_end0;exact ⟨rfl,L,Lm.refl L,by rw [m.o];exact p.o,Keeps.refl _ _⟩
  |some o=>
   have hx:(h.ob n).isNone=false:=by rw [hd];rfl
   rw [hx] at J;clear hx;rcases hv:gu c with _|_
   ·have hm:h.mark n=h:=by
     unfold Hp.mark;rw [hd];simp only;rw [if_neg (by rw [<-(K.o o hd).2.1,hv];decide)]
    have m:=ah hm;clear hm;have D:=ah hd;clear hd;go_wp2;go_end0;exact ⟨rfl,L,Lm.refl L,by rw [m.o];exact p.o,Keeps.refl _ _⟩
   ·have hm:h.mark n=h.Hg n:=by
     unfold Hp.mark;rw [hd];simp only;rw [if_pos (by rw [<-(K.o o hd).2.1,hv])];rfl
    have m:=ah hm;clear hm;have D:=ah hd;clear hd;have E:=ah (p.o.M0 n 1 (.int .i64 2) (fun o=>{ o with col:=2 }) (by decide) D.o ⟨rfl,rfl⟩ (fun r i=>by
     unfold kY;by_cases x:i=1
     ·subst x;simp
     ·simp [x]))
    obtain ⟨ag,u,B,l⟩:∃ ag u B,L.li 7=.slice ag u B:=by
     obtain ⟨x,y,z⟩:=aF (p.o.li 7 (by simp [eO]));exact ⟨x,_,y,z⟩
    have c7:(w.setCell ⟨L.ob n,1,none⟩ (.int .i64 2)).cell? ⟨L.H,7,none⟩=some (.slice ag u B):=by rw [<-l];exact E.o.1.hp.c 7
    have X:=ah l;clear l;go_upto_region 4 with (fail)
    generalize w.setCell ⟨L.ob n,1,none⟩ (.int .i64 2)=w5 at *;go_wp2_with (first
     |(at_builtin;refine E.o.1.app 7 (by simp [eO]) n rfl _ _ rfl X.o.symm rfl A ?_;intro gq cq w1 b k q;have cR:=b.c 7;have Z:=b.Nq 7;have Y:=ah k;have W:=ah q;clear b k q)
     |go_in)
    go_end0;exact ⟨rfl,_,Lm.set L 7 (.inl rfl) _,by rw [m.o];exact Y.o,E.o.2.trans W.o⟩
end
section
variable {S:Nat->Prop} {base:Nat} {h:Hp} {v:Value} {w:World}
theorem nA {b o:Nat} {sp:Option Nat} (h:w.cell? ⟨b,o,sp⟩=some v):b<w.heap.size:=by
 rcases Nat.lt_or_ge b w.heap.size with g|g
 ·exact g
 ·exfalso
  unfold World.cell? at h;rw [Array.getElem?_eq_none g] at h;cases h
theorem Af (a:h.ob 0=none) (v:HV):h.Hz v=h.mark (vr v):=by
 have hm:h.mark 0=h:=by unfold Hp.mark;rw [a]
 unfold Hp.Hz vr;split<;>simp_all
def Rg (h:Hp) (v:HV):Prop:=∀ r∈bQ v,1<=r/\r<h.objs.length
theorem Rg.vr {h:Hp} {v:HV} (r:Rg h v) (hp:1<=h.objs.length):vr v<h.objs.length:=by
 unfold Go.Proofs.YtbpcdfbmnklcjaaGreatDoor.vr;split
 ·exact (r _ (by simp [bQ])).2
 ·omega
theorem Rg.of {v:HV} (a:h.ob 0=none) (b:∀ r∈bQ v,h.Lv r):Rg h v:=by
 intro r hr;obtain ⟨o,e⟩:=b r hr;refine ⟨?_,Hp.Hy e⟩;rcases Nat.eq_zero_or_pos r with c|c
 ·subst c;rw [a] at e;cases e
 ·exact c
theorem EB {v:HV} (r:Rg h v):h.ME v=(if vr v=0 then false else h.M4 (vr v)):=by
 unfold Hp.ME vr;split
 ·rename_i n
  have:=(r n (by simp [bQ])).1;show h.M4 n=if n=0 then false else h.M4 n
  rw [if_neg (by omega)]
 ·simp
def vA (v:HV):Value:=.agg #[.int .i64 (vk v),.int .i64 (vi v),.int .u64 0,.string ByteArray.empty,.int .i64 (vr v)]
theorem fE {L:SM} (a:MW base S h L w) (s:Sm h) (b:h.ob 0=none) (v:HV) (g:vr v<h.objs.length):
 Calls Tryz.prog 88 #[.pointer (some ⟨L.H,0,none⟩),.agg #[.int .i64 (vk v),.int .i64 (vi v),.int .u64 0,.string ByteArray.empty,.int .i64 (vr v)]] w fun e w'=>e=.returned (.tuple #[])/\∃ L',Lm L L'/\MW base S (h.Hz v) L' w'/\Keeps w w' S:=by
 rw [Af b];generalize vr v=n at *;have j:=ah (jQ (a.alloc (.cells #[.int .i64 (vk v),.int .i64 (vi v),.int .u64 0,.string ByteArray.empty,.int .i64 (n:Int)] 95)) s b n g);have p:=ah a.up;clear a;go_enter Tryz.func88,Tryz.ntmps88;go_wp2_with fail;refine j.o.mono ?_;rintro e w1 ⟨rfl,i,f,d,c⟩;have m:=ah f;have l:=ah d;have k:=ah c;clear f d c;go_wp2;go_end0;exact ⟨rfl,i,m.o,l.o,(Keeps.of (aU w _) (au _) S).trans k.o⟩
theorem f_ {L:SM} (a:MW base S h L w) (v:HV) (hr:Rg h v) (A:h.objs.length<=5001) (hp:1<=h.objs.length):
 Calls Tryz.prog 119 #[.pointer (some ⟨L.H,0,none⟩),.agg #[.int .i64 (vk v),.int .i64 (vi v),.int .u64 0,.string ByteArray.empty,.int .i64 (vr v)]] w fun e w'=>e=.returned (.bool (h.ME v))/\Below w.heap.size w w':=by
 rw [EB hr];have q:=hr.vr hp;clear hr;generalize vr v=n at *;have b:=aU w (.cells #[.int .i64 (vk v),.int .i64 (vi v),.int .u64 0,.string ByteArray.empty,.int .i64 (n:Int)] 95);have y:=ah b;by_cases t:n=0
 ·subst t
  clear b;go_enter Tryz.func119,Tryz.ntmps119;go_wp2_with fail;go_quiet (fail);go_wp2;go_ret;exact ⟨rfl,aC y.o _⟩
 ·obtain ⟨g,m,l,s,f⟩:=a.slot (by omega)
  have j:=f n q;obtain ⟨r,kd,c,md,ev,fn,d,k,i⟩:=a.any q;have x:w.cell? ⟨L.H,0,none⟩=some (.slice (some ⟨g,0,none⟩) h.objs.length m):=by rw [<-l];exact a.hp.c 0
  have u:w.cell? ⟨L.ob n,1,none⟩=some (.int .i64 c):=d.c 1;have hH:=a.hp.lt;have B:=nA j;have hO:=d.lt;have d0:=(b.cell (p:=⟨L.H,0,none⟩) hH).trans x;have d1:=(b.cell (p:=⟨L.ob n,1,none⟩) hO).trans u;have C:=(b.cell (p:=⟨g,n,none⟩) B).trans j;have z:((n:Int) !=0)=true:=by simp;omega
  rw [if_neg t,<-k];have HI:=ah (fun (w9:World) h=>gW w9 (L.ob n) c h);clear f i k d a b x u j;go_enter Tryz.func119,Tryz.ntmps119;go_wp2_with fail;go_quiet ((go_at_call 91;exact Calls.quiet_of_same (HI.out _ (by assumption))));go_wp2;go_ret;exact ⟨rfl,aC y.o _⟩
end
end Go.Proofs.YtbpcdfbmnklcjaaGreatDoor
