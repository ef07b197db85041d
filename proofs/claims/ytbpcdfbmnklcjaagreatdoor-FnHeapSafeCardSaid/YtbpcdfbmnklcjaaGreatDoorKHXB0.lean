import Derived.Test.YtbpcdfbmnklcjaaGreatDoorKJS6
import Derived.Test.YtbpcdfbmnklcjaaGreatDoorKHWG
import Derived.Test.YtbpcdfbmnklcjaaGreatDoorKHWC
import Derived.Test.YtbpcdfbmnklcjaaGreatDoorKHYY0
import Derived.Test.YtbpcdfbmnklcjaaGreatDoorKHWE
namespace Go.Proofs.YtbpcdfbmnklcjaaGreatDoor
set_option linter.unusedVariables false
section
variable {g h:Hp} {n:Nat} {root:List Bool}
structure Ed where
 t:Nat
 num:Int
 key:Nat
 val:Nat
 ob:Bool
structure Bk where
 modes:List Int
 roots:List Bool
 edges:List Ed
def Ed.sm (e x:Ed):Bool:=e.t==x.t&&e.ob==x.ob&&e.key==x.key&&e.num==x.num
def Ed.k (e:Ed):HV:=if e.ob then some (.inr e.key) else some (.inl e.num)
def iE:List Ed->Ed->List Ed
 | [],x=>[x]
 |e::l,x=>if e.sm x then { e with val:=x.val }::l else e::iE l x
def Bk.act (b:Bk) (kd A B C:Int):Bk:=
 if kd=1 then ⟨b.modes++[A],b.roots++[true],b.edges⟩
 else if kd=2 then ⟨b.modes,b.roots,iE b.edges ⟨A.toNat,B,0,C.toNat,false⟩⟩
 else if kd=3 then ⟨b.modes,b.roots,iE b.edges ⟨A.toNat,0,B.toNat,C.toNat,true⟩⟩
 else if kd=4 then ⟨b.modes,dJ b.roots A.toNat B,b.edges⟩
 else b
def Bk.new:Bk:=⟨[0],[false],[]⟩
def Bk.Cl (b:Bk) (S:Nat->Prop):Prop:=(∀ n,b.roots[n]?=some true->S n)/\∀ e∈b.edges,S e.t->e.val≠0->∀ m,b.modes[e.t]?=some m->
 (e.ob=true->m=0->S e.key)/\(m<2->m=0∨e.ob=false∨S e.key->S e.val)
def Bk.Rc (b:Bk) (n:Nat):Prop:=∀ S,b.Cl S->S n
theorem sD {l:List Ed} {x e:Ed} (h:e∈iE l x):(e∈l/\e.sm x=false)∨(e.t=x.t/\e.num=x.num/\e.key=x.key/\e.val=x.val/\e.ob=x.ob)∨(e∈l/\∃ l1 l2 y,l=l1++y::l2/\y.sm x=true/\e∈l2):=by
 induction l with
 |nil=>simp [iE] at h;subst h;exact .inr (.inl ⟨rfl,rfl,rfl,rfl,rfl⟩)
 |cons a l ih=>
  unfold iE at h;split at h
  ·rename_i c
   rcases eT.1 h with h|h
   ·subst h
    simp [Ed.sm] at c;exact .inr (.inl ⟨c.1.1.1,c.2,c.1.2,rfl,c.1.1.2⟩)
   ·exact .inr (.inr ⟨List.mem_cons_of_mem _ h,[],l,a,rfl,c,h⟩)
  ·rename_i c
   rcases eT.1 h with h|h
   ·subst h;exact .inl ⟨List.mem_cons_self,by simpa using c⟩
   ·rcases ih h with ⟨b,d⟩|b|⟨b,l1,l2,y,d,i,f⟩
    ·exact .inl ⟨List.mem_cons_of_mem _ b,d⟩
    ·exact .inr (.inl b)
    ·exact .inr (.inr ⟨List.mem_cons_of_mem _ b,a::l1,l2,y,by rw [d];rfl,i,f⟩)
def Ed.df (e x:Ed):Prop:=e.sm x=false/\x.sm e=false
theorem Ed.KT (e x:Ed):e.sm x=x.sm e:=by
 unfold Ed.sm;rw [Bool.beq_comm (a:=e.t),Bool.beq_comm (a:=e.ob),Bool.beq_comm (a:=e.key),Bool.beq_comm (a:=e.num)]
theorem Ed.KE {e x y:Ed} (h:e.sm x=true) (a:x.sm y=true):e.sm y=true:=by
 simp [Ed.sm] at h a ⊢;exact ⟨⟨⟨h.1.1.1.trans a.1.1.1,h.1.1.2.trans a.1.1.2⟩,h.1.2.trans a.1.2⟩,h.2.trans a.2⟩
theorem BO {l:List Ed} {x:Ed} (h:l.Pairwise (fun a b=>a.sm b=false)):(iE l x).Pairwise (fun a b=>a.sm b=false)/\∀ e∈iE l x,(e∈l/\e.sm x=false)∨(e.t=x.t/\e.num=x.num/\e.key=x.key/\e.val=x.val/\e.ob=x.ob):=by
 have key:∀ e∈iE l x,(e∈l/\e.sm x=false)∨(e.t=x.t/\e.num=x.num/\e.key=x.key/\e.val=x.val/\e.ob=x.ob):=by
  intro e j;rcases sD j with c|c|⟨c,p,o,y,f,m,k⟩
  ·exact .inl c
  ·exact .inr c
  ·refine .inl ⟨c,?_⟩
   rw [f,List.pairwise_append] at h;have:=(List.pairwise_cons.1 h.2.1).1 e k;cases q:e.sm x with
   |false=>rfl
   |true=>
    rw [Ed.KT] at q;rw [Ed.KE m q] at this;cases this
 refine ⟨?_,key⟩;clear key
 induction l with
 |nil=>simp [iE]
 |cons a l ih=>
  obtain ⟨i,f⟩:=List.pairwise_cons.1 h;unfold iE;split
  ·exact List.pairwise_cons.2 ⟨fun b hb=>i b hb,f⟩
  ·rename_i c
   refine List.pairwise_cons.2 ⟨fun b hb=>?_,ih f⟩;rcases sD hb with d|d|⟨d,_⟩
   ·exact i b d.1
   ·have:a.sm b=a.sm x:=by unfold Ed.sm;rw [d.1,d.2.1,d.2.2.1,d.2.2.2.2]
    rw [this]
    simpa using c
   ·exact i b d
structure JJ (b:Bk) (h:Hp) (root:List Bool):Prop where
 ml:b.modes.length=h.objs.length
 rt:b.roots=root
 md:∀ n o,h.ob n=some o->b.modes[n]?=some (o.mode:Int)
 rg:∀ e∈b.edges,e.t<h.objs.length/\e.key<h.objs.length/\e.val<h.objs.length
 nf:∀ e∈b.edges,(e.ob=true->e.num=0)/\(e.ob=false->e.key=0)
 uq:b.edges.Pairwise (fun a b=>a.sm b=false)
 j:∀ e∈b.edges,e.val≠0->∀ o,h.ob e.t=some o->¬ h.IG o->(e.k,cO e.val)∈o.es∨2<=o.mode∨(o.mode=1/\e.ob=true/\¬ h.Ok e.key)
theorem JJ.cs {b:Bk} (x:JJ b h root) (c:Cs h g):JJ b g root:=by
 refine ⟨x.ml.trans c.len.symm,x.rt,fun n o e=>?_,fun e he=>by rw [c.len];exact x.rg e he,x.nf,x.uq,fun e he hv o' e' nd=>?_⟩
 ·obtain ⟨o1,d,f⟩:=c.md n o e
  rw [f];exact x.md n o1 d
 ·obtain ⟨o,d,hd⟩:=c.ok e.t ⟨o',e',nd⟩
  obtain ⟨o1,f,s⟩:=c.md e.t o' e';rw [d] at f;cases f;have p:(cO e.val).isSome=true:=by rw [gM hv];rfl
  rcases x.j e he hv o d hd with k|k|⟨r,m,l⟩
  ·rcases c.es e.t o' o e' nd d _ k p with q|q|⟨q1,kk,a,i⟩
   ·exact .inl q
   ·exact .inr (.inl (by omega))
   ·refine .inr (.inr ⟨by omega,?_⟩)
    unfold Ed.k at a;split at a
    ·rename_i ho
     simp at a;subst a;exact ⟨ho,i⟩
    ·simp at a
  ·exact .inr (.inl (by omega))
  ·exact .inr (.inr ⟨by omega,m,fun z=>l (c.ok _ z)⟩)
theorem JJ.ok {b:Bk} (x:JJ b h root) (i:Inv h) (ho:h.roots=dR 0 root) (r:b.Rc n):h.Ok n:=by
 refine r h.Ok ⟨fun n hn=>?_,fun e he ht hv m hm=>?_⟩
 ·rw [x.rt] at hn
  exact i.ls n (.inl (by rw [ho];exact dP.2 hn))
 ·obtain ⟨o,p,nd⟩:=ht
  have a:=x.md e.t o p;rw [hm] at a;simp only [Option.some.injEq] at a;have q:=x.j e he hv o p nd;have d:(e.k,cO e.val)∈o.es->∀ r∈dw (e.k,cO e.val),h.Ok r:=fun c r hr=>i.nc e.t o p nd _ c r hr;have f:e.val∈dw (e.k,cO e.val):=by rw [gM hv];simp [dw,bQ]
  constructor
  ·intro l y
   rcases q with k|k|k
   ·exact d k e.key (by simp [dw,Ed.k,l,bQ])
   ·omega
   ·omega
  ·intro w v
   rcases q with k|k|⟨z,u,s⟩
   ·exact d k _ f
   ·omega
   ·rcases v with c|c|c
    ·omega
    ·rw [u] at c;cases c
    ·exact (s c).elim
end
end Go.Proofs.YtbpcdfbmnklcjaaGreatDoor
namespace Go.Proofs.YtbpcdfbmnklcjaaGreatDoor
open Go Go.RowKit
set_option linter.unusedVariables false
section
variable {A C kd ref:Int} {R base hand hand0 k n:Nat} {S:Nat->Prop} {rv:Value} {w:World}
structure AM where
 code:Int
 id:Int
 h:Hp
 root:List Bool
def vG (h:Hp) (n:Nat):Bool:=match h.ob n with
 |some o=>o.fin
 |none=>false
def fH (h:Hp) (root:List Bool) (kd A B C:Int):AM:=
 if kd=1 then (if A<0∨3<A then ⟨2,0,h,root⟩ else ⟨0,(h.objs.length:Int),((h.make A.toNat).G9 (dR 0 (root++[true]))).I6,root++[true]⟩)
 else if kd=2 then ⟨0,0,h.put A.toNat (some (.inl B)) (cO C.toNat),root⟩
 else if kd=3 then ⟨0,0,h.put A.toNat (cO B.toNat) (cO C.toNat),root⟩
 else if kd=4 then (if B≠0/\B≠1 then ⟨2,0,h,root⟩ else ⟨0,0,h.G9 (dR 0 (dJ root A.toNat B)),dJ root A.toNat B⟩)
 else if kd=5 then (if vG h A.toNat then ⟨4,0,h,root⟩ else ⟨0,0,h.Iu A.toNat,root⟩)
 else if kd=6 then (if A<1∨1000000<A then ⟨2,0,h,root⟩ else ⟨0,0,Hp.step A h,root⟩)
 else if kd=7 then ⟨0,0,h.full,root⟩
 else if kd=8 then ⟨if h.pending=[] then 4 else 0,((h.pending.getLast?.getD 0:Nat):Int),h.pop,root⟩
 else if kd=9 then ⟨0,0,h,root⟩
 else ⟨1,0,h,root⟩
structure Jl (k:Nat) (h:Hp) (root:List Bool) (hand:Nat):Prop where
 g:Gd h
 b:Bd k h
 l:root.length=h.objs.length
 o:h.roots=dR 0 root
 r0:root[0]?=some false
 hd:hand=0∨h.Ok hand
theorem fJ.ok {h:Hp} {root:List Bool} (x:Jl k h root hand) (a:fJ h hand ref):∃ n:Nat,ref=(n:Int)/\1<=n/\n<h.objs.length/\h.Ok n:=by
 obtain ⟨n,f,e,d,b⟩:=a;refine ⟨n,f,e,d,?_⟩;rcases b with b|b
 ·subst b
  rcases x.hd with c|c
  ·omega
  ·exact c
 ·exact Hp.Jm x.g.i b
theorem jm {h:Hp} {root:List Bool} (x:Jl k h root hand) (a:C=0∨fJ h hand C):∃ c:Nat,C=(c:Int)/\∀ r∈bQ (cO c),h.Ok r:=by
 rcases a with rfl|a
 ·exact ⟨0,rfl,fun r hr=>by simp [cO,bQ] at hr⟩
 ·obtain ⟨n,d,f,e,b⟩:=a.ok x
  refine ⟨n,d,fun r hr=>?_⟩;rw [gM (by omega)] at hr;simp [bQ] at hr;subst hr;exact b
theorem tQ {h:Hp} {root:List Bool} {B:Int} (i:Inv h) (o:h.roots=dR 0 root) (a:h.Ok n) (b:n<root.length):∀ m∈dR 0 (dJ root n B),h.Ok m:=by
 intro m hm;rw [dP] at hm;unfold dJ at hm;rw [bY] at hm;split at hm
 ·rename_i c;rw [<-c];exact a
 ·exact i.ls m (.inl (by rw [o];exact dP.2 hm))
theorem uP {h:Hp} {root:List Bool} {B:Int} (x:Jl k h root hand) (hk:k+1<=5000) (j:h.freed=[]) (D:bG h hand kd A B C):
 Jl (k+1) (fH h root kd A B C).h (fH h root kd A B C).root 0/\(kd=8->(fH h root kd A B C).code=0->∃ n:Nat,(fH h root kd A B C).id=(n:Int)/\(fH h root kd A B C).h.Ok n):=by
 have a:Jl (k+1) h root 0:=⟨x.g,x.b.up,x.l,x.o,x.r0,.inl rfl⟩
 unfold fH;by_cases T:kd=1
 ·subst T
  rw [if_pos rfl];refine ⟨?_,fun c=>absurd c (by decide)⟩;split
  ·exact a
  ·rename_i hA
   have hm:A.toNat<=3:=by omega
   obtain ⟨d,b1⟩:=x.g.make x.b hk j hm;have t:(root++[true]).length=root.length+1:=by simp
   have G:(h.make A.toNat).objs.length=h.objs.length+1:=by show (h.objs++[_]).length=_;simp
   obtain ⟨V,b2⟩:=d.G9 b1 hk j (iB x.g.i hm x.l x.o) (by
    have y:=gT (root++[true]) 0;rw [t,x.l] at y;have U:=b1.len;omega)
   have cl:=V.JQ;refine ⟨V.I6,b2.cl cl,?_,?_,?_,.inl rfl⟩
   ·rw [cl.len]
    show (root++[true]).length=(h.make A.toNat).objs.length;rw [t,G,x.l]
   ·rw [cl.rt];rfl
   ·show (root++[true])[0]?=some false
    rw [dF (by rw [x.l];exact x.g.i.ps)];exact x.r0
 rw [if_neg T];by_cases Q:kd=2
 ·subst Q
  rw [if_pos rfl];refine ⟨?_,fun c=>absurd c (by decide)⟩;obtain ⟨K,J⟩:=bG.two.1 D;obtain ⟨n,rfl,_,_,f⟩:=K.ok x;obtain ⟨c,rfl,v⟩:=jm x J;simp only [Int.toNat_natCast];obtain ⟨d,b1⟩:=x.g.put x.b hk j (q:=some (.inl B)) f (fun r hr=>by simp [bQ] at hr) v;obtain ⟨p1,E⟩:=iQ h n (some (.inl B)) (cO c);exact ⟨d,b1,x.l.trans p1.symm,E.trans x.o,x.r0,.inl rfl⟩
 rw [if_neg Q];by_cases P:kd=3
 ·subst P
  rw [if_pos rfl];refine ⟨?_,fun c=>absurd c (by decide)⟩;obtain ⟨K,W,J⟩:=bG.three.1 D;obtain ⟨n,rfl,_,_,f⟩:=K.ok x;obtain ⟨m,rfl,hm⟩:=jm x (.inr W);obtain ⟨c,rfl,v⟩:=jm x J;simp only [Int.toNat_natCast];obtain ⟨d,b1⟩:=x.g.put x.b hk j (q:=cO m) f hm v;obtain ⟨p1,E⟩:=iQ h n (cO m) (cO c);exact ⟨d,b1,x.l.trans p1.symm,E.trans x.o,x.r0,.inl rfl⟩
 rw [if_neg P];by_cases N:kd=4
 ·subst N
  rw [if_pos rfl];refine ⟨?_,fun c=>absurd c (by decide)⟩;obtain ⟨n,rfl,F,p,f⟩:=((bG.four (.inl rfl)).1 D).ok x;simp only [Int.toNat_natCast];split
  ·exact a
  ·have H:(dJ root n B).length=root.length:=by unfold dJ;rw [bN]
   obtain ⟨d,b1⟩:=x.g.G9 x.b.up hk j (tQ (B:=B) x.g.i x.o f (by rw [x.l];exact p)) (by
    have y:=gT (dJ root n B) 0;rw [H,x.l] at y;have U:=x.b.len;omega)
   refine ⟨d,?_,H.trans x.l,rfl,?_,.inl rfl⟩
   ·exact (x.g.G9 x.b.up hk j (tQ (B:=B) x.g.i x.o f (by rw [x.l];exact p)) (by
     have y:=gT (dJ root n B) 0;rw [H,x.l] at y;have U:=x.b.len;omega)).2
   ·show (dJ root n B)[0]?=some false
    unfold dJ;rw [bY,if_neg (by omega)];exact x.r0
 rw [if_neg N];by_cases k5:kd=5
 ·subst k5
  rw [if_pos rfl];refine ⟨?_,fun c=>absurd c (by decide)⟩;obtain ⟨n,rfl,F,p,f⟩:=((bG.four (.inr rfl)).1 D).ok x;simp only [Int.toNat_natCast];split
  ·exact a
  ·obtain ⟨d,b1⟩:=x.g.Iu x.b hk j f
   exact ⟨d,b1,x.l.trans (fP h n).1.symm,(fP h n).2.trans x.o,x.r0,.inl rfl⟩
 rw [if_neg k5];by_cases M:kd=6
 ·subst M
  rw [if_pos rfl];refine ⟨?_,fun c=>absurd c (by decide)⟩;split
  ·exact a
  ·have cl:=x.g.JL (u:=A)
   exact ⟨x.g.step,(x.b.cl cl).up,x.l.trans cl.len.symm,cl.rt.trans x.o,x.r0,.inl rfl⟩
 rw [if_neg M];by_cases L:kd=7
 ·subst L
  rw [if_pos rfl];refine ⟨?_,fun c=>absurd c (by decide)⟩;have cl:=x.g.Kt;exact ⟨x.g.full,(x.b.cl cl).up,x.l.trans cl.len.symm,cl.rt.trans x.o,x.r0,.inl rfl⟩
 rw [if_neg L];by_cases z:kd=8
 ·subst z
  rw [if_pos rfl];obtain ⟨d,b1⟩:=x.g.pop x.b.up hk j;refine ⟨⟨d,b1,x.l,x.o,x.r0,.inl rfl⟩,fun _ v=>?_⟩;refine ⟨h.pending.getLast?.getD 0,rfl,?_⟩;have s:h.pending≠[]:=by
   intro e;simp [e] at v
  have hm:h.pending.getLast?.getD 0∈h.pending:=by
   rw [List.getLast?_eq_some_getLast s];exact List.getLast_mem s
  exact x.g.i.ls _ (.inr (.inl hm))
 rw [if_neg z];split
 ·rename_i X;exact ⟨a,fun c=>absurd c z⟩
 ·exact ⟨a,fun c=>absurd c z⟩
theorem Cr {h:Hp} {L:SM} {root:List Bool} (x:RW base S h L R hand rv root w) (ok:Jl k h root hand0) (hk:k+1<=5000) (z:h.freed=[]) (kd A B C:Int) (e:bG h hand0 kd A B C):
 Calls Tryz.prog 34 #[.pointer (some ⟨R,0,none⟩),.agg #[.int .i64 kd,.int .i64 A,.int .i64 B,.int .i64 C]] w (gF base S R hand rv w (fH h root kd A B C).code (fH h root kd A B C).id (fH h root kd A B C).h (fH h root kd A B C).root):=by
 unfold fH;by_cases y:kd=1
 ·subst y
  rw [if_pos rfl];have:=FL x ok.g ok.b hk z A B C A.toNat (fun hA=>by omega);split
  ·rename_i c;simpa [if_pos c] using this
  ·rename_i c;simpa [if_neg c] using this
 rw [if_neg y];by_cases v:kd=2
 ·subst v
  rw [if_pos rfl];obtain ⟨j,i⟩:=bG.two.1 e;obtain ⟨n,rfl,_,_,o,ho,-⟩:=j.ok ok;obtain ⟨c,rfl,D⟩:=jm ok i;simp only [Int.toNat_natCast];exact FI x ok.g ok.b ho B
 rw [if_neg v];by_cases u:kd=3
 ·subst u
  rw [if_pos rfl];obtain ⟨j,E,i⟩:=bG.three.1 e;obtain ⟨n,rfl,_,_,o,ho,-⟩:=j.ok ok;obtain ⟨m,rfl,hm⟩:=jm ok (.inr E);obtain ⟨c,rfl,D⟩:=jm ok i;simp only [Int.toNat_natCast];exact E_ x ok.g ok.b ho
 rw [if_neg u];by_cases t:kd=4
 ·subst t
  rw [if_pos rfl];obtain ⟨n,rfl,d,a,-⟩:=((bG.four (.inl rfl)).1 e).ok ok;simp only [Int.toNat_natCast];have:=FD x ok.g.s.len d a B C;split
  ·rename_i c;simpa only [if_pos c] using this
  ·rename_i c;simpa only [if_neg c] using this
 rw [if_neg t];by_cases k5:kd=5
 ·subst k5
  rw [if_pos rfl];obtain ⟨n,rfl,d,a,o,ho,-⟩:=((bG.four (.inr rfl)).1 e).ok ok;simp only [Int.toNat_natCast];have:=Fa x ok.g ho B C;have f:vG h n=o.fin:=by unfold vG;rw [ho]
  rw [f];split
  ·rename_i c;simpa only [if_pos c] using this
  ·rename_i c;simpa only [if_neg c] using this
 rw [if_neg k5];by_cases r:kd=6
 ·subst r
  rw [if_pos rfl];have:=FN x ok.g A B C;split
  ·rename_i c;simpa only [if_pos c] using this
  ·rename_i c;simpa only [if_neg c] using this
 rw [if_neg r];by_cases q:kd=7
 ·subst q
  rw [if_pos rfl];exact Fy x ok.g A B C
 rw [if_neg q];by_cases p:kd=8
 ·subst p
  rw [if_pos rfl];exact ET x ok.g A B C
 rw [if_neg p];by_cases l:kd=9
 ·subst l
  rw [if_pos rfl];exact EW x A B C
 rw [if_neg l];exact DK x kd A B C (by omega)
end
section
variable {A C kd:Int} {R base k:Nat} {S:Nat->Prop} {f:Nat->Value} {rv:Value} {w:World}
structure An where
 code:Int
 id:Int
 live:Int
 bytes:Int
 state:Int
 pend:Int
 freed:List Nat
def An.no (c:Int):An:=⟨c,0,0,0,0,0,[]⟩
structure Rn where
 h:Hp
 root:List Bool
 hand:Nat
def Rn.Ok (k:Nat) (r:Rn):Prop:=Jl k r.h r.root r.hand
open Classical in
noncomputable def cK (r:Rn) (kd A B C:Int):An × Rn:=
 if bG r.h r.hand kd A B C then
  (let m:=fH r.h.forget r.root kd A B C
   if m.code≠0 then (An.no m.code,⟨m.h,m.root,0⟩)
   else (⟨0,m.id,(m.h.live:Int),(m.h.bytes:Int),(m.h.state:Int),(m.h.pending.length:Int),m.h.freed⟩,⟨m.h,m.root,if kd=8 then m.id.toNat else 0⟩))
 else (An.no 3,⟨r.h,r.root,0⟩)
theorem dO {h:Hp} {hand:Nat} {B:Int}:bG h.forget hand kd A B C↔bG h hand kd A B C:=Iff.rfl
theorem Jl.forget {k:Nat} {h:Hp} {root:List Bool} {hand:Nat} (x:Jl k h root hand) (hk:k<=5000):Jl k h.forget root hand:=by
 obtain ⟨a,b1⟩:=x.g.forget x.b hk;exact ⟨a,b1,x.l,x.o,x.r0,x.hd⟩
theorem qV {r:Rn} (x:r.Ok k) (hk:k+1<=5000) (kd A B C:Int):(cK r kd A B C).2.Ok (k+1):=by
 unfold cK;split
 ·rename_i h
  obtain ⟨a,j⟩:=uP (x.forget (by omega)) hk rfl (dO.2 h);simp only;split
  ·exact a
  ·rename_i i
   refine ⟨a.g,a.b,a.l,a.o,a.r0,?_⟩;by_cases c:kd=8
   ·obtain ⟨n,e,d⟩:=j c (by simpa using i)
    right;show Hp.Ok _ (if kd=8 then _ else 0);rw [if_pos c,e,Int.toNat_natCast];exact d
   ·left
    show (if kd=8 then _ else 0)=0;rw [if_neg c]
 ·exact ⟨x.g,x.b.up,x.l,x.o,x.r0,.inl rfl⟩
theorem RW.Kw {h:Hp} {L:SM} {hand:Nat} {root:List Bool} (x:RW base S h L R hand rv root w) (n:Nat):RW base S h L R n rv root (w.setCell ⟨R,2,none⟩ (.int .i64 (n:Int)))/\Keeps w (w.setCell ⟨R,2,none⟩ (.int .i64 (n:Int))) (fun b=>b=R):=by
 have c:Keeps w (w.setCell ⟨R,2,none⟩ (.int .i64 (n:Int))) (fun b=>b=R):=Keeps.setCell (S:=fun b=>b=R) (Keeps.refl w _) rfl _;refine ⟨⟨⟨x.x.a.out (c.mono (fun b e=>e ▸ x.nR)),?_,aj x.x.v c (fun g hg e=>ak x.x.v x.x.r (by decide) (e ▸ hg)),x.x.l,x.x.o⟩,x.nR,x.nb,x.r0⟩,c⟩;refine (x.x.r.set (j:=2) (by omega) _).congr (fun j hj=>?_);have:j=0∨j=1∨j=2:=by omega
 rcases this with rfl|rfl|rfl<;>rfl
theorem RW.forget {base:Nat} {S:Nat->Prop} {h:Hp} {L:SM} {R hand:Nat} {rv:Value} {root:List Bool} {w:World} (x:RW base S h L R hand rv root w):∃ L',L'.H=L.H/\RW base S h.forget L' R hand rv root (w.setCell ⟨L.H,15,none⟩ (.slice none 0 0))/\Keeps w (w.setCell ⟨L.H,15,none⟩ (.slice none 0 0)) S:=by
 obtain ⟨-,c,b⟩:=x.x.a.JV (w1:=w) 15 (by simp [eO]) (Keeps.refl w _) (.slice none 0 0) [] ⟨rfl,.inl ⟨rfl,rfl⟩⟩ (fun g e=>by simp [Value.ownBlock] at e);have e:dD h 15 []=h.forget:=rfl;rw [e] at c;exact ⟨{ L with li:=fun j=>if j=15 then .slice none 0 0 else L.li j },rfl,x.heap c rfl b rfl rfl,b⟩
theorem RW.less {base:Nat} {S:Nat->Prop} {h:Hp} {L:SM} {R hand:Nat} {rv:Value} {root:List Bool} {w:World} (x:RW base S h L R hand rv root w) (v:Value) (c:∀ g,v.ownBlock=some g->Free h L g/\g<w.heap.size):RW base (fun b=>S b/\v.ownBlock≠some b) h L R hand rv root w:=
 ⟨⟨x.x.a.less v c,x.x.r,x.x.v,x.x.l,x.x.o⟩,fun e=>x.nR e.1,fun g hg e=>x.nb g hg e.1,x.r0⟩
def mO (a:An) (fv:Value):List Value:=[.int .i64 a.code,.int .i64 a.id,.int .i64 a.live,.int .i64 a.bytes,.int .i64 a.state,.int .i64 a.pend,fv]
def FR (base:Nat) (S:Nat->Prop) (R:Nat) (rv:Value) (w:World) (a:An) (r:Rn) (e:Ending) (w':World):Prop:=
 ∃ fv,e=.returned (.agg (mO a fv).toArray)/\w'.ownsRow w.heap.size 3 1 fv a.freed.length (dZ a.freed)/\Keeps w w' (Zs S R rv)/\
   ∃ S' L' rv',RW base S' r.h L' R r.hand rv' r.root w'/\(∀ b,S' b->S b)/\(∀ g,rv'.ownBlock=some g->rv.ownBlock=some g∨S g)/\∀ g,fv.ownBlock=some g->¬ S' g
theorem Ev (wr:World):aD (wr.alloc (.cells #[.int .i64 0,.int .i64 0,.int .i64 0,.int .i64 0,.int .i64 0,.int .i64 0,.slice none 0 0] 36)) 36 wr.heap.size 7 (fun j=>(mO (An.no 0) (.slice none 0 0)).getD j (.bool false)):=by
 have h:=aD.mk' wr 36 #[.int .i64 0,.int .i64 0,.int .i64 0,.int .i64 0,.int .i64 0,.int .i64 0,.slice none 0 0];refine aD.congr (show aD _ _ _ 7 _ from h) (fun j hj=>?_);have:j=0∨j=1∨j=2∨j=3∨j=4∨j=5∨j=6:=by omega
 rcases this with rfl|rfl|rfl|rfl|rfl|rfl|rfl<;>rfl
def o_ (w:World) (g:Nat) (x0 x1 x2 x3 x4 x5 x6:Value):World:=((((((w.setCell ⟨g,0,none⟩ x0).setCell ⟨g,1,none⟩ x1).setCell ⟨g,2,none⟩ x2).setCell ⟨g,3,none⟩ x3).setCell ⟨g,4,none⟩ x4).setCell ⟨g,5,none⟩ x5).setCell ⟨g,6,none⟩ x6
theorem gX {g:Nat} (h:aD w 36 g 7 f) (x0 x1 e d c b a:Value):aD (o_ w g x0 x1 e d c b a) 36 g 7 (fun j=>[x0,x1,e,d,c,b,a].getD j (.bool false)):=by
 have i:=((((((h.set (j:=0) (by omega) x0).set (j:=1) (by omega) x1).set (j:=2) (by omega) e).set (j:=3) (by omega) d).set (j:=4) (by omega) c).set (j:=5) (by omega) b).set (j:=6) (by omega) a;refine aD.congr i (fun j hj=>?_);have:j=0∨j=1∨j=2∨j=3∨j=4∨j=5∨j=6:=by omega
 rcases this with rfl|rfl|rfl|rfl|rfl|rfl|rfl<;>rfl
theorem fQ (w:World) (g:Nat) (x0 x1 h e d c a:Value):Keeps w (o_ w g x0 x1 h e d c a) (fun b=>b=g):=
 ((((((Keeps.setCell (S:=fun b=>b=g) (Keeps.refl w _) (g:=g) (j:=0) rfl x0).setCell (g:=g) (j:=1) rfl x1).setCell (g:=g) (j:=2) rfl h).setCell (g:=g) (j:=3) rfl e).setCell (g:=g) (j:=4) rfl d).setCell (g:=g) (j:=5) rfl c).setCell (g:=g) (j:=6) rfl a
end
end Go.Proofs.YtbpcdfbmnklcjaaGreatDoor
