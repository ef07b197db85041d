import Derived.Test.YtbpcdfbmnklcjaaGreatDoorKHV
import Derived.Test.YtbpcdfbmnklcjaaGreatDoorKHWG
import Derived.Test.YtbpcdfbmnklcjaaGreatDoorKHWC
import Derived.Test.YtbpcdfbmnklcjaaGreatDoorKHZD
import Derived.Test.YtbpcdfbmnklcjaaGreatDoorKHZO
namespace Go.Proofs.YtbpcdfbmnklcjaaGreatDoor
set_option linter.unusedVariables false
section
variable {g h:Hp} {n:Nat} {root:List Bool}
structure Ed where
 t:Nat
 num:Int
 key:Nat
 val:Nat
 ob:Bool
structure Bk where
 modes:List Int
 roots:List Bool
 edges:List Ed
def Ed.sm (e x:Ed):Bool:=e.t==x.t&&e.ob==x.ob&&e.key==x.key&&e.num==x.num
def Ed.k (e:Ed):HV:=if e.ob then some (.inr e.key) else some (.inl e.num)
def iC:List Ed->Ed->List Ed
 | [],x=>[x]
 |e::l,x=>if e.sm x then { e with val:=x.val }::l else e::iC l x
def Bk.act (b:Bk) (kd A B C:Int):Bk:=
 if kd=1 then ⟨b.modes++[A],b.roots++[true],b.edges⟩
 else if kd=2 then ⟨b.modes,b.roots,iC b.edges ⟨A.toNat,B,0,C.toNat,false⟩⟩
 else if kd=3 then ⟨b.modes,b.roots,iC b.edges ⟨A.toNat,0,B.toNat,C.toNat,true⟩⟩
 else if kd=4 then ⟨b.modes,dJ b.roots A.toNat B,b.edges⟩
 else b
def Bk.new:Bk:=⟨[0],[false],[]⟩
def Bk.Cl (b:Bk) (S:Nat->Prop):Prop:=(∀ n,b.roots[n]?=some true->S n)/\∀ e∈b.edges,S e.t->e.val≠0->∀ m,b.modes[e.t]?=some m->
 (e.ob=true->m=0->S e.key)/\(m<2->m=0∨e.ob=false∨S e.key->S e.val)
def Bk.Rc (b:Bk) (n:Nat):Prop:=∀ S,b.Cl S->S n
theorem sM {l:List Ed} {x e:Ed} (h:e∈iC l x):(e∈l/\e.sm x=false)∨(e.t=x.t/\e.num=x.num/\e.key=x.key/\e.val=x.val/\e.ob=x.ob)∨(e∈l/\∃ l1 l2 y,l=l1++y::l2/\y.sm x=true/\e∈l2):=by
 induction l with
 |nil=>simp [iC] at h;subst h;exact .inr (.inl ⟨rfl,rfl,rfl,rfl,rfl⟩)
 |cons a l ih=>
  unfold iC at h;split at h
  ·rename_i c
   rcases jm.1 h with h|h
   ·subst h
    simp [Ed.sm] at c;exact .inr (.inl ⟨c.1.1.1,c.2,c.1.2,rfl,c.1.1.2⟩)
   ·exact .inr (.inr ⟨List.mem_cons_of_mem _ h,[],l,a,rfl,c,h⟩)
  ·rename_i c
   rcases jm.1 h with h|h
   ·subst h;exact .inl ⟨List.mem_cons_self,by simpa using c⟩
   ·rcases ih h with ⟨b,d⟩|b|⟨b,l1,l2,y,d,i,f⟩
    ·exact .inl ⟨List.mem_cons_of_mem _ b,d⟩
    ·exact .inr (.inl b)
    ·exact .inr (.inr ⟨List.mem_cons_of_mem _ b,a::l1,l2,y,by rw [d];rfl,i,f⟩)
def Ed.df (e x:Ed):Prop:=e.sm x=false/\x.sm e=false
theorem Ed.KY (e x:Ed):e.sm x=x.sm e:=by
 unfold Ed.sm;rw [Bool.beq_comm (a:=e.t),Bool.beq_comm (a:=e.ob),Bool.beq_comm (a:=e.key),Bool.beq_comm (a:=e.num)]
theorem Ed.KO {e x y:Ed} (h:e.sm x=true) (a:x.sm y=true):e.sm y=true:=by
 simp [Ed.sm] at h a ⊢;exact ⟨⟨⟨h.1.1.1.trans a.1.1.1,h.1.1.2.trans a.1.1.2⟩,h.1.2.trans a.1.2⟩,h.2.trans a.2⟩
theorem Db {l:List Ed} {x:Ed} (h:l.Pairwise (fun a b=>a.sm b=false)):(iC l x).Pairwise (fun a b=>a.sm b=false)/\∀ e∈iC l x,(e∈l/\e.sm x=false)∨(e.t=x.t/\e.num=x.num/\e.key=x.key/\e.val=x.val/\e.ob=x.ob):=by
 have key:∀ e∈iC l x,(e∈l/\e.sm x=false)∨(e.t=x.t/\e.num=x.num/\e.key=x.key/\e.val=x.val/\e.ob=x.ob):=by
  intro e j;rcases sM j with c|c|⟨c,p,o,y,f,m,k⟩
  ·exact .inl c
  ·exact .inr c
  ·refine .inl ⟨c,?_⟩
   rw [f,List.pairwise_append] at h;have:=(List.pairwise_cons.1 h.2.1).1 e k;cases q:e.sm x with
   |false=>rfl
   |true=>
    rw [Ed.KY] at q;rw [Ed.KO m q] at this;cases this
 refine ⟨?_,key⟩;clear key
 induction l with
 |nil=>simp [iC]
 |cons a l ih=>
  obtain ⟨i,f⟩:=List.pairwise_cons.1 h;unfold iC;split
  ·exact List.pairwise_cons.2 ⟨fun b hb=>i b hb,f⟩
  ·rename_i c
   refine List.pairwise_cons.2 ⟨fun b hb=>?_,ih f⟩;rcases sM hb with d|d|⟨d,_⟩
   ·exact i b d.1
   ·have:a.sm b=a.sm x:=by unfold Ed.sm;rw [d.1,d.2.1,d.2.2.1,d.2.2.2.2]
    rw [this]
    simpa using c
   ·exact i b d
structure JM (b:Bk) (h:Hp) (root:List Bool):Prop where
 ml:b.modes.length=h.objs.length
 rt:b.roots=root
 md:∀ n o,h.ob n=some o->b.modes[n]?=some (o.mode:Int)
 rg:∀ e∈b.edges,e.t<h.objs.length/\e.key<h.objs.length/\e.val<h.objs.length
 nf:∀ e∈b.edges,(e.ob=true->e.num=0)/\(e.ob=false->e.key=0)
 uq:b.edges.Pairwise (fun a b=>a.sm b=false)
 j:∀ e∈b.edges,e.val≠0->∀ o,h.ob e.t=some o->¬ h.IK o->(e.k,cO e.val)∈o.es∨2<=o.mode∨(o.mode=1/\e.ob=true/\¬ h.Ok e.key)
theorem JM.cs {b:Bk} (x:JM b h root) (c:Cs h g):JM b g root:=by
 refine ⟨x.ml.trans c.len.symm,x.rt,fun n o e=>?_,fun e he=>by rw [c.len];exact x.rg e he,x.nf,x.uq,fun e he hv o' e' nd=>?_⟩
 ·obtain ⟨o1,d,f⟩:=c.md n o e
  rw [f];exact x.md n o1 d
 ·obtain ⟨o,d,hd⟩:=c.ok e.t ⟨o',e',nd⟩
  obtain ⟨o1,f,s⟩:=c.md e.t o' e';rw [d] at f;cases f;have p:(cO e.val).isSome=true:=by rw [gH hv];rfl
  rcases x.j e he hv o d hd with k|k|⟨r,m,l⟩
  ·rcases c.es e.t o' o e' nd d _ k p with q|q|⟨q1,kk,a,i⟩
   ·exact .inl q
   ·exact .inr (.inl (by omega))
   ·refine .inr (.inr ⟨by omega,?_⟩)
    unfold Ed.k at a;split at a
    ·rename_i ho
     simp at a;subst a;exact ⟨ho,i⟩
    ·simp at a
  ·exact .inr (.inl (by omega))
  ·exact .inr (.inr ⟨by omega,m,fun z=>l (c.ok _ z)⟩)
theorem JM.ok {b:Bk} (x:JM b h root) (i:Inv h) (ho:h.roots=dR 0 root) (r:b.Rc n):h.Ok n:=by
 refine r h.Ok ⟨fun n hn=>?_,fun e he ht hv m hm=>?_⟩
 ·rw [x.rt] at hn
  exact i.ls n (.inl (by rw [ho];exact dQ.2 hn))
 ·obtain ⟨o,p,nd⟩:=ht
  have a:=x.md e.t o p;rw [hm] at a;simp only [Option.some.injEq] at a;have q:=x.j e he hv o p nd;have d:(e.k,cO e.val)∈o.es->∀ r∈dw (e.k,cO e.val),h.Ok r:=fun c r hr=>i.nc e.t o p nd _ c r hr;have f:e.val∈dw (e.k,cO e.val):=by rw [gH hv];simp [dw,bQ]
  constructor
  ·intro l y
   rcases q with k|k|k
   ·exact d k e.key (by simp [dw,Ed.k,l,bQ])
   ·omega
   ·omega
  ·intro w v
   rcases q with k|k|⟨z,u,s⟩
   ·exact d k _ f
   ·omega
   ·rcases v with c|c|c
    ·omega
    ·rw [u] at c;cases c
    ·exact (s c).elim
end
end Go.Proofs.YtbpcdfbmnklcjaaGreatDoor
namespace Go.Proofs.YtbpcdfbmnklcjaaGreatDoor
open Go Go.RowKit
set_option linter.unusedVariables false
section
variable {A C kd ref:Int} {R base hand hand0 k n:Nat} {S:Nat->Prop} {rv:Value} {w:World}
structure AM where
 code:Int
 id:Int
 h:Hp
 root:List Bool
def uY (h:Hp) (n:Nat):Bool:=match h.ob n with
 |some o=>o.fin
 |none=>false
def fF (h:Hp) (root:List Bool) (kd A B C:Int):AM:=
 if kd=1 then (if A<0∨3<A then ⟨2,0,h,root⟩ else ⟨0,(h.objs.length:Int),((h.make A.toNat).Hf (dR 0 (root++[true]))).I6,root++[true]⟩)
 else if kd=2 then ⟨0,0,h.put A.toNat (some (.inl B)) (cO C.toNat),root⟩
 else if kd=3 then ⟨0,0,h.put A.toNat (cO B.toNat) (cO C.toNat),root⟩
 else if kd=4 then (if B≠0/\B≠1 then ⟨2,0,h,root⟩ else ⟨0,0,h.Hf (dR 0 (dJ root A.toNat B)),dJ root A.toNat B⟩)
 else if kd=5 then (if uY h A.toNat then ⟨4,0,h,root⟩ else ⟨0,0,h.IB A.toNat,root⟩)
 else if kd=6 then (if A<1∨1000000<A then ⟨2,0,h,root⟩ else ⟨0,0,Hp.step A h,root⟩)
 else if kd=7 then ⟨0,0,h.full,root⟩
 else if kd=8 then ⟨if h.pending=[] then 4 else 0,((h.pending.getLast?.getD 0:Nat):Int),h.pop,root⟩
 else if kd=9 then ⟨0,0,h,root⟩
 else ⟨1,0,h,root⟩
structure Jo (k:Nat) (h:Hp) (root:List Bool) (hand:Nat):Prop where
 g:Gd h
 b:Bd k h
 l:root.length=h.objs.length
 o:h.roots=dR 0 root
 r0:root[0]?=some false
 hd:hand=0∨h.Ok hand
theorem fJ.ok {h:Hp} {root:List Bool} (x:Jo k h root hand) (a:fJ h hand ref):∃ n:Nat,ref=(n:Int)/\1<=n/\n<h.objs.length/\h.Ok n:=by
 obtain ⟨n,f,e,d,b⟩:=a;refine ⟨n,f,e,d,?_⟩;rcases b with b|b
 ·subst b
  rcases x.hd with c|c
  ·omega
  ·exact c
 ·exact Hp.Jq x.g.i b
theorem jw {h:Hp} {root:List Bool} (x:Jo k h root hand) (a:C=0∨fJ h hand C):∃ c:Nat,C=(c:Int)/\∀ r∈bQ (cO c),h.Ok r:=by
 rcases a with rfl|a
 ·exact ⟨0,rfl,fun r hr=>by simp [cO,bQ] at hr⟩
 ·obtain ⟨n,d,f,e,b⟩:=a.ok x
  refine ⟨n,d,fun r hr=>?_⟩;rw [gH (by omega)] at hr;simp [bQ] at hr;subst hr;exact b
theorem sZ {h:Hp} {root:List Bool} {B:Int} (i:Inv h) (o:h.roots=dR 0 root) (a:h.Ok n) (b:n<root.length):∀ m∈dR 0 (dJ root n B),h.Ok m:=by
 intro m hm;rw [dQ] at hm;unfold dJ at hm;rw [gD] at hm;split at hm
 ·rename_i c;rw [<-c];exact a
 ·exact i.ls m (.inl (by rw [o];exact dQ.2 hm))
theorem uM {h:Hp} {root:List Bool} {B:Int} (x:Jo k h root hand) (hk:k+1<=5000) (j:h.freed=[]) (D:bG h hand kd A B C):
 Jo (k+1) (fF h root kd A B C).h (fF h root kd A B C).root 0/\(kd=8->(fF h root kd A B C).code=0->∃ n:Nat,(fF h root kd A B C).id=(n:Int)/\(fF h root kd A B C).h.Ok n):=by
 have a:Jo (k+1) h root 0:=⟨x.g,x.b.up,x.l,x.o,x.r0,.inl rfl⟩
 unfold fF;by_cases T:kd=1
 ·subst T
  rw [if_pos rfl];refine ⟨?_,fun c=>absurd c (by decide)⟩;split
  ·exact a
  ·rename_i hA
   have hm:A.toNat<=3:=by omega
   obtain ⟨d,b1⟩:=x.g.make x.b hk j hm;have t:(root++[true]).length=root.length+1:=by simp
   have G:(h.make A.toNat).objs.length=h.objs.length+1:=by show (h.objs++[_]).length=_;simp
   obtain ⟨V,b2⟩:=d.Hf b1 hk j (iB x.g.i hm x.l x.o) (by
    have y:=gU (root++[true]) 0;rw [t,x.l] at y;have U:=b1.len;omega)
   have cl:=V.J3;refine ⟨V.I6,b2.cl cl,?_,?_,?_,.inl rfl⟩
   ·rw [cl.len]
    show (root++[true]).length=(h.make A.toNat).objs.length;rw [t,G,x.l]
   ·rw [cl.rt];rfl
   ·show (root++[true])[0]?=some false
    rw [dF (by rw [x.l];exact x.g.i.ps)];exact x.r0
 rw [if_neg T];by_cases Q:kd=2
 ·subst Q
  rw [if_pos rfl];refine ⟨?_,fun c=>absurd c (by decide)⟩;obtain ⟨K,J⟩:=bG.two.1 D;obtain ⟨n,rfl,_,_,f⟩:=K.ok x;obtain ⟨c,rfl,v⟩:=jw x J;simp only [Int.toNat_natCast];obtain ⟨d,b1⟩:=x.g.put x.b hk j (q:=some (.inl B)) f (fun r hr=>by simp [bQ] at hr) v;obtain ⟨p1,E⟩:=iR h n (some (.inl B)) (cO c);exact ⟨d,b1,x.l.trans p1.symm,E.trans x.o,x.r0,.inl rfl⟩
 rw [if_neg Q];by_cases P:kd=3
 ·subst P
  rw [if_pos rfl];refine ⟨?_,fun c=>absurd c (by decide)⟩;obtain ⟨K,W,J⟩:=bG.three.1 D;obtain ⟨n,rfl,_,_,f⟩:=K.ok x;obtain ⟨m,rfl,hm⟩:=jw x (.inr W);obtain ⟨c,rfl,v⟩:=jw x J;simp only [Int.toNat_natCast];obtain ⟨d,b1⟩:=x.g.put x.b hk j (q:=cO m) f hm v;obtain ⟨p1,E⟩:=iR h n (cO m) (cO c);exact ⟨d,b1,x.l.trans p1.symm,E.trans x.o,x.r0,.inl rfl⟩
 rw [if_neg P];by_cases N:kd=4
 ·subst N
  rw [if_pos rfl];refine ⟨?_,fun c=>absurd c (by decide)⟩;obtain ⟨n,rfl,F,p,f⟩:=((bG.four (.inl rfl)).1 D).ok x;simp only [Int.toNat_natCast];split
  ·exact a
  ·have H:(dJ root n B).length=root.length:=by unfold dJ;rw [bX]
   obtain ⟨d,b1⟩:=x.g.Hf x.b.up hk j (sZ (B:=B) x.g.i x.o f (by rw [x.l];exact p)) (by
    have y:=gU (dJ root n B) 0;rw [H,x.l] at y;have U:=x.b.len;omega)
   refine ⟨d,?_,H.trans x.l,rfl,?_,.inl rfl⟩
   ·exact (x.g.Hf x.b.up hk j (sZ (B:=B) x.g.i x.o f (by rw [x.l];exact p)) (by
     have y:=gU (dJ root n B) 0;rw [H,x.l] at y;have U:=x.b.len;omega)).2
   ·show (dJ root n B)[0]?=some false
    unfold dJ;rw [gD,if_neg (by omega)];exact x.r0
 rw [if_neg N];by_cases k5:kd=5
 ·subst k5
  rw [if_pos rfl];refine ⟨?_,fun c=>absurd c (by decide)⟩;obtain ⟨n,rfl,F,p,f⟩:=((bG.four (.inr rfl)).1 D).ok x;simp only [Int.toNat_natCast];split
  ·exact a
  ·obtain ⟨d,b1⟩:=x.g.IB x.b hk j f
   exact ⟨d,b1,x.l.trans (fP h n).1.symm,(fP h n).2.trans x.o,x.r0,.inl rfl⟩
 rw [if_neg k5];by_cases M:kd=6
 ·subst M
  rw [if_pos rfl];refine ⟨?_,fun c=>absurd c (by decide)⟩;split
  ·exact a
  ·have cl:=x.g.JR (u:=A)
   exact ⟨x.g.step,(x.b.cl cl).up,x.l.trans cl.len.symm,cl.rt.trans x.o,x.r0,.inl rfl⟩
 rw [if_neg M];by_cases L:kd=7
 ·subst L
  rw [if_pos rfl];refine ⟨?_,fun c=>absurd c (by decide)⟩;have cl:=x.g.KE;exact ⟨x.g.full,(x.b.cl cl).up,x.l.trans cl.len.symm,cl.rt.trans x.o,x.r0,.inl rfl⟩
 rw [if_neg L];by_cases z:kd=8
 ·subst z
  rw [if_pos rfl];obtain ⟨d,b1⟩:=x.g.pop x.b.up hk j;refine ⟨⟨d,b1,x.l,x.o,x.r0,.inl rfl⟩,fun _ v=>?_⟩;refine ⟨h.pending.getLast?.getD 0,rfl,?_⟩;have s:h.pending≠[]:=by
   intro e;simp [e] at v
  have hm:h.pending.getLast?.getD 0∈h.pending:=by
   rw [List.getLast?_eq_some_getLast s];exact List.getLast_mem s
  exact x.g.i.ls _ (.inr (.inl hm))
 rw [if_neg z];split
 ·rename_i X;exact ⟨a,fun c=>absurd c z⟩
 ·exact ⟨a,fun c=>absurd c z⟩
theorem Cz {h:Hp} {L:SM} {root:List Bool} (x:RW base S h L R hand rv root w) (ok:Jo k h root hand0) (hk:k+1<=5000) (z:h.freed=[]) (kd A B C:Int) (e:bG h hand0 kd A B C):
 Calls Tryz.prog 34 #[.pointer (some ⟨R,0,none⟩),.agg #[.int .i64 kd,.int .i64 A,.int .i64 B,.int .i64 C]] w (gF base S R hand rv w (fF h root kd A B C).code (fF h root kd A B C).id (fF h root kd A B C).h (fF h root kd A B C).root):=by
 unfold fF;by_cases y:kd=1
 ·subst y
  rw [if_pos rfl];have:=FR x ok.g ok.b hk z A B C A.toNat (fun hA=>by omega);split
  ·rename_i c;simpa [if_pos c] using this
  ·rename_i c;simpa [if_neg c] using this
 rw [if_neg y];by_cases v:kd=2
 ·subst v
  rw [if_pos rfl];obtain ⟨j,i⟩:=bG.two.1 e;obtain ⟨n,rfl,_,_,o,ho,-⟩:=j.ok ok;obtain ⟨c,rfl,D⟩:=jw ok i;simp only [Int.toNat_natCast];exact FJ x ok.g ok.b ho B
 rw [if_neg v];by_cases u:kd=3
 ·subst u
  rw [if_pos rfl];obtain ⟨j,E,i⟩:=bG.three.1 e;obtain ⟨n,rfl,_,_,o,ho,-⟩:=j.ok ok;obtain ⟨m,rfl,hm⟩:=jw ok (.inr E);obtain ⟨c,rfl,D⟩:=jw ok i;simp only [Int.toNat_natCast];exact Fa x ok.g ok.b ho
 rw [if_neg u];by_cases t:kd=4
 ·subst t
  rw [if_pos rfl];obtain ⟨n,rfl,d,a,-⟩:=((bG.four (.inl rfl)).1 e).ok ok;simp only [Int.toNat_natCast];have:=Fq x ok.g.s.len d a B C;split
  ·rename_i c;simpa only [if_pos c] using this
  ·rename_i c;simpa only [if_neg c] using this
 rw [if_neg t];by_cases k5:kd=5
 ·subst k5
  rw [if_pos rfl];obtain ⟨n,rfl,d,a,o,ho,-⟩:=((bG.four (.inr rfl)).1 e).ok ok;simp only [Int.toNat_natCast];have:=FU x ok.g ho B C;have f:uY h n=o.fin:=by unfold uY;rw [ho]
  rw [f];split
  ·rename_i c;simpa only [if_pos c] using this
  ·rename_i c;simpa only [if_neg c] using this
 rw [if_neg k5];by_cases r:kd=6
 ·subst r
  rw [if_pos rfl];have:=FP x ok.g A B C;split
  ·rename_i c;simpa only [if_pos c] using this
  ·rename_i c;simpa only [if_neg c] using this
 rw [if_neg r];by_cases q:kd=7
 ·subst q
  rw [if_pos rfl];exact ET x ok.g A B C
 rw [if_neg q];by_cases p:kd=8
 ·subst p
  rw [if_pos rfl];exact FM x ok.g A B C
 rw [if_neg p];by_cases l:kd=9
 ·subst l
  rw [if_pos rfl];exact EZ x A B C
 rw [if_neg l];exact Et x kd A B C (by omega)
end
section
variable {A C kd:Int} {R base k:Nat} {S:Nat->Prop} {f:Nat->Value} {rv:Value} {w:World}
structure An where
 code:Int
 id:Int
 live:Int
 bytes:Int
 state:Int
 pend:Int
 freed:List Nat
def An.no (c:Int):An:=⟨c,0,0,0,0,0,[]⟩
structure Rn where
 h:Hp
 root:List Bool
 hand:Nat
def Rn.Ok (k:Nat) (r:Rn):Prop:=Jo k r.h r.root r.hand
open Classical in
noncomputable def cK (r:Rn) (kd A B C:Int):An × Rn:=
 if bG r.h r.hand kd A B C then
  (let m:=fF r.h.forget r.root kd A B C
   if m.code≠0 then (An.no m.code,⟨m.h,m.root,0⟩)
   else (⟨0,m.id,(m.h.live:Int),(m.h.bytes:Int),(m.h.state:Int),(m.h.pending.length:Int),m.h.freed⟩,⟨m.h,m.root,if kd=8 then m.id.toNat else 0⟩))
 else (An.no 3,⟨r.h,r.root,0⟩)
theorem dP {h:Hp} {hand:Nat} {B:Int}:bG h.forget hand kd A B C↔bG h hand kd A B C:=Iff.rfl
theorem Jo.forget {k:Nat} {h:Hp} {root:List Bool} {hand:Nat} (x:Jo k h root hand) (hk:k<=5000):Jo k h.forget root hand:=by
 obtain ⟨a,b1⟩:=x.g.forget x.b hk;exact ⟨a,b1,x.l,x.o,x.r0,x.hd⟩
theorem qL {r:Rn} (x:r.Ok k) (hk:k+1<=5000) (kd A B C:Int):(cK r kd A B C).2.Ok (k+1):=by
 unfold cK;split
 ·rename_i h
  obtain ⟨a,j⟩:=uM (x.forget (by omega)) hk rfl (dP.2 h);simp only;split
  ·exact a
  ·rename_i i
   refine ⟨a.g,a.b,a.l,a.o,a.r0,?_⟩;by_cases c:kd=8
   ·obtain ⟨n,e,d⟩:=j c (by simpa using i)
    right;show Hp.Ok _ (if kd=8 then _ else 0);rw [if_pos c,e,Int.toNat_natCast];exact d
   ·left
    show (if kd=8 then _ else 0)=0;rw [if_neg c]
 ·exact ⟨x.g,x.b.up,x.l,x.o,x.r0,.inl rfl⟩
theorem RW.Kt {h:Hp} {L:SM} {hand:Nat} {root:List Bool} (x:RW base S h L R hand rv root w) (n:Nat):RW base S h L R n rv root (w.setCell ⟨R,2,none⟩ (.int .i64 (n:Int)))/\Keeps w (w.setCell ⟨R,2,none⟩ (.int .i64 (n:Int))) (fun b=>b=R):=by
 have c:Keeps w (w.setCell ⟨R,2,none⟩ (.int .i64 (n:Int))) (fun b=>b=R):=Keeps.setCell (S:=fun b=>b=R) (Keeps.refl w _) rfl _;refine ⟨⟨⟨x.x.a.out (c.mono (fun b e=>e ▸ x.nR)),?_,aj x.x.v c (fun g hg e=>ak x.x.v x.x.r (by decide) (e ▸ hg)),x.x.l,x.x.o⟩,x.nR,x.nb,x.r0⟩,c⟩;refine (x.x.r.set (j:=2) (by omega) _).congr (fun j hj=>?_);have:j=0∨j=1∨j=2:=by omega
 rcases this with rfl|rfl|rfl<;>rfl
theorem RW.forget {base:Nat} {S:Nat->Prop} {h:Hp} {L:SM} {R hand:Nat} {rv:Value} {root:List Bool} {w:World} (x:RW base S h L R hand rv root w):∃ L',L'.H=L.H/\RW base S h.forget L' R hand rv root (w.setCell ⟨L.H,15,none⟩ (.slice none 0 0))/\Keeps w (w.setCell ⟨L.H,15,none⟩ (.slice none 0 0)) S:=by
 obtain ⟨-,c,b⟩:=x.x.a.JW (w1:=w) 15 (by simp [eO]) (Keeps.refl w _) (.slice none 0 0) [] ⟨rfl,.inl ⟨rfl,rfl⟩⟩ (fun g e=>by simp [Value.ownBlock] at e);have e:dD h 15 []=h.forget:=rfl;rw [e] at c;exact ⟨{ L with li:=fun j=>if j=15 then .slice none 0 0 else L.li j },rfl,x.heap c rfl b rfl rfl,b⟩
theorem RW.less {base:Nat} {S:Nat->Prop} {h:Hp} {L:SM} {R hand:Nat} {rv:Value} {root:List Bool} {w:World} (x:RW base S h L R hand rv root w) (v:Value) (c:∀ g,v.ownBlock=some g->Free h L g/\g<w.heap.size):RW base (fun b=>S b/\v.ownBlock≠some b) h L R hand rv root w:=
 ⟨⟨x.x.a.less v c,x.x.r,x.x.v,x.x.l,x.x.o⟩,fun e=>x.nR e.1,fun g hg e=>x.nb g hg e.1,x.r0⟩
def mO (a:An) (fv:Value):List Value:=[.int .i64 a.code,.int .i64 a.id,.int .i64 a.live,.int .i64 a.bytes,.int .i64 a.state,.int .i64 a.pend,fv]
def E8 (base:Nat) (S:Nat->Prop) (R:Nat) (rv:Value) (w:World) (a:An) (r:Rn) (e:Ending) (w':World):Prop:=
 ∃ fv,e=.returned (.agg (mO a fv).toArray)/\w'.ownsRow w.heap.size 3 1 fv a.freed.length (eu a.freed)/\Keeps w w' (Zs S R rv)/\
   ∃ S' L' rv',RW base S' r.h L' R r.hand rv' r.root w'/\(∀ b,S' b->S b)/\(∀ g,rv'.ownBlock=some g->rv.ownBlock=some g∨S g)/\∀ g,fv.ownBlock=some g->¬ S' g
theorem Ez (wr:World):aD (wr.alloc (.cells #[.int .i64 0,.int .i64 0,.int .i64 0,.int .i64 0,.int .i64 0,.int .i64 0,.slice none 0 0] 36)) 36 wr.heap.size 7 (fun j=>(mO (An.no 0) (.slice none 0 0)).getD j (.bool false)):=by
 have h:=aD.mk' wr 36 #[.int .i64 0,.int .i64 0,.int .i64 0,.int .i64 0,.int .i64 0,.int .i64 0,.slice none 0 0];refine aD.congr (show aD _ _ _ 7 _ from h) (fun j hj=>?_);have:j=0∨j=1∨j=2∨j=3∨j=4∨j=5∨j=6:=by omega
 rcases this with rfl|rfl|rfl|rfl|rfl|rfl|rfl<;>rfl
def oV (w:World) (g:Nat) (x0 x1 x2 x3 x4 x5 x6:Value):World:=((((((w.setCell ⟨g,0,none⟩ x0).setCell ⟨g,1,none⟩ x1).setCell ⟨g,2,none⟩ x2).setCell ⟨g,3,none⟩ x3).setCell ⟨g,4,none⟩ x4).setCell ⟨g,5,none⟩ x5).setCell ⟨g,6,none⟩ x6
theorem gX {g:Nat} (h:aD w 36 g 7 f) (x0 x1 e d c b a:Value):aD (oV w g x0 x1 e d c b a) 36 g 7 (fun j=>[x0,x1,e,d,c,b,a].getD j (.bool false)):=by
 have i:=((((((h.set (j:=0) (by omega) x0).set (j:=1) (by omega) x1).set (j:=2) (by omega) e).set (j:=3) (by omega) d).set (j:=4) (by omega) c).set (j:=5) (by omega) b).set (j:=6) (by omega) a;refine aD.congr i (fun j hj=>?_);have:j=0∨j=1∨j=2∨j=3∨j=4∨j=5∨j=6:=by omega
 rcases this with rfl|rfl|rfl|rfl|rfl|rfl|rfl<;>rfl
theorem fQ (w:World) (g:Nat) (x0 x1 h e d c a:Value):Keeps w (oV w g x0 x1 h e d c a) (fun b=>b=g):=
 ((((((Keeps.setCell (S:=fun b=>b=g) (Keeps.refl w _) (g:=g) (j:=0) rfl x0).setCell (g:=g) (j:=1) rfl x1).setCell (g:=g) (j:=2) rfl h).setCell (g:=g) (j:=3) rfl e).setCell (g:=g) (j:=4) rfl d).setCell (g:=g) (j:=5) rfl c).setCell (g:=g) (j:=6) rfl a
end
set_option maxHeartbeats 6400000
set_option maxRecDepth 100000
section
variable {F H R base hand k:Nat} {L L':PM} {S S':Nat->Prop} {h h':Hp} {o:Ob} {root sn:List Bool} {v:Value} {w w' w1:World}
attribute [local go_sem] bW
theorem PS.mono {base:Nat} {S S':Nat->Prop} {h:Hp} {L:PM} {w:World} (p:PS base S h L w) (c:∀ b,S b->S' b):PS base S' h L w:=by
 obtain ⟨x,y,G,a,r⟩:=p;exact ⟨x,y,G,a.mono c,r⟩
theorem PS.hole (p:PS base S h L w) (hb:Below w.heap.size w w1) (d:w.heap.size<=F) (c:F<w1.heap.size):PS base (fun b=>S b/\b≠F) h L w1:=by
 obtain ⟨x,y,G,a,r⟩:=p;have z:=a.low hb;refine ⟨x,y,G,⟨z.hp,z.ob,z.en,z.mp,z.li,z.ij,z.ei,z.mi,z.lj,z.bH,z.bt,z.bm,z.bs,⟨a.sH,?_⟩,fun n o e=>⟨a.st n o e,?_⟩,fun n o g e hg=>⟨a.se n o g e hg,?_⟩,fun n o g e hg=>⟨a.sm n o g e hg,?_⟩,fun k g hk hg=>⟨a.sl k g hk hg,?_⟩,fun b hb'=>⟨z.up b hb',by omega⟩⟩,r⟩
 ·have:=a.hp.lt;omega
 ·have:=(a.ob n o e).lt;omega
 ·have:=(ay (a.en n o e) hg).lt;omega
 ·have:=(a.mp n o e).lt hg;omega
 ·have:=(ay (a.li k hk) hg).lt;omega
structure PW (base:Nat) (S:Nat->Prop) (h:Hp) (L:PM) (R hand:Nat) (w:World):Prop where
 p:PS base S h L w
 r:aD w 69 R 2 (ES L.H (aK L.tb (cO hand)))
 n:¬ S R
theorem PW.low {base:Nat} {S:Nat->Prop} {h:Hp} {L:PM} {R hand:Nat} {w w':World} (x:PW base S h L R hand w) (hb:Below w.heap.size w w'):PW base S h L R hand w':=⟨x.p.low hb,x.r.keep (Keeps.of hb (au _) (fun _=>False)) id,x.n⟩
theorem PW.hole {base:Nat} {S:Nat->Prop} {h:Hp} {L:PM} {R hand:Nat} {w w1:World} (x:PW base S h L R hand w) (hb:Below w.heap.size w w1) {F:Nat} (c:w.heap.size<=F) (a:F<w1.heap.size):PW base (fun b=>S b/\b≠F) h L R hand w1:=⟨x.p.hole hb c a,(x.low hb).r,fun e=>x.n e.1⟩
def jk (base:Nat) (S:Nat->Prop) (H:Nat) (w:World) (v:Value) (h':Hp) (e:Ending) (w':World):Prop:=e=.returned v/\∃ L',L'.H=H/\PS base S h' L' w'/\Keeps w w' S
theorem jk.mk' (hb:Below w.heap.size w w1) (a:∀ b,S' b->S b) (hH:L'.H=H) (p:PS base S' h' L' w') (k:Keeps w1 w' S'):jk base S H w v h' (.returned v) w':=
 ⟨rfl,L',hH,p.mono a,(Keeps.of hb (au _) S).trans (k.mono a)⟩
theorem jk.same (p:PS base S h L w) (hb:Below w.heap.size w w'):jk base S L.H w v h (.returned v) w':=⟨rfl,L,rfl,p.low hb,Keeps.of hb (au _) S⟩
theorem lG (g:sn.length=h.objs.length) (d:∀ n:Nat,1<=n->(sn[n]?=some true↔(n=hand∨h.Reach n))) (z:Int):iW sn z=true↔fJ h hand z:=by
 constructor
 ·intro c
  obtain ⟨n,f,a,e,b⟩:=jT c;exact ⟨n,f,a,by omega,(d n a).1 b⟩
 ·rintro ⟨n,rfl,a,e,b⟩
  exact Al a ((d n a).2 b)
theorem oH (x:PW base S h L R hand w) (g:Gd h) (A:Int):
 Calls Tryz.prog 53 #[.pointer (some ⟨R,0,none⟩),.int .i64 A] w (jk base S L.H w (.int .i64 (if A<1∨1000000<A then 2 else 0)) (if A<1∨1000000<A then h else Hp.step A h)):=by
 have e:=ah (gI w A 1 1000000);have r0:w.cell? ⟨R,0,none⟩=some (.pointer (some ⟨L.H,0,none⟩)):=x.r.c 0;by_cases hA:A<1∨1000000<A
 ·rw [if_pos hA,if_pos hA]
  rw [show (decide ((1:Int)<=A)&&decide (A<=1000000))=false by simp;omega] at e;have n:=ah x.p;clear x hA;go_enter Tryz.func53,Tryz.ntmps53;go_wp2_with fail;refine e.o.mono ?_;rintro j i ⟨rfl,rfl⟩;go_wp2;go_ret;exact jk.same n.o (aT _ _)
 ·rw [if_neg hA,if_neg hA]
  rw [show (decide ((1:Int)<=A)&&decide (A<=1000000))=true by simp;omega] at e;have m:=ah (mE x.p g A (by omega));clear x hA;go_enter Tryz.func53,Tryz.ntmps53;go_wp2_with fail;refine e.o.mono ?_;rintro j i ⟨rfl,rfl⟩;go_wp2_with fail;refine m.o.mono ?_;rintro q w3 ⟨rfl,l,b,a,d⟩;have f:=ah (And.intro b (And.intro a d));clear b a d;go_wp2;go_ret;exact ⟨rfl,l,f.o.1.H,f.o.2.1,f.o.2.2⟩
theorem Jo.put (x:Jo k h root hand) (hk:k<=5000) (b:MF h) {n:Nat} (ho:h.ob n=some o) (c:h.Ok n) {q:HV} (j:oW q) (f:q.isSome=true) (d:iP h q):Kv h o q:=by
 obtain ⟨l,a,nd⟩:=c;rw [ho] at a;cases a;have e1:=x.g.n.es ho;have s:=x.b.Nn;have r:=x.b.cr;have p:=x.b.na;refine ⟨j,f,d,by omega,fun e he m hm=>?_,b.k n o ho,by omega,by omega,by omega,by omega⟩;exact Hp.IG (x.g.i.nc n o ho nd e he m (List.mem_append_left _ (by rw [hm];simp [bQ])))
theorem CX {n:Nat} (b:h.objs.length<=5001) (a:n<h.objs.length):oW (cO n):=by
 unfold cO;split
 ·trivial
 ·show n<=1000000
  omega
theorem CG {n:Nat} (a:n=0∨h.Lv n):iP h (cO n):=by
 intro m hm;unfold cO at hm;split at hm
 ·cases hm
 ·rename_i c
  simp at hm;subst hm;exact a.resolve_left c
end
section
variable {L:PM} {R base hand k:Nat} {S:Nat->Prop} {h:Hp} {root:List Bool} {w:World}
attribute [local go_sem] bW
theorem Cc {a b:Bool} (h:(a||b)=true):a=true∨b=true:=by cases a<;>simp_all
theorem ql (x:PW base S h L R hand w) (ok:Jo k h root hand) (hk:k<=5000) (b:MF h) (A B C:Int) (hB: -9223372036854775808<=B/\B<=9223372036854775807) (code:Int) (h':Hp) (M:fJ h hand A/\(C=0∨fJ h hand C)->code=0/\h'=h.put A.toNat (some (.inl B)) (cO C.toNat)) (Y:¬ (fJ h hand A/\(C=0∨fJ h hand C))->code=3/\h'=h):
 Calls Tryz.prog 49 #[.pointer (some ⟨R,0,none⟩),.int .i64 A,.int .i64 B,.int .i64 C] w (jk base S L.H w (.int .i64 code) h'):=by
 have a:=ah M;have v:=ah Y;clear M Y;have HD:=ah (jX x.p ok.g ok.g.s.len x.r ok.hd ok.g.s.rt);have HX:=ah x;have a5:=ah ok;have b2:=ah b;have b7:=ok.g.s.len;have vw:=ok.g.i.ps;clear x ok b;go_enter Tryz.func49,Tryz.ntmps49;go_wp2_with fail;refine HD.o.mono ?_;rintro e1 w1 ⟨F,sn,rfl,Q,D,a8,P,V⟩;have f:=ah D;have W:=ah V;have hN:sn.length<=1000000:=by omega
 have a4:1<=sn.length:=by omega
 have K:=ah (lG Q P);have b8:=ah P;have u:=ah (HX.o.hole V a8 D.lt);have a3:=D.lt;have b9:=ah Q;clear D V P HD Q;have HH:=ah (iY f.o a4 hN A);have HV:=ah (qo f.o a4 hN C);cases hA:iW sn A with
 |false=>
  rw [hA] at HH;have hn:¬ (fJ h hand A/\(C=0∨fJ h hand C)):=fun c=>by rw [(K.o A).2 c.1] at hA;cases hA
  obtain ⟨rfl,rfl⟩:=v.o hn;clear hA hn v a;go_wp2_with fail;refine HH.o.mono ?_;rintro e2 w2 ⟨rfl,rfl⟩;go_wp2;go_ret;exact jk.same HX.o.p W.o
 |true=>
  rw [hA] at HH;cases hC:(C==0||iW sn C) with
  |false=>
   rw [hC] at HV;have hn:¬ (fJ h hand A/\(C=0∨fJ h hand C)):=fun c=>by
    rcases c.2 with c|c
    ·rw [c] at hC;simp at hC
    ·rw [(K.o C).2 c] at hC;simp at hC
   obtain ⟨rfl,rfl⟩:=v.o hn;clear hA hC hn v a;go_wp2_with fail;refine HH.o.mono ?_;rintro e2 w2 ⟨rfl,rfl⟩;go_wp2_with fail;refine HV.out.mono ?_;rintro e3 w3 ⟨rfl,rfl⟩;go_wp2;go_ret;exact jk.same HX.o.p W.o
  |true=>
   rw [hC] at HV;obtain ⟨n,rfl,b5,T,Z⟩:=jT hA;have U:fJ h hand (n:Int)/\(C=0∨fJ h hand C):=⟨(K.o _).1 hA,by
    rcases Cc hC with c|c
    ·exact .inl (by simpa using c)
    ·exact .inr ((K.o C).1 c)⟩
   obtain ⟨rfl,rfl⟩:=a.o U;clear v a;obtain ⟨l,b6,-,b3,t⟩:=U.1.ok a5.o;obtain rfl:l=n:=by omega
   obtain ⟨o,ho,-⟩:=id t;obtain ⟨c,rfl,a1⟩:∃ c:Nat,C=(c:Int)/\(c=0∨sn[c]?=some true):=by
    rcases Cc hC with d|d
    ·exact ⟨0,by simpa using d,.inl rfl⟩
    ·obtain ⟨m,d1,d2,d3,d4⟩:=jT d
     exact ⟨m,d1,.inr d4⟩
   have a9:=ah (a5.o.put hk b2.o ho t (q:=some (.inl B)) hB rfl (fun m hm=>by cases hm));have r0:w1.cell? ⟨R,0,none⟩=some (.pointer (some ⟨L.H,0,none⟩)):=u.o.r.c 0;have a2:=u.o.r.lt;have fn:=f.o.cell (j:=l) T;rw [oq Z] at fn;have b4:(l:Int)<(sn.length:Int):=by omega
   have b1:=ah a1;have b0:=ah ho;clear hA hC U a1 Z t ho;go_wp2_with fail;refine HH.o.mono ?_;rintro e2 w2 ⟨rfl,rfl⟩;go_wp2_with fail;refine HV.out.mono ?_;rintro e3 w3 ⟨rfl,rfl⟩;go_wp2_with fail
   go_region_held3 (fun w'=>w'.cell? ⟨R,0,none⟩=some (.pointer (some ⟨L.H,0,none⟩))/\w'.cell? ⟨F,l,none⟩=some (.pointer (some ⟨L.tb l,0,none⟩))) (go_keep)
    (first
      |(go_at_call 74
        refine (vg _ L.tb B).mono ?_;rintro e4 w4 ⟨rfl,N⟩;have J:Below w3.heap.size w3 w4:=(aC (aT w3.heap.size w3) _).trans N;have z:=ah J;have t0:=(J.cell (p:=⟨R,0,none⟩) a2).trans r0;have t1:=(J.cell (p:=⟨F,l,none⟩) a3).trans fn;clear J N)
      |(go_at_call 75
        refine (mJ (f.o.keep (Keeps.of z.o (au _) (fun _=>False)) id) c b1.o hN).mono ?_;rintro e5 w5 ⟨rfl,G⟩;have y:=ah (z.o.trans (G.mono z.o.size));have u0:=(G.cell (p:=⟨R,0,none⟩) (aW a2 z.o.size)).trans t0;have u1:=(G.cell (p:=⟨F,l,none⟩) (aW a3 z.o.size)).trans t1;clear G)
      |(go_at_call 73
        refine (pW (u.o.low y.o).p b0.o a9.o).mono ?_;rintro e6 w6 ⟨rfl,L6,a0,X,E⟩;have H6:=ah (And.intro a0 (And.intro X ((Keeps.of y.o (au _) (fun b=>S b/\b≠F)).trans E)));have v0:=((u.o.r.keep (Keeps.of y.o (au _) (fun _=>False)) id).keep E (fun e=>u.o.n e)).c 0;have v1:=((f.o.keep (Keeps.of y.o (au _) (fun _=>False)) id).keep E (fun e=>e.2 rfl)).cell (j:=l) T;have a7:w6.cell? ⟨R,0,none⟩=some (.pointer (some ⟨L.H,0,none⟩)):=v0;have a6:w6.cell? ⟨F,l,none⟩=some (.pointer (some ⟨L.tb l,0,none⟩)):=v1.trans (u1.symm.trans u1 ▸ (by rw [<-(((f.o.keep (Keeps.of y.o (au _) (fun _=>False)) id).cell (j:=l) T)),u1]));clear a0 X E v0 v1))
   clear r0 fn t0 t1 u0 u1 a7 a6;go_wp2;go_ret;exact jk.mk' W.o (fun b e=>e.1) H6.o.1.H H6.o.2.1 H6.o.2.2
theorem qj (x:PW base S h L R hand w) (ok:Jo k h root hand) (hk:k<=5000) (b:MF h) (A B C:Int) (code:Int) (h':Hp) (T:fJ h hand A/\fJ h hand B/\(C=0∨fJ h hand C)->code=0/\h'=h.put A.toNat (cO B.toNat) (cO C.toNat)) (a3:¬ (fJ h hand A/\fJ h hand B/\(C=0∨fJ h hand C))->code=3/\h'=h):
 Calls Tryz.prog 50 #[.pointer (some ⟨R,0,none⟩),.int .i64 A,.int .i64 B,.int .i64 C] w (jk base S L.H w (.int .i64 code) h'):=by
 have f:=ah T;have l:=ah a3;clear T a3;have HD:=ah (jX x.p ok.g ok.g.s.len x.r ok.hd ok.g.s.rt);have HX:=ah x;have a1:=ah ok;have b9:=ah b;have b3:=ok.g.s.len;have vw:=ok.g.i.ps;clear x ok b;go_enter Tryz.func50,Tryz.ntmps50;go_wp2_with fail;refine HD.o.mono ?_;rintro e1 w1 ⟨F,sn,rfl,X,J,b4,W,Y⟩;have t:=ah J;have Q:=ah Y;have hN:sn.length<=1000000:=by omega
 have a0:1<=sn.length:=by omega
 have u:=ah (lG X W);have c7:=ah W;have z:=ah (HX.o.hole Y b4 J.lt);have Z:=J.lt;have c8:=ah X;clear J Y W HD X;have HH:=ah (iY t.o a0 hN A);have D:=ah (iY t.o a0 hN B);have HV:=ah (qo t.o a0 hN C);cases hA:iW sn A with
 |false=>
  rw [hA] at HH;obtain ⟨rfl,rfl⟩:=l.o (fun c=>by rw [(u.o A).2 c.1] at hA;cases hA);clear hA l f;go_wp2_with fail;refine HH.o.mono ?_;rintro e2 w2 ⟨rfl,rfl⟩;go_wp2;go_ret;exact jk.same HX.o.p Q.o
 |true=>
  rw [hA] at HH;cases hB:iW sn B with
  |false=>
   rw [hB] at D;obtain ⟨rfl,rfl⟩:=l.o (fun c=>by rw [(u.o B).2 c.2.1] at hB;cases hB);clear hA hB l f;go_wp2_with fail;refine HH.o.mono ?_;rintro e2 w2 ⟨rfl,rfl⟩;go_wp2_with fail;refine D.o.mono ?_;rintro e3 w3 ⟨rfl,rfl⟩;go_wp2;go_ret;exact jk.same HX.o.p Q.o
  |true=>
   rw [hB] at D;cases hC:(C==0||iW sn C) with
   |false=>
    rw [hC] at HV;obtain ⟨rfl,rfl⟩:=l.o (fun c=>by
     rcases c.2.2 with c|c
     ·rw [c] at hC;simp at hC
     ·rw [(u.o C).2 c] at hC;simp at hC)
    clear hA hB hC l f;go_wp2_with fail;refine HH.o.mono ?_;rintro e2 w2 ⟨rfl,rfl⟩;go_wp2_with fail;refine D.o.mono ?_;rintro e3 w3 ⟨rfl,rfl⟩;go_wp2_with fail;refine HV.out.mono ?_;rintro e4 w4 ⟨rfl,rfl⟩;go_wp2;go_ret;exact jk.same HX.o.p Q.o
   |true=>
    rw [hC] at HV;obtain ⟨n,rfl,c2,b1,a4⟩:=jT hA;obtain ⟨m,rfl,c5,c4,a5⟩:=jT hB;have M:fJ h hand (n:Int)/\fJ h hand (m:Int)/\(C=0∨fJ h hand C):=⟨(u.o _).1 hA,(u.o _).1 hB,by
     rcases Cc hC with c|c
     ·exact .inl (by simpa using c)
     ·exact .inr ((u.o C).1 c)⟩
    obtain ⟨rfl,rfl⟩:=f.o M;clear l f;obtain ⟨G,c3,-,c0,y⟩:=M.1.ok a1.o;obtain rfl:G=n:=by omega
    obtain ⟨o,ho,-⟩:=id y;obtain ⟨m',c6,-,b2,U⟩:=M.2.1.ok a1.o;obtain rfl:m'=m:=by omega
    obtain ⟨c,rfl,a7⟩:∃ c:Nat,C=(c:Int)/\(c=0∨sn[c]?=some true):=by
     rcases Cc hC with d|d
     ·exact ⟨0,by simpa using d,.inl rfl⟩
     ·obtain ⟨q,d1,d2,d3,d4⟩:=jT d
      exact ⟨q,d1,.inr d4⟩
    have b5:=ah (a1.o.put hk b9.o ho y (q:=cO m') (CX b3 b2) (by rw [gH (by omega)];rfl) (CG (.inr (Hp.IG U))));have r0:w1.cell? ⟨R,0,none⟩=some (.pointer (some ⟨L.H,0,none⟩)):=z.o.r.c 0;have a8:=z.o.r.lt;have fn:=t.o.cell (j:=G) b1;rw [oq a4] at fn;have c1:(G:Int)<(sn.length:Int):=by omega
    have b8:=ah a7;have b6:=ah a5;have b7:=ah ho;clear hA hB hC M a7 a4 a5 y ho U;go_wp2_with fail;refine HH.o.mono ?_;rintro e2 w2 ⟨rfl,rfl⟩;go_wp2_with fail;refine D.o.mono ?_;rintro e3 w3 ⟨rfl,rfl⟩;go_wp2_with fail;refine HV.out.mono ?_;rintro e4 w4 ⟨rfl,rfl⟩;go_wp2_with fail
    go_region_held3 (fun w'=>w'.cell? ⟨R,0,none⟩=some (.pointer (some ⟨L.H,0,none⟩))/\w'.cell? ⟨F,G,none⟩=some (.pointer (some ⟨L.tb G,0,none⟩))) (go_keep)
     (first
       |(have _z:=E
         go_at_call 73
         refine (pW (z.o.low E.o).p b7.o b5.o).mono ?_;rintro e7 w7 ⟨rfl,L7,a6,a2,K⟩;have H7:=ah (And.intro a6 (And.intro a2 ((Keeps.of E.o (au _) (fun b=>S b/\b≠F)).trans K)));have b0:w7.cell? ⟨R,0,none⟩=some (.pointer (some ⟨L.H,0,none⟩)):=((z.o.r.keep (Keeps.of E.o (au _) (fun _=>False)) id).keep K (fun e=>z.o.n e)).c 0;have a9:w7.cell? ⟨F,G,none⟩=some (.pointer (some ⟨L.tb G,0,none⟩)):=(bM (a:=⟨F,G,none⟩) (K.block F (aW Z E.o.size) (fun e=>e.2 rfl))).trans u1;clear a6 a2 K)
       |(have _z:=v
         go_at_call 75
         refine (mJ (t.o.keep (Keeps.of v.o (au _) (fun _=>False)) id) c b8.o hN).mono ?_;rintro e6 w6 ⟨rfl,N⟩;have E:=ah (v.o.trans (N.mono v.o.size));have u0:=(N.cell (p:=⟨R,0,none⟩) (aW a8 v.o.size)).trans t0;have u1:=(N.cell (p:=⟨F,G,none⟩) (aW Z v.o.size)).trans t1;clear N)
       |(go_at_call 75
         refine (mJ (t.o.keep (Keeps.of (aC (aT w4.heap.size w4) _) (au _) (fun _=>False)) id) m' (.inr b6.o) hN).mono ?_;rintro e5 w5 ⟨rfl,V⟩;have P:Below w4.heap.size w4 w5:=(aC (aT w4.heap.size w4) _).trans V;have v:=ah P;have t0:=(P.cell (p:=⟨R,0,none⟩) a8).trans r0;have t1:=(P.cell (p:=⟨F,G,none⟩) Z).trans fn;clear P V))
    clear r0 fn t0 t1 u0 u1 b0 a9;go_wp2;go_ret;exact jk.mk' Q.o (fun b e=>e.1) H7.o.1.H H7.o.2.1 H7.o.2.2
theorem mH (x:PW base S h L R hand w) (ok:Jo k h root hand) (hk:k<=5000) (b:MF h) (A:Int) (code:Int) (h':Hp) (B:fJ h hand A->uY h A.toNat=false->code=0/\h'=h.IB A.toNat) (C:fJ h hand A->uY h A.toNat=true->code=4/\h'=h) (P:¬ fJ h hand A->code=3/\h'=h):
 Calls Tryz.prog 52 #[.pointer (some ⟨R,0,none⟩),.int .i64 A] w (jk base S L.H w (.int .i64 code) h'):=by
 have f:=ah B;have l:=ah C;have z:=ah P;clear B P C;have HD:=ah (jX x.p ok.g ok.g.s.len x.r ok.hd ok.g.s.rt);have HX:=ah x;have U:=ah ok;have b6:=ah b;have b2:=ok.g.s.len;have vw:=ok.g.i.ps;clear x ok b;go_enter Tryz.func52,Tryz.ntmps52;go_wp2_with fail;refine HD.o.mono ?_;rintro e1 w1 ⟨F,sn,rfl,E,v,a4,D,J⟩;have T:=ah v;have K:=ah J;have hN:sn.length<=1000000:=by omega
 have a5:1<=sn.length:=by omega
 have V:=ah (lG E D);have b4:=ah D;have u:=ah (HX.o.hole J a4 v.lt);have a3:=v.lt;have b5:=ah E;clear v J D HD E;have W:=ah (iY T.o a5 hN A);cases hA:iW sn A with
 |false=>
  rw [hA] at W;obtain ⟨rfl,rfl⟩:=z.o (fun c=>by rw [(V.o A).2 c] at hA;cases hA);clear hA z f l;go_wp2_with fail;refine W.o.mono ?_;rintro e2 M ⟨rfl,rfl⟩;go_wp2;go_ret;exact jk.same HX.o.p K.o
 |true=>
  rw [hA] at W;obtain ⟨n,rfl,b0,a0,G⟩:=jT hA;have t:=(V.o _).1 hA;obtain ⟨d,b1,-,a8,q⟩:=t.ok U.o;obtain rfl:d=n:=by omega
  obtain ⟨o,ho,-⟩:=id q;have m:uY h (d:Int).toNat=o.fin:=by rw [Int.toNat_natCast];unfold uY;rw [ho]
  have r0:w1.cell? ⟨R,0,none⟩=some (.pointer (some ⟨L.H,0,none⟩)):=u.o.r.c 0;have a1:=u.o.r.lt;have fn:=T.o.cell (j:=d) a0;rw [oq G] at fn;have a9:(d:Int)<(sn.length:Int):=by omega
  obtain ⟨_,_,_,aP,_⟩:=id u.o.p;have Z:w1.cell? ⟨L.tb d,4,none⟩=some (.bool o.fin):=(aP.ob d o ho).c 4;clear aP;cases hf:o.fin with
  |true=>
   rw [hf] at Z m;obtain ⟨rfl,rfl⟩:=l.o t m;clear hA z f l t q ho hf m G;go_wp2_with fail;refine W.o.mono ?_;rintro e2 M ⟨rfl,rfl⟩;go_wp2;go_ret;exact jk.same HX.o.p K.o
  |false=>
   rw [hf] at Z m;obtain ⟨rfl,rfl⟩:=f.o t m;have a7:Hq (h.finals.length<=20000):=ah (by have:=U.o.b.fp;omega);have a6:=ah ho;have a2:Hq ((d:Int).toNat=d):=ah (Int.toNat_natCast d);rw [a2.out];clear hA z f l t q ho hf m G;go_wp2_with fail;refine W.o.mono ?_;rintro e2 M ⟨rfl,rfl⟩;go_wp2_with fail
   go_region_held3 (fun w'=>w'.cell? ⟨R,0,none⟩=some (.pointer (some ⟨L.H,0,none⟩))/\w'.cell? ⟨F,d,none⟩=some (.pointer (some ⟨L.tb d,0,none⟩))) (go_keep)
    (first
      |(go_at_call 80
        refine (vI (u.o.low (aC (aT _ _) _)).p a6.o a7.o).mono ?_;rintro e7 w7 ⟨rfl,L7,Q,N,y⟩;have b3:=aC (aT M.heap.size M) 1;have H7:=ah (And.intro Q (And.intro N ((Keeps.of (aC (aT M.heap.size M) _) (au _) (fun b=>S b/\b≠F)).trans y)));have Y:w7.cell? ⟨R,0,none⟩=some (.pointer (some ⟨L.H,0,none⟩)):=(bM (a:=⟨R,0,none⟩) (y.block R a1 (fun e=>u.o.n e))).trans r0;have X:w7.cell? ⟨F,d,none⟩=some (.pointer (some ⟨L.tb d,0,none⟩)):=(bM (a:=⟨F,d,none⟩) (y.block F a3 (fun e=>e.2 rfl))).trans fn;clear Q N y))
   clear r0 fn Z Y X;go_wp2;go_ret;exact jk.mk' K.o (fun b e=>e.1) H7.o.1.H H7.o.2.1 H7.o.2.2
end
end Go.Proofs.YtbpcdfbmnklcjaaGreatDoor
