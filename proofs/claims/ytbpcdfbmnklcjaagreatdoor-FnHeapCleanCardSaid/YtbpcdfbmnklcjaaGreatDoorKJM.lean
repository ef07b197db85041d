import Derived.Test.YtbpcdfbmnklcjaaGreatDoorKJR0
import Derived.Test.YtbpcdfbmnklcjaaGreatDoorKHS9
import Derived.Deep.QuietTactic
import Derived.Test.YtbpcdfbmnklcjaaGreatDoorKHZD
namespace Go.Proofs.YtbpcdfbmnklcjaaGreatDoor
set_option linter.unusedVariables false
section
variable {A C kd:Int} {b:Bk} {g h:Hp} {hand k:Nat} {r:Rn} {root:List Bool}
theorem OP (i:g.objs.length=h.objs.length) (d:∀ n,(g.ob n).map (fun o=>fU o.col)=(h.ob n).map (fun o=>fU o.col)):g.wn=h.wn:=by
 have key:∀ q:Hp,q.wn=(q.objs.map (Option.map fun o=>fU o.col)).countP (fun x=>x==some true):=by
  intro q;unfold Hp.wn;rw [List.countP_map];refine congrArg (fun f=>List.countP f q.objs) (funext fun x=>?_);cases x with
  |none=>rfl
  |some o=>simp [q8]
 rw [key,key];refine congrArg _ (List.ext_getElem? (fun n=>?_));rw [fC,fC];by_cases c:n<h.objs.length
 ·have e1:h.ob n=h.objs[n]:=by simp [Hp.ob,c]
  have a:n<g.objs.length:=by omega
  have e:g.ob n=g.objs[n]:=by simp [Hp.ob,a]
  rw [aN c,aN a,<-e1,<-e];exact congrArg some (d n)
 ·rw [aM (by omega),aM (by omega)]
theorem NT {x y:Ed}:∀ {l:List Ed},x∈l->x.sm y=false->x∈iC l y
 |a::l,h,hs=>by
  unfold iC;rcases jm.1 h with rfl|h
  ·rw [if_neg (by rw [hs];decide)];exact List.mem_cons_self
  ·split
   ·exact List.mem_cons_of_mem _ h
   ·exact List.mem_cons_of_mem _ (NT h hs)
theorem Ed.OZ {x y:Ed} (h:x.sm y=true):x.t=y.t/\x.k=y.k:=by
 simp [Ed.sm] at h;refine ⟨h.1.1.1,?_⟩;unfold Ed.k;rw [h.1.1.2,h.1.2,h.2]
theorem N9 (y:Ed):∀ l:List Ed,∃ z∈iC l y,z.t=y.t/\z.k=y.k/\z.val=y.val
 | []=>⟨y,by simp [iC],rfl,rfl,rfl⟩
 |a::l=>by
  unfold iC;split
  ·rename_i c
   obtain ⟨h1,h2⟩:=Ed.OZ c;exact ⟨_,List.mem_cons_self,h1,h2,rfl⟩
  ·obtain ⟨z,h1,h2⟩:=N9 y l
   exact ⟨z,List.mem_cons_of_mem _ h1,h2⟩
theorem Sx.put {b:Bk} {h:Hp} {y:Ed} {o:Ob} (s:Sx b h) (m:Ny h) (ho:h.ob y.t=some o) (kd:Kd o.es):Sx ⟨b.modes,b.roots,iC b.edges y⟩ (h.put y.t y.k (cO y.val))/\Ny (h.put y.t y.k (cO y.val)):=by
 obtain ⟨c,es',a,N,V,S,G,u,R,B,M,T,L,U,P,H,F,J,E⟩:=nk (q:=y.k) (v:=cO y.val) ho;have D:y.k.isSome=true:=by unfold Ed.k;split<;>rfl
 have K:∀ x:Ed,x.t≠y.t∨x.k≠y.k->x.sm y=false:=fun x hx=>by
  cases e:x.sm y with
  |false=>rfl
  |true=>
   obtain ⟨d,l⟩:=Ed.OZ e;exact (hx.elim (fun c=>c d) (fun c=>c l)).elim
 refine ⟨⟨fun n o' e en hen hs=>?_,fun n o' e=>?_,by rw [J,E];exact s.f⟩,fun d=>?_⟩
 ·rw [a] at e
  split at e
  ·rename_i z
   subst z;cases e;rcases u kd D en hen hs with ⟨d,l⟩|⟨d,l⟩
   ·obtain ⟨x,p,j,i,w⟩:=s.c _ o ho en d hs
    exact ⟨x,NT p (K x (.inr (by rw [i];exact l))),j,i,w⟩
   ·obtain ⟨z,p,j,i,w⟩:=N9 y b.edges
    refine ⟨z,p,j,i.trans d.symm,fun q=>?_,by rw [w];exact l.symm⟩;rw [l,<-w,q] at hs;cases hs
  ·rename_i z
   obtain ⟨x,p,j,i⟩:=s.c n o' e en hen hs;exact ⟨x,NT p (K x (.inl (by rw [j];exact fun q=>z q.symm))),j,i⟩
 ·rw [a] at e
  split at e
  ·rename_i z;subst z;cases e;exact s.m _ o ho
  ·exact s.m n o' e
 ·have hm:=m (B ▸ d)
  have Q:(h.put y.t y.k (cO y.val)).wn=h.wn:=OP R (fun n=>by
   rw [a];split
   ·rename_i z;subst z;rw [ho];simp [N]
   ·rfl)
  unfold Hp.mu at hm ⊢;rw [Q,H,F];exact hm
theorem Sx.make {b:Bk} {h:Hp} {m:Nat} (s:Sx b h) (u:Ny h) (i:b.modes.length=h.objs.length) (hm:m≠2):Sx ⟨b.modes++[(m:Int)],b.roots++[true],b.edges⟩ (h.make m)/\Ny (h.make m):=by
 refine ⟨⟨fun n o e en hen hs=>?_,fun n o e=>?_,s.f⟩,fun h1=>?_⟩
 ·rw [u7] at e
  split at e
  ·cases e;simp at hen
  ·exact s.c n o e en hen hs
 ·rw [u7] at e
  split at e
  ·rename_i z
   cases e;refine ⟨?_,hm⟩;show (b.modes++[(m:Int)])[n]?=_;rw [z,<-i];simp
  ·obtain ⟨a,d⟩:=s.m n o e
   refine ⟨?_,d⟩;show (b.modes++[(m:Int)])[n]?=_;rw [dF (aJ.1 a).1];exact a
 ·have j:=u h1
  have l:(h.make m).wn<=h.wn+1:=by
   show List.countP q8 (h.objs++[_])<=_;rw [List.countP_append];exact Nat.add_le_add_left (List.countP_le_length) _
  show (h.make m).wn+h.grey.length<=h.live+1;unfold Hp.mu at j;omega
theorem Sx.roots (s:Sx b h) (r:List Bool) (a:g.objs=h.objs) (d:g.finals.length+g.pending.length=0):Sx ⟨b.modes,r,b.edges⟩ g:=by
 have e:∀ n,g.ob n=h.ob n:=fun n=>by unfold Hp.ob;rw [a]
 exact ⟨fun n o ho=>s.c n o (by rw [<-e];exact ho),fun n o ho=>s.m n o (by rw [<-e];exact ho),d⟩
theorem OT {B:Int} (x:Jo k h root hand) (hk:k+1<=5000) (R:h.freed=[]) (Q:bG h hand kd A B C) (w:fu h) (s:Sx b h) (u:Ny h) (y:JM b h root) (a:(fF h root kd A B C).code=0) (U:kd≠5) (n1:kd=1->A≠2):
 Sx (b.act kd A B C) (fF h root kd A B C).h/\Ny (fF h root kd A B C).h:=by
 unfold fF at a ⊢;unfold Bk.act;by_cases t:kd=1
 ·subst t
  rw [if_pos rfl] at a ⊢;rw [if_pos rfl];split at a
  ·cases a
  ·rename_i hA
   rw [if_neg hA];have hm:A.toNat<=3:=by omega
   have G:((A.toNat:Nat):Int)=A:=by omega
   have F:A.toNat≠2:=fun c=>n1 rfl (by omega);obtain ⟨g1,b1⟩:=x.g.make x.b hk R hm;have z:(root++[true]).length=root.length+1:=by simp
   have V:(h.make A.toNat).objs.length=h.objs.length+1:=by show (h.objs++[_]).length=_;simp
   obtain ⟨H,b2⟩:=g1.Hf b1 hk R (iB x.g.i hm x.l x.o) (by
    have Z:=gU (root++[true]) 0;rw [z,x.l] at Z;have h9:=b1.len;omega)
   obtain ⟨s1,T⟩:=s.make u y.ml F;rw [G] at s1;have S:fu ((h.make A.toNat).Hf (dR 0 (root++[true]))):=(w.make x.g A.toNat).same (fun _=>rfl) rfl rfl;have s2:=s1.roots (g:=(h.make A.toNat).Hf (dR 0 (root++[true]))) (b.roots++[true]) rfl s1.f;obtain ⟨e,_,_⟩:=iE.I6 ((h.make A.toNat).Hf (dR 0 (root++[true]))) H S;have cl:=H.J3;exact ⟨s2.of cl.es e.md cl.fp,Ny.I6 T H⟩
 rw [if_neg t] at a ⊢;rw [if_neg t];by_cases q:kd=2
 ·subst q
  rw [if_pos rfl] at a ⊢;rw [if_pos rfl];obtain ⟨K,J⟩:=bG.two.1 Q;obtain ⟨n,rfl,_,v,d⟩:=K.ok x;obtain ⟨c,rfl,E⟩:=wZ x J;simp only [Int.toNat_natCast];obtain ⟨o,ho,nd⟩:=id d;exact s.put (y:=⟨n,B,0,c,false⟩) u ho (x.b.kd n o ho)
 rw [if_neg q] at a ⊢;rw [if_neg q];by_cases p:kd=3
 ·subst p
  rw [if_pos rfl] at a ⊢;rw [if_pos rfl];obtain ⟨K,a3,J⟩:=bG.three.1 Q;obtain ⟨n,rfl,_,v,d⟩:=K.ok x;obtain ⟨m,rfl,X,W,hm⟩:=a3.ok x;obtain ⟨c,rfl,E⟩:=wZ x J;simp only [Int.toNat_natCast];obtain ⟨o,ho,nd⟩:=id d;have D:Ed.k ⟨n,0,m,c,true⟩=cO m:=by rw [gH (by omega)];rfl
  have:=s.put (y:=⟨n,0,m,c,true⟩) u ho (x.b.kd n o ho);rw [D] at this;exact this
 rw [if_neg p] at a ⊢;rw [if_neg p];by_cases j:kd=4
 ·rw [if_pos j] at a ⊢
  rw [if_pos j];split at a
  ·cases a
  ·rename_i Y
   rw [if_neg Y];exact ⟨s.roots _ rfl s.f,u⟩
 rw [if_neg j,if_neg U] at a ⊢;rw [if_neg j];by_cases P:kd=6
 ·rw [if_pos P] at a ⊢
  split at a
  ·cases a
  ·rename_i d
   rw [if_neg d];obtain ⟨e,_,w3⟩:=iE.step A h x.g w;have cl:=x.g.JR (u:=A);exact ⟨s.of cl.es e.md cl.fp,u.step x.g⟩
 rw [if_neg P] at a ⊢;by_cases N:kd=7
 ·rw [if_pos N]
  obtain ⟨e,_,w3⟩:=iE.full x.g.i x.g w;have cl:=x.g.KE;exact ⟨s.of cl.es e.md cl.fp,Ny.full x.g⟩
 rw [if_neg N] at a ⊢;by_cases M:kd=8
 ·rw [if_pos M]
  refine ⟨s.roots (g:=h.pop) b.roots rfl ?_,u⟩;show h.finals.length+h.pending.dropLast.length=0;rw [s.fin.1,s.fin.2];rfl
 rw [if_neg M] at a ⊢;by_cases L:kd=9
 ·rw [if_pos L]
  exact ⟨s,u⟩
 ·rw [if_neg L] at a
  cases a
theorem NP {B:Int} (a:(cK r kd A B C).1.code=0):bG r.h r.hand kd A B C/\(fF r.h.forget r.root kd A B C).code=0/\(cK r kd A B C).2.h=(fF r.h.forget r.root kd A B C).h/\
 (cK r kd A B C).1.live=((cK r kd A B C).2.h.live:Int)/\(cK r kd A B C).1.state=((cK r kd A B C).2.h.state:Int)/\(cK r kd A B C).1.pend=((cK r kd A B C).2.h.pending.length:Int):=by
 unfold cK at a ⊢;split at a
 ·rename_i d
  rw [if_pos d];simp only at a ⊢;split at a
  ·rename_i c;exact (c a).elim
  ·rename_i c
   rw [if_neg c];exact ⟨d,by simpa using c,rfl,rfl,rfl,rfl⟩
 ·cases a
structure O_ (k:Nat) (b:Bk) (r:Rn):Prop where
 x:Bs k b [] r
 s:Sx b r.h
 u:Ny r.h
theorem O_.new:O_ 0 Bk.new ⟨Hp.new,[false],0⟩:=by
 have a:∀ n o,Hp.new.ob n≠some o:=fun n o e=>by rcases n with _|n<;>cases e
 exact ⟨Bs.new,⟨fun n o e=>(a n o e).elim,fun n o e=>(a n o e).elim,rfl⟩,fun e=>absurd (show (0:Nat)=1 from e) (by decide)⟩
theorem O_.no {k:Nat} {b:Bk} {r:Rn} (c:O_ k b r) (hk:k+1<=5000) {kd A B C:Int} (a:(cK r kd A B C).1.code≠0):O_ (k+1) b (cK r kd A B C).2:=by
 have key:Sx b (cK r kd A B C).2.h/\Ny (cK r kd A B C).2.h:=by
  rcases (CU a).2 with e|e
  ·rw [e];exact ⟨c.s,c.u⟩
  ·rw [e];exact ⟨c.s.roots (g:=r.h.forget) b.roots rfl c.s.f,c.u⟩
 exact ⟨c.x.no hk a,key.1,key.2⟩
theorem O_.yes {k:Nat} {b:Bk} {r:Rn} (c:O_ k b r) (hk:k+1<=5000) {kd A B C:Int} (e:(cK r kd A B C).1.code=0) (j:kd≠5) (n1:kd=1->A≠2):O_ (k+1) (b.act kd A B C) (cK r kd A B C).2:=by
 obtain ⟨_,_,_,i,_⟩:=c.x.yes hk e;obtain ⟨l,n,m,_⟩:=NP e;have x1:=c.x.ok.forget (by omega);obtain ⟨d,a⟩:=OT x1 hk rfl (dP.2 l) (c.x.wm.same (g:=r.h.forget) (fun _=>rfl) rfl rfl) (c.s.roots (g:=r.h.forget) b.roots rfl c.s.f) c.u (c.x.bk.same (g:=r.h.forget) (fun _=>rfl) rfl rfl rfl) n j n1;rw [<-m] at d a;exact ⟨i,d,a⟩
theorem O_.roots {k:Nat} {b:Bk} {r:Rn} (c:O_ k b r):∀ n∈r.h.roots,b.Rc n:=fun n hn=>by
 rw [c.x.ok.o,dQ,<-c.x.bk.rt] at hn;exact Bk.Rc.root hn
end
end Go.Proofs.YtbpcdfbmnklcjaaGreatDoor
namespace Go.Proofs.YtbpcdfbmnklcjaaGreatDoor
open Go Go.RowKit
set_option maxHeartbeats 6400000
set_option maxRecDepth 100000
set_option linter.unusedVariables false
section
variable {B n:Nat} {S:Nat->Prop} {v:Value} {w w':World}
def iy (B:Nat) (w:World) (v:Value) (n:Nat) (f:Nat->Nat):Prop:=
 (n=0/\∃ a cap,v=.slice a 0 cap)∨∃ b o cap,v=.slice (some ⟨b,o,none⟩) n cap/\b<B/\∀ j,j<n->f j<=255/\w.cell? ⟨b,o+j,none⟩=some (.int .u8 (f j:Int))
theorem iy.keep {f:Nat->Nat} (h:iy B w v n f) (k:Keeps w w' S) (g:B<=w.heap.size) (e:∀ b,S b->B<=b):iy B w' v n f:=by
 rcases h with h|⟨b,o,c,rfl,a,d⟩
 ·exact .inl h
 ·refine .inr ⟨b,o,c,rfl,a,fun j hj=>⟨(d j hj).1,?_⟩⟩
  rw [<-(d j hj).2];exact (k.below g e).cell (p:=⟨b,o+j,none⟩) a
def dC (f:Nat->Nat) (n i:Nat):Int:=if i<n then (f i:Int)+1 else 0
def dS (f:Nat->Nat) (n:Nat) (s:Nat × Int):Nat × Int:=(if s.1<n then s.1+1 else s.1,IntKind.u64.wrap (IntKind.u64.wrap (IntKind.u64.wrap (s.2+dC f n s.1)*6364136223846793005)+1442695040888963407))
def dV (k:Int) (s:Nat × Int):Int:=if k<=1 then 0 else wrap64 ((s.2/8589934592).tmod k)
structure DS (B:Nat) (w:World) (S:Nat) (v:Value) (n:Nat) (f:Nat->Nat) (s:Nat × Int):Prop where
 c:iy B w v n f
 n1:n<=1048576
 b:B<=S
 r:aD w 83 S 3 (fun j=>if j=0 then v else if j=1 then .int .i64 (s.1:Int) else .int .u64 s.2)
 x0:0<=s.2
 x1:s.2<18446744073709551616
 i:s.1<=n
theorem jV (X:Int):0<=IntKind.u64.wrap X/\IntKind.u64.wrap X<18446744073709551616:=by
 rw [IntKind.wrap_u64];omega
theorem lI {X:Int} (b:0<=X) (a:X<18446744073709551616):IntKind.u64.wrap X=X:=by
 rw [IntKind.wrap_u64];omega
theorem sQ {k:Int} {s:Nat × Int} (c:0<=s.2) (f:s.2<18446744073709551616) (hk:1<=k) (b:k<=9223372036854775807):0<=dV k s/\dV k s<k:=by
 unfold dV;split
 ·omega
 ·have a:0<=s.2/8589934592:=Int.ediv_nonneg c (by omega)
  rw [Int.tmod_eq_emod_of_nonneg a];have e:=Int.emod_nonneg (s.2/8589934592) (show k≠0 by omega);have d:=Int.emod_lt_of_pos (s.2/8589934592) (show 0<k by omega);have:wrap64 (s.2/8589934592%k)=s.2/8589934592%k:=by
   generalize s.2/8589934592%k=y at *;simp [wrap64];omega
  rw [this];exact ⟨e,d⟩
theorem pY (h:Keeps w w' S) (m:Nat):Keeps w (w'.drewN m) S:=⟨h.os,h.tape,h.output,h.size,h.block⟩
theorem DS.LC {S:Nat} {f:Nat->Nat} {s:Nat × Int} (h:DS B w S v n f s) (m:Nat) (X:Int) (d:0<=X) (a:X<18446744073709551616):DS B ((w.drewN m).setCell ⟨S,2,none⟩ (.int .u64 X)) S v n f (s.1,X)/\Keeps w ((w.drewN m).setCell ⟨S,2,none⟩ (.int .u64 X)) (fun b=>b=S):=by
 have k:Keeps w ((w.drewN m).setCell ⟨S,2,none⟩ (.int .u64 X)) (fun b=>b=S):=(pY (Keeps.refl w _) m).setCell (S:=fun b=>b=S) rfl _;have g:=h.r.lt;have hr:aD (w.drewN m) 83 S 3 _:=h.r;refine ⟨⟨h.c.keep k (by have:=h.b;omega) (fun b e=>e ▸ h.b),h.n1,h.b,(hr.set (j:=2) (by omega) _).congr (fun j hj=>?_),d,a,h.i⟩,k⟩;have:j=0∨j=1∨j=2:=by omega
 rcases this with rfl|rfl|rfl<;>rfl
theorem DS.LG {S:Nat} {f:Nat->Nat} {s:Nat × Int} (h:DS B w S v n f s) (m i:Nat) (hi:i<=n):DS B ((w.drewN m).setCell ⟨S,1,none⟩ (.int .i64 (i:Int))) S v n f (i,s.2)/\Keeps w ((w.drewN m).setCell ⟨S,1,none⟩ (.int .i64 (i:Int))) (fun b=>b=S):=by
 have k:Keeps w ((w.drewN m).setCell ⟨S,1,none⟩ (.int .i64 (i:Int))) (fun b=>b=S):=(pY (Keeps.refl w _) m).setCell (S:=fun b=>b=S) rfl _;have a:=h.r.lt;have hr:aD (w.drewN m) 83 S 3 _:=h.r;refine ⟨⟨h.c.keep k (by have:=h.b;omega) (fun b e=>e ▸ h.b),h.n1,h.b,(hr.set (j:=1) (by omega) _).congr (fun j hj=>?_),h.x0,h.x1,hi⟩,k⟩;have:j=0∨j=1∨j=2:=by omega
 rcases this with rfl|rfl|rfl<;>rfl
def Ew (B S:Nat) (v:Value) (n:Nat) (f:Nat->Nat) (s:Nat × Int) (k:Int) (w:World) (e:Ending) (w':World):Prop:=
 e=.returned (.int .i64 (dV k (dS f n s)))/\DS B w' S v n f (dS f n s)/\Keeps w w' (fun b=>b=S)
theorem Ew.Mf {S:Nat} {f:Nat->Nat} {s:Nat × Int} {k:Int} (h:DS B w S v n f s) (a:¬ s.1<n) (m:Nat) (y:Int) (b:y=dV k (dS f n s)):
 Ew B S v n f s k w (.returned (.int .i64 y)) ((w.drewN m).setCell ⟨S,2,none⟩ (.int .u64 (IntKind.u64.wrap (IntKind.u64.wrap (s.2*6364136223846793005)+1442695040888963407)))):=by
 have e:dS f n s=(s.1,IntKind.u64.wrap (IntKind.u64.wrap (s.2*6364136223846793005)+1442695040888963407)):=by
  unfold dS dC;rw [if_neg a,if_neg a,Int.add_zero,lI h.x0 h.x1]
 have hr:=jV (IntKind.u64.wrap (s.2*6364136223846793005)+1442695040888963407);obtain ⟨d,c⟩:=h.LC m _ hr.1 hr.2;refine ⟨by rw [b],?_,c⟩;rw [e];exact d
theorem Ew.LY {S:Nat} {f:Nat->Nat} {s:Nat × Int} {k:Int} (h:DS B w S v n f s) (a:s.1<n) (m:Nat) (y:Int) (d:y=dV k (dS f n s)):
 Ew B S v n f s k w (.returned (.int .i64 y)) (((w.drewN m).setCell ⟨S,1,none⟩ (.int .i64 ((s.1+1:Nat):Int))).setCell ⟨S,2,none⟩ (.int .u64 (IntKind.u64.wrap (IntKind.u64.wrap (IntKind.u64.wrap (s.2+((f s.1:Int)+1))*6364136223846793005)+1442695040888963407)))):=by
 have e:dS f n s=(s.1+1,IntKind.u64.wrap (IntKind.u64.wrap (IntKind.u64.wrap (s.2+((f s.1:Int)+1))*6364136223846793005)+1442695040888963407)):=by
  unfold dS dC;rw [if_pos a,if_pos a]
 have hr:=jV (IntKind.u64.wrap (IntKind.u64.wrap (s.2+((f s.1:Int)+1))*6364136223846793005)+1442695040888963407);obtain ⟨i,c⟩:=h.LG m (s.1+1) a;obtain ⟨g,b⟩:=i.LC 0 _ hr.1 hr.2;refine ⟨by rw [d],?_,c.trans b⟩;rw [e];exact g
theorem BH (B S:Nat) (v:Value) (n:Nat) (f:Nat->Nat) (s:Nat × Int) (k:Int) (w:World) (hk:1<=k) (E:k<=9223372036854775807) (h:DS B w S v n f s):
 Calls Tryz.prog 21 #[.pointer (some ⟨S,0,none⟩),.int .i64 k] w (Ew B S v n f s k w):=by
 have u:=ah h;obtain ⟨i,x⟩:=s;have P:w.cell? ⟨S,0,none⟩=some v:=h.r.c 0;have N:w.cell? ⟨S,1,none⟩=some (.int .i64 (i:Int)):=h.r.c 1;have M:w.cell? ⟨S,2,none⟩=some (.int .u64 x):=h.r.c 2;have K:w.frozen? ⟨S,1,none⟩=false:=h.r.ME 1;have J:w.frozen? ⟨S,2,none⟩=false:=h.r.ME 2;have hi:i<=n:=h.i;have D:=h.n1;have l:0<=x:=h.x0;have j:x<18446744073709551616:=h.x1;have HV:=ah (show ∀ (t:Nat × Int),(k<=1->0=dV k t)/\(¬ k<=1->wrap64 ((t.2/8589934592).tmod k)=dV k t) from fun t=>⟨fun c=>by unfold dV;rw [if_pos c],fun c=>by unfold dV;rw [if_neg c]⟩);have A:=ah (fun (hn:¬ i<n) m y hy=>Ew.Mf (k:=k) u.o hn m y hy);have z:=ah (fun (hn:i<n) m y hy=>Ew.LY (k:=k) u.o hn m y hy);have p:=h.c;by_cases d:i<n
 ·have G:=ah (show dS f n (i,x)=(i+1,IntKind.u64.wrap (IntKind.u64.wrap (IntKind.u64.wrap (x+((f i:Int)+1))*6364136223846793005)+1442695040888963407)) by
   unfold dS dC;simp only;rw [if_pos d,if_pos d])
  rcases p with ⟨rfl,_⟩|⟨b,o,e,rfl,hb,q⟩
  ·omega
  obtain ⟨L,F⟩:=q i d;clear h q;by_cases g:k<=1
  ·go_enter Tryz.func21,Tryz.ntmps21
   go_wp2;go_quiet (fail);go_wp2;go_quiet (fail);go_wp2;go_ret;exact z.o d _ 0 ((HV.out _).1 g)
  ·go_enter Tryz.func21,Tryz.ntmps21
   go_wp2;go_quiet (fail);go_wp2;go_quiet (fail);go_wp2;go_ret;refine z.o d _ _ ?_;rw [<-(HV.out _).2 g,G.o]
 ·have H:=ah (show dS f n (i,x)=(i,IntKind.u64.wrap (IntKind.u64.wrap (x*6364136223846793005)+1442695040888963407)) by
   unfold dS dC;simp only;rw [if_neg d,if_neg d,Int.add_zero,lI l j])
  have C:∃ a e,v=.slice a n e:=by
   rcases p with ⟨rfl,a,e,rfl⟩|⟨b,o,e,rfl,_⟩
   ·exact ⟨a,e,rfl⟩
   ·exact ⟨_,e,rfl⟩
  obtain ⟨a,e,rfl⟩:=C;clear h p;by_cases g:k<=1
  ·go_enter Tryz.func21,Tryz.ntmps21
   go_wp2;go_quiet (fail);go_wp2;go_ret;exact A.o d _ 0 ((HV.out _).1 g)
  ·go_enter Tryz.func21,Tryz.ntmps21
   go_wp2;go_quiet (fail);go_wp2;go_ret;refine A.o d _ _ ?_;rw [<-(HV.out _).2 g,H.o]
end
section
variable {B n:Nat} {v:Value} {w w0:World}
def Dn (B S:Nat) (v:Value) (n:Nat) (f:Nat->Nat) (w:World) (s:Nat × Int) (w':World):Prop:=DS B w' S v n f s/\Keeps w w' (fun b=>b=S)
theorem Dn.refl {B S n:Nat} {v:Value} {f:Nat->Nat} {w:World} {s:Nat × Int} (h:DS B w S v n f s):Dn B S v n f w s w:=⟨h,Keeps.refl w _⟩
theorem dB {S:Nat} {f:Nat->Nat} {s:Nat × Int} (k:Int) (hk:1<=k) (a:k<=9223372036854775807) (h:Dn B S v n f w0 s w):
 Calls Tryz.prog 21 #[.pointer (some ⟨S,0,none⟩),.int .i64 k] w fun e w'=>∃ r s',e=.returned (.int .i64 r)/\Hq (dS f n s=s'/\dV k s'=r)/\0<=r/\r<k/\Hq (Dn B S v n f w0 s' w'):=by
 refine (BH B S v n f s k w hk a h.1).mono ?_;rintro e w' ⟨rfl,hd,b⟩;have hr:=sQ (k:=k) hd.x0 hd.x1 hk a;exact ⟨_,_,rfl,ah ⟨rfl,rfl⟩,hr.1,hr.2,ah ⟨hd,h.2.trans b⟩⟩
theorem uT {S:Nat} {f:Nat->Nat} {s:Nat × Int} (k:Int) (hk:1<=k) (a:k<=9223372036854775807) (h:Dn B S v n f w0 s w):
 Calls Tryz.prog 12 #[.pointer (some ⟨S,0,none⟩),.int .i64 k] w fun e w'=>∃ b s',e=.returned (.bool b)/\Hq (dS f n s=s'/\(dV k s'==0)=b)/\Hq (Dn B S v n f w0 s' w'):=by
 have c:=ah (dB k hk a h);clear h;go_enter Tryz.func12,Tryz.ntmps12;go_wp2_with fail;refine c.o.mono ?_;rintro e w1 ⟨r,s',rfl,hr,g,d,hd⟩;clear c;go_wp2;go_ret;refine ⟨_,s',rfl,ah ⟨hr.out.1,?_⟩,hd⟩;rw [hr.out.2]
def dW (f:Nat->Nat) (n:Nat) (s:Nat × Int):Int × (Nat × Int):=
 if dV 7 (dS f n s)=0 then (-1,dS f n s) else if dV 7 (dS f n s)=1 then (9223372036854775807,dS f n s) else if dV 7 (dS f n s)=2 then (-9223372036854775808,dS f n s)
 else if dV 7 (dS f n s)=3 then (dV 100000 (dS f n (dS f n s)),dS f n (dS f n s)) else if dV 7 (dS f n s)=4 then (-(dV 1000 (dS f n (dS f n s))),dS f n (dS f n s))
 else if dV 7 (dS f n s)=5 then (wrap64 (wrap64 (dV 2000000000 (dS f n (dS f n s))*dV 2000000000 (dS f n (dS f n (dS f n s))))*3),dS f n (dS f n (dS f n s)))
 else (9223372036854775807-dV 20 (dS f n (dS f n s)),dS f n (dS f n s))
theorem su (x:Int): -9223372036854775808<=wrap64 x/\wrap64 x<=9223372036854775807:=by
 simp only [wrap64];omega
theorem D8 {S:Nat} {f:Nat->Nat} {s:Nat × Int} (h:Dn B S v n f w0 s w):
 Calls Tryz.prog 22 #[.pointer (some ⟨S,0,none⟩)] w fun e w'=>∃ r s',e=.returned (.int .i64 r)/\Hq (dW f n s=(r,s'))/\ -9223372036854775808<=r/\r<=9223372036854775807/\Hq (Dn B S v n f w0 s' w'):=by
 have i:=ah (fun (s:Nat × Int) (w:World) (k:Int) hk hk2 (h:Dn B S v n f w0 s w)=>dB k hk hk2 h);have u:=ah h;clear h;go_enter Tryz.func22,Tryz.ntmps22;go_wp2_with fail;refine (i.o _ _ _ (by omega) (by omega) u.o).mono ?_;rintro e w1 ⟨r,s1,rfl,c,g,d,hd⟩;clear u;have hr:r=0∨r=1∨r=2∨r=3∨r=4∨r=5∨r=6:=by omega
 clear g d;rcases hr with rfl|rfl|rfl|rfl|rfl|rfl|rfl
 ·go_wp2
  go_ret;refine ⟨_,_,rfl,ah ?_,by omega,by omega,hd⟩;unfold dW;rw [c.out.1,c.out.2];rfl
 ·go_wp2
  go_ret;refine ⟨_,_,rfl,ah ?_,by omega,by omega,hd⟩;unfold dW;rw [c.out.1,c.out.2];simp
 ·go_wp2
  go_ret;refine ⟨_,_,rfl,ah ?_,by omega,by omega,hd⟩;unfold dW;rw [c.out.1,c.out.2];simp
 ·go_wp2_with fail
  refine (i.o _ _ _ (by omega) (by omega) hd.out).mono ?_;rintro e l ⟨m,s2,rfl,a,g,d,b⟩;go_wp2;go_ret;refine ⟨_,_,rfl,ah ?_,by omega,by omega,b⟩;unfold dW;rw [c.out.1,c.out.2,a.out.1,a.out.2];simp
 ·go_wp2_with fail
  refine (i.o _ _ _ (by omega) (by omega) hd.out).mono ?_;rintro e l ⟨m,s2,rfl,a,g,d,b⟩;go_wp2;go_ret;refine ⟨_,_,rfl,ah ?_,by omega,by omega,b⟩;unfold dW;rw [c.out.1,c.out.2,a.out.1,a.out.2];simp
 ·go_wp2_with fail
  refine (i.o _ _ _ (by omega) (by omega) hd.out).mono ?_;rintro e l ⟨m,s2,rfl,a,g,d,b⟩;go_wp2_with fail;refine (i.o _ _ _ (by omega) (by omega) b.out).mono ?_;rintro e w3 ⟨y,x,rfl,j,t,q,p⟩;have z:=ah (And.intro (And.intro g d) (And.intro t q));clear g d t q;go_wp2;go_ret;refine ⟨_,_,rfl,ah ?_,(su _).1,(su _).2,p⟩;unfold dW;rw [c.out.1,c.out.2,a.out.1,a.out.2,j.out.1,j.out.2];simp
 ·go_wp2_with fail
  refine (i.o _ _ _ (by omega) (by omega) hd.out).mono ?_;rintro e l ⟨m,s2,rfl,a,g,d,b⟩;go_wp2;go_ret;refine ⟨_,_,rfl,ah ?_,by omega,by omega,b⟩;unfold dW;rw [c.out.1,c.out.2,a.out.1,a.out.2];simp
end
section
variable {K:Act->World->Prop} {Q:Exit->Act->World->Prop} {a:Act} {v:Value} {w w1 w2 wr:World}
theorem nG {o:Oper} (s x:Operand)
 (ho:o.op=.call { callee:=.builtin .append,args:=#[s,x],argTypes:=#[25,25] })
 (base:Nat) (v:Value) (n:Nat) (r f:List Value) (hown:wr.ownsRow base 36 7 v n r) (C:a.eval s=v) (g:Nat) (hx:a.eval x=.slice (some ⟨g,0,none⟩) 1 1) (p:f.length=7) (B:∀ u∈f,u.oneCell'=true) (m:aD wr 36 g 7 (fun j=>f.getD j (.bool false))) (z:n<=10000) (d:base<=wr.heap.size)
 (h:∀ v' w',w'.ownsRow base 36 7 v' (n+1) (r++f)->Keeps wr w' (fun b=>v.ownBlock=some b)->(∀ g,v'.ownBlock=some g->v.ownBlock=some g∨wr.heap.size<=g)->K (a.put o.dst v') w'):
 Oper.wp Tryz.prog o a wr K Q:=by
 obtain ⟨y,hi,l,k,i⟩:=info_parts ze;have c:∀ j u,f[j]?=some u->wr.cell? ((⟨g,0,none⟩:Addr).add j)=some u:=by
  intro j u A;have t:j<7:=by have:=(aJ.1 A).1;omega
  rw [bL];have:=m.cell (j:=j) t;rw [show (⟨g,0+j,none⟩:Addr)=⟨g,j,none⟩ by rw [Nat.zero_add],this];simp only [bq,A];rfl
 obtain ⟨v',w',hr,E,q,F⟩:=run_append_own (P:=Tryz.prog) wr base 25 o.type 36 y (.agg #[.int .i64 0,.int .i64 0,.int .i64 0,.int .i64 0,.int .i64 0,.int .i64 0,.slice none 0 0]) 7 72 Tryz.underlying25 hi l k i rfl (by decide) v n r hown ⟨g,0,none⟩ 1 1 f (by rw [p]) c B (by unfold maxLen;omega) (by omega) d;have D:=fG wr base 25 o.type 36 y (.agg #[.int .i64 0,.int .i64 0,.int .i64 0,.int .i64 0,.int .i64 0,.int .i64 0,.slice none 0 0]) 7 72 Tryz.underlying25 hi l k i rfl (by decide) v n r hown ⟨g,0,none⟩ 1 1 f (by rw [p]) c B (by unfold maxLen;omega) (by omega) (by decide) hr;unfold Oper.wp execOp;simp only [ho,resolve,invoke,builtin,Sem.run_bind,Sem.run_pure,Result.andThen_ok,List.map_toArray,List.map_cons,List.map_nil,C,hx,hr];exact h v' w' E ⟨q.os,q.tape,q.output,q.size,fun b hb hn=>q.block b hb (fun e=>hn e.symm)⟩ D
theorem EU (wr:World) (c i l b s p:Int) (f:Option Addr) (n k:Nat):aD (wr.alloc (.cells #[.int .i64 c,.int .i64 i,.int .i64 l,.int .i64 b,.int .i64 s,.int .i64 p,.slice f n k] 36)) 36 wr.heap.size 7 (fun j=>(mO ⟨c,i,l,b,s,p,[]⟩ (.slice f n k)).getD j (.bool false)):=by
 have h:=aD.mk' wr 36 #[.int .i64 c,.int .i64 i,.int .i64 l,.int .i64 b,.int .i64 s,.int .i64 p,.slice f n k];refine aD.congr (show aD _ _ _ 7 _ from h) (fun j hj=>?_);have:j=0∨j=1∨j=2∨j=3∨j=4∨j=5∨j=6:=by omega
 rcases this with rfl|rfl|rfl|rfl|rfl|rfl|rfl<;>rfl
theorem wM (a:An) (f:Option Addr) (n k:Nat):∀ u∈mO a (.slice f n k),u.oneCell'=true:=by
 intro u b;simp [mO] at b;rcases b with rfl|rfl|rfl|rfl|rfl|rfl|rfl<;>rfl
theorem Ah {o:Oper} {K:Act->World->Prop} {Q:Exit->Act->World->Prop} (x y:Operand)
 (ho:o.op=.call { callee:=.value (.func 24),args:=#[x,y],argTypes:=#[57,39] }) (c b:Value) (hx:a.eval x=c) (d:a.eval y=b) {E:Ending->World->Prop} (i:Calls Tryz.prog 24 #[c,b] w E)
 (h:∀ e w',E e w'->∃ v,e=.returned v/\K (a.put o.dst v) w'):Oper.wp Tryz.prog o a w K Q:=by
 unfold Oper.wp;have f:a.eval (.func 24)=.func (.func 24) #[] #[]:=rfl;generalize a.eval=ev at hx d f ⊢;simp [execOp,ho,resolve,invoke,hx,d,f,go_sem];refine i.mono ?_;intro e w' g;obtain ⟨v,rfl,hk⟩:=h e w' g;exact hk
def xX (w:World) (v:Value) (ops:List dA):Prop:=∃ A cap,v=.slice A ops.length cap/\ops.length<=cap/\∀ (i:Nat) (o:dA),ops[i]?=some o->∃ g,A=some ⟨g,0,none⟩/\g<w.heap.size/\w.cell? ⟨g,i*4,none⟩=some (.int .i64 o.1)/\w.cell? ⟨g,i*4+1,none⟩=some (.int .i64 o.2.1)/\w.cell? ⟨g,i*4+2,none⟩=some (.int .i64 o.2.2.1)/\w.cell? ⟨g,i*4+3,none⟩=some (.int .i64 o.2.2.2)
def Ga (ops:List dA) (w:World) (e:Ending) (w':World):Prop:=Below w.heap.size w w'/\∃ (c:Int) (av:Value) (al:List An) (fs:List Value),e=.returned (.agg #[.int .i64 c,av])/\c=(if 5000<ops.length then 5 else 0)/\al=(if 5000<ops.length then [] else (cZ ops).1)/\w'.ownsRow w.heap.size 36 7 av al.length (tY al fs)/\fs.length=al.length/\∀ (i:Nat) (b:An) (f:Value),al[i]?=some b->fs[i]?=some f->w'.ownsRow w.heap.size 3 1 f b.freed.length (eu b.freed)
theorem xO (wr:World) (c:Int) (a:Option Addr) (n k:Nat):aD (wr.alloc (.cells #[.int .i64 c,.slice a n k] 27)) 27 wr.heap.size 2 (fun j=>if j=0 then .int .i64 c else .slice a n k):=by
 have h:=aD.mk' wr 27 #[.int .i64 c,.slice a n k];refine aD.congr (show aD _ _ _ 2 _ from h) (fun j hj=>?_);have:j=0∨j=1:=by omega
 rcases this with rfl|rfl<;>rfl
theorem CV (q:MV w1.heap.size (fun b=>w1.heap.size<=b) Hp.new (qN w1.heap.size) w2) (hb:Below w1.heap.size w1 w2):
 HI w1 (w2.heap.size+1) (w2.heap.size+2) [] [] ⟨Hp.new,[false],0⟩ (.slice none 0 0) (fun b=>((w1.heap.size<=b/\b≠w2.heap.size)/\b≠w2.heap.size+1)/\b≠w2.heap.size+2) (qN w1.heap.size) (.slice (some ⟨w2.heap.size,0,none⟩) 1 1)
  (((w2.alloc (.cells #[.bool false] 4)).alloc (.cells #[.pointer (some ⟨w1.heap.size+2,0,none⟩),.slice (some ⟨w2.heap.size,0,none⟩) 1 1,.int .i64 0] 61)).alloc (.cells #[.int .i64 0,.slice none 0 0] 27)):=by
 have e1:(w2.alloc (.cells #[.bool false] 4)).heap.size=w2.heap.size+1:=aG _;have k:((w2.alloc (.cells #[.bool false] 4)).alloc (.cells #[.pointer (some ⟨w1.heap.size+2,0,none⟩),.slice (some ⟨w2.heap.size,0,none⟩) 1 1,.int .i64 0] 61)).heap.size=w2.heap.size+2:=by rw [show ((w2.alloc (.cells #[.bool false] 4)).alloc (.cells #[.pointer (some ⟨w1.heap.size+2,0,none⟩),.slice (some ⟨w2.heap.size,0,none⟩) 1 1,.int .i64 0] 61)).heap.size=_ from aG _,e1]
 have r:=q.hole (.cells #[.bool false] 4);have p:=r.hole (.cells #[.pointer (some ⟨w1.heap.size+2,0,none⟩),.slice (some ⟨w2.heap.size,0,none⟩) 1 1,.int .i64 0] 61);have o:=p.hole (.cells #[.int .i64 0,.slice none 0 0] 27);rw [e1] at p;rw [e1,k] at o;have b3:=aU ((w2.alloc (.cells #[.bool false] 4)).alloc (.cells #[.pointer (some ⟨w1.heap.size+2,0,none⟩),.slice (some ⟨w2.heap.size,0,none⟩) 1 1,.int .i64 0] 61)) (.cells #[.int .i64 0,.slice none 0 0] 27);have b2:=aU (w2.alloc (.cells #[.bool false] 4)) (.cells #[.pointer (some ⟨w1.heap.size+2,0,none⟩),.slice (some ⟨w2.heap.size,0,none⟩) 1 1,.int .i64 0] 61);have m:=b2.trans (b3.mono (by rw [e1,k];omega));have d:=Gw w2 (.cells #[.bool false] 4) (.cells #[.pointer (some ⟨w1.heap.size+2,0,none⟩),.slice (some ⟨w2.heap.size,0,none⟩) 1 1,.int .i64 0] 61) (.cells #[.int .i64 0,.slice none 0 0] 27);have c:=hb.size;have n:=aD.mk' (w2.alloc (.cells #[.bool false] 4)) 61 #[.pointer (some ⟨w1.heap.size+2,0,none⟩),.slice (some ⟨w2.heap.size,0,none⟩) 1 1,.int .i64 0];rw [e1] at n;have l:=n.low b3 (by rw [k];omega);have ro:=xO ((w2.alloc (.cells #[.bool false] 4)).alloc (.cells #[.pointer (some ⟨w1.heap.size+2,0,none⟩),.slice (some ⟨w2.heap.size,0,none⟩) 1 1,.int .i64 0] 61)) 0 none 0 0;rw [k] at ro;have s:=(m.block w2.heap.size (by rw [e1];omega)).trans (heap_alloc_new w2 (.cells #[.bool false] 4));refine ⟨⟨⟨o,?_,⟨rfl,.inr ⟨w2.heap.size,1,_,rfl,c,s,by decide,by decide,rfl,rfl⟩⟩,rfl,rfl⟩,fun e=>e.1.2 rfl,fun g hg e=>?_,rfl⟩,ro,⟨rfl,.inl ⟨rfl,rfl⟩⟩,rfl,fun i b f h=>by simp at h,?_,fun g hg=>by simp [Value.ownBlock] at hg,fun f hf=>by simp at hf,hb.trans (d.mono c),by omega,by omega,fun b e=>e.1.1.1,fun g hg=>?_⟩
 ·refine aD.congr (show aD _ _ _ 3 _ from l) (fun j hj=>?_)
  have:j=0∨j=1∨j=2:=by omega
  rcases this with rfl|rfl|rfl<;>rfl
 ·simp [Value.ownBlock] at hg
  exact e.1.1.2 hg.symm
 ·rintro (e|e|e)
  ·exact e.2 rfl
  ·omega
  ·simp [Value.ownBlock] at e
 ·simp [Value.ownBlock] at hg
  omega
theorem xL {ops:List dA} (hv:xX w v ops) (hn:ops.length<=1048576):Calls Tryz.prog 7 #[v] w (Ga ops w):=by
 obtain ⟨A,c8,rfl,c5,l⟩:=hv;have HC:=ah l;clear l;have H:=ah (xO w 0 none 0 0);have M:=ah (aU w (.cells #[.int .i64 0,.slice none 0 0] 27));by_cases h5:5000<ops.length
 ·have c3:((ops.length:Int) > 5000):=by omega
  go_enter Tryz.func7,Tryz.ntmps7;go_upto_region 1 with (fail)
  generalize w.alloc (.cells #[.int .i64 0,.slice none 0 0] 27)=w1 at *;generalize U:w.heap.size=X at *;have x0:=H.o.c 0;have x1:=H.o.c 1;have z0:=H.o.ME 0;have z1:=H.o.ME 1;go_wp2;have HR:=ah (((H.o.set (j:=0) (by omega) (.int .i64 5)).set (j:=1) (by omega) (.slice none 0 0)));have HK:=ah (show Below X w _ from M.o.trans (((Keeps.setCell (S:=fun b=>b=X) (Keeps.refl w1 _) (g:=X) (j:=0) rfl (.int .i64 5)).setCell (g:=X) (j:=1) rfl (.slice none 0 0)).below (B:=X) (dh H.o.lt) (fun b e=>by omega)));generalize (w1.setCell ⟨X,0,none⟩ (.int .i64 5)).setCell ⟨X,1,none⟩ (.slice none 0 0)=w7 at *;have q0:w7.cell? ⟨X,0,none⟩=some (.int .i64 5):=HR.o.c 0;have q1:w7.cell? ⟨X,1,none⟩=some (.slice none 0 0):=HR.o.c 1;refine bodyPost_ret (v:=.agg #[.int .i64 5,.slice none 0 0]) ?_ rfl ?_
  ·simp [results,Tryz.results7,go_sem,q0,q1]
  ·exact ⟨by rw [U];exact HK.o,5,.slice none 0 0,[],[],rfl,by rw [if_pos h5],by rw [if_pos h5],⟨rfl,.inl ⟨rfl,rfl⟩⟩,rfl,fun i b f h=>by simp at h⟩
 ·have c3:¬ ((ops.length:Int) > 5000):=by omega
  go_enter Tryz.func7,Tryz.ntmps7;go_upto_region 1 with (fail)
  have a5:=ah (BX (w.alloc (.cells #[.int .i64 0,.slice none 0 0] 27)));generalize w.alloc (.cells #[.int .i64 0,.slice none 0 0] 27)=w1 at *;generalize U:w.heap.size=X at *;go_wp2_with fail;refine a5.o.mono ?_;rintro e2 w2 ⟨rfl,W,Z⟩;have a7:=ah (CV W Z);clear W Z a5;go_upto_region 5 with (fail)
  have a6:Hq (HI w1 (w2.heap.size+1) (w2.heap.size+1+1) [] [] ⟨Hp.new,[false],0⟩ (.slice none 0 0) (fun b=>((w1.heap.size<=b/\b≠w2.heap.size)/\b≠w2.heap.size+1)/\b≠w2.heap.size+1+1) (qN w1.heap.size) (.slice (some ⟨w2.heap.size,0,none⟩) 1 1)
   (((w2.alloc (.cells #[.bool false] 4)).alloc (.cells #[.pointer (some ⟨w1.heap.size+2,0,none⟩),.slice (some ⟨w2.heap.size,0,none⟩) 1 1,.int .i64 0] 61)).alloc (.cells #[.int .i64 0,.slice none 0 0] 27))):=a7
  clear a7;generalize ((w2.alloc (.cells #[.bool false] 4)).alloc (.cells #[.pointer (some ⟨w1.heap.size+2,0,none⟩),.slice (some ⟨w2.heap.size,0,none⟩) 1 1,.int .i64 0] 61)).alloc (.cells #[.int .i64 0,.slice none 0 0] 27)=w3 at *;generalize w2.heap.size+1=R at *;go_wp2;go_loopw [18] (fun jv ws=>∃ j:Nat,j<=ops.length/\jv=.int .i64 j/\Hq (∃ fs av S L rv,HI w1 R (R+1) (cZ (ops.take j)).1 fs (cZ (ops.take j)).2 av S L rv ws)) (fun jv _=>ops.length-bF jv)
  case atStart=>exact ⟨0,by omega,rfl,_,_,_,_,_,by rw [List.take_zero];exact a6.o⟩
  case round=>
   clear a6;obtain ⟨j,b6,rfl,HJ⟩:=hrel;obtain ⟨fs,av,S,L,rv,hj⟩:=HJ.o;have d:=ah hj;clear hj HJ;have z:=(jZ ops j b6 (by omega))
   have b9:(cZ (ops.take j)).1.length<=5000:=by rw [z.2];omega
   by_cases b4:j<ops.length
   ·obtain ⟨o,ho⟩:∃ o,ops[j]?=some o:=⟨_,aN b4⟩
    have c7:(j:Int)<(ops.length:Int):=by omega
    have a3:=ah (fH ho);obtain ⟨g,rfl,hg,d0,d1,d2,d3⟩:=HC.o j o ho;have E:g<w1.heap.size:=aW (U ▸ hg) (U ▸ M.o.size);have D:g<X:=U ▸ hg;have f0:wr.cell? ⟨g,j*4,none⟩=some (.int .i64 o.1):=(d.o.hb.cell (p:=⟨g,j*4,none⟩) E).trans ((M.o.cell (p:=⟨g,j*4,none⟩) D).trans d0);have f1:wr.cell? ⟨g,j*4+1,none⟩=some (.int .i64 o.2.1):=(d.o.hb.cell (p:=⟨g,j*4+1,none⟩) E).trans ((M.o.cell (p:=⟨g,j*4+1,none⟩) D).trans d1);have f2:wr.cell? ⟨g,j*4+2,none⟩=some (.int .i64 o.2.2.1):=(d.o.hb.cell (p:=⟨g,j*4+2,none⟩) E).trans ((M.o.cell (p:=⟨g,j*4+2,none⟩) D).trans d2);have f3:wr.cell? ⟨g,j*4+3,none⟩=some (.int .i64 o.2.2.2):=(d.o.hb.cell (p:=⟨g,j*4+3,none⟩) E).trans ((M.o.cell (p:=⟨g,j*4+3,none⟩) D).trans d3);have c4:=ah z.1;obtain ⟨kd,A,B,C⟩:=o;simp only at f0 f1 f2 f3;have J:=ah (fO wr kd A B C);have HH:=ah (d.o.hole (.cells #[.int .i64 kd,.int .i64 A,.int .i64 B,.int .i64 C] 39));clear d0 d1 d2 d3 ho z;go_upto_region 8 with (fail)
    generalize wr.alloc (.cells #[.int .i64 kd,.int .i64 A,.int .i64 B,.int .i64 C] 39)=w5 at *;generalize wr.heap.size=P at *;clear f0 f1 f2 f3;generalize cZ (ops.take j)=q at *;obtain ⟨m,k,rfl⟩:∃ m k,av=.slice m q.1.length k:=aF HH.o.a;have c1:w5.cell? ⟨R+1,1,none⟩=some (.slice m q.1.length k):=HH.o.o.c 1;have p0:w5.cell? ⟨P,0,none⟩=some (.int .i64 kd):=J.o.c 0;have p1:w5.cell? ⟨P,1,none⟩=some (.int .i64 A):=J.o.c 1;have p2:w5.cell? ⟨P,2,none⟩=some (.int .i64 B):=J.o.c 2;have p3:w5.cell? ⟨P,3,none⟩=some (.int .i64 C):=J.o.c 3;have a4:=ah (fun (w9:World) (y:RW w1.heap.size (fun b=>S b/\b≠P) q.2.h L R q.2.hand rv q.2.root w9)=>Cg y c4.o (by omega) kd A B C);have a2:Hq (cZ (ops.take (j+1))=(q.1++[(cK q.2 kd A B C).1],(cK q.2 kd A B C).2)):=a3;clear a3 d;generalize cK q.2 kd A B C=pp at *;have a9:=ah (HH.o.low (aC (aT _ _) 1));have c9:=ah (J.o.keep (Keeps.of (aC (aT w5.heap.size w5) 1) (au _) (fun _=>False)) (fun y=>y));have a1:¬ Zs (fun b=>S b/\b≠P) R rv P:=by
     rintro (e|e|e)
     ·exact e.2 rfl
     ·exact J.o.apart HH.o.x.x.r (by decide) e
     ·exact ak HH.o.x.x.v J.o (by decide) e
    have d4:=ah a1;clear a1;go_wp2_with fail
    go_region_law (first
     |(rw [if_pos (by rfl)]
       refine Ah (.tmp 24) (.tmp 25) rfl _ _ rfl rfl (a4.o _ a9.o.x) ?_;rintro e6 u ⟨fv,rfl,hf,kk,S',L',c6,hw,hs,hv,Y⟩;obtain ⟨af,V,b7⟩:=aF hf;subst b7;refine ⟨_,rfl,?_⟩;have F:=a9.o.one hf kk hw hs hv Y;have N:=ah F;have b1:u.cell? ⟨R+1,1,none⟩=some (.slice m q.1.length k):=N.o.1.o.c 1;have c2:=N.o.1.o.lt;have b2:=((aU u (.cells #[.int .i64 pp.1.code,.int .i64 pp.1.id,.int .i64 pp.1.live,.int .i64 pp.1.bytes,.int .i64 pp.1.state,.int .i64 pp.1.pend,.slice af pp.1.freed.length V] 36)).cell (p:=⟨R+1,1,none⟩) c2).trans b1;have e7:(mO pp.1 (.slice af pp.1.freed.length V)).toArray=#[.int .i64 pp.1.code,.int .i64 pp.1.id,.int .i64 pp.1.live,.int .i64 pp.1.bytes,.int .i64 pp.1.state,.int .i64 pp.1.pend,.slice af pp.1.freed.length V]:=rfl;rw [e7];clear F hf kk hw hs hv Y e7)
     |(rw [if_pos (by rfl)]
       refine nG (wr:=u.alloc (.cells #[.int .i64 pp.1.code,.int .i64 pp.1.id,.int .i64 pp.1.live,.int .i64 pp.1.bytes,.int .i64 pp.1.state,.int .i64 pp.1.pend,.slice af pp.1.freed.length V] 36)) (.tmp 23) (.tmp 27) rfl w1.heap.size (.slice m q.1.length k) q.1.length (tY q.1 fs) (mO pp.1 (.slice af pp.1.freed.length V)) (aj N.o.1.a (Keeps.of (aU u _) (au _) (fun _=>False)) (fun _ _ y=>y)) rfl u.heap.size rfl rfl (wM _ _ _ _) (EU u _ _ _ _ _ _ _ _ _) (by omega) (aI N.o.1.hb.size (aU u _).size) ?_;intro v' w8 g1 g2 g3;obtain ⟨a8,k8,b0⟩:=aF g1;subst b0;have H8:=ah (N.o.1.app (w':=w8) N.o.2.1 N.o.2.2 g1 ((Keeps.of (aU u _) (au _) _).trans g2) (fun g e=>(g3 g e).imp id (fun y=>aI (aU u _).size y)));have u1:=H8.o.1.c 1;have z1:=H8.o.1.ME 1;clear g1 g2 g3))
    all_goals
     go_wp2_with fail;go_roundw
     case rel=>exact ⟨j+1,by omega,by simp,_,_,_,_,_,by rw [a2.o];exact H8.o.2⟩
     case measure=>simp [bF];omega
   ·have b5:j=ops.length:=by omega
    subst b5;rw [bN] at d;obtain ⟨m,k,rfl⟩:∃ m k,av=.slice m (cZ ops).1.length k:=aF d.o.a;have a0:X<w1.heap.size:=H.o.lt;have t:=ah (H.o.low d.o.hb a0);have c0:wr.cell? ⟨R+1,0,none⟩=some (.int .i64 0):=d.o.o.c 0;have c1:wr.cell? ⟨R+1,1,none⟩=some (.slice m (cZ ops).1.length k):=d.o.o.c 1;have x0:=t.o.c 0;have x1:=t.o.c 1;have z0:=t.o.ME 0;have z1:=t.o.ME 1;clear b9 z;go_wp2;have HR:=ah (((t.o.set (j:=0) (by omega) (.int .i64 0)).set (j:=1) (by omega) (.slice m (cZ ops).1.length k)));have HK:=ah ((Keeps.setCell (S:=fun b=>b=X) (Keeps.refl wr _) (g:=X) (j:=0) rfl (.int .i64 0)).setCell (g:=X) (j:=1) rfl (.slice m (cZ ops).1.length k));generalize (wr.setCell ⟨X,0,none⟩ (.int .i64 0)).setCell ⟨X,1,none⟩ (.slice m (cZ ops).1.length k)=w7 at *;have q0:w7.cell? ⟨X,0,none⟩=some (.int .i64 0):=HR.o.c 0;have q1:w7.cell? ⟨X,1,none⟩=some (.slice m (cZ ops).1.length k):=HR.o.c 1;refine bodyPost_ret (v:=.agg #[.int .i64 0,.slice m (cZ ops).1.length k]) ?_ rfl ?_
    ·simp [results,Tryz.results7,go_sem,q0,q1]
    ·have b3:w.heap.size<=w1.heap.size:=by omega
     have b8:Below X w wr:=M.o.trans (d.o.hb.mono (dh a0));have G:∀ {T s n:Nat} {v:Value} {xs:List Value},wr.ownsRow w1.heap.size T s v n xs->w7.ownsRow w.heap.size T s v n xs:=fun h=>iq (aj h HK.o (fun g hg e=>by have:=(h.lt g hg).1;omega)) b3;exact ⟨by rw [U];exact b8.trans (HK.o.below (B:=X) (dh t.o.lt) (fun b e=>by omega)),0,_,(cZ ops).1,fs,rfl,by rw [if_neg h5],by rw [if_neg h5],G d.o.a,d.o.fl,fun i b f h1 h2=>G (d.o.f i b f h1 h2)⟩
end
section
variable {base i n:Nat} {ov v v':Value} {w w' w0 wr:World}
def nI (o:dA):List Value:=[.int .i64 o.1,.int .i64 o.2.1,.int .i64 o.2.2.1,.int .i64 o.2.2.2]
def nH (l:List dA):List Value:=l.flatMap nI
theorem zO (l:List dA) (o:dA):nH (l++[o])=nH l++nI o:=by simp [nH]
theorem Cj (l:List dA):(nH l).length=l.length*4:=lS nI 4 (fun _=>rfl) l
theorem zH {l:List dA} {e:dA} (h:l[i]?=some e):∀ j x,(nI e)[j]?=some x->(nH l)[i*4+j]?=some x:=by
 intro j x c;have b:j<4:=(aJ.1 c).1
 induction l generalizing i with
 |nil=>cases h
 |cons a l ih=>
  rcases i with _|i
  ·obtain rfl:a=e:=by simpa using h
   show (nI a++nH l)[0*4+j]?=_;rw [Nat.zero_mul,Nat.zero_add,dF (show j<(nI a).length from b)];exact c
  ·have h':l[i]?=some e:=h
   show (nI a++nH l)[(i+1)*4+j]?=_;rw [fI (by show 4<=_;omega),show (i+1)*4+j-(nI a).length=i*4+j by show _-4=_;omega];exact ih h'
theorem qO {l:List dA} (h:w.ownsRow base 39 4 v l.length (nH l)):xX w v l:=by
 obtain ⟨a,q,rfl⟩:=aF h;refine ⟨a,q,rfl,?_,fun i o hi=>?_⟩
 ·obtain ⟨_,m|⟨g,e,p,f,_,_,k,_⟩⟩:=id h
  ·rw [m.2];exact Nat.zero_le _
  ·simp only [Value.slice.injEq] at f;omega
 ·have t:=(aJ.1 hi).1
  obtain ⟨_,m|⟨g,e,p,f,_,_,k,_⟩⟩:=id h
  ·have:=m.2;omega
  ·simp only [Value.slice.injEq] at f
   obtain ⟨rfl,-,rfl⟩:=f;have d:=ay h (g:=g) (by simp [Value.ownBlock]);have b:∀ j x,(nI o)[j]?=some x->w.cell? ⟨g,i*4+j,none⟩=some x:=by
    intro j x r;have s:j<4:=(aJ.1 r).1;have:=d.c (i*4+j);rw [this,bq,zH hi j x r];rfl
   exact ⟨g,rfl,d.lt,b 0 _ rfl,b 1 _ rfl,b 2 _ rfl,b 3 _ rfl⟩
def dK (f:Nat->Nat) (n made:Nat) (a b k:Int) (s:Nat × Int):List dA × Nat × (Nat × Int):=
 if k<4 then ([(1,([0,0,0,0,1,1,2,3]:List Int).getD (dV 8 (dS f n s)).toNat 0,0,0)],made+1,dS f n s)
 else if k<7 then ([(2,a,dV 12 (dS f n s),wrap64 (b*(dV 4 (dS f n (dS f n s))%2)))],made,dS f n (dS f n s))
 else if k<10 then ([(3,a,b,wrap64 ((1+dV ((made:Int)+1) (dS f n s))*dV 2 (dS f n (dS f n s))))],made,dS f n (dS f n s))
 else if k<12 then ([(4,a,dV 8 (dS f n s)/7,0)],made,dS f n s)
 else if k<13 then ([(5,a,0,0)],made,s)
 else if k<14 then ([(6,([1,3,10,40,0,1000000,1000001]:List Int).getD (dV 7 (dS f n s)).toNat 0,0,0)],made,dS f n s)
 else if k<15 then ([(([7,9,8,6]:List Int).getD (dV 4 (dS f n s)).toNat 0,1+dV 20 (dS f n (dS f n s)),0,0)],made,dS f n (dS f n s))
 else ((([8,8,9,0,10,(dW f n s).1]:List Int).getD (dV 6 (dS f n (dW f n s).2)).toNat 0,dV 3 (dS f n (dS f n (dW f n s).2)),0,0)::(if (dV 2 (dS f n (dS f n (dS f n (dW f n s).2)))==0)=true then [(4,a,1,0)] else []),made,dS f n (dS f n (dS f n (dW f n s).2)))
def eY (f:Nat->Nat) (n made:Nat) (s:Nat × Int):List dA × Nat × (Nat × Int):=
 if (dV 3 (dS f n (dS f n (dS f n s)))==0)=true/\4<made then dK f n made ((made:Int)-dV 4 (dS f n (dS f n (dS f n (dS f n s))))) (1+dV ((made:Int)+1) (dS f n (dS f n s))) (dV 16 (dS f n (dS f n (dS f n (dS f n (dS f n s)))))) (dS f n (dS f n (dS f n (dS f n (dS f n s)))))
 else dK f n made (1+dV ((made:Int)+1) (dS f n s)) (1+dV ((made:Int)+1) (dS f n (dS f n s))) (dV 16 (dS f n (dS f n (dS f n (dS f n s))))) (dS f n (dS f n (dS f n (dS f n s))))
def dI (f:Nat->Nat) (n:Nat) (s:Nat × Int):Nat->List dA × Nat × (Nat × Int)
 |0=>([],0,s)
 |i+1=>((dI f n s i).1++(eY f n (dI f n s i).2.1 (dI f n s i).2.2).1,(eY f n (dI f n s i).2.1 (dI f n s i).2.2).2.1,(eY f n (dI f n s i).2.1 (dI f n s i).2.2).2.2)
def dN (n:Nat):Nat:=if 400<2+n/2 then 400 else 2+n/2
def gQ (f:Nat->Nat) (n:Nat):List dA:=
 if (dV 60 (dS f n (0,88172645463325252+(n:Int)))==0)=true then List.replicate (5000+dV 2 (dS f n (dS f n (0,88172645463325252+(n:Int))))).toNat (0,0,0,0)
 else (dI f n (dS f n (0,88172645463325252+(n:Int))) (2*dN n)).1
structure DM (w0:World) (S:Nat) (v:Value) (n:Nat) (f:Nat->Nat) (s:Nat × Int) (ov:Value) (ops:List dA) (w:World):Prop where
 d:DS w0.heap.size w S v n f s
 o:w.ownsRow w0.heap.size 39 4 ov ops.length (nH ops)
 b:Below w0.heap.size w0 w
theorem DM.draw {S:Nat} {f:Nat->Nat} {s s':Nat × Int} {ops:List dA} (x:DM w0 S v n f s ov ops w) (h:Dn w0.heap.size S v n f w s' w'):DM w0 S v n f s' ov ops w':=
 ⟨h.1,aj x.o h.2 (fun g hg e=>ak x.o x.d.r (by decide) (e ▸ hg)),x.b.trans (h.2.below x.b.size (fun b e=>by rw [e];exact x.d.b))⟩
theorem DM.low {w0 w w':World} {S n:Nat} {v ov:Value} {f:Nat->Nat} {s:Nat × Int} {ops:List dA} (x:DM w0 S v n f s ov ops w) (h:Below w.heap.size w w'):DM w0 S v n f s ov ops w':=by
 have k:=Keeps.of h (au _) (fun _=>False);exact ⟨⟨x.d.c.keep k x.b.size (fun _ e=>e.elim),x.d.n1,x.d.b,x.d.r.low h x.d.r.lt,x.d.x0,x.d.x1,x.d.i⟩,aj x.o k (fun _ _ e=>e),x.b.trans (h.mono x.b.size)⟩
theorem DM.app {S:Nat} {f:Nat->Nat} {s:Nat × Int} {ops:List dA} {o:dA} (x:DM w0 S v n f s ov ops w) (g:w'.ownsRow w0.heap.size 39 4 v' (ops.length+1) (nH ops++nI o)) (a:Keeps w w' (fun b=>ov.ownBlock=some b)):DM w0 S v n f s v' (ops++[o]) w':=by
 have hk:∀ b,ov.ownBlock=some b->w0.heap.size<=b:=fun b e=>(x.o.lt b e).1;refine ⟨⟨x.d.c.keep a x.b.size hk,x.d.n1,x.d.b,x.d.r.keep a (fun e=>ak x.o x.d.r (by decide) e),x.d.x0,x.d.x1,x.d.i⟩,?_,x.b.trans (a.below x.b.size hk)⟩;rw [bI,zO];exact g
theorem B_ (w:World) (l:List Int):aD (w.alloc (.cells (l.map (fun x=>Value.int .i64 x)).toArray 3)) 3 w.heap.size l.length (fun j=>.int .i64 (l.getD j 0)):=by
 have h:=aD.mk' w 3 (l.map (fun x=>Value.int .i64 x)).toArray;simp only [List.size_toArray,bY] at h;refine h.congr (fun j hj=>?_);simp [List.getD_eq_getElem?_getD,hj]
theorem gL (a:Below base wr w') (c:∀ gx,gx<wr.heap.size->ov.ownBlock≠some gx->w'.heap[gx]?=wr.heap[gx]?):Keeps wr w' (fun b=>ov.ownBlock=some b):=⟨a.os,a.tape,a.output,a.size,fun b hb hn=>c b hb hn⟩
theorem f_ (o:dA):∀ u∈nI o,u.oneCell'=true:=fun u hu=>by
 simp [nI] at hu;rcases hu with rfl|rfl|rfl|rfl<;>rfl
end
end Go.Proofs.YtbpcdfbmnklcjaaGreatDoor
