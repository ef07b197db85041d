import Derived.Test.YtjibjahfbblieaaGreatDoorKP1F2
namespace Go.Proofs.YtjibjahfbblieaaGreatDoor
set_option linter.unusedVariables false
structure Cf where
 n:Nat
 op:Nat->Int
 a:Nat->Int
 b:Nat->Nat
 lf:Nat->Bool
 mv:Nat->Bool
def jmp (o:Int):Bool:=o==25||o==26||o==27||o==35||o==36||o==38
def Ph (o:Int):Bool:=o==26||o==27
def QV (o:Int):Bool:=o==25||o==29||o==30
theorem KV {o:Int} (h:Ph o=true):jmp o=true:=by
 simp [Ph] at h
 rcases h with rfl|rfl<;>rfl
def Cf.nf (c:Cf) (p:Nat):Nat:=if h:p<c.n then (if c.lf p then p else c.nf (p+1)) else c.n
 termination_by c.n-p
def Cf.nx (c:Cf) (p:Nat):Nat:=c.nf (p+1)
def Cf.L (c:Cf) (p:Nat):Prop:=p<c.n/\c.lf p=true
theorem Cf.nf_out (c:Cf):∀ p,(c.L (c.nf p)/\p<=c.nf p∨c.nf p=c.n)/\∀ q,p<=q->q<c.nf p->¬ c.L q:=by
 intro p
 rw [Cf.nf]
 split
 ·rename_i h
  split
  ·rename_i hl
   exact ⟨.inl ⟨⟨h,hl⟩,Nat.le_refl _⟩,fun q h1 h2=>by omega⟩
  ·rename_i hl
   obtain ⟨h1,h2⟩:=Cf.nf_out c (p+1)
   refine ⟨?_,fun q hq hlt hL=>?_⟩
   ·rcases h1 with ⟨h3,h4⟩|h3
    ·exact .inl ⟨h3,by omega⟩
    ·exact .inr h3
   ·by_cases e:q=p
    ·subst e;exact hl hL.2
    ·exact h2 q (by omega) hlt hL
 ·rename_i h
  exact ⟨.inr rfl,fun q h1 h2=>by omega⟩
 termination_by p=>c.n-p
theorem Cf.nf_L {c:Cf} {p:Nat} (h:c.nf p<c.n):c.L (c.nf p)/\p<=c.nf p:=by
 rcases (c.nf_out p).1 with h1|h1
 ·exact h1
 ·omega
def Cf.snd (c:Cf) (o x:Int) (t:Nat):Option Nat:=
 if c.op t=25 then some (c.b t)
 else if Ph o=true/\Ph (c.op t)=true/\x=c.a t then (if o=c.op t then some (c.b t) else some (c.nx t))
 else none
def Cf.fol (c:Cf) (o x:Int):Nat->Nat->Nat
 |0,t=>t
 |f+1,t=>match c.snd o x t with
  |none=>t
  |some t'=>c.fol o x f t'
structure Cf.Ok (c:Cf):Prop where
 j:∀ p,c.L p->jmp (c.op p)=true->c.L (c.b p)/\(c.b p<=p->c.op (c.b p)=1)
 f:∀ p,c.L p->QV (c.op p)=false->c.nx p<c.n
 e:c.nf 0<c.n
 m:∀ p,c.mv p=true->c.op p=2
theorem Cf.Ok.nx {c:Cf} (h:c.Ok) {p:Nat} (hp:c.L p) (ha:QV (c.op p)=false):c.L (c.nx p)/\p<c.nx p:=by
 have:=Cf.nf_L (h.f p hp ha)
 exact ⟨this.1,this.2⟩
theorem JB {c:Cf} {o x:Int} {t:Nat} (h:c.op t=1):c.snd o x t=none:=by
 unfold Cf.snd
 rw [if_neg (by rw [h];decide),if_neg (fun k=>by rw [h] at k;exact absurd k.2.1 (by decide))]
theorem Cf.Ok.snd {c:Cf} (h:c.Ok) {o x:Int} {t t':Nat} (ht:c.L t) (e:c.snd o x t=some t'):c.L t'/\(t<t'∨c.op t'=1):=by
 unfold Cf.snd at e
 split at e
 ·rename_i k
  cases e
  obtain ⟨h1,h2⟩:=h.j t ht (by rw [k];rfl)
  exact ⟨h1,by rcases Nat.lt_or_ge t (c.b t) with d|d;exact .inl d;exact .inr (h2 d)⟩
 ·split at e
  ·rename_i k
   split at e
   ·cases e
    obtain ⟨h1,h2⟩:=h.j t ht (KV k.2.1)
    exact ⟨h1,by rcases Nat.lt_or_ge t (c.b t) with d|d;exact .inl d;exact .inr (h2 d)⟩
   ·cases e
    have ha:QV (c.op t)=false:=by
     have:=k.2.1
     simp [Ph] at this
     rcases this with q|q<;>rw [q]<;>rfl
    have:=h.nx ht ha
    exact ⟨this.1,.inl this.2⟩
  ·cases e
theorem Cf.Ok.fol {c:Cf} (h:c.Ok) {o x:Int}:∀ (f t:Nat),c.L t->c.n-t+1<=f->c.L (c.fol o x f t)/\c.snd o x (c.fol o x f t)=none
 |0,t,ht,hf=>by omega
 |f+1,t,ht,hf=>by
  unfold Cf.fol
  split
  ·rename_i e;exact ⟨ht,e⟩
  ·rename_i t' e
   obtain ⟨h1,h2⟩:=h.snd ht e
   have:=ht.1
   rcases h2 with h2|h2
   ·exact h.fol f t' h1 (by omega)
   ·have e2:c.snd o x t'=none:=JB h2
    have:c.fol o x f t'=t':=by
     cases f with
     |zero=>rfl
     |succ f=>unfold Cf.fol;rw [e2]
    rw [this]
    exact ⟨h1,e2⟩
def Cf.last (c:Cf) (p:Nat):Nat:=c.fol (c.op p) (c.a p) (c.n+1) (c.b p)
def Cf.aim (c:Cf) (p:Nat):Cf:={ c with b:=fun q=>if q=p then c.last p else c.b q }
theorem Cf.Ok.last {c:Cf} (h:c.Ok) {p:Nat} (hp:c.L p) (hj:jmp (c.op p)=true):c.L (c.last p)/\c.snd (c.op p) (c.a p) (c.last p)=none:=
 h.fol _ _ (h.j p hp hj).1 (by omega)
end Go.Proofs.YtjibjahfbblieaaGreatDoor
namespace Go.Proofs.YtjibjahfbblieaaGreatDoor.F
set_option linter.unusedVariables false
structure RepV (A B K Q v:Nat) (tr:Bool):Prop where
 le:v*B<=A*10^K
 eq:tr=false->v*B=A*10^K
 lt:tr=true->v*B<A*10^K
 fl:∀ p,p*B<=A*10^Q->p*10^(K-Q)<=v
theorem RepV.of_eq {A B K Q v:Nat} (hB:0<B) (hQ:Q<=K) (h:v*B=A*10^K):RepV A B K Q v false:=by
 refine ⟨Nat.le_of_eq h,fun _=>h,fun h=>(by cases h),fun p hp=>?_⟩
 refine Nat.le_of_mul_le_mul_right ?_ hB
 calc p*10^(K-Q)*B=p*B*10^(K-Q):=Nat.mul_right_comm _ _ _
  _<=A*10^Q*10^(K-Q):=Nat.mul_le_mul_right _ hp
  _=v*B:=by rw [Nat.mul_assoc,<-Nat.pow_add,h];congr 2;omega
theorem RepV.exact {A B K Q v:Nat} {tr:Bool} (h:RepV A B K Q v tr) (hQ:Q<=K) (hd:B ∣ A*10^Q):tr=false:=by
 cases tr with
 |false=>rfl
 |true=>
  exfalso
  have h1:=h.lt rfl
  obtain ⟨p,hp⟩:=hd
  have h2:=h.fl p (by rw [hp,Nat.mul_comm];exact Nat.le_refl _)
  have h3:=Nat.mul_le_mul_right B h2
  have e:p*10^(K-Q)*B=A*10^K:=by
   rw [Nat.mul_right_comm,Nat.mul_comm p B,<-hp,Nat.mul_assoc,<-Nat.pow_add];congr 2;omega
  omega
theorem RepV.left {A B K Q Q' v k:Nat} {tr:Bool} (h:RepV A B K Q v tr) (hQ:Q<=K) (hQ':Q'+k<=Q):RepV (A*2^k) B K Q' (v*2^k) tr:=by
 have p2:0<2^k:=Nat.pow_pos (by omega)
 have e:v*2^k*B=v*B*2^k:=Nat.mul_right_comm _ _ _
 have e2:A*2^k*10^K=A*10^K*2^k:=Nat.mul_right_comm _ _ _
 refine ⟨?_,fun ht=>?_,fun ht=>?_,fun p hp=>?_⟩
 ·rw [e,e2];exact Nat.mul_le_mul_right _ h.le
 ·rw [e,e2,h.eq ht]
 ·rw [e,e2];exact Nat.mul_lt_mul_of_pos_right (h.lt ht) p2
 ·have e10:(10:Nat)^k=2^k*5^k:=by rw [<-Nat.mul_pow]
  have h1:=h.fl (p*(5^k*10^(Q-Q'-k))) (by
   calc p*(5^k*10^(Q-Q'-k))*B=p*B*(5^k*10^(Q-Q'-k)):=Nat.mul_right_comm _ _ _
    _<=A*2^k*10^Q'*(5^k*10^(Q-Q'-k)):=Nat.mul_le_mul_right _ hp
    _=A*((2^k*5^k)*(10^Q'*10^(Q-Q'-k))):=by simp only [Nat.mul_left_comm,Nat.mul_assoc]
    _=A*10^Q:=by rw [<-e10,<-Nat.pow_add,<-Nat.pow_add];congr 2;omega)
  have h2:=Nat.mul_le_mul_right (2^k) h1
  have e3:p*(5^k*10^(Q-Q'-k))*10^(K-Q)*2^k=p*10^(K-Q'):=by
   calc p*(5^k*10^(Q-Q'-k))*10^(K-Q)*2^k=p*((2^k*5^k)*(10^(Q-Q'-k)*10^(K-Q))):=by simp only [Nat.mul_comm,Nat.mul_left_comm,Nat.mul_assoc]
    _=p*10^(K-Q'):=by rw [<-e10,<-Nat.pow_add,<-Nat.pow_add];congr 2;omega
  rw [e3] at h2
  exact h2
theorem RepV.right {A B K Q v v' k:Nat} {tr:Bool} (h:RepV A B K Q v tr) (hv:v'*2^k=v):RepV A (B*2^k) K Q v' tr:=by
 have p2:0<2^k:=Nat.pow_pos (by omega)
 have e:v'*(B*2^k)=v*B:=by rw [<-hv,Nat.mul_right_comm,Nat.mul_assoc]
 refine ⟨?_,fun ht=>?_,fun ht=>?_,fun p hp=>?_⟩
 ·rw [e];exact h.le
 ·rw [e];exact h.eq ht
 ·rw [e];exact h.lt ht
 ·have h1:=h.fl (p*2^k) (by rw [Nat.mul_assoc,Nat.mul_comm (2^k)];exact hp)
  refine Nat.le_of_mul_le_mul_right ?_ p2
  rw [hv,Nat.mul_right_comm];exact h1
theorem RepV.cut {A B K Q x m u r a:Nat} {tr tr':Bool} (hB:0<B) (h:RepV A B K Q x tr) (hx:x=m*u+r) (hr:r<u) (hu:r=0∨10^(K-Q)=a*u) (ht:tr'=(tr||decide (r≠0))):RepV A B K Q (m*u) tr':=by
 have hle:m*u*B<=x*B:=Nat.mul_le_mul_right _ (by omega)
 refine ⟨Nat.le_trans hle h.le,fun e=>?_,fun e=>?_,fun p hp=>?_⟩
 ·rw [e] at ht
  have h0:tr=false/\r=0:=by
   cases tr
   ·simp at ht;exact ⟨rfl,ht⟩
   ·simp at ht
  have:=h.eq h0.1
  rw [hx,h0.2,Nat.add_zero] at this
  exact this
 ·rw [e] at ht
  by_cases h0:tr=true
  ·exact Nat.lt_of_le_of_lt hle (h.lt h0)
  ·have hr0:0<r:=by
    cases tr
    ·simp at ht;omega
    ·exact absurd rfl h0
   refine Nat.lt_of_lt_of_le ?_ h.le
   rw [hx,Nat.add_mul]
   have:=Nat.mul_pos hr0 hB
   omega
 ·have h1:=h.fl p hp
  rcases hu with hu|hu
  ·omega
  ·rw [hu,<-Nat.mul_assoc] at h1 ⊢
   rw [hx] at h1
   have h2:p*a*u<(m+1)*u:=by rw [Nat.add_mul,Nat.one_mul];omega
   have h3:p*a<m+1:=Nat.lt_of_mul_lt_mul_right h2
   exact Nat.mul_le_mul_right _ (by omega)
theorem RepV.rq {A B K Q v:Nat} {tr:Bool} (hB:0<B) (h:RepV A B K Q v tr) (hQ1:1<=Q) (hQ:Q<=K):
 rq A B=v/10^K+(if 10^K<2*(v%10^K)∨(2*(v%10^K)=10^K/\(tr=true∨v/10^K%2=1)) then 1 else 0):=by
 have hu:=jy K
 have fl2:∀ p,p*B<=A*2->p*10^K<=v*2:=by
  intro p hp
  have h1:=h.fl (p*(5*10^(Q-1))) (by
   calc p*(5*10^(Q-1))*B=p*B*(5*10^(Q-1)):=Nat.mul_right_comm _ _ _
    _<=A*2*(5*10^(Q-1)):=Nat.mul_le_mul_right _ hp
    _=A*(10^(Q-1)*10):=by rw [Nat.mul_assoc];congr 1;omega
    _=A*10^Q:=by rw [<-Nat.pow_succ];congr 2;omega)
  have h2:=Nat.mul_le_mul_right 2 h1
  have e:p*(5*10^(Q-1))*10^(K-Q)*2=p*10^K:=by
   calc p*(5*10^(Q-1))*10^(K-Q)*2=p*(10*10^(Q-1)*10^(K-Q)):=by rw [Nat.mul_assoc p,Nat.mul_assoc p];congr 1;generalize 10^(Q-1)=a;generalize 10^(K-Q)=b;rw [Nat.mul_comm _ 2,<-Nat.mul_assoc,<-Nat.mul_assoc]
    _=p*10^K:=by rw [Nat.mul_comm 10,<-Nat.pow_succ,<-Nat.pow_add];congr 2;omega
  rw [e] at h2
  exact h2
 have hq:=Nat.div_add_mod A B
 have hr:=Nat.mod_lt A hB
 have hqv:=Nat.div_add_mod v (10^K)
 have hrv:=Nat.mod_lt v hu
 have hle:=h.le
 have hlt:=h.lt
 have heq0:=h.eq
 have e1:A/B=v/10^K:=by
  apply Nat.le_antisymm
  ·have a1:=fl2 (A/B*2) (by rw [Nat.mul_right_comm];exact Nat.mul_le_mul_right _ (Nat.div_mul_le_self A B))
   rw [Nat.mul_right_comm] at a1
   exact (Nat.le_div_iff_mul_le hu).2 (Nat.le_of_mul_le_mul_right a1 (by omega))
  ·refine (Nat.le_div_iff_mul_le hB).2 ?_
   refine Nat.le_of_mul_le_mul_right ?_ hu
   calc v/10^K*B*10^K=v/10^K*10^K*B:=Nat.mul_right_comm _ _ _
    _<=v*B:=Nat.mul_le_mul_right _ (Nat.div_mul_le_self _ _)
    _<=A*10^K:=hle
 unfold YtjibjahfbblieaaGreatDoor.F.rq
 rw [<-e1]
 congr 1
 generalize hqd:A/B=q at *
 rw [e1] at hq
 rw [<-e1] at hqv hq
 generalize hR:A%B=R at *
 generalize hS:v%10^K=S at *
 generalize hU:10^K=U at *
 have hle':S*B<=R*U:=by
  have a:v*B=U*q*B+S*B:=by rw [<-hqv,Nat.add_mul]
  have b:A*U=B*q*U+R*U:=by rw [<-hq,Nat.add_mul]
  have c:U*q*B=B*q*U:=by rw [Nat.mul_comm U,Nat.mul_comm B,Nat.mul_right_comm]
  omega
 have hfl:B<=2*R->U<=2*S:=by
  intro hh
  have a:=fl2 (2*q+1) (by rw [<-hq,Nat.add_mul,Nat.add_mul,Nat.mul_comm B q,Nat.mul_assoc 2];omega)
  rw [<-hqv,Nat.add_mul,Nat.add_mul,Nat.mul_comm U q,Nat.mul_assoc 2] at a
  omega
 have hst:tr=true->S*B<R*U:=by
  intro ht
  have a:v*B=U*q*B+S*B:=by rw [<-hqv,Nat.add_mul]
  have b:A*U=B*q*U+R*U:=by rw [<-hq,Nat.add_mul]
  have c:U*q*B=B*q*U:=by rw [Nat.mul_comm U,Nat.mul_comm B,Nat.mul_right_comm]
  have:=hlt ht
  omega
 have heq:tr=false->S*B=R*U:=by
  intro ht
  have a:v*B=U*q*B+S*B:=by rw [<-hqv,Nat.add_mul]
  have b:A*U=B*q*U+R*U:=by rw [<-hq,Nat.add_mul]
  have c:U*q*B=B*q*U:=by rw [Nat.mul_comm U,Nat.mul_comm B,Nat.mul_right_comm]
  have:=heq0 ht
  omega
 have k1:U<2*S->B<2*R:=by
  intro hh
  have a:B*U<B*(2*S):=Nat.mul_lt_mul_of_pos_left hh hB
  have b:B*(2*S)=2*(S*B):=by rw [Nat.mul_comm B,Nat.mul_assoc]
  have c:2*R*U=2*(R*U):=Nat.mul_assoc _ _ _
  exact Nat.lt_of_mul_lt_mul_right (a:=U) (by omega)
 have k2:2*S=U->tr=true->B<2*R:=by
  intro hh ht
  have:=hst ht
  have b:B*U=2*(S*B):=by rw [<-hh,Nat.mul_comm B,Nat.mul_assoc]
  have c:2*R*U=2*(R*U):=Nat.mul_assoc _ _ _
  exact Nat.lt_of_mul_lt_mul_right (a:=U) (by omega)
 have k3:2*S=U->tr=false->2*R=B:=by
  intro hh ht
  have:=heq ht
  have b:B*U=2*(S*B):=by rw [<-hh,Nat.mul_comm B,Nat.mul_assoc]
  have c:2*R*U=2*(R*U):=Nat.mul_assoc _ _ _
  exact Nat.eq_of_mul_eq_mul_right hu (by omega)
 have k4:2*S<U->2*R<B:=by
  intro hh
  rcases Nat.lt_or_ge (2*R) B with g|g
  ·exact g
  ·have:=hfl g;omega
 have key:(B<2*R∨2*R=B/\q%2=1)↔(U<2*S∨2*S=U/\(tr=true∨q%2=1)):=by
  rcases Nat.lt_trichotomy (2*S) U with c|c|c
  ·have:=k4 c;omega
  ·cases htr:tr with
   |true=>have:=k2 c htr;simp;omega
   |false=>have:=k3 c htr;simp;omega
  ·have:=k1 c;omega
 simp only [key]
end Go.Proofs.YtjibjahfbblieaaGreatDoor.F
