import Derived.Test.YtjibjahfbblieaaGreatDoorKMC0
namespace Go.Proofs.YtjibjahfbblieaaGreatDoor.F
def rq (N D:Nat):Nat:=N/D+(if D<2*(N%D)∨(2*(N%D)=D/\N/D%2=1) then 1 else 0)
def ak:Nat:=9218868437227405312
def aC (N d W:Nat):Prop:=∃ k,N<d*2^(53+k)/\(k=0∨d*2^(52+k)<=N)/\W=min (k*4503599627370496+rq N (d*2^k)) ak
theorem kX {N D c:Nat} (hc:0<c):rq (N*c) (D*c)=rq N D:=by
 unfold rq
 rw [Nat.mul_div_mul_right _ _ hc,Nat.mul_mod_mul_right]
 congr 1
 have e1:(D*c<2*(N%D*c))↔(D<2*(N%D)):=by
  rw [<-Nat.mul_assoc]
  exact Nat.mul_lt_mul_right hc
 have e2:(2*(N%D*c)=D*c)↔(2*(N%D)=D):=by
  rw [<-Nat.mul_assoc]
  exact ⟨fun h=>Nat.eq_of_mul_eq_mul_right hc h,fun h=>by rw [h]⟩
 simp only [e1,e2]
theorem aC.scale {N d W c:Nat} (hc:0<c):aC (N*c) (d*c) W↔aC N d W:=by
 unfold aC
 have e:∀ k,(N*c<d*c*2^(53+k)/\(k=0∨d*c*2^(52+k)<=N*c)/\W=min (k*4503599627370496+rq (N*c) (d*c*2^k)) ak)↔
  (N<d*2^(53+k)/\(k=0∨d*2^(52+k)<=N)/\W=min (k*4503599627370496+rq N (d*2^k)) ak):=by
  intro k
  have r1:d*c*2^(53+k)=d*2^(53+k)*c:=by rw [Nat.mul_right_comm]
  have r2:d*c*2^(52+k)=d*2^(52+k)*c:=by rw [Nat.mul_right_comm]
  have r3:d*c*2^k=d*2^k*c:=by rw [Nat.mul_right_comm]
  rw [r1,r2,r3,kX hc]
  rw [Nat.mul_lt_mul_right hc,Nat.mul_le_mul_right_iff hc]
 exact ⟨fun ⟨k,h⟩=>⟨k,(e k).1 h⟩,fun ⟨k,h⟩=>⟨k,(e k).2 h⟩⟩
theorem aC.unique {N d W W':Nat} (h:aC N d W) (h':aC N d W'):W=W':=by
 obtain ⟨k,h1,h2,h3⟩:=h
 obtain ⟨k',h1',h2',h3'⟩:=h'
 have key:∀ a b:Nat,N<d*2^(53+a)->(b=0∨d*2^(52+b)<=N)->b<=a:=by
  intro a b ha hb
  rcases hb with hb|hb
  ·omega
  ·refine Nat.le_of_not_lt fun hlt=>?_
   have:d*2^(53+a)<=d*2^(52+b):=Nat.mul_le_mul_left _ (Nat.pow_le_pow_right (by omega) (by omega))
   omega
 have e1:=key k k' h1 h2'
 have e2:=key k' k h1' h2
 have:k=k':=by omega
 subst this
 rw [h3,h3']
theorem rM {n d i j A B k:Nat} (hA:k+j+B=A+i) (hlt:n*2^j<d*2^i*2^53) (hge:k=0∨d*2^i*2^52<=n*2^j):
 aC (n*2^A) (d*2^B) (min (k*4503599627370496+rq (n*2^j) (d*2^i)) ak):=by
 have p:∀ x:Nat,0<2^x:=fun x=>Nat.pow_pos (by omega)
 refine ⟨k,?_,?_,?_⟩
 ·have h:=Nat.mul_lt_mul_of_pos_right hlt (p A)
  have e1:d*2^i*2^53*2^A=d*2^B*2^(53+k)*2^j:=by
   rw [Nat.mul_assoc,Nat.mul_assoc,<-Nat.pow_add,<-Nat.pow_add,Nat.mul_assoc,Nat.mul_assoc,<-Nat.pow_add,<-Nat.pow_add]
   congr 2;omega
  have e2:n*2^j*2^A=n*2^A*2^j:=by rw [Nat.mul_right_comm]
  rw [e1,e2] at h
  exact Nat.lt_of_mul_lt_mul_right h
 ·rcases hge with hge|hge
  ·left;exact hge
  ·right
   have h:=Nat.mul_le_mul_right (2^A) hge
   have e1:d*2^i*2^52*2^A=d*2^B*2^(52+k)*2^j:=by
    rw [Nat.mul_assoc,Nat.mul_assoc,<-Nat.pow_add,<-Nat.pow_add,Nat.mul_assoc,Nat.mul_assoc,<-Nat.pow_add,<-Nat.pow_add]
    congr 2;omega
   have e2:n*2^j*2^A=n*2^A*2^j:=by rw [Nat.mul_right_comm]
   rw [e1,e2] at h
   exact Nat.le_of_mul_le_mul_right h (p j)
 ·have e:rq (n*2^j) (d*2^i)=rq (n*2^A) (d*2^B*2^k):=by
   rw [<-kX (N:=n*2^j) (p A),<-kX (N:=n*2^A) (p j)]
   congr 1
   ·rw [Nat.mul_right_comm]
   ·rw [Nat.mul_assoc,<-Nat.pow_add,Nat.mul_assoc,Nat.mul_assoc,<-Nat.pow_add,<-Nat.pow_add]
    congr 2;omega
  rw [e]
theorem oI {d n n2 q b:Nat} (h1:n2=q*d+n) (h2:n<d*2^(b+1)) (h3:q+2^(b+1)<=9007199254740992):
 (d*2^b<=n->n2=(q+2^b)*d+(n-d*2^b)/\n-d*2^b<d*2^b/\q+2^b+2^b<=9007199254740992)/\
 (¬ d*2^b<=n->n<d*2^b/\q+2^b<=9007199254740992):=by
 have e:d*2^(b+1)=2*(d*2^b):=by rw [Nat.pow_succ];grind
 have e3:2^(b+1)=2^b+2^b:=by rw [Nat.pow_succ];omega
 rw [e] at h2
 rw [e3] at h3
 generalize 2^b=p at *
 refine ⟨fun h=>⟨?_,by omega,by omega⟩,fun h=>⟨by omega,by omega⟩⟩
 have:(q+p)*d=q*d+d*p:=by grind
 omega
theorem D9 {d n n2 q:Nat} (h1:n2=q*d+n) (h2:n<d):n2/d=q/\n2%d=n:=by
 subst h1
 have hd:0<d:=by omega
 constructor
 ·rw [Nat.mul_comm,Nat.mul_add_div hd,Nat.div_eq_of_lt h2];omega
 ·rw [Nat.mul_comm,Nat.mul_add_mod,Nat.mod_eq_of_lt h2]
def Up (c z q':Int):Prop:=(q'=z+1/\(0<c∨(c=0/\z%2=1)))∨(q'=z/\(c<0∨(c=0/\z%2≠1)))
theorem Rh {c z:Int} (h:0<c):Up c z (z+1):=.inl ⟨rfl,.inl h⟩
theorem Q9 {c z:Int} (h:c=0) (h2:(z%2==1)=true):Up c z (z+1):=.inl ⟨rfl,.inr ⟨h,eq_of_beq h2⟩⟩
theorem Rf {c z:Int} (h:c=0) (h2:(z%2==1)=false):Up c z z:=.inr ⟨rfl,.inr ⟨h,ne_of_beq_false h2⟩⟩
theorem Rb {c z:Int} (h:¬ c=0) (h2:c<=0):Up c z z:=.inr ⟨rfl,.inl (by omega)⟩
structure WEnd (E z c:Int) (q D M2:Nat):Prop where
 he: -1074<=E
 hk:E= -1074∨4503599627370496<=q
 hqz:(q:Int)=z
 hz:z<=9007199254740991
 hc:(D<M2/\c=1)∨(M2=D/\c=0)∨(M2<D/\c= -1)
theorem xL {E z c q':Int} {q D M2:Nat} (h:WEnd E z c q D M2) (hu:Up c z q'):((q+if D<M2∨(M2=D/\q%2=1) then 1 else 0:Nat):Int)=q':=by
 obtain ⟨he,hk,hqz,hz,hc⟩:=h
 unfold Up at hu
 split
 ·rename_i h1;omega
 ·rename_i h1;omega
theorem GD {E z c q':Int} {q D M2:Nat} (h:WEnd E z c q D M2) (hu:Up c z q') (h1:(q'==9007199254740992)=true) (h2:971<E+1):
 9218868437227405312=((min ((E+1074).toNat*4503599627370496+(q+if D<M2∨(M2=D/\q%2=1) then 1 else 0)) ak:Nat):Int):=by
 have e:=xL h hu
 have:=eq_of_beq h1
 generalize (q+if D<M2∨(M2=D/\q%2=1) then 1 else 0)=x at *
 have:=h.he
 clear h hu h1
 unfold ak;omega
theorem Iq {E z c q':Int} {q D M2:Nat} (h:WEnd E z c q D M2) (hu:Up c z q') (h1:(q'==9007199254740992)=true) (h2:E+1<=971):
 (E+1+1075)*4503599627370496=((min ((E+1074).toNat*4503599627370496+(q+if D<M2∨(M2=D/\q%2=1) then 1 else 0)) ak:Nat):Int):=by
 have e:=xL h hu
 have:=eq_of_beq h1
 generalize (q+if D<M2∨(M2=D/\q%2=1) then 1 else 0)=x at *
 have:=h.he
 clear h hu h1
 unfold ak;omega
theorem wu {E z c q':Int} {q D M2:Nat} (h:WEnd E z c q D M2) (hu:Up c z q') (h2:971<E):
 9218868437227405312=((min ((E+1074).toNat*4503599627370496+(q+if D<M2∨(M2=D/\q%2=1) then 1 else 0)) ak:Nat):Int):=by
 have e:=xL h hu
 have hx:q<=(q+if D<M2∨(M2=D/\q%2=1) then 1 else 0):=by omega
 generalize (q+if D<M2∨(M2=D/\q%2=1) then 1 else 0)=x at *
 have:=h.he
 have:=h.hk
 clear h hu
 unfold ak;omega
theorem vO {E z c q':Int} {q D M2:Nat} (h:WEnd E z c q D M2) (hu:Up c z q') (h2:q'<4503599627370496):
 q'=((min ((E+1074).toNat*4503599627370496+(q+if D<M2∨(M2=D/\q%2=1) then 1 else 0)) ak:Nat):Int):=by
 have e:=xL h hu
 have hx:q<=(q+if D<M2∨(M2=D/\q%2=1) then 1 else 0):=by omega
 generalize (q+if D<M2∨(M2=D/\q%2=1) then 1 else 0)=x at *
 have:=h.he
 have:=h.hk
 clear h hu
 unfold ak;omega
theorem vN {E z c q':Int} {q D M2:Nat} (h:WEnd E z c q D M2) (hu:Up c z q') (h1:E<=971) (h2:(q'==9007199254740992)=false):
 (E+1075)*4503599627370496+q'-4503599627370496=((min ((E+1074).toNat*4503599627370496+(q+if D<M2∨(M2=D/\q%2=1) then 1 else 0)) ak:Nat):Int):=by
 have e:=xL h hu
 have hx:(q+if D<M2∨(M2=D/\q%2=1) then 1 else 0)<=q+1:=by split<;>omega
 generalize (q+if D<M2∨(M2=D/\q%2=1) then 1 else 0)=x at *
 have:=h.he
 have:=h.hz
 have:=h.hqz
 have:=ne_of_beq_false h2
 clear h hu h2
 unfold ak;omega
end Go.Proofs.YtjibjahfbblieaaGreatDoor.F
