import Derived.Test.YtbpcdfbmnklcjaaGreatDoorKJS6
import Derived.Test.YtbpcdfbmnklcjaaGreatDoorKHST
namespace Go.Proofs.YtbpcdfbmnklcjaaGreatDoor
set_option linter.unusedVariables false
variable {g:Hp} {n:Nat}
theorem lW (g:Hp) (n m:Nat):((g.back n).ob m).map Ob.es=(g.ob m).map Ob.es:=by
 unfold Hp.back;split
 ·split
  ·show ((g.upd n fun o=>{ o with col:=2 }).ob m).map _=_
   rw [Hp.Hf];split
   ·cases g.ob m<;>rfl
   ·rfl
  ·rfl
 ·rfl
theorem wQ (g:Hp) (n:Nat):(g.back n).nu+(g.back n).again.length<=g.nu+g.again.length+1:=by
 unfold Hp.back;split
 ·split
  ·have c:=g.J_ n 2 rfl
   have b:Hp.nu { g.upd n (fun o=>{ o with col:=2 }) with again:=g.again++[n] }=(g.upd n fun o=>{ o with col:=2 }).wn+g.grey.length+g.GZ.length+g.weak.length:=rfl;have a:g.nu=g.wn+g.grey.length+g.GZ.length+g.weak.length:=rfl;rw [b,a];simp;omega
  ·omega
 ·omega
theorem Dw (h:Hp) (n:Nat) (f:List En->List En):(h.upd n fun o=>{ o with es:=f o.es }).wn=h.wn:=by
 refine nk (h.Hu n _) (fun m=>?_);rw [Hp.Hf];split
 ·cases h.ob m<;>rfl
 ·rfl
theorem zD (h:g.state≠1->g.grey=[]/\g.again=[]/\g.weak=[]/\g.GZ=[]):(g.back n).state≠1->(g.back n).grey=[]/\(g.back n).again=[]/\(g.back n).weak=[]/\(g.back n).GZ=[]:=by
 obtain ⟨l,k,j,i,k5,f,_⟩:=Hp.Ib g n;intro e;rw [f] at e;obtain ⟨a,b,c,d⟩:=h e;refine ⟨k.trans a,?_,j.trans c,i.trans d⟩;unfold Hp.back;split
 ·rw [if_neg (fun x=>e x.2)];exact b
 ·exact b
theorem pR (g:Hp) (n:Nat):cu (g.back n)=cu g:=by
 refine jC (Hp.Ib g n).1 (fun m=>?_);have:=lW g n m;cases e1:(g.back n).ob m<;>cases e2:g.ob m<;>simp [e1,e2] at this ⊢
 rw [this]
theorem Gd.putAt {k:Nat} {h:Hp} (g:Gd h) (b:Bd k h) (hk:k+1<=5000) (G:h.freed=[]) {n j:Nat} {o:Ob} {v:HV} (ho:h.ob n=some o) (w:h.Ok n) (E:∀ r∈bQ v,h.Ok r):Gd (h.putAt n j v)/\Bd (k+1) (h.putAt n j v):=by
 obtain ⟨C,N,M,L,k5,K,J,B,A,u,d,t,q,p,l⟩:=Hp.Ib (h.upd n fun o=>{ o with es:=o.es.modify j fun e=>(e.1,v) }) n;have hi:=g.i.putAt (j:=j) ho w E;have F:cu (h.putAt n j v)=cu h:=by
  refine (pR _ n).trans (jC (h.Hu n _) (fun m=>?_));rw [Hp.Hf];split
  ·cases h.ob m<;>simp
  ·rfl
 have z:mg (h.putAt n j v):=g.n.of F d q;have f:=wQ (h.upd n fun o=>{ o with es:=o.es.modify j fun e=>(e.1,v) }) n;have D:=Dw h n (fun es=>es.modify j fun e=>(e.1,v));have hb:Bd (k+1) (h.putAt n j v):=by
  refine ⟨?_,?_,?_,?_,?_,?_,fun m o' e=>?_⟩
  ·rw [show (h.putAt n j v).objs.length=_ from C,h.Hu];have:=b.len;omega
  ·have H:(h.upd n fun o=>{ o with es:=o.es.modify j fun e=>(e.1,v) }).nu=h.nu:=by
    show (h.upd n fun o=>{ o with es:=o.es.modify j fun e=>(e.1,v) }).wn+h.grey.length+h.GZ.length+h.weak.length=h.wn+h.grey.length+h.GZ.length+h.weak.length;rw [D]
   rw [H] at f;have:=b.na;have:(h.putAt n j v).nu+(h.putAt n j v).again.length<=h.nu+h.again.length+1:=f;omega
  ·rw [show (h.putAt n j v).finals=_ from u,show (h.putAt n j v).pending=_ from A];have:=b.fp;show h.finals.length+h.pending.length<=_;omega
  ·rw [show (h.putAt n j v).bytes=_ from d];have:=b.Nh;show h.bytes<=_;omega
  ·rw [show (h.putAt n j v).GY=_ from t];have:=b.cr;show h.GY<=_;omega
  ·rw [show (h.putAt n j v).roots=_ from B];have:=b.rt;show h.roots.length<=_;omega
  ·have a:=lW (h.upd n fun o=>{ o with es:=o.es.modify j fun e=>(e.1,v) }) n m
   rw [show ((h.upd n fun o=>{ o with es:=o.es.modify j fun e=>(e.1,v) }).back n).ob m=_ from e,Hp.Hf] at a;split at a
   ·rename_i c
    subst c;rw [ho] at a;simp at a;rw [a];exact (b.kd n o ho).mod j v
   ·cases e2:h.ob m with
    |none=>rw [e2] at a;simp at a
    |some o2=>rw [e2] at a;simp at a;rw [a];exact b.kd m o2 e2
 have y:(h.putAt n j v).freed=[]:=l.trans G;have x:(h.putAt n j v).limit<=404096:=by rw [show (h.putAt n j v).limit=_ from p];exact g.s.lim
 exact ⟨⟨hi,Sm.of hi z hb hk y x,z,zD g.e⟩,hb⟩
theorem Gd.H_ {k:Nat} {h:Hp} (g:Gd h) (b:Bd k h) (hk:k+1<=5000) (S:h.freed=[]) {n:Nat} {o:Ob} {q v:HV} (ho:h.ob n=some o) (C:h.Ok n) (Q:∀ r∈bQ q,h.Ok r) (N:∀ r∈bQ v,h.Ok r) (d:kR o.es q=none):Gd (h.H_ n o q v)/\Bd (k+1) (h.H_ n o q v):=by
 obtain ⟨L,Y,X,W,k5,V,U,K,J,B,l,A,z,y,w⟩:=Hp.Ib { h.upd n (fun o=>{ o with es:=aS o.es++[(q,v)] }) with bytes:=h.bytes-40*(o.es.length-(aS o.es).length)+40,GY:=h.GY+40 } n;have hi:=g.i.H_ ho C Q N;have f:=Hp.Hy ho;have P:=lQ o.es;have j:=g.n.free ho;have p:∀ m,Hp.ob { h.upd n (fun o=>{ o with es:=aS o.es++[(q,v)] }) with bytes:=h.bytes-40*(o.es.length-(aS o.es).length)+40,GY:=h.GY+40 } m=if n=m then some { o with es:=aS o.es++[(q,v)] } else h.ob m:=by
  intro m;show (h.upd n fun o=>{ o with es:=aS o.es++[(q,v)] }).ob m=_;rw [Hp.Hf];by_cases x:n=m
  ·subst x;rw [if_pos rfl,if_pos rfl,ho];rfl
  ·rw [if_neg x,if_neg x]
 have R:cu (h.H_ n o q v)=(cu h).set n (some ((aS o.es).length+1)):=by
  refine (pR _ n).trans (List.ext_getElem? (fun m=>?_));rw [iC,p,bY,iC];have u:(Hp.objs { h.upd n (fun o=>{ o with es:=aS o.es++[(q,v)] }) with bytes:=h.bytes-40*(o.es.length-(aS o.es).length)+40,GY:=h.GY+40 }).length=h.objs.length:=h.Hu n _;rw [u];by_cases c:n=m
  ·subst c
   rw [if_pos rfl,if_pos f,if_pos rfl,if_pos (by rw [show (cu h).length=h.objs.length by simp [cu]];exact f)];simp
  ·rw [if_neg c,if_neg c]
 have G:(cu h)[n]?=some (some o.es.length):=by rw [iC,if_pos f,ho];rfl
 have s1:=jJ wt (cu h) n (some ((aS o.es).length+1)) _ G;have s2:=jJ on (cu h) n (some ((aS o.es).length+1)) _ G;have F:mg (h.H_ n o q v):=by
  unfold mg;rw [R,show (h.H_ n o q v).bytes=_ from l,show (h.H_ n o q v).live=_ from z];have n1:=g.n.1;have H:=g.n.2;simp only [wt,on] at s1 s2;constructor
  ·show h.bytes-40*(o.es.length-(aS o.es).length)+40=_
   have:=j.2.2.1;rw [n1] at this ⊢;omega
  ·show h.live=_
   rw [H];omega
 have t:=wQ { h.upd n (fun o=>{ o with es:=aS o.es++[(q,v)] }) with bytes:=h.bytes-40*(o.es.length-(aS o.es).length)+40,GY:=h.GY+40 } n;have M:=Dw h n (fun es=>aS es++[(q,v)]);have hb:Bd (k+1) (h.H_ n o q v):=by
  refine ⟨?_,?_,?_,?_,?_,?_,fun m o' e=>?_⟩
  ·rw [show (h.H_ n o q v).objs.length=_ from L]
   show (h.upd n _).objs.length<=_;rw [h.Hu];have:=b.len;omega
  ·have T:Hp.nu { h.upd n (fun o=>{ o with es:=aS o.es++[(q,v)] }) with bytes:=h.bytes-40*(o.es.length-(aS o.es).length)+40,GY:=h.GY+40 }=h.nu:=by
    show (h.upd n fun o=>{ o with es:=aS o.es++[(q,v)] }).wn+h.grey.length+h.GZ.length+h.weak.length=h.wn+h.grey.length+h.GZ.length+h.weak.length;rw [M]
   rw [T] at t;have:=b.na;have:(h.H_ n o q v).nu+(h.H_ n o q v).again.length<=h.nu+h.again.length+1:=t;omega
  ·rw [show (h.H_ n o q v).finals=_ from B,show (h.H_ n o q v).pending=_ from J];have:=b.fp;show h.finals.length+h.pending.length<=_;omega
  ·rw [show (h.H_ n o q v).bytes=_ from l];have:=b.Nh;show h.bytes-40*(o.es.length-(aS o.es).length)+40<=_;omega
  ·rw [show (h.H_ n o q v).GY=_ from A];have:=b.cr;show h.GY+40<=_;omega
  ·rw [show (h.H_ n o q v).roots=_ from K];have:=b.rt;show h.roots.length<=_;omega
  ·have a:=lW { h.upd n (fun o=>{ o with es:=aS o.es++[(q,v)] }) with bytes:=h.bytes-40*(o.es.length-(aS o.es).length)+40,GY:=h.GY+40 } n m
   rw [show (Hp.back { h.upd n (fun o=>{ o with es:=aS o.es++[(q,v)] }) with bytes:=h.bytes-40*(o.es.length-(aS o.es).length)+40,GY:=h.GY+40 } n).ob m=_ from e,p] at a;split at a
   ·simp at a
    rw [a];refine (b.kd n o ho).tidy.snoc (fun e he=>?_);unfold kR at d;rw [List.findIdx?_eq_none_iff] at d;have:=d e (jg he)
    simpa [iK] using this
   ·cases e2:h.ob m with
    |none=>rw [e2] at a;simp at a
    |some o2=>rw [e2] at a;simp at a;rw [a];exact b.kd m o2 e2
 have E:(h.H_ n o q v).freed=[]:=w.trans S;have D:(h.H_ n o q v).limit<=404096:=by rw [show (h.H_ n o q v).limit=_ from y];exact g.s.lim
 exact ⟨⟨hi,Sm.of hi F hb hk E D,F,zD g.e⟩,hb⟩
theorem Gd.put {k:Nat} {h:Hp} (g:Gd h) (b:Bd k h) (hk:k+1<=5000) (d:h.freed=[]) {n:Nat} {q v:HV} (a:h.Ok n) (e:∀ r∈bQ q,h.Ok r) (c:∀ r∈bQ v,h.Ok r):Gd (h.put n q v)/\Bd (k+1) (h.put n q v):=by
 obtain ⟨o,ho,-⟩:=id a;unfold Hp.put;rw [ho];simp only;cases hfn:kR o.es q with
 |some i=>exact g.putAt b hk d ho a c
 |none=>
  simp only;split
  ·exact ⟨g,b.up⟩
  ·exact g.H_ b hk d ho a e c hfn
theorem iQ (h:Hp) (n:Nat) (q v:HV):(h.put n q v).objs.length=h.objs.length/\(h.put n q v).roots=h.roots:=by
 unfold Hp.put;split
 ·exact ⟨rfl,rfl⟩
 ·split
  ·exact ⟨(Hp.Ib _ n).1.trans (h.Hu n _),(Hp.Ib _ n).2.2.2.2.2.2.2.1⟩
  ·split
   ·exact ⟨rfl,rfl⟩
   ·exact ⟨(Hp.Ib _ n).1.trans (h.Hu n _),(Hp.Ib _ n).2.2.2.2.2.2.2.1⟩
theorem Gd.of {k:Nat} {h g:Hp} (x:Gd h) (b:Bd k h) (hk:k<=5000) (v:g.freed=[]) (hi:Inv g) (a:∀ n,(g.ob n).map (fun o=>(o.col,o.es))=(h.ob n).map (fun o=>(o.col,o.es))) (i:g.objs.length=h.objs.length) (t:g.grey=h.grey) (r:g.again=h.again) (q:g.weak=h.weak) (p:g.GZ=h.GZ) (m:g.bytes=h.bytes) (A:g.live=h.live) (z:g.GY=h.GY) (y:g.limit=h.limit) (w:g.state=h.state) (j:g.finals.length+g.pending.length<=k) (c:g.roots.length<=k+1):Gd g/\Bd k g:=by
 have f:cu g=cu h:=by
  refine jC i (fun n=>?_);have:=a n;cases e1:g.ob n<;>cases e2:h.ob n<;>simp [e1,e2] at this ⊢
  rw [this.2]
 have l:mg g:=x.n.of f m A;have u:g.wn=h.wn:=nk i (fun n=>by
  have:=a n;cases e1:g.ob n<;>cases e2:h.ob n<;>simp [e1,e2] at this ⊢
  exact this.1)
 have d:g.nu=h.nu:=by
  show g.wn+g.grey.length+g.GZ.length+g.weak.length=h.wn+h.grey.length+h.GZ.length+h.weak.length;rw [u,t,q,p]
 have hb:Bd k g:=by
  refine ⟨by rw [i];exact b.len,by rw [d,r];exact b.na,j,by rw [m];exact b.Nh,by rw [z];exact b.cr,c,fun n o e=>?_⟩;have:=a n;rw [e] at this;cases e2:h.ob n with
  |none=>rw [e2] at this;simp at this
  |some o2=>rw [e2] at this;simp at this;rw [this.2];exact b.kd n o2 e2
 refine ⟨⟨hi,Sm.of hi l hb hk v (by rw [y];exact x.s.lim),l,fun hs=>?_⟩,hb⟩;rw [w] at hs;rw [t,r,q,p];exact x.e hs
theorem Gd.forget {k:Nat} {h:Hp} (g:Gd h) (b:Bd k h) (hk:k<=5000):Gd h.forget/\Bd k h.forget:=g.of b hk rfl g.i.forget (fun _=>rfl) rfl rfl rfl rfl rfl rfl rfl rfl rfl rfl b.fp b.rt
theorem Gd.G9 {k:Nat} {h:Hp} (g:Gd h) (b:Bd k h) (hk:k<=5000) (d:h.freed=[]) {l:List Nat} (c:∀ n∈l,h.Ok n) (a:l.length<=k+1):Gd (h.G9 l)/\Bd k (h.G9 l):=g.of b hk d (g.i.G9 c) (fun _=>rfl) rfl rfl rfl rfl rfl rfl rfl rfl rfl rfl b.fp a
theorem Gd.pop {k:Nat} {h:Hp} (g:Gd h) (b:Bd k h) (hk:k<=5000) (a:h.freed=[]):Gd h.pop/\Bd k h.pop:=g.of b hk a g.i.pop (fun _=>rfl) rfl rfl rfl rfl rfl rfl rfl rfl rfl rfl (by
 have:=b.fp;show h.finals.length+h.pending.dropLast.length<=k;rw [List.length_dropLast];omega) b.rt
theorem Gd.Iu {k:Nat} {h:Hp} (g:Gd h) (b:Bd k h) (hk:k+1<=5000) (c:h.freed=[]) {n:Nat} (a:h.Ok n):Gd (h.Iu n)/\Bd (k+1) (h.Iu n):=g.of b.up hk c (g.i.Iu a) (fun m=>by
 show ((h.upd n fun o=>{ o with fin:=true }).ob m).map _=_;rw [Hp.Hf];split
 ·cases h.ob m<;>rfl
 ·rfl) (h.Hu n _) rfl rfl rfl rfl rfl rfl rfl rfl rfl (by
 have:=b.fp;show (h.finals++[n]).length+h.pending.length<=k+1;simp;omega) (by have:=b.rt;show h.roots.length<=_;omega)
theorem Gd.make {k:Nat} {h:Hp} (g:Gd h) (b:Bd k h) (hk:k+1<=5000) (p:h.freed=[]) {m:Nat} (hm:m<=3):Gd (h.make m)/\Bd (k+1) (h.make m):=by
 have hi:=(g.i.make hm).1;have a:∀ n,(h.make m).ob n=if n=h.objs.length then some ⟨h.white,m,[],false⟩ else h.ob n:=fun n=>h.IV _ n
 have l:cu (h.make m)=cu h++[some 0]:=by unfold cu Hp.make;simp
 have d:mg (h.make m):=by
  unfold mg;rw [l,tu,tu];exact ⟨by show h.bytes+40=_;rw [g.n.1];rfl,by show h.live+1=_;rw [g.n.2];rfl⟩
 have f:(h.make m).wn=h.wn+1:=by
  have:=g.i.w1;unfold Hp.wn Hp.make;simp only [List.countP_append];have q:List.countP q8 [some (⟨h.white,m,[],false⟩:Ob)]=1:=by
   rcases (by omega:h.white=0∨h.white=1) with z|z<;>rw [z]<;>rfl
  rw [q]
 have c:(h.make m).nu=h.nu+1:=by
  show (h.make m).wn+h.grey.length+h.GZ.length+h.weak.length=h.wn+h.grey.length+h.GZ.length+h.weak.length+1;rw [f];omega
 have hb:Bd (k+1) (h.make m):=by
  have b1:=b.len;have b2:=b.na;have b3:=b.fp;have b4:=b.Nh;have b5:=b.cr;have b6:=b.rt;refine ⟨?_,?_,?_,?_,?_,?_,fun n o e=>?_⟩
  ·show (h.objs++[_]).length<=_
   simp;omega
  ·rw [c];show h.nu+1+h.again.length<=_;omega
  ·show h.finals.length+h.pending.length<=_;omega
  ·show h.bytes+40<=_;omega
  ·show h.GY+40<=_;omega
  ·show h.roots.length<=_;omega
  ·rw [a] at e
   split at e
   ·simp at e;rw [<-e];intro i j x y hx;simp at hx
   ·exact b.kd n o e
 refine ⟨⟨hi,Sm.of hi d hb hk p g.s.lim,d,fun hs=>g.e hs⟩,hb⟩
end Go.Proofs.YtbpcdfbmnklcjaaGreatDoor
