import Derived.Test.YtbpcdfbmnklcjaaGreatDoorKHYB
import Derived.Test.YtbpcdfbmnklcjaaGreatDoorKHST
namespace Go.Proofs.YtbpcdfbmnklcjaaGreatDoor
set_option linter.unusedVariables false
section
variable {h:Hp} {k:Nat}
theorem tq (i:Inv h) (m:h.state=1) (l:h.MK.at2.at3.M5 k=true):¬ h.atomic.Ok k:=by
 have t:=i.s1 m;have n:=jM.MK h;have j:=M7.at3 h.MK.at2;have b:=(Np.at4 h.MK.at2.at3).trans (Np.Mi _);have g:=(t.MK.at2.at3).cnt b;obtain ⟨_,_,_,_,_,_,f,_⟩:=dX h.MK;have w1:h.MK.white=h.white:=n.white;have d:h.MK.at2.at3.at4.Mi.white=h.white:=b.white.trans (j.white.trans (f.trans w1));rintro ⟨o,e,nd⟩;have c:h.MK.at2.at3.at4.Mi.ob k=some o:=e;have a:=b.M5 k;rw [l,Hp.JA c] at a;refine nd ⟨rfl,a,?_⟩;have:=g.wc k o c a;show o.col≠1-h.MK.at2.at3.at4.Mi.white;rw [this,d];have:=i.w1;omega
theorem Cs.atomic {h:Hp} (i:Inv h) (m:fu h) (D:h.state=1):Cs h h.atomic:=by
 obtain ⟨ia,sa,U,_⟩:=i.atomic D;have t:=i.s1 D;have a1:=jM.MK h;have A:=m.MK;have r:=m.MK.at2.at3;have cv:=Np.fold bU bZ h.MK.weak h.MK;have T:=M7.at3 h.MK.at2;have M:=Np.at4 h.MK.at2.at3;have c5:=M.trans (Np.Mi _);have w:∀ k,h.MK.at2.at3.M5 k=true->¬ h.atomic.Ok k:=fun k hw=>tq i D hw;have b:∀ n a,h.atomic.ob n=some a->∃ d o3 o2 p o1 o,h.MK.at2.at3.at4.ob n=some d/\h.MK.at2.at3.ob n=some o3/\h.MK.at2.ob n=some o2/\(h.MK.weak.foldl Hp.MN h.MK).ob n=some p/\h.MK.ob n=some o1/\h.ob n=some o/\
  a.mode=o.mode/\d.mode=o.mode/\o3.mode=o.mode/\o1.mode=o.mode/\o3.es=o2.es/\o2.es=p.es/\o1.es=o.es:=by
  intro n a e;have v:h.MK.at2.at3.at4.Mi.ob n=some a:=e;obtain ⟨d,N,d4⟩:=(Np.Mi h.MK.at2.at3.at4).Nl n a v;obtain ⟨o3,P,d3⟩:=M.Nl n d N;obtain ⟨o2,y,d2,K,_⟩:=T.ob P;obtain ⟨p,kv,dv,fv⟩:=oD _ n o2 y;obtain ⟨o1,z,d1⟩:=cv.Nl n p kv;obtain ⟨o,k0,d0,Z,_⟩:=M7.ob a1 z;exact ⟨d,o3,o2,p,o1,o,N,P,y,kv,z,k0,by omega,by omega,by omega,by omega,K.symm,fv,Z.symm⟩
 refine ⟨U,fun n k=>?_,fun n a e=>?_,fun n a o e nd e' en he hse=>?_,[],by rw [h.IW.2.2.2.2.1];simp,List.nodup_nil,fun x hx=>by simp at hx⟩
 ·obtain ⟨a,e,_⟩:=k
  obtain ⟨_,_,_,_,_,o,_,_,_,_,_,G,_⟩:=b n a e;exact Hp.Kq (by omega) ⟨o,G⟩
 ·obtain ⟨_,_,_,_,_,o,_,_,_,_,_,G,W,_⟩:=b n a e
  exact ⟨o,G,W⟩
 ·obtain ⟨d,o3,o2,p,o1,o0,Q,J,h2,V,R,S,d',d4,d3,d1,X,K,Y⟩:=b n a e
  rw [e'] at S;cases S;by_cases l:2<=o.mode
  ·exact .inr (.inl l)
  have C:n ∉ h.MK.weak:=fun c=>l (by have:=(A n o1 R).1 c;omega);have ev:=nK h.MK.weak h.MK n;rw [V,R] at ev;simp only [Option.map_some,Option.some.injEq,if_neg C] at ev;have s:n ∉ h.MK.at2.at3.weak:=fun c=>l (by have:=(r n o3 J).1 c;omega);have g:o3.es=o.es:=by rw [X,K,ev,Y]
  have v:h.MK.at2.at3.at4.Mi.ob n=((h.MK.at2.at3.at4.weak.foldl Hp.MN h.MK.at2.at3.at4).ob n).map (h.MK.at2.at3.at4.weak.foldl Hp.MN h.MK.at2.at3.at4).drop1:=by
   unfold Hp.Mi Hp.Im;rw [Hp.KF]
  have L:h.MK.at2.at3.at4.Mi.ob n=some a:=e;have B:n ∉ h.MK.at2.at3.at4.weak:=fun c=>s (M.weak ▸ c);rw [L,nK,Q] at v;simp only [Option.map_some,Option.some.injEq,if_neg B] at v;have f:∀ x∈d.es,x.2.isSome=true->x∈a.es:=by
   intro x hx u;rw [v];unfold Hp.drop1;split
   ·exact hx
   ·refine List.mem_map.2 ⟨x,hx,?_⟩
    unfold dG;rw [if_neg];intro c;simp at c;rw [c.1] at u;cases u
  have q:=lM (h.MK.at2.at3.G8++h.MK.at2.at3.weak) h.MK.at2.at3 n;have H:((h.MK.at2.at3.G8++h.MK.at2.at3.weak).foldl Hp.Ml h.MK.at2.at3).ob n=some d:=Q;rw [H,J] at q;simp only [Option.map_some,Option.some.injEq] at q;by_cases j:n∈h.MK.at2.at3.G8++h.MK.at2.at3.weak
  ·have F:n∈h.MK.at2.at3.G8:=(eT.1 j).elim id (fun c=>(s c).elim)
   have E:o.mode=1:=by have:=(r n o3 J).2 F;omega
   rw [if_pos j] at q;by_cases hk:h.MK.at2.at3.MO en.1=true
   ·obtain ⟨k,z,y⟩:=ow hk
    exact .inr (.inr ⟨E,k,z,w k y⟩)
   ·refine .inl (f en ?_ hse)
    rw [q];refine List.mem_map.2 ⟨en,by rw [g];exact he,?_⟩;unfold b_;rw [if_neg hk]
  ·rw [if_neg j] at q
   refine .inl (f en ?_ hse);rw [q,g];exact he
theorem Cs.G_ {h:Hp} (i:Inv h) (p:h.state=2):Cs h h.G_:=by
 unfold Hp.G_;split
 ·rename_i o ho
  split
  ·rename_i hd
   have q:h.IK o:=⟨p,by simp at hd;simp [hd.1],by simp at hd;exact hd.2⟩
   have c:∀ m,Hp.ob { h with objs:=h.objs.set h.G9 none,live:=h.live-1,bytes:=h.bytes-o.size,freed:=h.freed++[h.G9],G9:=h.G9+1 } m=if h.G9=m then none else h.ob m:=fun m=>h.Kh h.G9 m
   have sub:∀ m a,Hp.ob { h with objs:=h.objs.set h.G9 none,live:=h.live-1,bytes:=h.bytes-o.size,freed:=h.freed++[h.G9],G9:=h.G9+1 } m=some a->h.ob m=some a:=by
    intro m a b;rw [c] at b;split at b
    ·cases b
    ·exact b
   refine ⟨by simp,fun n k=>?_,fun n a e=>⟨a,sub n a e,rfl⟩,fun n a o2 e nd b en he _=>.inl ?_,[h.G9],rfl,by simp,fun x hx=>?_⟩
   ·obtain ⟨a,e,nd⟩:=k
    exact ⟨a,sub n a e,nd⟩
   ·rw [sub n a e] at b;cases b;exact he
   ·simp at hx
    subst hx;refine ⟨⟨o,ho⟩,?_⟩;rintro ⟨a,e⟩;rw [c,if_pos rfl] at e;cases e
  ·rename_i hd
   have c:∀ m,Hp.ob { h.upd h.G9 (fun o=>{ o with col:=h.white }) with G9:=h.G9+1 } m=if h.G9=m then (h.ob m).map (fun o=>{ o with col:=h.white }) else h.ob m:=fun m=>h.Ho h.G9 m _
   have j:¬ h.IK o:=by
    rintro ⟨_,g,f⟩;simp [g,f] at hd
   have sub:∀ m a,Hp.ob { h.upd h.G9 (fun o=>{ o with col:=h.white }) with G9:=h.G9+1 } m=some a->∃ o2,h.ob m=some o2/\a.mode=o2.mode/\a.es=o2.es/\(a=o2∨m=h.G9):=by
    intro m a b;rw [c] at b;split at b
    ·rename_i x
     subst x;rw [ho] at b;simp at b;subst b;exact ⟨o,ho,rfl,rfl,.inr rfl⟩
    ·exact ⟨a,b,rfl,rfl,.inl rfl⟩
   refine Cs.same (by simp [Hp.upd]) (fun n a e=>?_) (fun n k=>?_) rfl
   ·obtain ⟨o2,l,g,f,_⟩:=sub n a e
    exact ⟨o2,l,g,f⟩
   ·obtain ⟨a,e,nd⟩:=k
    obtain ⟨o2,l,g,f,d⟩:=sub n a e;rcases d with d|d
    ·subst d;exact ⟨a,l,nd⟩
    ·subst d;exact ⟨o,ho,j⟩
 ·exact Cs.refl h
theorem Cs.skipped (h:Hp):Cs h h.skipped:=Cs.same rfl (fun n o e=>⟨o,e,rfl,rfl⟩) (fun n k=>k) rfl
theorem Cs.close {h:Hp} (i:Inv h) (b:h.state=2):Cs h h.close:=by
 unfold Hp.close;split
 ·exact Cs.refl h
 ·rename_i hx
  obtain ⟨_,_,_,_,e⟩:=i.s2 b;refine Cs.same rfl (fun n o e=>⟨o,e,rfl,rfl⟩) (fun n k=>?_) rfl;obtain ⟨o,a,_⟩:=k;exact ⟨o,a,fun d=>d.2.2 (e n o a (by have:=Hp.Ia (h:=h) a;omega))⟩
theorem Cs.Hg {h:Hp} (i:Inv h) (a:h.state=2):Cs h h.Hg:=by
 have b:=i.skipped a;obtain ⟨c,s2,_⟩:=b.G_ a;exact (((Cs.skipped h).trans (Cs.G_ b a)).trans (Cs.skipped _)).trans (Cs.close (c.skipped s2) s2)
def iE (h g:Hp):Prop:=Gd h->fu h->Cs h g/\Gd g/\fu g
theorem iE.trans {a b c:Hp} (x:iE a b) (y:iE b c):iE a c:=fun g m=>by
 obtain ⟨l,i,e⟩:=x g m;obtain ⟨j,f,d⟩:=y i e;exact ⟨l.trans j,f,d⟩
theorem iE.refl (h:Hp):iE h h:=fun g m=>⟨Cs.refl h,g,m⟩
theorem iE.advance {h:Hp} (b:h.state≠0):iE h h.advance.1:=fun g m=>by
 refine ⟨?_,g.advance b,m.advance g b⟩;unfold Hp.advance;split
 ·rename_i a;exact Cs.Hg g.i a
 ·rename_i a
  have:=g.i.st;have c:h.state=1:=by omega
  split
  ·exact Cs.atomic g.i m c
  ·exact Cs.MZ (M7.take h) a
theorem iE.begin {h:Hp} (a:h.state=0):iE h h.begin:=fun g m=>⟨Cs.begin a,g.begin a,fu.begin h⟩
theorem iE.work (u:Int) (h:Hp):iE h (Hp.work u h):=Hp.IC (P:=fun _ h q=>iE h q) (fun u h _=>iE.refl h) (fun u h q _ hs x=>(iE.advance hs).trans x) u h
theorem iE.step (u:Int) (h:Hp):iE h (Hp.step u h):=by
 unfold Hp.step;split
 ·rename_i a;exact (iE.begin a).trans (iE.work _ _)
 ·exact iE.work _ _
theorem iE.finish {h:Hp} (i:Inv h):iE h h.finish:=Hp.IQ (P:=fun h q=>iE h q) (fun h _=>iE.refl h) (fun h q _ hs x=>(iE.advance hs).trans x) h i
theorem iE.full {h:Hp} (i:Inv h):iE h h.full:=((iE.finish i).trans (iE.begin i.finish.2)).trans (iE.finish (i.finish.1.begin i.finish.2).1)
theorem iE.JB (h:Hp) (c:Nat) (a:c<=200000):iE h { h with G6:=c }:=fun g m=>⟨Cs.same rfl (fun n o e=>⟨o,e,rfl,rfl⟩) (fun n k=>k) rfl,g.JB c a,fun n o e=>m n o e⟩
theorem iE.Ip (h:Hp):iE h h.Ip:=Hp.I4 (P:=fun h q=>iE h q) (fun h _=>iE.refl h) (fun h q _ _ x=>fun g m=>((iE.JB h (h.G6-256) (by have:=g.s.cr;omega)).trans ((iE.step 64 _).trans x)) g m) h
theorem iE.I6 (h:Hp):iE h h.I6:=by
 unfold Hp.I6;split
 ·split
  ·exact iE.refl h
  ·exact (iE.JB h 0 (by omega)).trans (iE.step 64 _)
 ·exact iE.Ip h
end
section
variable {g:Hp} {n:Nat}
theorem lQ (g:Hp) (n m:Nat):((g.back n).ob m).map Ob.es=(g.ob m).map Ob.es:=by
 unfold Hp.back;split
 ·split
  ·show ((g.upd n fun o=>{ o with col:=2 }).ob m).map _=_
   rw [Hp.Ho];split
   ·cases g.ob m<;>rfl
   ·rfl
  ·rfl
 ·rfl
theorem wO (g:Hp) (n:Nat):(g.back n).nu+(g.back n).again.length<=g.nu+g.again.length+1:=by
 unfold Hp.back;split
 ·split
  ·have c:=g.Kc n 2 rfl
   have b:Hp.nu { g.upd n (fun o=>{ o with col:=2 }) with again:=g.again++[n] }=(g.upd n fun o=>{ o with col:=2 }).wn+g.grey.length+g.G8.length+g.weak.length:=rfl;have a:g.nu=g.wn+g.grey.length+g.G8.length+g.weak.length:=rfl;rw [b,a];simp;omega
  ·omega
 ·omega
theorem DC (h:Hp) (n:Nat) (f:List En->List En):(h.upd n fun o=>{ o with es:=f o.es }).wn=h.wn:=by
 refine nA (h.Hz n _) (fun m=>?_);rw [Hp.Ho];split
 ·cases h.ob m<;>rfl
 ·rfl
theorem zL (h:g.state≠1->g.grey=[]/\g.again=[]/\g.weak=[]/\g.G8=[]):(g.back n).state≠1->(g.back n).grey=[]/\(g.back n).again=[]/\(g.back n).weak=[]/\(g.back n).G8=[]:=by
 obtain ⟨l,k,j,i,k5,f,_⟩:=Hp.Ig g n;intro e;rw [f] at e;obtain ⟨a,b,c,d⟩:=h e;refine ⟨k.trans a,?_,j.trans c,i.trans d⟩;unfold Hp.back;split
 ·rw [if_neg (fun x=>e x.2)];exact b
 ·exact b
theorem pV (g:Hp) (n:Nat):cu (g.back n)=cu g:=by
 refine jF (Hp.Ig g n).1 (fun m=>?_);have:=lQ g n m;cases e1:(g.back n).ob m<;>cases e2:g.ob m<;>simp [e1,e2] at this ⊢
 rw [this]
theorem Gd.putAt {k:Nat} {h:Hp} (g:Gd h) (b:Bd k h) (hk:k+1<=5000) (G:h.freed=[]) {n j:Nat} {o:Ob} {v:HV} (ho:h.ob n=some o) (w:h.Ok n) (E:∀ r∈bQ v,h.Ok r):Gd (h.putAt n j v)/\Bd (k+1) (h.putAt n j v):=by
 obtain ⟨C,N,M,L,k5,K,J,B,A,u,d,t,q,p,l⟩:=Hp.Ig (h.upd n fun o=>{ o with es:=o.es.modify j fun e=>(e.1,v) }) n;have hi:=g.i.putAt (j:=j) ho w E;have F:cu (h.putAt n j v)=cu h:=by
  refine (pV _ n).trans (jF (h.Hz n _) (fun m=>?_));rw [Hp.Ho];split
  ·cases h.ob m<;>simp
  ·rfl
 have z:mg (h.putAt n j v):=g.n.of F d q;have f:=wO (h.upd n fun o=>{ o with es:=o.es.modify j fun e=>(e.1,v) }) n;have D:=DC h n (fun es=>es.modify j fun e=>(e.1,v));have hb:Bd (k+1) (h.putAt n j v):=by
  refine ⟨?_,?_,?_,?_,?_,?_,fun m o' e=>?_⟩
  ·rw [show (h.putAt n j v).objs.length=_ from C,h.Hz];have:=b.len;omega
  ·have H:(h.upd n fun o=>{ o with es:=o.es.modify j fun e=>(e.1,v) }).nu=h.nu:=by
    show (h.upd n fun o=>{ o with es:=o.es.modify j fun e=>(e.1,v) }).wn+h.grey.length+h.G8.length+h.weak.length=h.wn+h.grey.length+h.G8.length+h.weak.length;rw [D]
   rw [H] at f;have:=b.na;have:(h.putAt n j v).nu+(h.putAt n j v).again.length<=h.nu+h.again.length+1:=f;omega
  ·rw [show (h.putAt n j v).finals=_ from u,show (h.putAt n j v).pending=_ from A];have:=b.fp;show h.finals.length+h.pending.length<=_;omega
  ·rw [show (h.putAt n j v).bytes=_ from d];have:=b.Nn;show h.bytes<=_;omega
  ·rw [show (h.putAt n j v).G6=_ from t];have:=b.cr;show h.G6<=_;omega
  ·rw [show (h.putAt n j v).roots=_ from B];have:=b.rt;show h.roots.length<=_;omega
  ·have a:=lQ (h.upd n fun o=>{ o with es:=o.es.modify j fun e=>(e.1,v) }) n m
   rw [show ((h.upd n fun o=>{ o with es:=o.es.modify j fun e=>(e.1,v) }).back n).ob m=_ from e,Hp.Ho] at a;split at a
   ·rename_i c
    subst c;rw [ho] at a;simp at a;rw [a];exact (b.kd n o ho).mod j v
   ·cases e2:h.ob m with
    |none=>rw [e2] at a;simp at a
    |some o2=>rw [e2] at a;simp at a;rw [a];exact b.kd m o2 e2
 have y:(h.putAt n j v).freed=[]:=l.trans G;have x:(h.putAt n j v).limit<=404096:=by rw [show (h.putAt n j v).limit=_ from p];exact g.s.lim
 exact ⟨⟨hi,Sm.of hi z hb hk y x,z,zL g.e⟩,hb⟩
theorem Gd.Ic {k:Nat} {h:Hp} (g:Gd h) (b:Bd k h) (hk:k+1<=5000) (S:h.freed=[]) {n:Nat} {o:Ob} {q v:HV} (ho:h.ob n=some o) (C:h.Ok n) (Q:∀ r∈bQ q,h.Ok r) (N:∀ r∈bQ v,h.Ok r) (d:kG o.es q=none):Gd (h.Ic n o q v)/\Bd (k+1) (h.Ic n o q v):=by
 obtain ⟨L,Y,X,W,k5,V,U,K,J,B,l,A,z,y,w⟩:=Hp.Ig { h.upd n (fun o=>{ o with es:=aS o.es++[(q,v)] }) with bytes:=h.bytes-40*(o.es.length-(aS o.es).length)+40,G6:=h.G6+40 } n;have hi:=g.i.Ic ho C Q N;have f:=Hp.Ia ho;have P:=lD o.es;have j:=g.n.free ho;have p:∀ m,Hp.ob { h.upd n (fun o=>{ o with es:=aS o.es++[(q,v)] }) with bytes:=h.bytes-40*(o.es.length-(aS o.es).length)+40,G6:=h.G6+40 } m=if n=m then some { o with es:=aS o.es++[(q,v)] } else h.ob m:=by
  intro m;show (h.upd n fun o=>{ o with es:=aS o.es++[(q,v)] }).ob m=_;rw [Hp.Ho];by_cases x:n=m
  ·subst x;rw [if_pos rfl,if_pos rfl,ho];rfl
  ·rw [if_neg x,if_neg x]
 have R:cu (h.Ic n o q v)=(cu h).set n (some ((aS o.es).length+1)):=by
  refine (pV _ n).trans (List.ext_getElem? (fun m=>?_));rw [iw,p,gD,iw];have u:(Hp.objs { h.upd n (fun o=>{ o with es:=aS o.es++[(q,v)] }) with bytes:=h.bytes-40*(o.es.length-(aS o.es).length)+40,G6:=h.G6+40 }).length=h.objs.length:=h.Hz n _;rw [u];by_cases c:n=m
  ·subst c
   rw [if_pos rfl,if_pos f,if_pos rfl,if_pos (by rw [show (cu h).length=h.objs.length by simp [cu]];exact f)];simp
  ·rw [if_neg c,if_neg c]
 have G:(cu h)[n]?=some (some o.es.length):=by rw [iw,if_pos f,ho];rfl
 have s1:=jU wt (cu h) n (some ((aS o.es).length+1)) _ G;have s2:=jU on (cu h) n (some ((aS o.es).length+1)) _ G;have F:mg (h.Ic n o q v):=by
  unfold mg;rw [R,show (h.Ic n o q v).bytes=_ from l,show (h.Ic n o q v).live=_ from z];have n1:=g.n.1;have H:=g.n.2;simp only [wt,on] at s1 s2;constructor
  ·show h.bytes-40*(o.es.length-(aS o.es).length)+40=_
   have:=j.2.2.1;rw [n1] at this ⊢;omega
  ·show h.live=_
   rw [H];omega
 have t:=wO { h.upd n (fun o=>{ o with es:=aS o.es++[(q,v)] }) with bytes:=h.bytes-40*(o.es.length-(aS o.es).length)+40,G6:=h.G6+40 } n;have M:=DC h n (fun es=>aS es++[(q,v)]);have hb:Bd (k+1) (h.Ic n o q v):=by
  refine ⟨?_,?_,?_,?_,?_,?_,fun m o' e=>?_⟩
  ·rw [show (h.Ic n o q v).objs.length=_ from L]
   show (h.upd n _).objs.length<=_;rw [h.Hz];have:=b.len;omega
  ·have T:Hp.nu { h.upd n (fun o=>{ o with es:=aS o.es++[(q,v)] }) with bytes:=h.bytes-40*(o.es.length-(aS o.es).length)+40,G6:=h.G6+40 }=h.nu:=by
    show (h.upd n fun o=>{ o with es:=aS o.es++[(q,v)] }).wn+h.grey.length+h.G8.length+h.weak.length=h.wn+h.grey.length+h.G8.length+h.weak.length;rw [M]
   rw [T] at t;have:=b.na;have:(h.Ic n o q v).nu+(h.Ic n o q v).again.length<=h.nu+h.again.length+1:=t;omega
  ·rw [show (h.Ic n o q v).finals=_ from B,show (h.Ic n o q v).pending=_ from J];have:=b.fp;show h.finals.length+h.pending.length<=_;omega
  ·rw [show (h.Ic n o q v).bytes=_ from l];have:=b.Nn;show h.bytes-40*(o.es.length-(aS o.es).length)+40<=_;omega
  ·rw [show (h.Ic n o q v).G6=_ from A];have:=b.cr;show h.G6+40<=_;omega
  ·rw [show (h.Ic n o q v).roots=_ from K];have:=b.rt;show h.roots.length<=_;omega
  ·have a:=lQ { h.upd n (fun o=>{ o with es:=aS o.es++[(q,v)] }) with bytes:=h.bytes-40*(o.es.length-(aS o.es).length)+40,G6:=h.G6+40 } n m
   rw [show (Hp.back { h.upd n (fun o=>{ o with es:=aS o.es++[(q,v)] }) with bytes:=h.bytes-40*(o.es.length-(aS o.es).length)+40,G6:=h.G6+40 } n).ob m=_ from e,p] at a;split at a
   ·simp at a
    rw [a];refine (b.kd n o ho).tidy.snoc (fun e he=>?_);unfold kG at d;rw [List.findIdx?_eq_none_iff] at d;have:=d e (iT he)
    simpa [iG] using this
   ·cases e2:h.ob m with
    |none=>rw [e2] at a;simp at a
    |some o2=>rw [e2] at a;simp at a;rw [a];exact b.kd m o2 e2
 have E:(h.Ic n o q v).freed=[]:=w.trans S;have D:(h.Ic n o q v).limit<=404096:=by rw [show (h.Ic n o q v).limit=_ from y];exact g.s.lim
 exact ⟨⟨hi,Sm.of hi F hb hk E D,F,zL g.e⟩,hb⟩
theorem Gd.put {k:Nat} {h:Hp} (g:Gd h) (b:Bd k h) (hk:k+1<=5000) (d:h.freed=[]) {n:Nat} {q v:HV} (a:h.Ok n) (e:∀ r∈bQ q,h.Ok r) (c:∀ r∈bQ v,h.Ok r):Gd (h.put n q v)/\Bd (k+1) (h.put n q v):=by
 obtain ⟨o,ho,-⟩:=id a;unfold Hp.put;rw [ho];simp only;cases hfn:kG o.es q with
 |some i=>exact g.putAt b hk d ho a c
 |none=>
  simp only;split
  ·exact ⟨g,b.up⟩
  ·exact g.Ic b hk d ho a e c hfn
theorem iR (h:Hp) (n:Nat) (q v:HV):(h.put n q v).objs.length=h.objs.length/\(h.put n q v).roots=h.roots:=by
 unfold Hp.put;split
 ·exact ⟨rfl,rfl⟩
 ·split
  ·exact ⟨(Hp.Ig _ n).1.trans (h.Hz n _),(Hp.Ig _ n).2.2.2.2.2.2.2.1⟩
  ·split
   ·exact ⟨rfl,rfl⟩
   ·exact ⟨(Hp.Ig _ n).1.trans (h.Hz n _),(Hp.Ig _ n).2.2.2.2.2.2.2.1⟩
theorem Gd.of {k:Nat} {h g:Hp} (x:Gd h) (b:Bd k h) (hk:k<=5000) (v:g.freed=[]) (hi:Inv g) (a:∀ n,(g.ob n).map (fun o=>(o.col,o.es))=(h.ob n).map (fun o=>(o.col,o.es))) (i:g.objs.length=h.objs.length) (t:g.grey=h.grey) (r:g.again=h.again) (q:g.weak=h.weak) (p:g.G8=h.G8) (m:g.bytes=h.bytes) (A:g.live=h.live) (z:g.G6=h.G6) (y:g.limit=h.limit) (w:g.state=h.state) (j:g.finals.length+g.pending.length<=k) (c:g.roots.length<=k+1):Gd g/\Bd k g:=by
 have f:cu g=cu h:=by
  refine jF i (fun n=>?_);have:=a n;cases e1:g.ob n<;>cases e2:h.ob n<;>simp [e1,e2] at this ⊢
  rw [this.2]
 have l:mg g:=x.n.of f m A;have u:g.wn=h.wn:=nA i (fun n=>by
  have:=a n;cases e1:g.ob n<;>cases e2:h.ob n<;>simp [e1,e2] at this ⊢
  exact this.1)
 have d:g.nu=h.nu:=by
  show g.wn+g.grey.length+g.G8.length+g.weak.length=h.wn+h.grey.length+h.G8.length+h.weak.length;rw [u,t,q,p]
 have hb:Bd k g:=by
  refine ⟨by rw [i];exact b.len,by rw [d,r];exact b.na,j,by rw [m];exact b.Nn,by rw [z];exact b.cr,c,fun n o e=>?_⟩;have:=a n;rw [e] at this;cases e2:h.ob n with
  |none=>rw [e2] at this;simp at this
  |some o2=>rw [e2] at this;simp at this;rw [this.2];exact b.kd n o2 e2
 refine ⟨⟨hi,Sm.of hi l hb hk v (by rw [y];exact x.s.lim),l,fun hs=>?_⟩,hb⟩;rw [w] at hs;rw [t,r,q,p];exact x.e hs
theorem Gd.forget {k:Nat} {h:Hp} (g:Gd h) (b:Bd k h) (hk:k<=5000):Gd h.forget/\Bd k h.forget:=g.of b hk rfl g.i.forget (fun _=>rfl) rfl rfl rfl rfl rfl rfl rfl rfl rfl rfl b.fp b.rt
theorem Gd.Hf {k:Nat} {h:Hp} (g:Gd h) (b:Bd k h) (hk:k<=5000) (d:h.freed=[]) {l:List Nat} (c:∀ n∈l,h.Ok n) (a:l.length<=k+1):Gd (h.Hf l)/\Bd k (h.Hf l):=g.of b hk d (g.i.Hf c) (fun _=>rfl) rfl rfl rfl rfl rfl rfl rfl rfl rfl rfl b.fp a
theorem Gd.pop {k:Nat} {h:Hp} (g:Gd h) (b:Bd k h) (hk:k<=5000) (a:h.freed=[]):Gd h.pop/\Bd k h.pop:=g.of b hk a g.i.pop (fun _=>rfl) rfl rfl rfl rfl rfl rfl rfl rfl rfl rfl (by
 have:=b.fp;show h.finals.length+h.pending.dropLast.length<=k;rw [List.length_dropLast];omega) b.rt
theorem Gd.IB {k:Nat} {h:Hp} (g:Gd h) (b:Bd k h) (hk:k+1<=5000) (c:h.freed=[]) {n:Nat} (a:h.Ok n):Gd (h.IB n)/\Bd (k+1) (h.IB n):=g.of b.up hk c (g.i.IB a) (fun m=>by
 show ((h.upd n fun o=>{ o with fin:=true }).ob m).map _=_;rw [Hp.Ho];split
 ·cases h.ob m<;>rfl
 ·rfl) (h.Hz n _) rfl rfl rfl rfl rfl rfl rfl rfl rfl (by
 have:=b.fp;show (h.finals++[n]).length+h.pending.length<=k+1;simp;omega) (by have:=b.rt;show h.roots.length<=_;omega)
theorem Gd.make {k:Nat} {h:Hp} (g:Gd h) (b:Bd k h) (hk:k+1<=5000) (p:h.freed=[]) {m:Nat} (hm:m<=3):Gd (h.make m)/\Bd (k+1) (h.make m):=by
 have hi:=(g.i.make hm).1;have a:∀ n,(h.make m).ob n=if n=h.objs.length then some ⟨h.white,m,[],false⟩ else h.ob n:=fun n=>h.IY _ n
 have l:cu (h.make m)=cu h++[some 0]:=by unfold cu Hp.make;simp
 have d:mg (h.make m):=by
  unfold mg;rw [l,sj,sj];exact ⟨by show h.bytes+40=_;rw [g.n.1];rfl,by show h.live+1=_;rw [g.n.2];rfl⟩
 have f:(h.make m).wn=h.wn+1:=by
  have:=g.i.w1;unfold Hp.wn Hp.make;simp only [List.countP_append];have q:List.countP q8 [some (⟨h.white,m,[],false⟩:Ob)]=1:=by
   rcases (by omega:h.white=0∨h.white=1) with z|z<;>rw [z]<;>rfl
  rw [q]
 have c:(h.make m).nu=h.nu+1:=by
  show (h.make m).wn+h.grey.length+h.G8.length+h.weak.length=h.wn+h.grey.length+h.G8.length+h.weak.length+1;rw [f];omega
 have hb:Bd (k+1) (h.make m):=by
  have b1:=b.len;have b2:=b.na;have b3:=b.fp;have b4:=b.Nn;have b5:=b.cr;have b6:=b.rt;refine ⟨?_,?_,?_,?_,?_,?_,fun n o e=>?_⟩
  ·show (h.objs++[_]).length<=_
   simp;omega
  ·rw [c];show h.nu+1+h.again.length<=_;omega
  ·show h.finals.length+h.pending.length<=_;omega
  ·show h.bytes+40<=_;omega
  ·show h.G6+40<=_;omega
  ·show h.roots.length<=_;omega
  ·rw [a] at e
   split at e
   ·simp at e;rw [<-e];intro i j x y hx;simp at hx
   ·exact b.kd n o e
 refine ⟨⟨hi,Sm.of hi d hb hk p g.s.lim,d,fun hs=>g.e hs⟩,hb⟩
end
end Go.Proofs.YtbpcdfbmnklcjaaGreatDoor
