import Derived.Test.YtbpcdfbmnklcjaaGreatDoorKIJ
import Derived.BigRegion
import Derived.Deep.RegionHeld3
import Derived.Test.YtbpcdfbmnklcjaaGreatDoorKJM
import Derived.Test.YtbpcdfbmnklcjaaGreatDoorKJL
namespace Go.Proofs.YtbpcdfbmnklcjaaGreatDoor
open Go Go.RowKit
set_option linter.unusedVariables false
section
variable {cv:Nat->Value} {n:Nat} {v:Value} {w:World}
structure Lb (w:World) (v:Value) (n:Nat) (x:Nat->An) (cv:Nat->Value):Prop where
 l:(n=0/\∃ a cap,v=.slice a 0 cap)∨∃ b cap,v=.slice (some ⟨b,0,none⟩) n cap/\b<w.heap.size/\n<=cap/\∀ i,i<n->w.cell? ⟨b,i*7,none⟩=some (.int .i64 (x i).code)/\w.cell? ⟨b,i*7+1,none⟩=some (.int .i64 (x i).id)/\w.cell? ⟨b,i*7+2,none⟩=some (.int .i64 (x i).live)/\w.cell? ⟨b,i*7+3,none⟩=some (.int .i64 (x i).bytes)/\w.cell? ⟨b,i*7+4,none⟩=some (.int .i64 (x i).state)/\w.cell? ⟨b,i*7+5,none⟩=some (.int .i64 (x i).pend)/\w.cell? ⟨b,i*7+6,none⟩=some (cv i)
 c:∀ i,i<n->pK w (cv i) (x i).freed.length (fun j=>(((x i).freed.getD j 0:Nat):Int))
theorem Lb.val {x:Nat->An} (h:Lb w v n x cv):∃ a cap,v=.slice a n cap:=by
 rcases h.l with ⟨rfl,a,cap,rfl⟩|⟨b,cap,rfl,_⟩
 ·exact ⟨a,cap,rfl⟩
 ·exact ⟨_,cap,rfl⟩
theorem Lb.low {w w':World} {v:Value} {n:Nat} {x:Nat->An} {cv:Nat->Value} (h:Lb w v n x cv) (hb:Below w.heap.size w w'):Lb w' v n x cv:=by
 refine ⟨?_,fun i hi=>(h.c i hi).low hb (au _)⟩;rcases h.l with h|⟨b,f,rfl,a,e,d⟩
 ·exact .inl h
 ·exact .inr ⟨b,f,rfl,aW a hb.size,e,fun i hi=>⟨(hb.cell (p:=⟨b,i*7,none⟩) a).trans (d i hi).1,(hb.cell (p:=⟨b,i*7+1,none⟩) a).trans (d i hi).2.1,(hb.cell (p:=⟨b,i*7+2,none⟩) a).trans (d i hi).2.2.1,(hb.cell (p:=⟨b,i*7+3,none⟩) a).trans (d i hi).2.2.2.1,(hb.cell (p:=⟨b,i*7+4,none⟩) a).trans (d i hi).2.2.2.2.1,(hb.cell (p:=⟨b,i*7+5,none⟩) a).trans (d i hi).2.2.2.2.2.1,(hb.cell (p:=⟨b,i*7+6,none⟩) a).trans (d i hi).2.2.2.2.2.2⟩⟩
end
section
variable {B i:Nat} {S:Nat->Prop} {al:List An} {av v:Value} {fs:List Value} {w w':World}
def xA (al:List An) (i:Nat):An:=al.getD i (An.no 0)
def EO (fs:List Value) (i:Nat):Value:=fs.getD i (.slice none 0 0)
theorem zI:∀ (al:List An) (fs:List Value) (i j:Nat),fs.length=al.length->i<al.length->j<7->(tY al fs)[i*7+j]?=(mO (xA al i) (EO fs i))[j]?
 | [],fs,i,j,_,h,_=>by simp at h
 |a::al,[],i,j,h,_,_=>by simp at h
 |a::al,f::fs,0,j,h,_,hj=>by
  show (mO a f++tY al fs)[0*7+j]?=(mO a f)[j]?;rw [Nat.zero_mul,Nat.zero_add,dF (show j<(mO a f).length from hj)]
 |a::al,f::fs,i+1,j,h,hi,hj=>by
  have ih:=zI al fs i j (by simpa using h) (by simpa using hi) hj;show (mO a f++tY al fs)[(i+1)*7+j]?=_;rw [fI (show (mO a f).length<=_ by show 7<=_;omega),show (i+1)*7+j-(mO a f).length=i*7+j by show (i+1)*7+j-7=_;omega,ih];rfl
structure J7 (w:World) (B:Nat) (av:Value) (al:List An) (fs:List Value):Prop where
 l:w.ownsRow B 36 7 av al.length (tY al fs)
 fl:fs.length=al.length
 f:∀ (i:Nat) (b:An) (f:Value),al[i]?=some b->fs[i]?=some f->w.ownsRow B 3 1 f b.freed.length (eu b.freed)
theorem J7.keep (h:J7 w B av al fs) (k:Keeps w w' S) (a:∀ b,S b->b<B∨w.heap.size<=b):J7 w' B av al fs:=by
 have key:∀ {T s n v xs},w.ownsRow B T s v n xs->w'.ownsRow B T s v n xs:=fun h9=>aj h9 k (fun g hg e=>by
  have:=h9.lt g hg;rcases a g e with c|c<;>omega)
 exact ⟨key h.l,h.fl,fun i b f h1 h2=>key (h.f i b f h1 h2)⟩
theorem J7.sub (h:J7 w B av al fs) (hi:i<al.length):w.ownsRow B 3 1 (EO fs i) (xA al i).freed.length (eu (xA al i).freed):=by
 have b:al[i]?=some (xA al i):=by unfold xA;rw [bq,aN hi];rfl
 have a:fs[i]?=some (EO fs i):=by unfold EO;rw [bq,aN (by rw [h.fl];exact hi)];rfl
 exact h.f i _ _ b a
theorem J7.cell {w:World} {B g cap:Nat} {al:List An} {fs:List Value} (h:J7 w B (.slice (some ⟨g,0,none⟩) al.length cap) al fs) {i:Nat} (hi:i<al.length) (j:Nat) (b:j<7) {u:Value} (a:(mO (xA al i) (EO fs i))[j]?=some u):w.cell? ⟨g,i*7+j,none⟩=some u:=by
 have:=h.l.cells (g:=g) rfl (i*7+j) u (by rw [zI al fs i j h.fl hi b];exact a)
 rwa [bL,Nat.zero_add] at this
def Gz (al:List An) (i:Nat):Nat:=(xA al i).freed.length
def Fw (w:World) (v:Value) (al:List An) (fs:List Value):Prop:=(v=.slice none 0 0/\al.length=0)∨∃ g cap f,v=.slice (some ⟨g,0,none⟩) al.length cap/\al.length<=cap/\Nq w g al.length 1 (Gz al) f (EO fs) al.length
theorem Nq.low {w w':World} {g n k:Nat} {fl:Nat->Nat} {f cv:Nat->Value} {i:Nat} (h:Nq w g n k fl f cv i) (hb:Below w.heap.size w w'):Nq w' g n k fl f cv i:=
 ⟨h.l.low hb h.l.lt,fun q hq=>(h.m q hq).low hb (au _),fun q hq hq'=>by obtain ⟨b,a⟩:=h.u q hq hq';exact ⟨b,a.low hb (au _)⟩⟩
theorem Fw.low {w w':World} {v:Value} {al:List An} {fs:List Value} (h:Fw w v al fs) (hb:Below w.heap.size w w'):Fw w' v al fs:=by
 rcases h with h|⟨g,a,f,d,c,b⟩
 ·exact .inl h
 ·exact .inr ⟨g,a,f,d,c,b.low hb⟩
theorem Fw.val (h:Fw w v al fs):∃ a cap,v=.slice a al.length cap:=by
 rcases h with ⟨rfl,h⟩|⟨g,cap,f,rfl,_⟩
 ·exact ⟨none,0,by rw [h]⟩
 ·exact ⟨_,_,rfl⟩
end
section
variable {k:Nat} {r:Rn} {v:Value} {w:World}
theorem vH (x:r.Ok k) (hk:k+1<=5000) (kd A B C:Int):(cK r kd A B C).1.freed.length<=10000:=by
 unfold cK;split
 ·rename_i a
  have b:=(uM (x.forget (by omega)) hk rfl (dP.2 a)).1.g.s.fr;simp only;split
  ·exact Nat.zero_le _
  ·show (fF r.h.forget r.root kd A B C).h.freed.length<=10000
   omega
 ·exact Nat.zero_le _
theorem nL (l:List dA):∀ j,j<=l.length->j<=5000->∀ a∈(cZ (l.take j)).1,a.freed.length<=10000
 |0,_,_=>by rw [List.take_zero];intro a ha;simp [Ba] at ha
 |j+1,h1,h2=>by
  have b:=nL l j (by omega) (by omega);have d:l[j]?=some l[j]:=aN (by omega);rw [fH d];intro a ha;rcases aY.1 ha with c|c
  ·exact b a c
  ·simp at c
   subst c;exact vH (jZ l j (by omega) (by omega)).1 h2 _ _ _ _
noncomputable def dZ (ops:List dA):List An:=if 5000<ops.length then [] else (cZ ops).1
theorem wu (a:List dA):(dZ a).length<=5000/\∀ i,i<(dZ a).length->Gz (dZ a) i<=10000:=by
 unfold dZ;by_cases h:5000<a.length
 ·rw [if_pos h];exact ⟨Nat.zero_le _,fun i hi=>by simp at hi⟩
 ·rw [if_neg h]
  have c:=(jZ a a.length (au _) (by omega)).2;have b:=nL a a.length (au _) (by omega);rw [bf] at c b;refine ⟨by omega,fun i hi=>b _ ?_⟩;unfold xA;rw [bq,aN hi];exact List.getElem_mem hi
def GY (n:Nat) (x0 x1 x2 x3:Nat->Int):List dA:=(List.range n).map fun i=>(x0 i,x1 i,x2 i,x3 i)
def Bt (ops:List dA):Int:=if 5000<ops.length then 5 else 0
theorem yU {ops:List dA} (d:xX w v ops) (f:ops.length<=1048576):Calls Tryz.prog 7 #[v] w fun e w'=>Below w.heap.size w w'/\∃ aA kA fs,e=.returned (.agg #[.int .i64 (Bt ops),.slice aA (dZ ops).length kA])/\J7 w' w.heap.size (.slice aA (dZ ops).length kA) (dZ ops) fs:=by
 refine (xL d f).mono ?_;rintro e w' ⟨hb,c,j,i,fs,rfl,h,b,ho,a,g⟩;subst h;have e:i=dZ ops:=b;subst e;obtain ⟨aA,kA,rfl⟩:=aF ho;exact ⟨hb,aA,kA,fs,rfl,ho,a,g⟩
theorem Ak {ops:List dA} (h:xX w v ops) (i:ops.length<=1048576) (m:∀ o∈ops,-9223372036854775808<=o.2.2.1/\o.2.2.1<=9223372036854775807):Calls Tryz.prog 8 #[v] w fun e w'=>Below w.heap.size w w'/\∃ aA kA fs,e=.returned (.agg #[.int .i64 (Bt ops),.slice aA (dZ ops).length kA])/\J7 w' w.heap.size (.slice aA (dZ ops).length kA) (dZ ops) fs/\fs.Pairwise (fun a b=>∀ g,a.ownBlock=some g->b.ownBlock≠some g):=by
 refine (Ct h i m).mono ?_;rintro e w' ⟨hb,c,p,n,fs,rfl,l,f,ho,d,j,hd⟩;subst l;have e:n=dZ ops:=f;subst e;obtain ⟨aA,kA,rfl⟩:=aF ho;exact ⟨hb,aA,kA,fs,rfl,⟨ho,d,j⟩,hd⟩
end
section
variable {k:Nat}
theorem rE (f:Nat->Nat) (n:Nat) (s:Nat × Int) {k:Int} (hk:1<=k) (a:k<=9223372036854775807):0<=dV k (dS f n s)/\dV k (dS f n s)<k:=sQ (jV _).1 (jV _).2 hk a
theorem Dt (f:Nat->Nat) (n c:Nat) (a b k:Int) (s:Nat × Int) (hb:0<=b/\b<=1000000):(∀ o∈(dK f n c a b k s).1,0<=o.2.2.1/\o.2.2.1<=1000000)/\(dK f n c a b k s).1.length<=2/\(dK f n c a b k s).2.1<=c+1:=by
 have d:=rE f n s (k:=12) (by omega) (by omega);have e:=rE f n s (k:=8) (by omega) (by omega);unfold dK;split
 ·refine ⟨fun o ho=>?_,by simp,au _⟩
  simp only [List.mem_singleton] at ho;subst ho;simp only;omega
 split
 ·refine ⟨fun o ho=>?_,by simp,Nat.le_succ _⟩
  simp only [List.mem_singleton] at ho;subst ho;show 0<=dV 12 _/\dV 12 _<=1000000;omega
 split
 ·refine ⟨fun o ho=>?_,by simp,Nat.le_succ _⟩
  simp only [List.mem_singleton] at ho;subst ho;exact hb
 split
 ·refine ⟨fun o ho=>?_,by simp,Nat.le_succ _⟩
  simp only [List.mem_singleton] at ho;subst ho;show 0<=dV 8 _/7/\dV 8 _/7<=1000000;omega
 split
 ·refine ⟨fun o ho=>?_,by simp,Nat.le_succ _⟩
  simp only [List.mem_singleton] at ho;subst ho;simp only;omega
 split
 ·refine ⟨fun o ho=>?_,by simp,Nat.le_succ _⟩
  simp only [List.mem_singleton] at ho;subst ho;simp only;omega
 split
 ·refine ⟨fun o ho=>?_,by simp,Nat.le_succ _⟩
  simp only [List.mem_singleton] at ho;subst ho;simp only;omega
 ·refine ⟨fun o ho=>?_,?_,Nat.le_succ _⟩
  ·rcases eT.1 ho with rfl|ho
   ·simp only;omega
   ·split at ho
    ·simp only [List.mem_singleton] at ho;subst ho;simp only;omega
    ·simp at ho
  ·show (_::_:List dA).length<=2
   split<;>simp
theorem DI (f:Nat->Nat) (n:Nat) (s:Nat × Int):∀ i,i<=10000->(∀ o∈(dI f n s i).1,0<=o.2.2.1/\o.2.2.1<=1000000)/\(dI f n s i).1.length<=2*i/\(dI f n s i).2.1<=i
 |0,_=>⟨fun o ho=>by simp [dI] at ho,by simp [dI],by simp [dI]⟩
 |i+1,hi=>by
  obtain ⟨h1,h2,h3⟩:=DI f n s i (by omega);have key:(∀ o∈(eY f n (dI f n s i).2.1 (dI f n s i).2.2).1,0<=o.2.2.1/\o.2.2.1<=1000000)/\(eY f n (dI f n s i).2.1 (dI f n s i).2.2).1.length<=2/\(eY f n (dI f n s i).2.1 (dI f n s i).2.2).2.1<=(dI f n s i).2.1+1:=by
   have hb:=rE f n (dS f n (dI f n s i).2.2) (k:=((dI f n s i).2.1:Int)+1) (by omega) (by omega);unfold eY;split
   ·exact Dt _ _ _ _ _ _ _ (by omega)
   ·exact Dt _ _ _ _ _ _ _ (by omega)
  refine ⟨fun o ho=>?_,?_,?_⟩
  ·rcases aY.1 (show o∈(dI f n s i).1++_ from ho) with c|c
   ·exact h1 o c
   ·exact key.1 o c
  ·show ((dI f n s i).1++_).length<=_
   rw [aT];have:=key.2.1;omega
  ·have:=key.2.2
   show _<=i+1;exact aI this (by omega)
theorem vB (f:Nat->Nat) (n:Nat):(∀ o∈gQ f n,0<=o.2.2.1/\o.2.2.1<=1000000)/\(gQ f n).length<=5001:=by
 have a:dN n<=400:=by unfold dN;split<;>omega
 unfold gQ;split
 ·have b:=rE f n (dS f n (0,88172645463325252+(n:Int))) (k:=2) (by omega) (by omega)
  refine ⟨fun o ho=>?_,by rw [List.length_replicate];omega⟩;obtain ⟨_,rfl⟩:=List.mem_replicate.1 ho;exact ⟨by decide,by decide⟩
 ·obtain ⟨c,b,_⟩:=DI f n (dS f n (0,88172645463325252+(n:Int))) (2*dN n) (by omega)
  exact ⟨c,by omega⟩
theorem nP (l:List dA):∀ j,j<=l.length->(cZ (l.take j)).1.length=j
 |0,_=>by rw [List.take_zero];rfl
 |j+1,h=>by
  have hj:l[j]?=some l[j]:=aN (by omega);rw [fH hj];unfold qb;simp [nP l j (by omega)]
theorem wQ {l:List dA} {k:Nat} {o:dA} (h:l[k]?=some o):∀ m,k<m->m<=l.length->(cZ (l.take m)).1[k]?=some (cK (cZ (l.take k)).2 o.1 o.2.1 o.2.2.1 o.2.2.2).1
 |0,h0,_=>by omega
 |m+1,h0,hm=>by
  have hj:l[m]?=some l[m]:=aN (by omega);rw [fH hj];unfold qb;have a:=nP l m (by omega);by_cases c:k=m
  ·subst c
   rw [h] at hj;cases hj;rw [fI (by omega),a];simp
  ·rw [dF (by omega)]
   exact wQ h m (by omega) (by omega)
theorem EC {l:List dA} {o:dA} (a:l.length<=5000) (h:l[k]?=some o):xA (dZ l) k=(cK (cZ (l.take k)).2 o.1 o.2.1 o.2.2.1 o.2.2.2).1:=by
 have hk:=(aJ.1 h).1;have:=wQ h l.length hk (au _);rw [bf] at this;unfold xA;rw [show dZ l=(cZ l).1 by unfold dZ;rw [if_neg (by omega)],bq,this];rfl
theorem tO (l:List Ed) (x:Ed):(iC l x).length<=l.length+1:=by
 induction l with
 |nil=>exact au _
 |cons a l ih=>
  unfold iC;split
  ·simp
  ·simp;omega
theorem CF (b:Bk) (kd A B C:Int):(b.act kd A B C).edges.length<=b.edges.length+1:=by
 unfold Bk.act;split
 ·exact Nat.le_succ _
 split
 ·exact tO _ _
 split
 ·exact tO _ _
 split<;>exact Nat.le_succ _
end
section
variable {b:Bk} {fl l:List Nat} {gn:List Bool} {j k m z:Nat} {r:Rn}
def Bu (gn:List Bool) (l:List Nat):List Bool:=l.foldl (fun g z=>g.set z true) gn
theorem Az (gn:List Bool) (l:List Nat) (z:Nat):Bu gn (l++[z])=(Bu gn l).set z true:=by simp [Bu]
theorem ru (gn:List Bool) (l:List Nat):(Bu gn l).length=gn.length:=by
 induction l generalizing gn with
 |nil=>rfl
 |cons z l ih=>show (Bu (gn.set z true) l).length=_;rw [ih,bN]
theorem vX {x:Nat} (h:(Bu gn l)[x]?=some true):gn[x]?=some true∨x∈l:=by
 induction l generalizing gn with
 |nil=>exact .inl h
 |cons z l ih=>
  rcases ih (gn:=gn.set z true) h with c|c
  ·by_cases e:z=x
   ·exact .inr (e ▸ List.mem_cons_self)
   ·rw [aH e] at c
    exact .inl c
  ·exact .inr (List.mem_cons_of_mem _ c)
theorem Bs.more (x:Bs k b gn r) (h:gn.length+m<=b.modes.length):Bs k b (gn++List.replicate m false) r:=by
 refine ⟨x.ok,x.wm,x.bk,by rw [aT,List.length_replicate];exact h,fun z hz=>x.gd z ?_⟩;by_cases c:z<gn.length
 ·rw [dF c] at hz
  exact hz
 ·rw [fI (by omega),List.getElem?_replicate] at hz
  split at hz<;>cases hz
theorem Bs.done (x:Bs k b gn r) (a:∀ z∈fl,¬ r.h.Lv z):Bs k b (Bu gn fl) r:=by
 refine ⟨x.ok,x.wm,x.bk,by rw [ru];exact x.gl,fun z hz=>?_⟩;rcases vX hz with c|c
 ·exact x.gd z c
 ·exact a z c
theorem Fx (d:fl.Nodup) (a:fl[j]?=some z) (f:gn[z]?≠some true) (g:z<gn.length):(Bu gn (fl.take j)).getD z false=false:=by
 have h:=(aJ.1 a).1;rw [bq];cases q:(Bu gn (fl.take j))[z]? with
 |none=>rfl
 |some v=>
  cases v with
  |false=>rfl
  |true=>
   rcases vX q with c|c
   ·exact (f c).elim
   ·obtain ⟨i,hi⟩:=List.mem_iff_getElem?.1 c
    rw [List.getElem?_take] at hi;split at hi
    ·rename_i e
     have:=(List.getElem?_inj (i:=i) (j:=j) (by omega) d).1 (hi.trans a.symm);omega
    ·cases hi
theorem yC (h:l[j]?=some z):l.take (j+1)=l.take j++[z]:=by
 obtain ⟨a,c⟩:=aJ.1 h;rw [List.take_add_one,h];rfl
end
section
variable {N P T base gc k z:Nat} {b:Bk} {ev gv mv rv v':Value} {gn sn:List Bool} {r:Rn} {w w7 w9 ws:World}
structure SL (w7:World) (P:Nat) (ops:List dA) (i:Nat) (gv:Value) (gn:List Bool) (b:Bk) (mv rv ev:Value) (ws:World):Prop where
 bs:Bs i b gn (cZ (ops.take i)).2
 bk:Nj w7.heap.size ws P b mv rv ev
 g:ws.ownsRow w7.heap.size 4 1 gv gn.length (iQ gn)
 ap:∀ q,gv.ownBlock=some q->¬ Zk P mv rv ev q
 el:b.edges.length<=i
 bl:Below w7.heap.size w7 ws
theorem SL.low {P i:Nat} {w7 ws ws':World} {ops:List dA} {gv mv rv ev:Value} {gn:List Bool} {b:Bk} (x:SL w7 P ops i gv gn b mv rv ev ws) (h:Below ws.heap.size ws ws'):SL w7 P ops i gv gn b mv rv ev ws':=
 ⟨x.bs,x.bk.low h,aj x.g (Keeps.of h (au _) (fun _=>False)) (fun _ _ e=>e),x.ap,x.el,x.bl.trans (h.mono x.bl.size)⟩
theorem SL.new (w:World) (h:List dA):
 SL w (w.heap.size+1+1) h 0 (.slice (some ⟨w.heap.size+1+1+1,0,none⟩) 0 0) [] Bk.new (.slice (some ⟨w.heap.size,0,none⟩) 1 1) (.slice (some ⟨w.heap.size+1,0,none⟩) 1 1) (.slice none 0 0)
  ((((w.alloc (.cells #[.int .i64 0] 3)).alloc (.cells #[.bool false] 4)).alloc (.cells #[.slice (some ⟨w.heap.size,0,none⟩) 1 1,.slice (some ⟨w.heap.size+1,0,none⟩) 1 1,.slice none 0 0] 34)).alloc (.cells #[] 4)):=by
 have s1:(w.alloc (.cells #[.int .i64 0] 3)).heap.size=w.heap.size+1:=by simp
 have p:(w.alloc (.cells #[.int .i64 0] 3)).ownsRow w.heap.size 3 1 (.slice (some ⟨w.heap.size,0,none⟩) 1 1) 1 (iL [0]):=⟨rfl,.inr ⟨w.heap.size,1,#[.int .i64 0],rfl,au _,heap_alloc_new w _,by decide,by decide,rfl,rfl⟩⟩
 have i:=aU w (.cells #[.int .i64 0] 3);generalize w.alloc (.cells #[.int .i64 0] 3)=wa at *;have s2:(wa.alloc (.cells #[.bool false] 4)).heap.size=w.heap.size+1+1:=by rw [<-s1];simp
 have o2:(wa.alloc (.cells #[.bool false] 4)).ownsRow w.heap.size 4 1 (.slice (some ⟨w.heap.size+1,0,none⟩) 1 1) 1 (iQ [false]):=⟨rfl,.inr ⟨w.heap.size+1,1,#[.bool false],rfl,by omega,by rw [<-s1];exact heap_alloc_new wa _,by decide,by decide,rfl,rfl⟩⟩
 have f:=aU wa (.cells #[.bool false] 4);have o:=aj p (Keeps.of f (au _) (fun _=>False)) (fun _ _ e=>e);generalize wa.alloc (.cells #[.bool false] 4)=wb at *;have g:=aD.mk' wb 34 #[.slice (some ⟨w.heap.size,0,none⟩) 1 1,.slice (some ⟨w.heap.size+1,0,none⟩) 1 1,.slice none 0 0];have d:=aU wb (.cells #[.slice (some ⟨w.heap.size,0,none⟩) 1 1,.slice (some ⟨w.heap.size+1,0,none⟩) 1 1,.slice none 0 0] 34);have m:(wb.alloc (.cells #[.slice (some ⟨w.heap.size,0,none⟩) 1 1,.slice (some ⟨w.heap.size+1,0,none⟩) 1 1,.slice none 0 0] 34)).heap.size=w.heap.size+1+1+1:=by rw [<-s2];simp
 have n:=aj o (Keeps.of d (au _) (fun _=>False)) (fun _ _ e=>e);have o3:=aj o2 (Keeps.of d (au _) (fun _=>False)) (fun _ _ e=>e);rw [s2] at g;generalize wb.alloc (.cells #[.slice (some ⟨w.heap.size,0,none⟩) 1 1,.slice (some ⟨w.heap.size+1,0,none⟩) 1 1,.slice none 0 0] 34)=wc at *;have a:=aU wc (.cells #[] 4);have l:=Keeps.of a (au _) (fun _=>False);have hb:Below w.heap.size w (wc.alloc (.cells #[] 4)):=((i.trans (f.mono (by omega))).trans (d.mono (by omega))).trans (a.mono (by omega));refine ⟨Bs.new,⟨?_,aj n l (fun _ _ e=>e),aj o3 l (fun _ _ e=>e),⟨rfl,.inl ⟨rfl,rfl⟩⟩,by omega⟩,⟨rfl,.inr ⟨w.heap.size+1+1+1,0,#[],rfl,by omega,by rw [<-m];exact heap_alloc_new wc _,by decide,by decide,rfl,rfl⟩⟩,?_,au _,hb⟩
 ·refine aD.congr (show aD _ _ _ 3 _ from g.low a g.lt) (fun j hj=>?_)
  have:j=0∨j=1∨j=2:=by omega
  rcases this with rfl|rfl|rfl<;>rfl
 ·intro q s c
  simp [Value.ownBlock] at s;rcases c with c|c|c|c
  ·omega
  all_goals simp [Value.ownBlock] at c
  all_goals omega
structure LK (w7:World) (ops:List dA) (a1:Option Addr) (k1 PW PG:Nat) (aA:Option Addr) (kA:Nat) (aB:Option Addr) (kB:Nat) (fs fs2:List Value):Prop where
 o:xX w7 (.slice a1 ops.length k1) ops
 p1:w7.cell? ⟨PW,1,none⟩=some (.slice aA (dZ ops).length kA)
 q1:w7.cell? ⟨PG,1,none⟩=some (.slice aB (dZ ops).length kB)
 pl:PW<w7.heap.size/\PG<w7.heap.size
 A:∃ B,J7 w7 B (.slice aA (dZ ops).length kA) (dZ ops) fs
 B:∃ B,J7 w7 B (.slice aB (dZ ops).length kB) (dZ ops) fs2
structure RC (ops:List dA) (i PW PG:Nat) (aA:Option Addr) (kA:Nat) (aB:Option Addr) (kB:Nat) (o:dA) (x:An) (gO gA gB:Nat) (af af2:Option Addr) (cf cf2:Nat) (ws:World):Prop where
 p1:ws.cell? ⟨PW,1,none⟩=some (.slice aA (dZ ops).length kA)
 q1:ws.cell? ⟨PG,1,none⟩=some (.slice aB (dZ ops).length kB)
 o0:ws.cell? ⟨gO,i*4,none⟩=some (.int .i64 o.1)
 o1:ws.cell? ⟨gO,i*4+1,none⟩=some (.int .i64 o.2.1)
 o2:ws.cell? ⟨gO,i*4+2,none⟩=some (.int .i64 o.2.2.1)
 o3:ws.cell? ⟨gO,i*4+3,none⟩=some (.int .i64 o.2.2.2)
 A0:ws.cell? ⟨gA,i*7,none⟩=some (.int .i64 x.code)
 A6:ws.cell? ⟨gA,i*7+6,none⟩=some (.slice af x.freed.length cf)
 b0:ws.cell? ⟨gB,i*7,none⟩=some (.int .i64 x.code)
 b1:ws.cell? ⟨gB,i*7+1,none⟩=some (.int .i64 x.id)
 b2:ws.cell? ⟨gB,i*7+2,none⟩=some (.int .i64 x.live)
 b3:ws.cell? ⟨gB,i*7+3,none⟩=some (.int .i64 x.bytes)
 b4:ws.cell? ⟨gB,i*7+4,none⟩=some (.int .i64 x.state)
 b5:ws.cell? ⟨gB,i*7+5,none⟩=some (.int .i64 x.pend)
 b6:ws.cell? ⟨gB,i*7+6,none⟩=some (.slice af2 x.freed.length cf2)
structure RD (w7:World) (ops:List dA) (i:Nat) (a1:Option Addr) (PW PG:Nat) (aA:Option Addr) (kA:Nat) (aB:Option Addr) (kB:Nat) (o:dA) (x:An) (gO gA gB:Nat) (af af2:Option Addr) (cf cf2:Nat):Prop where
 ho:ops[i]?=some o
 hx:(cK (cZ (ops.take i)).2 o.1 o.2.1 o.2.2.1 o.2.2.2).1=x
 e1:a1=some ⟨gO,0,none⟩
 eA:aA=some ⟨gA,0,none⟩
 eB:aB=some ⟨gB,0,none⟩
 c:∀ ws,Below w7.heap.size w7 ws->RC ops i PW PG aA kA aB kB o x gO gA gB af af2 cf cf2 ws
 f:∀ (j z:Nat),x.freed[j]?=some z->∃ g,af2=some ⟨g,0,none⟩/\∀ ws,Below w7.heap.size w7 ws->ws.cell? ⟨g,j,none⟩=some (.int .i64 (z:Int))
 fl:x.freed.length<=10000
 ol:ops.length<=5000
 il:i<ops.length
theorem Ay {ops:List dA} (h:ops.length<=5000):(dZ ops).length=ops.length:=by
 unfold dZ;rw [if_neg (by omega)];have:=nP ops ops.length (au _)
 rwa [bf] at this
theorem J7.some {w:World} {B cap i:Nat} {aB:Option Addr} {al:List An} {fs:List Value} (h:J7 w B (.slice aB al.length cap) al fs) (hi:i<al.length):∃ g,aB=some ⟨g,0,none⟩/\g<w.heap.size:=by
 have e:=h.l;obtain ⟨n,⟨_,m⟩|⟨g,c,f,a,hb,j,d,hr⟩⟩:=e
 ·omega
 ·simp only [Value.slice.injEq] at a
  exact ⟨g,a.1,(h.l.lt g (by rw [a.1];rfl)).2⟩
theorem LK.at {w7:World} {ops:List dA} {a1:Option Addr} {k1 PW PG kA kB i:Nat} {aA aB:Option Addr} {fs fs2:List Value} (x:LK w7 ops a1 k1 PW PG aA kA aB kB fs fs2) (hi:i<(dZ ops).length):
 ∃ o an gO gA gB af af2 cf cf2,RD w7 ops i a1 PW PG aA kA aB kB o an gO gA gB af af2 cf cf2:=by
 have n:ops.length<=5000:=by
  rcases Nat.lt_or_ge 5000 ops.length with c|c
  ·unfold dZ at hi;rw [if_pos c] at hi;exact (Nat.not_lt_zero _ hi).elim
  ·exact c
 have u:=Ay n;obtain ⟨o,ho⟩:∃ o,ops[i]?=some o:=⟨_,aN (by omega)⟩
 obtain ⟨Y,hA⟩:=x.A;obtain ⟨X,a⟩:=x.B;obtain ⟨gA,eA,s⟩:=hA.some hi;obtain ⟨gB,eB,d⟩:=a.some hi;obtain ⟨W,V,f,F,hO⟩:=x.o;simp only [Value.slice.injEq] at f;obtain ⟨rfl,-,rfl⟩:=f;obtain ⟨gO,e1,m,Q,M,L,K⟩:=hO i o ho;have hx:=EC n ho;have D:=hA.sub hi;have e:=a.sub hi;obtain ⟨af,cf,G⟩:=aF D;obtain ⟨af2,cf2,l⟩:=aF e;have t:∀ {ws:World},Below w7.heap.size w7 ws->∀ {g j:Nat} {v:Value},g<w7.heap.size->w7.cell? ⟨g,j,none⟩=some v->ws.cell? ⟨g,j,none⟩=some v:=fun {_} hb {g j v} y h=>(hb.cell (p:=⟨g,j,none⟩) y).trans h;subst eA eB;have q:=(wu ops).2 i hi;refine ⟨o,xA (dZ ops) i,gO,gA,gB,af,af2,cf,cf2,⟨ho,hx.symm,e1,rfl,rfl,fun ws hb=>⟨t hb x.pl.1 x.p1,t hb x.pl.2 x.q1,t hb m Q,t hb m M,t hb m L,t hb m K,t hb s (hA.cell hi 0 (by omega) rfl),t hb s (hA.cell hi 6 (by omega) (by rw [G];rfl)),
  t hb d (a.cell hi 0 (by omega) rfl),t hb d (a.cell hi 1 (by omega) rfl),t hb d (a.cell hi 2 (by omega) rfl),t hb d (a.cell hi 3 (by omega) rfl),t hb d (a.cell hi 4 (by omega) rfl),t hb d (a.cell hi 5 (by omega) rfl),t hb d (a.cell hi 6 (by omega) (by rw [l];rfl))⟩,fun j z hz=>?_,q,n,by omega⟩⟩
 rw [l] at e;have R:=(aJ.1 hz).1;have s0:=e;obtain ⟨U,⟨_,S⟩|⟨g,C,J,f,H,y,E,hr⟩⟩:=s0
 ·omega
 ·simp only [Value.slice.injEq] at f
  obtain ⟨rfl,-,rfl⟩:=f;refine ⟨g,rfl,fun ws hb=>t hb (e.lt g rfl).2 ?_⟩;have:=e.cells (g:=g) rfl j (.int .i64 (z:Int)) (by unfold eu;rw [List.getElem?_map,hz];rfl)
  rwa [bL,Nat.zero_add] at this
theorem Nj.ap {g:Nat} {f:Nat->Value} (x:Nj base w P b mv rv ev) (h:aD w T g N f) (j:T≠34) (i:T≠3) (d:T≠4) (a:T≠80):¬ Zk P mv rv ev g:=by
 rintro (c|c|c|c)
 ·exact h.apart x.r j c
 ·exact ak x.m h (Ne.symm i) c
 ·exact ak x.o h (Ne.symm d) c
 ·exact ak x.e h (Ne.symm a) c
theorem SL.no {w7 ws:World} {P i:Nat} {ops:List dA} {gv mv rv ev:Value} {gn:List Bool} {b:Bk} {o:dA} (x:SL w7 P ops i gv gn b mv rv ev ws) (ho:ops[i]?=some o) (hi:i+1<=5000) (a:(cK (cZ (ops.take i)).2 o.1 o.2.1 o.2.2.1 o.2.2.2).1.code≠0):SL w7 P ops (i+1) gv gn b mv rv ev ws:=by
 refine ⟨?_,x.bk,x.g,x.ap,Nat.le_succ_of_le x.el,x.bl⟩;rw [fH ho];exact x.bs.no hi a
def FZ (fl:List Nat) (gn:List Bool) (b:Bk) (r:Rn):Prop:=fl.Nodup/\∀ z∈fl,1<=z/\z<b.modes.length/\gn[z]?≠some true/\¬ b.Rc z/\¬ r.h.Lv z
theorem SL.act {w7 ws w':World} {P i:Nat} {ops:List dA} {gv mv rv ev:Value} {gn:List Bool} {b:Bk} {o:dA} {e:Ending} (x:SL w7 P ops i gv gn b mv rv ev ws) (ho:ops[i]?=some o) (hi:i+1<=5000) (m:(cK (cZ (ops.take i)).2 o.1 o.2.1 o.2.2.1 o.2.2.2).1.code=0)
 (h:uH w7.heap.size P (b.act o.1 o.2.1 o.2.2.1 o.2.2.2) mv rv ev ws e w'):
 e=.returned (.tuple #[])/\∃ mv' rv' ev',SL w7 P ops (i+1) gv gn (b.act o.1 o.2.1 o.2.2.1 o.2.2.2) mv' rv' ev' w'/\Keeps ws w' (Zk P mv rv ev)/\FZ (cK (cZ (ops.take i)).2 o.1 o.2.1 o.2.2.1 o.2.2.2).1.freed gn (b.act o.1 o.2.1 o.2.2.1 o.2.2.2) (cZ (ops.take (i+1))).2:=by
 obtain ⟨p,mv',rv',ev',n,a⟩:=h;obtain ⟨_,_,_,l,j,f⟩:=x.bs.yes hi m;have d:(cZ (ops.take (i+1))).2=(cK (cZ (ops.take i)).2 o.1 o.2.1 o.2.2.1 o.2.2.2).2:=by rw [fH ho];rfl
 refine ⟨p,mv',rv',ev',⟨by rw [d];exact l,n,aj x.g a.k x.ap,fun q hq c=>?_,aI (CF _ _ _ _ _) (Nat.succ_le_succ x.el),x.bl.trans (a.k.below x.bl.size (fun g hg=>(x.bk.zl hg).1))⟩,a.k,j,by rw [d];exact f⟩;rcases a.z q c with c|c
 ·exact x.ap q hq c
 ·have:=(x.g.lt q hq).2
  omega
theorem FZ.push {fl:List Nat} (x:FZ fl gn b r):FZ fl (gn++[false]) b r:=by
 refine ⟨x.1,fun z hz=>?_⟩;obtain ⟨g,f,e,a⟩:=x.2 z hz;refine ⟨g,f,fun c=>?_,a⟩;by_cases d:z<gn.length
 ·rw [dF d] at c
  exact e c
 ·rw [fI (by omega)] at c
  cases q:z-gn.length with
  |zero=>rw [q] at c;cases c
  |succ k=>rw [q] at c;cases c
theorem SL.push {ops:List dA} (x:SL w7 P ops k gv gn b mv rv ev ws) (h:gn.length<b.modes.length) (f:w9.ownsRow w7.heap.size 4 1 v' (gn.length+1) (iQ gn++[.bool false])) (a:Keeps ws w9 (fun c=>gv.ownBlock=some c)) (e:∀ g,v'.ownBlock=some g->gv.ownBlock=some g∨ws.heap.size<=g):
 SL w7 P ops k v' (gn++[false]) b mv rv ev w9:=by
 refine ⟨x.bs.more (m:=1) (by omega),x.bk.keep a (fun g hg=>x.ap g hg),by rw [aT,sN];exact f,fun q hq c=>?_,x.el,x.bl.trans (a.below x.bl.size (fun g hg=>(x.g.lt g hg).1))⟩;rcases e q hq with d|d
 ·exact x.ap q d c
 ·have:=(x.bk.zl c).2
  omega
theorem SL.mark {g L:Nat} {ops:List dA} (x:SL w7 P ops k (.slice (some ⟨g,0,none⟩) L gc) gn b mv rv ev ws) (l:z<gn.length) (f:¬ (cZ (ops.take k)).2.h.Lv z):
 SL w7 P ops k (.slice (some ⟨g,0,none⟩) L gc) (gn.set z true) b mv rv ev (ws.setCell ⟨g,z,none⟩ (.bool true))/\Keeps ws (ws.setCell ⟨g,z,none⟩ (.bool true)) (fun q=>q=g):=by
 have hk:Keeps ws (ws.setCell ⟨g,z,none⟩ (.bool true)) (fun q=>q=g):=Keeps.setCell (S:=fun q=>q=g) (Keeps.refl ws _) rfl _;have d:(Value.slice (some ⟨g,0,none⟩) L gc).ownBlock=some g:=by simp [Value.ownBlock]
 have j:L=gn.length:=by
  obtain ⟨_,_,e⟩:=aF x.g;simp only [Value.slice.injEq] at e;exact e.2.1
 subst j;have a:=aL x.g (i:=z) (by omega) (.bool true);rw [show (iQ gn).set z (.bool true)=iQ (gn.set z true) by unfold iQ;rw [List.map_set]] at a;refine ⟨⟨x.bs.done (fl:=[z]) (fun y hy=>by simp at hy;rw [hy];exact f),x.bk.keep hk (fun q e c=>x.ap q (e ▸ d) c),by rw [bN];exact a,x.ap,x.el,x.bl.trans (hk.below x.bl.size (fun q e=>e ▸ (x.g.lt g d).1))⟩,hk⟩
theorem SL.at {w7 ws:World} {P k L gc:Nat} {ga:Option Addr} {ops:List dA} {mv rv ev:Value} {gn:List Bool} {b:Bk} (x:SL w7 P ops k (.slice ga L gc) gn b mv rv ev ws) (d:1<=gn.length):∃ g,ga=some ⟨g,0,none⟩/\gn.length<=gc/\aD ws 4 g gn.length (eG gn):=by
 have a:L=gn.length:=by
  obtain ⟨_,_,e⟩:=aF x.g;simp only [Value.slice.injEq] at e;exact e.2.1
 subst a;obtain ⟨g,rfl,_,c,_⟩:=jd x.g d;exact ⟨g,rfl,c,uJ x.g⟩
theorem SL.row {g L:Nat} {ops:List dA} (x:SL w7 P ops k (.slice (some ⟨g,0,none⟩) L gc) gn b mv rv ev ws):L=gn.length/\aD ws 4 g gn.length (eG gn):=by
 have a:L=gn.length:=by
  obtain ⟨_,_,e⟩:=aF x.g;simp only [Value.slice.injEq] at e;exact e.2.1
 subst a;exact ⟨rfl,uJ x.g⟩
theorem Fj (h:FI b sn) (a:¬ b.Rc z):eG sn z=.bool false:=by
 unfold eG;rw [bq];cases q:sn[z]? with
 |none=>rfl
 |some v=>
  cases v with
  |false=>rfl
  |true=>exact (a ((h.iff z).1 q)).elim
def GA (cd aid alv aby ast ape:Int) (fv:Value) (j:Nat):Value:=(#[.int .i64 cd,.int .i64 aid,.int .i64 alv,.int .i64 aby,.int .i64 ast,.int .i64 ape,fv]:Array Value).getD j (.bool false)
end
end Go.Proofs.YtbpcdfbmnklcjaaGreatDoor
