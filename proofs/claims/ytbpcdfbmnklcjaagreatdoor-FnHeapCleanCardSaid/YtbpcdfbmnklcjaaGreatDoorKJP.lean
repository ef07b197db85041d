import Derived.Test.YtbpcdfbmnklcjaaGreatDoorKIH
import Derived.BigRegion
import Derived.Deep.RegionHeld3
import Derived.Test.YtbpcdfbmnklcjaaGreatDoorKJM
import Derived.Test.YtbpcdfbmnklcjaaGreatDoorKJL
namespace Go.Proofs.YtbpcdfbmnklcjaaGreatDoor
open Go Go.RowKit
set_option linter.unusedVariables false
section
variable {cv f:Nat->Value} {fl:Nat->Nat} {i k n:Nat} {w w1 w2:World}
def kF (k:Nat) (fl:Nat->Nat):Nat->Nat
 |0=>k
 |i+1=>kF k fl i+6+fl i
def r_ (k:Nat) (fl:Nat->Nat) (cv:Nat->Value) (j:Nat):Value:=if j%7=6 then cv (j/7) else .int .i64 ((kF k fl (j/7):Int)+((j%7:Nat):Int))
theorem FQ (k:Nat) (fl:Nat->Nat) (cv:Nat->Value) (i:Nat):r_ k fl cv (i*7)=.int .i64 (kF k fl i:Int):=by unfold r_;rw [if_neg (by omega),show (i*7)/7=i by omega,show (i*7)%7=0 by omega];simp
theorem Fh (k:Nat) (fl:Nat->Nat) (cv:Nat->Value) (i:Nat):r_ k fl cv (i*7+1)=.int .i64 ((kF k fl i:Int)+1):=by unfold r_;rw [if_neg (by omega),show (i*7+1)/7=i by omega,show (i*7+1)%7=1 by omega];rfl
theorem FW (k:Nat) (fl:Nat->Nat) (cv:Nat->Value) (i:Nat):r_ k fl cv (i*7+2)=.int .i64 ((kF k fl i:Int)+2):=by unfold r_;rw [if_neg (by omega),show (i*7+2)/7=i by omega,show (i*7+2)%7=2 by omega];rfl
theorem E5 (k:Nat) (fl:Nat->Nat) (cv:Nat->Value) (i:Nat):r_ k fl cv (i*7+3)=.int .i64 ((kF k fl i:Int)+3):=by unfold r_;rw [if_neg (by omega),show (i*7+3)/7=i by omega,show (i*7+3)%7=3 by omega];rfl
theorem EX (k:Nat) (fl:Nat->Nat) (cv:Nat->Value) (i:Nat):r_ k fl cv (i*7+4)=.int .i64 ((kF k fl i:Int)+4):=by unfold r_;rw [if_neg (by omega),show (i*7+4)/7=i by omega,show (i*7+4)%7=4 by omega];rfl
theorem FH (k:Nat) (fl:Nat->Nat) (cv:Nat->Value) (i:Nat):r_ k fl cv (i*7+5)=.int .i64 ((kF k fl i:Int)+5):=by unfold r_;rw [if_neg (by omega),show (i*7+5)/7=i by omega,show (i*7+5)%7=5 by omega];rfl
theorem FL (k:Nat) (fl:Nat->Nat) (cv:Nat->Value) (i:Nat):r_ k fl cv (i*7+6)=cv i:=by unfold r_;rw [if_pos (by omega),show (i*7+6)/7=i by omega]
structure Nq (w:World) (g n k:Nat) (fl:Nat->Nat) (f cv:Nat->Value) (i:Nat):Prop where
 l:aD w 36 g (n*7) (fun j=>if j<i*7 then r_ k fl cv j else f j)
 m:∀ q,q<i->lZ w 3 1 (cv q) (fl q) (Bb (kF k fl q+6))
 u:∀ q,i<=q->q<n->∃ f,lZ w 3 1 (cv q) (fl q) f
theorem Nq.step {g:Nat} (h:Nq w g n k fl f cv i) (hi:i<n) (E:∀ i,i<n->f (i*7+6)=cv i) (a:∀ p q,p<n->q<n->p≠q->∀ b,(cv p).ownBlock=some b->(cv q).ownBlock≠some b)
 (C:Keeps w w1 (fun b=>b=g)) (D:aD w1 36 g (n*7) (fun i9=>if i9=i*7+5 then .int .i64 ((kF k fl i:Int)+5) else (fun i9=>if i9=i*7+4 then .int .i64 ((kF k fl i:Int)+4) else (fun i9=>if i9=i*7+3 then .int .i64 ((kF k fl i:Int)+3) else (fun i9=>if i9=i*7+2 then .int .i64 ((kF k fl i:Int)+2) else (fun i9=>if i9=i*7+1 then .int .i64 ((kF k fl i:Int)+1) else (fun i9=>if i9=i*7 then .int .i64 (kF k fl i:Int) else (fun j=>if j<i*7 then r_ k fl cv j else f j) i9) i9) i9) i9) i9) i9)) (F:lZ w2 3 1 (cv i) (fl i) (Bb (kF k fl i+6))) (r:Keeps w1 w2 (fun b=>(cv i).ownBlock=some b)):Nq w2 g n k fl f cv (i+1):=by
 obtain ⟨G,B⟩:=h.u i (au _) hi;have d:∀ q c,lZ w 3 1 (cv q) (fl q) c->lZ w1 3 1 (cv q) (fl q) c:=fun q c o=>o.Lp C h.l (by decide);have A:=d i G B;refine ⟨(aD.past D r A (by decide)).congr (fun j hj=>?_),fun q hq=>?_,fun q hq hq'=>?_⟩
 ·show _=if j<(i+1)*7 then r_ k fl cv j else f j
  by_cases y:j=i*7
  ·rw [y,if_pos (show i*7<(i+1)*7 by omega),FQ];simp
  by_cases e1:j=i*7+1
  ·rw [e1,if_pos (show i*7+1<(i+1)*7 by omega),Fh];simp
  by_cases x:j=i*7+2
  ·rw [x,if_pos (show i*7+2<(i+1)*7 by omega),FW];simp
  by_cases v:j=i*7+3
  ·rw [v,if_pos (show i*7+3<(i+1)*7 by omega),E5];simp
  by_cases t:j=i*7+4
  ·rw [t,if_pos (show i*7+4<(i+1)*7 by omega),EX];simp
  by_cases s:j=i*7+5
  ·rw [s,if_pos (show i*7+5<(i+1)*7 by omega),FH];simp
  by_cases H:j=i*7+6
  ·rw [H,if_pos (show i*7+6<(i+1)*7 by omega),FL];simp [E i hi,show ¬ (i*7+6<i*7) by omega]
  by_cases z:j<i*7
  ·simp [y,e1,x,v,t,s,z,show j<(i+1)*7 by omega]
  ·simp [y,e1,x,v,t,s,z,show ¬ j<(i+1)*7 by omega]
 ·by_cases e:q=i
  ·rw [e];exact F
  ·exact (d q _ (h.m q (by omega))).keep r (fun b hb hb'=>a q i (by omega) hi e b hb hb')
 ·obtain ⟨c,o⟩:=h.u q (by omega) hq'
  exact ⟨c,(d q _ o).keep r (fun b hb hb'=>a q i hq' hi (by omega) b hb hb')⟩
end
section
variable {cv:Nat->Value} {n:Nat} {v:Value} {w:World}
structure Lb (w:World) (v:Value) (n:Nat) (x:Nat->An) (cv:Nat->Value):Prop where
 l:(n=0/\∃ a cap,v=.slice a 0 cap)∨∃ b cap,v=.slice (some ⟨b,0,none⟩) n cap/\b<w.heap.size/\n<=cap/\∀ i,i<n->w.cell? ⟨b,i*7,none⟩=some (.int .i64 (x i).code)/\w.cell? ⟨b,i*7+1,none⟩=some (.int .i64 (x i).id)/\w.cell? ⟨b,i*7+2,none⟩=some (.int .i64 (x i).live)/\w.cell? ⟨b,i*7+3,none⟩=some (.int .i64 (x i).bytes)/\w.cell? ⟨b,i*7+4,none⟩=some (.int .i64 (x i).state)/\w.cell? ⟨b,i*7+5,none⟩=some (.int .i64 (x i).pend)/\w.cell? ⟨b,i*7+6,none⟩=some (cv i)
 c:∀ i,i<n->pK w (cv i) (x i).freed.length (fun j=>(((x i).freed.getD j 0:Nat):Int))
theorem Lb.val {x:Nat->An} (h:Lb w v n x cv):∃ a cap,v=.slice a n cap:=by
 rcases h.l with ⟨rfl,a,cap,rfl⟩|⟨b,cap,rfl,_⟩
 ·exact ⟨a,cap,rfl⟩
 ·exact ⟨_,cap,rfl⟩
theorem Lb.low {w w':World} {v:Value} {n:Nat} {x:Nat->An} {cv:Nat->Value} (h:Lb w v n x cv) (hb:Below w.heap.size w w'):Lb w' v n x cv:=by
 refine ⟨?_,fun i hi=>(h.c i hi).low hb (au _)⟩;rcases h.l with h|⟨b,f,rfl,a,e,d⟩
 ·exact .inl h
 ·exact .inr ⟨b,f,rfl,aW a hb.size,e,fun i hi=>⟨(hb.cell (p:=⟨b,i*7,none⟩) a).trans (d i hi).1,(hb.cell (p:=⟨b,i*7+1,none⟩) a).trans (d i hi).2.1,(hb.cell (p:=⟨b,i*7+2,none⟩) a).trans (d i hi).2.2.1,(hb.cell (p:=⟨b,i*7+3,none⟩) a).trans (d i hi).2.2.2.1,(hb.cell (p:=⟨b,i*7+4,none⟩) a).trans (d i hi).2.2.2.2.1,(hb.cell (p:=⟨b,i*7+5,none⟩) a).trans (d i hi).2.2.2.2.2.1,(hb.cell (p:=⟨b,i*7+6,none⟩) a).trans (d i hi).2.2.2.2.2.2⟩⟩
end
section
variable {B i:Nat} {S:Nat->Prop} {al:List An} {av v:Value} {fs:List Value} {w w':World}
def xA (al:List An) (i:Nat):An:=al.getD i (An.no 0)
def EO (fs:List Value) (i:Nat):Value:=fs.getD i (.slice none 0 0)
theorem zI:∀ (al:List An) (fs:List Value) (i j:Nat),fs.length=al.length->i<al.length->j<7->(tY al fs)[i*7+j]?=(mO (xA al i) (EO fs i))[j]?
 | [],fs,i,j,_,h,_=>by simp at h
 |a::al,[],i,j,h,_,_=>by simp at h
 |a::al,f::fs,0,j,h,_,hj=>by
  show (mO a f++tY al fs)[0*7+j]?=(mO a f)[j]?;rw [Nat.zero_mul,Nat.zero_add,dF (show j<(mO a f).length from hj)]
 |a::al,f::fs,i+1,j,h,hi,hj=>by
  have ih:=zI al fs i j (by simpa using h) (by simpa using hi) hj;show (mO a f++tY al fs)[(i+1)*7+j]?=_;rw [fI (show (mO a f).length<=_ by show 7<=_;omega),show (i+1)*7+j-(mO a f).length=i*7+j by show (i+1)*7+j-7=_;omega,ih];rfl
structure J7 (w:World) (B:Nat) (av:Value) (al:List An) (fs:List Value):Prop where
 l:w.ownsRow B 36 7 av al.length (tY al fs)
 fl:fs.length=al.length
 f:∀ (i:Nat) (b:An) (f:Value),al[i]?=some b->fs[i]?=some f->w.ownsRow B 3 1 f b.freed.length (eu b.freed)
theorem J7.keep (h:J7 w B av al fs) (k:Keeps w w' S) (a:∀ b,S b->b<B∨w.heap.size<=b):J7 w' B av al fs:=by
 have key:∀ {T s n v xs},w.ownsRow B T s v n xs->w'.ownsRow B T s v n xs:=fun h9=>aj h9 k (fun g hg e=>by
  have:=h9.lt g hg;rcases a g e with c|c<;>omega)
 exact ⟨key h.l,h.fl,fun i b f h1 h2=>key (h.f i b f h1 h2)⟩
theorem J7.sub (h:J7 w B av al fs) (hi:i<al.length):w.ownsRow B 3 1 (EO fs i) (xA al i).freed.length (eu (xA al i).freed):=by
 have b:al[i]?=some (xA al i):=by unfold xA;rw [bq,aN hi];rfl
 have a:fs[i]?=some (EO fs i):=by unfold EO;rw [bq,aN (by rw [h.fl];exact hi)];rfl
 exact h.f i _ _ b a
theorem J7.cell {w:World} {B g cap:Nat} {al:List An} {fs:List Value} (h:J7 w B (.slice (some ⟨g,0,none⟩) al.length cap) al fs) {i:Nat} (hi:i<al.length) (j:Nat) (b:j<7) {u:Value} (a:(mO (xA al i) (EO fs i))[j]?=some u):w.cell? ⟨g,i*7+j,none⟩=some u:=by
 have:=h.l.cells (g:=g) rfl (i*7+j) u (by rw [zI al fs i j h.fl hi b];exact a)
 rwa [bL,Nat.zero_add] at this
def Gz (al:List An) (i:Nat):Nat:=(xA al i).freed.length
def Fw (w:World) (v:Value) (al:List An) (fs:List Value):Prop:=(v=.slice none 0 0/\al.length=0)∨∃ g cap f,v=.slice (some ⟨g,0,none⟩) al.length cap/\al.length<=cap/\Nq w g al.length 1 (Gz al) f (EO fs) al.length
theorem Nq.low {w w':World} {g n k:Nat} {fl:Nat->Nat} {f cv:Nat->Value} {i:Nat} (h:Nq w g n k fl f cv i) (hb:Below w.heap.size w w'):Nq w' g n k fl f cv i:=
 ⟨h.l.low hb h.l.lt,fun q hq=>(h.m q hq).low hb (au _),fun q hq hq'=>by obtain ⟨b,a⟩:=h.u q hq hq';exact ⟨b,a.low hb (au _)⟩⟩
theorem Fw.low {w w':World} {v:Value} {al:List An} {fs:List Value} (h:Fw w v al fs) (hb:Below w.heap.size w w'):Fw w' v al fs:=by
 rcases h with h|⟨g,a,f,d,c,b⟩
 ·exact .inl h
 ·exact .inr ⟨g,a,f,d,c,b.low hb⟩
theorem Fw.val (h:Fw w v al fs):∃ a cap,v=.slice a al.length cap:=by
 rcases h with ⟨rfl,h⟩|⟨g,cap,f,rfl,_⟩
 ·exact ⟨none,0,by rw [h]⟩
 ·exact ⟨_,_,rfl⟩
end
section
variable {k:Nat} {r:Rn} {v:Value} {w:World}
theorem vH (x:r.Ok k) (hk:k+1<=5000) (kd A B C:Int):(cK r kd A B C).1.freed.length<=10000:=by
 unfold cK;split
 ·rename_i a
  have b:=(uM (x.forget (by omega)) hk rfl (dP.2 a)).1.g.s.fr;simp only;split
  ·exact Nat.zero_le _
  ·show (fF r.h.forget r.root kd A B C).h.freed.length<=10000
   omega
 ·exact Nat.zero_le _
theorem nL (l:List dA):∀ j,j<=l.length->j<=5000->∀ a∈(cZ (l.take j)).1,a.freed.length<=10000
 |0,_,_=>by rw [List.take_zero];intro a ha;simp [Ba] at ha
 |j+1,h1,h2=>by
  have b:=nL l j (by omega) (by omega);have d:l[j]?=some l[j]:=aN (by omega);rw [fH d];intro a ha;rcases eT.1 ha with c|c
  ·exact b a c
  ·simp at c
   subst c;exact vH (jZ l j (by omega) (by omega)).1 h2 _ _ _ _
noncomputable def dZ (ops:List dA):List An:=if 5000<ops.length then [] else (cZ ops).1
theorem wu (ops:List dA):(dZ ops).length<=5000/\∀ i,i<(dZ ops).length->Gz (dZ ops) i<=10000:=by
 unfold dZ;by_cases h:5000<ops.length
 ·rw [if_pos h];exact ⟨Nat.zero_le _,fun i hi=>by simp at hi⟩
 ·rw [if_neg h]
  have b:=(jZ ops ops.length (au _) (by omega)).2;have a:=nL ops ops.length (au _) (by omega);rw [bN] at b a;refine ⟨by omega,fun i hi=>a _ ?_⟩;unfold xA;rw [bq,aN hi];exact List.getElem_mem hi
def GY (n:Nat) (x0 x1 x2 x3:Nat->Int):List dA:=(List.range n).map fun i=>(x0 i,x1 i,x2 i,x3 i)
def Bt (ops:List dA):Int:=if 5000<ops.length then 5 else 0
theorem yU {ops:List dA} (d:xX w v ops) (f:ops.length<=1048576):Calls Tryz.prog 7 #[v] w fun e w'=>Below w.heap.size w w'/\∃ aA kA fs,e=.returned (.agg #[.int .i64 (Bt ops),.slice aA (dZ ops).length kA])/\J7 w' w.heap.size (.slice aA (dZ ops).length kA) (dZ ops) fs:=by
 refine (xL d f).mono ?_;rintro e w' ⟨hb,c,j,i,fs,rfl,h,b,ho,a,g⟩;subst h;have e:i=dZ ops:=b;subst e;obtain ⟨aA,kA,rfl⟩:=aF ho;exact ⟨hb,aA,kA,fs,rfl,ho,a,g⟩
theorem Ak {ops:List dA} (h:xX w v ops) (i:ops.length<=1048576) (m:∀ o∈ops,-9223372036854775808<=o.2.2.1/\o.2.2.1<=9223372036854775807):Calls Tryz.prog 8 #[v] w fun e w'=>Below w.heap.size w w'/\∃ aA kA fs,e=.returned (.agg #[.int .i64 (Bt ops),.slice aA (dZ ops).length kA])/\J7 w' w.heap.size (.slice aA (dZ ops).length kA) (dZ ops) fs/\fs.Pairwise (fun a b=>∀ g,a.ownBlock=some g->b.ownBlock≠some g):=by
 refine (Ct h i m).mono ?_;rintro e w' ⟨hb,c,p,n,fs,rfl,l,f,ho,d,j,hd⟩;subst l;have e:n=dZ ops:=f;subst e;obtain ⟨aA,kA,rfl⟩:=aF ho;exact ⟨hb,aA,kA,fs,rfl,⟨ho,d,j⟩,hd⟩
end
section
variable {k:Nat}
theorem rE (f:Nat->Nat) (n:Nat) (s:Nat × Int) {k:Int} (hk:1<=k) (a:k<=9223372036854775807):0<=dV k (dS f n s)/\dV k (dS f n s)<k:=sQ (jV _).1 (jV _).2 hk a
theorem Dt (f:Nat->Nat) (n c:Nat) (a b k:Int) (s:Nat × Int) (hb:0<=b/\b<=1000000):(∀ o∈(dK f n c a b k s).1,0<=o.2.2.1/\o.2.2.1<=1000000)/\(dK f n c a b k s).1.length<=2/\(dK f n c a b k s).2.1<=c+1:=by
 have d:=rE f n s (k:=12) (by omega) (by omega);have e:=rE f n s (k:=8) (by omega) (by omega);unfold dK;split
 ·refine ⟨fun o ho=>?_,by simp,au _⟩
  simp only [List.mem_singleton] at ho;subst ho;simp only;omega
 split
 ·refine ⟨fun o ho=>?_,by simp,Nat.le_succ _⟩
  simp only [List.mem_singleton] at ho;subst ho;show 0<=dV 12 _/\dV 12 _<=1000000;omega
 split
 ·refine ⟨fun o ho=>?_,by simp,Nat.le_succ _⟩
  simp only [List.mem_singleton] at ho;subst ho;exact hb
 split
 ·refine ⟨fun o ho=>?_,by simp,Nat.le_succ _⟩
  simp only [List.mem_singleton] at ho;subst ho;show 0<=dV 8 _/7/\dV 8 _/7<=1000000;omega
 split
 ·refine ⟨fun o ho=>?_,by simp,Nat.le_succ _⟩
  simp only [List.mem_singleton] at ho;subst ho;simp only;omega
 split
 ·refine ⟨fun o ho=>?_,by simp,Nat.le_succ _⟩
  simp only [List.mem_singleton] at ho;subst ho;simp only;omega
 split
 ·refine ⟨fun o ho=>?_,by simp,Nat.le_succ _⟩
  simp only [List.mem_singleton] at ho;subst ho;simp only;omega
 ·refine ⟨fun o ho=>?_,?_,Nat.le_succ _⟩
  ·rcases jm.1 ho with rfl|ho
   ·simp only;omega
   ·split at ho
    ·simp only [List.mem_singleton] at ho;subst ho;simp only;omega
    ·simp at ho
  ·show (_::_:List dA).length<=2
   split<;>simp
theorem DI (f:Nat->Nat) (n:Nat) (s:Nat × Int):∀ i,i<=10000->(∀ o∈(dI f n s i).1,0<=o.2.2.1/\o.2.2.1<=1000000)/\(dI f n s i).1.length<=2*i/\(dI f n s i).2.1<=i
 |0,_=>⟨fun o ho=>by simp [dI] at ho,by simp [dI],by simp [dI]⟩
 |i+1,hi=>by
  obtain ⟨h1,h2,h3⟩:=DI f n s i (by omega);have key:(∀ o∈(eY f n (dI f n s i).2.1 (dI f n s i).2.2).1,0<=o.2.2.1/\o.2.2.1<=1000000)/\(eY f n (dI f n s i).2.1 (dI f n s i).2.2).1.length<=2/\(eY f n (dI f n s i).2.1 (dI f n s i).2.2).2.1<=(dI f n s i).2.1+1:=by
   have hb:=rE f n (dS f n (dI f n s i).2.2) (k:=((dI f n s i).2.1:Int)+1) (by omega) (by omega);unfold eY;split
   ·exact Dt _ _ _ _ _ _ _ (by omega)
   ·exact Dt _ _ _ _ _ _ _ (by omega)
  refine ⟨fun o ho=>?_,?_,?_⟩
  ·rcases eT.1 (show o∈(dI f n s i).1++_ from ho) with c|c
   ·exact h1 o c
   ·exact key.1 o c
  ·show ((dI f n s i).1++_).length<=_
   rw [bI];have:=key.2.1;omega
  ·have:=key.2.2
   show _<=i+1;exact aI this (by omega)
theorem vB (f:Nat->Nat) (n:Nat):(∀ o∈gQ f n,0<=o.2.2.1/\o.2.2.1<=1000000)/\(gQ f n).length<=5001:=by
 have a:dN n<=400:=by unfold dN;split<;>omega
 unfold gQ;split
 ·have b:=rE f n (dS f n (0,88172645463325252+(n:Int))) (k:=2) (by omega) (by omega)
  refine ⟨fun o ho=>?_,by rw [List.length_replicate];omega⟩;obtain ⟨_,rfl⟩:=List.mem_replicate.1 ho;exact ⟨by decide,by decide⟩
 ·obtain ⟨c,b,_⟩:=DI f n (dS f n (0,88172645463325252+(n:Int))) (2*dN n) (by omega)
  exact ⟨c,by omega⟩
theorem nP (l:List dA):∀ j,j<=l.length->(cZ (l.take j)).1.length=j
 |0,_=>by rw [List.take_zero];rfl
 |j+1,h=>by
  have hj:l[j]?=some l[j]:=aN (by omega);rw [fH hj];unfold qb;simp [nP l j (by omega)]
theorem wQ {l:List dA} {k:Nat} {o:dA} (h:l[k]?=some o):∀ m,k<m->m<=l.length->(cZ (l.take m)).1[k]?=some (cK (cZ (l.take k)).2 o.1 o.2.1 o.2.2.1 o.2.2.2).1
 |0,h0,_=>by omega
 |m+1,h0,hm=>by
  have hj:l[m]?=some l[m]:=aN (by omega);rw [fH hj];unfold qb;have a:=nP l m (by omega);by_cases c:k=m
  ·subst c
   rw [h] at hj;cases hj;rw [fI (by omega),a];simp
  ·rw [dF (by omega)]
   exact wQ h m (by omega) (by omega)
theorem EC {l:List dA} {o:dA} (a:l.length<=5000) (h:l[k]?=some o):xA (dZ l) k=(cK (cZ (l.take k)).2 o.1 o.2.1 o.2.2.1 o.2.2.2).1:=by
 have hk:=(aJ.1 h).1;have:=wQ h l.length hk (au _);rw [bN] at this;unfold xA;rw [show dZ l=(cZ l).1 by unfold dZ;rw [if_neg (by omega)],bq,this];rfl
theorem tO (l:List Ed) (x:Ed):(iC l x).length<=l.length+1:=by
 induction l with
 |nil=>exact au _
 |cons a l ih=>
  unfold iC;split
  ·simp
  ·simp;omega
theorem CF (b:Bk) (kd A B C:Int):(b.act kd A B C).edges.length<=b.edges.length+1:=by
 unfold Bk.act;split
 ·exact Nat.le_succ _
 split
 ·exact tO _ _
 split
 ·exact tO _ _
 split<;>exact Nat.le_succ _
end
end Go.Proofs.YtbpcdfbmnklcjaaGreatDoor
