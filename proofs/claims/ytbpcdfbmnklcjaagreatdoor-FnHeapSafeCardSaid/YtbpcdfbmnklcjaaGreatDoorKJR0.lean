import Derived.Test.YtbpcdfbmnklcjaaGreatDoorKIH
import Derived.BigRegion
import Derived.Deep.RegionHeld3
import Derived.Test.YtbpcdfbmnklcjaaGreatDoorKJO0
import Derived.Test.YtbpcdfbmnklcjaaGreatDoorKIO1
import Derived.Test.YtbpcdfbmnklcjaaGreatDoorRows
import Derived.LaidSub
import Derived.WalkKit
import Derived.ProofKit
import Derived.OpenShut
import Derived.Deep.DeepHandedRow
import Derived.ChangeMaps5
import Derived.Carry
import Derived.ChangeOld
namespace Go.Proofs.YtbpcdfbmnklcjaaGreatDoor
open Go Go.RowKit
set_option linter.unusedVariables false
section
variable {cv f:Nat->Value} {i k n:Nat} {w w1 w2:World}
def kE (k:Nat) (fl:Nat->Nat):Nat->Nat
 |0=>k
 |i+1=>kE k fl i+6+fl i
def sF (k:Nat) (fl:Nat->Nat) (cv:Nat->Value) (j:Nat):Value:=if j%7=6 then cv (j/7) else .int .i64 ((kE k fl (j/7):Int)+((j%7:Nat):Int))
theorem Fv (k:Nat) (fl:Nat->Nat) (cv:Nat->Value) (i:Nat):sF k fl cv (i*7)=.int .i64 (kE k fl i:Int):=by unfold sF;rw [if_neg (by omega),show (i*7)/7=i by omega,show (i*7)%7=0 by omega];simp
theorem Fj (k:Nat) (fl:Nat->Nat) (cv:Nat->Value) (i:Nat):sF k fl cv (i*7+1)=.int .i64 ((kE k fl i:Int)+1):=by unfold sF;rw [if_neg (by omega),show (i*7+1)/7=i by omega,show (i*7+1)%7=1 by omega];rfl
theorem E5 (k:Nat) (fl:Nat->Nat) (cv:Nat->Value) (i:Nat):sF k fl cv (i*7+2)=.int .i64 ((kE k fl i:Int)+2):=by unfold sF;rw [if_neg (by omega),show (i*7+2)/7=i by omega,show (i*7+2)%7=2 by omega];rfl
theorem E9 (k:Nat) (fl:Nat->Nat) (cv:Nat->Value) (i:Nat):sF k fl cv (i*7+3)=.int .i64 ((kE k fl i:Int)+3):=by unfold sF;rw [if_neg (by omega),show (i*7+3)/7=i by omega,show (i*7+3)%7=3 by omega];rfl
theorem EU (k:Nat) (fl:Nat->Nat) (cv:Nat->Value) (i:Nat):sF k fl cv (i*7+4)=.int .i64 ((kE k fl i:Int)+4):=by unfold sF;rw [if_neg (by omega),show (i*7+4)/7=i by omega,show (i*7+4)%7=4 by omega];rfl
theorem FQ (k:Nat) (fl:Nat->Nat) (cv:Nat->Value) (i:Nat):sF k fl cv (i*7+5)=.int .i64 ((kE k fl i:Int)+5):=by unfold sF;rw [if_neg (by omega),show (i*7+5)/7=i by omega,show (i*7+5)%7=5 by omega];rfl
theorem FT (k:Nat) (fl:Nat->Nat) (cv:Nat->Value) (i:Nat):sF k fl cv (i*7+6)=cv i:=by unfold sF;rw [if_pos (by omega),show (i*7+6)/7=i by omega]
structure M8 (w:World) (g n k:Nat) (fl:Nat->Nat) (f cv:Nat->Value) (i:Nat):Prop where
 l:aD w 36 g (n*7) (fun j=>if j<i*7 then sF k fl cv j else f j)
 m:∀ q,q<i->lZ w 3 1 (cv q) (fl q) (AQ (kE k fl q+6))
 u:∀ q,i<=q->q<n->∃ f,lZ w 3 1 (cv q) (fl q) f
theorem M8.step {g:Nat} {fl:Nat->Nat} (h:M8 w g n k fl f cv i) (hi:i<n) (E:∀ i,i<n->f (i*7+6)=cv i) (a:∀ p q,p<n->q<n->p≠q->∀ b,(cv p).ownBlock=some b->(cv q).ownBlock≠some b)
 (C:Keeps w w1 (fun b=>b=g)) (D:aD w1 36 g (n*7) (fun i9=>if i9=i*7+5 then .int .i64 ((kE k fl i:Int)+5) else (fun i9=>if i9=i*7+4 then .int .i64 ((kE k fl i:Int)+4) else (fun i9=>if i9=i*7+3 then .int .i64 ((kE k fl i:Int)+3) else (fun i9=>if i9=i*7+2 then .int .i64 ((kE k fl i:Int)+2) else (fun i9=>if i9=i*7+1 then .int .i64 ((kE k fl i:Int)+1) else (fun i9=>if i9=i*7 then .int .i64 (kE k fl i:Int) else (fun j=>if j<i*7 then sF k fl cv j else f j) i9) i9) i9) i9) i9) i9)) (F:lZ w2 3 1 (cv i) (fl i) (AQ (kE k fl i+6))) (r:Keeps w1 w2 (fun b=>(cv i).ownBlock=some b)):M8 w2 g n k fl f cv (i+1):=by
 obtain ⟨G,B⟩:=h.u i (au _) hi;have d:∀ q c,lZ w 3 1 (cv q) (fl q) c->lZ w1 3 1 (cv q) (fl q) c:=fun q c o=>o.Lr C h.l (by decide);have A:=d i G B;refine ⟨(aD.past D r A (by decide)).congr (fun j hj=>?_),fun q hq=>?_,fun q hq hq'=>?_⟩
 ·show _=if j<(i+1)*7 then sF k fl cv j else f j
  by_cases y:j=i*7
  ·rw [y,if_pos (show i*7<(i+1)*7 by omega),Fv];simp
  by_cases e1:j=i*7+1
  ·rw [e1,if_pos (show i*7+1<(i+1)*7 by omega),Fj];simp
  by_cases x:j=i*7+2
  ·rw [x,if_pos (show i*7+2<(i+1)*7 by omega),E5];simp
  by_cases v:j=i*7+3
  ·rw [v,if_pos (show i*7+3<(i+1)*7 by omega),E9];simp
  by_cases t:j=i*7+4
  ·rw [t,if_pos (show i*7+4<(i+1)*7 by omega),EU];simp
  by_cases s:j=i*7+5
  ·rw [s,if_pos (show i*7+5<(i+1)*7 by omega),FQ];simp
  by_cases H:j=i*7+6
  ·rw [H,if_pos (show i*7+6<(i+1)*7 by omega),FT];simp [E i hi,show ¬ (i*7+6<i*7) by omega]
  by_cases z:j<i*7
  ·simp [y,e1,x,v,t,s,z,show j<(i+1)*7 by omega]
  ·simp [y,e1,x,v,t,s,z,show ¬ j<(i+1)*7 by omega]
 ·by_cases e:q=i
  ·rw [e];exact F
  ·exact (d q _ (h.m q (by omega))).keep r (fun b hb hb'=>a q i (by omega) hi e b hb hb')
 ·obtain ⟨c,o⟩:=h.u q (by omega) hq'
  exact ⟨c,(d q _ o).keep r (fun b hb hb'=>a q i hq' hi (by omega) b hb hb')⟩
end
section
variable {cv:Nat->Value} {n:Nat} {v:Value} {w:World}
structure K_ (w:World) (v:Value) (n:Nat) (x:Nat->An) (cv:Nat->Value):Prop where
 l:(n=0/\∃ a cap,v=.slice a 0 cap)∨∃ b cap,v=.slice (some ⟨b,0,none⟩) n cap/\b<w.heap.size/\n<=cap/\∀ i,i<n->w.cell? ⟨b,i*7,none⟩=some (.int .i64 (x i).code)/\w.cell? ⟨b,i*7+1,none⟩=some (.int .i64 (x i).id)/\w.cell? ⟨b,i*7+2,none⟩=some (.int .i64 (x i).live)/\w.cell? ⟨b,i*7+3,none⟩=some (.int .i64 (x i).bytes)/\w.cell? ⟨b,i*7+4,none⟩=some (.int .i64 (x i).state)/\w.cell? ⟨b,i*7+5,none⟩=some (.int .i64 (x i).pend)/\w.cell? ⟨b,i*7+6,none⟩=some (cv i)
 c:∀ i,i<n->qB w (cv i) (x i).freed.length (fun j=>(((x i).freed.getD j 0:Nat):Int))
theorem K_.val {x:Nat->An} (h:K_ w v n x cv):∃ a cap,v=.slice a n cap:=by
 rcases h.l with ⟨rfl,a,cap,rfl⟩|⟨b,cap,rfl,_⟩
 ·exact ⟨a,cap,rfl⟩
 ·exact ⟨_,cap,rfl⟩
theorem K_.low {w w':World} {v:Value} {n:Nat} {x:Nat->An} {cv:Nat->Value} (h:K_ w v n x cv) (hb:Below w.heap.size w w'):K_ w' v n x cv:=by
 refine ⟨?_,fun i hi=>(h.c i hi).low hb (au _)⟩;rcases h.l with h|⟨b,f,rfl,a,e,d⟩
 ·exact .inl h
 ·exact .inr ⟨b,f,rfl,aX a hb.size,e,fun i hi=>⟨(hb.cell (p:=⟨b,i*7,none⟩) a).trans (d i hi).1,(hb.cell (p:=⟨b,i*7+1,none⟩) a).trans (d i hi).2.1,(hb.cell (p:=⟨b,i*7+2,none⟩) a).trans (d i hi).2.2.1,(hb.cell (p:=⟨b,i*7+3,none⟩) a).trans (d i hi).2.2.2.1,(hb.cell (p:=⟨b,i*7+4,none⟩) a).trans (d i hi).2.2.2.2.1,(hb.cell (p:=⟨b,i*7+5,none⟩) a).trans (d i hi).2.2.2.2.2.1,(hb.cell (p:=⟨b,i*7+6,none⟩) a).trans (d i hi).2.2.2.2.2.2⟩⟩
end
section
variable {B i:Nat} {S:Nat->Prop} {al:List An} {av v:Value} {fs:List Value} {w w':World}
def xA (al:List An) (i:Nat):An:=al.getD i (An.no 0)
def EM (fs:List Value) (i:Nat):Value:=fs.getD i (.slice none 0 0)
theorem yR:∀ (al:List An) (fs:List Value) (i j:Nat),fs.length=al.length->i<al.length->j<7->(tH al fs)[i*7+j]?=(mO (xA al i) (EM fs i))[j]?
 | [],fs,i,j,_,h,_=>by simp at h
 |a::al,[],i,j,h,_,_=>by simp at h
 |a::al,f::fs,0,j,h,_,hj=>by
  show (mO a f++tH al fs)[0*7+j]?=(mO a f)[j]?;rw [Nat.zero_mul,Nat.zero_add,dF (show j<(mO a f).length from hj)]
 |a::al,f::fs,i+1,j,h,hi,hj=>by
  have ih:=yR al fs i j (by simpa using h) (by simpa using hi) hj;show (mO a f++tH al fs)[(i+1)*7+j]?=_;rw [fI (show (mO a f).length<=_ by show 7<=_;omega),show (i+1)*7+j-(mO a f).length=i*7+j by show (i+1)*7+j-7=_;omega,ih];rfl
structure JZ (w:World) (B:Nat) (av:Value) (al:List An) (fs:List Value):Prop where
 l:w.ownsRow B 36 7 av al.length (tH al fs)
 fl:fs.length=al.length
 f:∀ (i:Nat) (b:An) (f:Value),al[i]?=some b->fs[i]?=some f->w.ownsRow B 3 1 f b.freed.length (dZ b.freed)
theorem JZ.keep (h:JZ w B av al fs) (k:Keeps w w' S) (a:∀ b,S b->b<B∨w.heap.size<=b):JZ w' B av al fs:=by
 have key:∀ {T s n v xs},w.ownsRow B T s v n xs->w'.ownsRow B T s v n xs:=fun h9=>aj h9 k (fun g hg e=>by
  have:=h9.lt g hg;rcases a g e with c|c<;>omega)
 exact ⟨key h.l,h.fl,fun i b f h1 h2=>key (h.f i b f h1 h2)⟩
theorem JZ.sub (h:JZ w B av al fs) (hi:i<al.length):w.ownsRow B 3 1 (EM fs i) (xA al i).freed.length (dZ (xA al i).freed):=by
 have b:al[i]?=some (xA al i):=by unfold xA;rw [bq,aN hi];rfl
 have a:fs[i]?=some (EM fs i):=by unfold EM;rw [bq,aN (by rw [h.fl];exact hi)];rfl
 exact h.f i _ _ b a
theorem JZ.cell {w:World} {B g cap:Nat} {al:List An} {fs:List Value} (h:JZ w B (.slice (some ⟨g,0,none⟩) al.length cap) al fs) {i:Nat} (hi:i<al.length) (j:Nat) (b:j<7) {u:Value} (a:(mO (xA al i) (EM fs i))[j]?=some u):w.cell? ⟨g,i*7+j,none⟩=some u:=by
 have:=h.l.cells (g:=g) rfl (i*7+j) u (by rw [yR al fs i j h.fl hi b];exact a)
 rwa [bL,Nat.zero_add] at this
def Gx (al:List An) (i:Nat):Nat:=(xA al i).freed.length
def FM (w:World) (v:Value) (al:List An) (fs:List Value):Prop:=(v=.slice none 0 0/\al.length=0)∨∃ g cap f,v=.slice (some ⟨g,0,none⟩) al.length cap/\al.length<=cap/\M8 w g al.length 1 (Gx al) f (EM fs) al.length
theorem M8.low {w w':World} {g n k:Nat} {fl:Nat->Nat} {f cv:Nat->Value} {i:Nat} (h:M8 w g n k fl f cv i) (hb:Below w.heap.size w w'):M8 w' g n k fl f cv i:=
 ⟨h.l.low hb h.l.lt,fun q hq=>(h.m q hq).low hb (au _),fun q hq hq'=>by obtain ⟨b,a⟩:=h.u q hq hq';exact ⟨b,a.low hb (au _)⟩⟩
theorem FM.low {w w':World} {v:Value} {al:List An} {fs:List Value} (h:FM w v al fs) (hb:Below w.heap.size w w'):FM w' v al fs:=by
 rcases h with h|⟨g,a,f,d,c,b⟩
 ·exact .inl h
 ·exact .inr ⟨g,a,f,d,c,b.low hb⟩
theorem FM.val (h:FM w v al fs):∃ a cap,v=.slice a al.length cap:=by
 rcases h with ⟨rfl,h⟩|⟨g,cap,f,rfl,_⟩
 ·exact ⟨none,0,by rw [h]⟩
 ·exact ⟨_,_,rfl⟩
end
section
variable {k:Nat} {r:Rn} {v:Value} {w:World}
theorem uG (x:r.Ok k) (hk:k+1<=5000) (kd A B C:Int):(cK r kd A B C).1.freed.length<=10000:=by
 unfold cK;split
 ·rename_i a
  have b:=(uP (x.forget (by omega)) hk rfl (dO.2 a)).1.g.s.fr;simp only;split
  ·exact Nat.zero_le _
  ·show (fH r.h.forget r.root kd A B C).h.freed.length<=10000
   omega
 ·exact Nat.zero_le _
theorem oK (l:List dA):∀ j,j<=l.length->j<=5000->∀ a∈(cZ (l.take j)).1,a.freed.length<=10000
 |0,_,_=>by rw [List.take_zero];intro a ha;simp [Am] at ha
 |j+1,h1,h2=>by
  have b:=oK l j (by omega) (by omega);have d:l[j]?=some l[j]:=aN (by omega);rw [fF d];intro a ha;rcases aY.1 ha with c|c
  ·exact b a c
  ·simp at c
   subst c;exact uG (kr l j (by omega) (by omega)).1 h2 _ _ _ _
noncomputable def eD (ops:List dA):List An:=if 5000<ops.length then [] else (cZ ops).1
theorem w_ (a:List dA):(eD a).length<=5000/\∀ i,i<(eD a).length->Gx (eD a) i<=10000:=by
 unfold eD;by_cases h:5000<a.length
 ·rw [if_pos h];exact ⟨Nat.zero_le _,fun i hi=>by simp at hi⟩
 ·rw [if_neg h]
  have c:=(kr a a.length (au _) (by omega)).2;have b:=oK a a.length (au _) (by omega);rw [bf] at c b;refine ⟨by omega,fun i hi=>b _ ?_⟩;unfold xA;rw [bq,aN hi];exact List.getElem_mem hi
def GX (n:Nat) (x0 x1 x2 x3:Nat->Int):List dA:=(List.range n).map fun i=>(x0 i,x1 i,x2 i,x3 i)
def Br (ops:List dA):Int:=if 5000<ops.length then 5 else 0
theorem ze {ops:List dA} (d:yw w v ops) (f:ops.length<=1048576):Calls Tryz.prog 7 #[v] w fun e w'=>Below w.heap.size w w'/\∃ aA kA fs,e=.returned (.agg #[.int .i64 (Br ops),.slice aA (eD ops).length kA])/\JZ w' w.heap.size (.slice aA (eD ops).length kA) (eD ops) fs:=by
 refine (xM d f).mono ?_;rintro e w' ⟨hb,c,j,i,fs,rfl,h,b,ho,a,g⟩;subst h;have e:i=eD ops:=b;subst e;obtain ⟨aA,kA,rfl⟩:=aF ho;exact ⟨hb,aA,kA,fs,rfl,ho,a,g⟩
theorem zA {ops:List dA} (h:yw w v ops) (i:ops.length<=1048576) (m:∀ o∈ops,-9223372036854775808<=o.2.2.1/\o.2.2.1<=9223372036854775807):Calls Tryz.prog 8 #[v] w fun e w'=>Below w.heap.size w w'/\∃ aA kA fs,e=.returned (.agg #[.int .i64 (Br ops),.slice aA (eD ops).length kA])/\JZ w' w.heap.size (.slice aA (eD ops).length kA) (eD ops) fs/\fs.Pairwise (fun a b=>∀ g,a.ownBlock=some g->b.ownBlock≠some g):=by
 refine (C_ h i m).mono ?_;rintro e w' ⟨hb,c,p,n,fs,rfl,l,f,ho,d,j,hd⟩;subst l;have e:n=eD ops:=f;subst e;obtain ⟨aA,kA,rfl⟩:=aF ho;exact ⟨hb,aA,kA,fs,rfl,⟨ho,d,j⟩,hd⟩
end
set_option maxHeartbeats 6400000
set_option maxRecDepth 100000
section
variable {A r3 r6:Int} {K:Act->World->Prop} {Q:Exit->Act->World->Prop} {X cap co k made n:Nat} {ao:Option Addr} {iv:Value} {w w6:World}
theorem FU {S:Nat} {a:Option Addr} {f:Nat->Nat} {s s6:Nat × Int} {ops:List dA} {t:Nat->Value} (h:BF w S (.slice a n cap) n f s s6 made k A r3 r6 ao co ops w6) (hk:r6<4) (J:∀ t o' s' a9 k9 k' w',TR w S (.slice a n cap) n f s made ops o' (made+1) s' k' (.slice a9 k' k9) w'->K (fr a n cap S X (.slice a9 k' k9) (.int .i64 (made:Int)) iv A (1+r3) t) w'):
 Code.wp Tryz.prog (cR 22) (Exit.then K Q) (fr a n cap S X (.slice ao k co) (.int .i64 (made:Int)) iv A (1+r3) t) w6:=by
 have HK:=ah J;have z:=ah h.x;have p:=ah h.kl;have D:=ah h.st;have hA:=h.hA;have T:=h.hr;have U:=h.hm;have W:=h.hk;clear h J
 conv=>arg 2;whnf
 unfold fr;have C:Hq (aD (w6.alloc (.cells #[.int .i64 0,.int .i64 0,.int .i64 0,.int .i64 0,.int .i64 1,.int .i64 1,.int .i64 2,.int .i64 3] 3)) 3 w6.heap.size 8 (fun j=>.int .i64 (([0,0,0,0,1,1,2,3]:List Int).getD j 0))):=ah (CU w6 [0,0,0,0,1,1,2,3]);have g:=ah (z.o.low (aU w6 (.cells #[.int .i64 0,.int .i64 0,.int .i64 0,.int .i64 0,.int .i64 1,.int .i64 1,.int .i64 2,.int .i64 3] 3)));go_wp2_with fail;refine (dB 8 (by omega) (by omega) (Dn.refl g.o.d)).mono ?_;rintro e P ⟨G,F,rfl,u,V,R,l⟩;have m:=ah (g.o.draw l.out);have B:=ah (C.o.keep l.out.2 (fun c=>C.o.apart g.o.d.r (by decide) c));clear C g l;generalize w6.heap.size=X6 at *;obtain ⟨i,rfl⟩:∃ i:Nat,G=(i:Int):=⟨G.toNat,by omega⟩
 have Z:P.cell? ⟨X6,i,none⟩=some (.int .i64 (([0,0,0,0,1,1,2,3]:List Int).getD i 0)):=B.o.c i;have N:=ah (show ([0,0,0,0,1,1,2,3]:List Int).getD i 0=([0,0,0,0,1,1,2,3]:List Int).getD (dV 8 F).toNat 0 by rw [u.out.2];rfl);obtain ⟨q,H⟩:∃ q,([0,0,0,0,1,1,2,3]:List Int).getD i 0=q:=⟨_,rfl⟩
 rw [H] at Z N;clear H;have E:=ah (show eY f n made s=([(1,q,0,0)],made+1,F) from D.o.trans (by unfold dK;rw [if_pos (by omega)];rw [u.out.1,<-N.o]));go_wp2_with (first
  |(at_builtin
    refine fC rfl (.tmp 74) (.tmp 81) 23 39 4 32 _ rfl Tryz.underlying23 fV rfl (by decide) w.heap.size (.slice ao k co) k (oC ops) (nT ((1,q,0,0):dA)) (by have:=m.o.o;rw [p.o] at this;exact this) rfl rfl rfl (gy _) (by omega) (by decide) m.o.b.size ?_;intro v' w9 y M L Y;obtain ⟨a9,k9,v⟩:=aF y;subst v;have HY:=ah (m.o.app (o:=((1,q,0,0):dA)) (by rw [p.o];exact y) (gL (M _ _ (aG _ _) (au _)) L));clear y M L Y)
  |go_in)
 go_wp2_with fail;refine lV _ ?_ (fun t=>HK.o t _ _ _ _ _ _ ⟨E.o,by rw [aT,p.o];rfl,by simp,by omega,HY.o⟩);rfl
theorem Gg {S:Nat} {a:Option Addr} {f:Nat->Nat} {s s6:Nat × Int} {ops:List dA} {t:Nat->Value} (h:BF w S (.slice a n cap) n f s s6 made k A r3 r6 ao co ops w6) (hk:4<=r6/\r6<7) (C:∀ t o' s' a9 k9 k' w',TR w S (.slice a n cap) n f s made ops o' (made) s' k' (.slice a9 k' k9) w'->K (fr a n cap S X (.slice a9 k' k9) (.int .i64 (made:Int)) iv A (1+r3) t) w'):
 Code.wp Tryz.prog (cR 27) (Exit.inBlock 2 (Exit.inBlock 1 (Exit.then K Q))) (fr a n cap S X (.slice ao k co) (.int .i64 (made:Int)) iv A (1+r3) t) w6:=by
 have U:=ah C;have m:=ah h.x;have g:=ah h.kl;have z:=ah h.st;have hA:=h.hA;have J:=h.hr;have L:=h.hm;have P:=h.hk;clear h C
 conv=>arg 2;whnf
 unfold fr;go_wp2_with fail;refine (dB 12 (by omega) (by omega) (Dn.refl m.o.d)).mono ?_;rintro e Y ⟨q,Z,rfl,j,N,H,v⟩;have l:=ah (m.o.draw v.out);go_wp2_with fail;refine (dB 4 (by omega) (by omega) (Dn.refl l.o.d)).mono ?_;rintro e W ⟨p,F,rfl,i,M,G,u⟩;have c:=ah (l.o.draw u.out);have B:=ah (show eY f n made s=([(2,A,q,wrap64 ((1+r3)*(p%2)))],made,F) from z.o.trans (by unfold dK;rw [if_neg (by omega),if_pos (by omega)];rw [j.out.1,i.out.1,j.out.2,i.out.2]));go_wp2_with (first
  |(at_builtin
    refine fC rfl (.tmp 89) (.tmp 100) 23 39 4 32 _ rfl Tryz.underlying23 fV rfl (by decide) w.heap.size (.slice ao k co) k (oC ops) (nT ((2,A,q,wrap64 ((1+r3)*(p%2))):dA)) (by have:=c.o.o;rw [g.o] at this;exact this) rfl rfl rfl (gy _) (by omega) (by decide) c.o.b.size ?_;intro v' V y E D R;obtain ⟨a9,k9,r⟩:=aF y;subst r;have T:=ah (c.o.app (o:=((2,A,q,wrap64 ((1+r3)*(p%2))):dA)) (by rw [g.o];exact y) (gL (E _ _ (aG _ _) (au _)) D));clear y E D R)
  |go_in)
 go_wp2_with fail;refine lV _ ?_ (fun t=>U.o t _ _ _ _ _ _ ⟨B.o,by rw [aT,g.o];rfl,by simp,by omega,T.o⟩);rfl
theorem FY {S:Nat} {a:Option Addr} {f:Nat->Nat} {s s6:Nat × Int} {ops:List dA} {t:Nat->Value} (h:BF w S (.slice a n cap) n f s s6 made k A r3 r6 ao co ops w6) (hk:7<=r6/\r6<10) (C:∀ t o' s' a9 k9 k' w',TR w S (.slice a n cap) n f s made ops o' (made) s' k' (.slice a9 k' k9) w'->K (fr a n cap S X (.slice a9 k' k9) (.int .i64 (made:Int)) iv A (1+r3) t) w'):
 Code.wp Tryz.prog (cR 31) (Exit.inBlock 2 (Exit.inBlock 1 (Exit.then K Q))) (fr a n cap S X (.slice ao k co) (.int .i64 (made:Int)) iv A (1+r3) t) w6:=by
 have U:=ah C;have m:=ah h.x;have g:=ah h.kl;have z:=ah h.st;have hA:=h.hA;have J:=h.hr;have L:=h.hm;have P:=h.hk;clear h C
 conv=>arg 2;whnf
 unfold fr;go_wp2_with fail;refine (dB _ (by omega) (by omega) (Dn.refl m.o.d)).mono ?_;rintro e Y ⟨q,Z,rfl,j,N,H,v⟩;have l:=ah (m.o.draw v.out);go_wp2_with fail;refine (dB 2 (by omega) (by omega) (Dn.refl l.o.d)).mono ?_;rintro e W ⟨p,F,rfl,i,M,G,u⟩;have c:=ah (l.o.draw u.out);have B:=ah (show eY f n made s=([(3,A,1+r3,wrap64 ((1+q)*p))],made,F) from z.o.trans (by unfold dK;rw [if_neg (by omega),if_neg (by omega),if_pos (by omega)];rw [j.out.1,i.out.1,j.out.2,i.out.2]));go_wp2_with (first
  |(at_builtin
    refine fC rfl (.tmp 106) (.tmp 118) 23 39 4 32 _ rfl Tryz.underlying23 fV rfl (by decide) w.heap.size (.slice ao k co) k (oC ops) (nT ((3,A,1+r3,wrap64 ((1+q)*p)):dA)) (by have:=c.o.o;rw [g.o] at this;exact this) rfl rfl rfl (gy _) (by omega) (by decide) c.o.b.size ?_;intro v' V y E D R;obtain ⟨a9,k9,r⟩:=aF y;subst r;have T:=ah (c.o.app (o:=((3,A,1+r3,wrap64 ((1+q)*p)):dA)) (by rw [g.o];exact y) (gL (E _ _ (aG _ _) (au _)) D));clear y E D R)
  |go_in)
 go_wp2_with fail;refine lV _ ?_ (fun t=>U.o t _ _ _ _ _ _ ⟨B.o,by rw [aT,g.o];rfl,by simp,by omega,T.o⟩);rfl
end
section
variable {A r3 r6 r9:Int} {K:Act->World->Prop} {Q:Exit->Act->World->Prop} {X cap co k k9 made n:Nat} {a9 ao:Option Addr} {iv:Value} {w w6 w9:World}
theorem Gy {S:Nat} {a:Option Addr} {f:Nat->Nat} {s s6:Nat × Int} {ops:List dA} {t:Nat->Value} (h:BF w S (.slice a n cap) n f s s6 made k A r3 r6 ao co ops w6) (hk:10<=r6/\r6<12) (v:∀ t o' s' a9 k9 k' w',TR w S (.slice a n cap) n f s made ops o' (made) s' k' (.slice a9 k' k9) w'->K (fr a n cap S X (.slice a9 k' k9) (.int .i64 (made:Int)) iv A (1+r3) t) w'):
 Code.wp Tryz.prog (cR 34) (Exit.inBlock 2 (Exit.inBlock 1 (Exit.then K Q))) (fr a n cap S X (.slice ao k co) (.int .i64 (made:Int)) iv A (1+r3) t) w6:=by
 have L:=ah v;have j:=ah h.x;have g:=ah h.kl;have r:=ah h.st;have hA:=h.hA;have D:=h.hr;have E:=h.hm;have G:=h.hk;clear h v
 conv=>arg 2;whnf
 unfold fr;go_wp2_with fail;refine (dB 8 (by omega) (by omega) (Dn.refl j.o.d)).mono ?_;rintro e M ⟨l,B,rfl,i,F,C,p⟩;have c:=ah (j.o.draw p.out);have u:=ah (show eY f n made s=([(4,A,l/7,0)],made,B) from r.o.trans (by unfold dK;rw [if_neg (by omega),if_neg (by omega),if_neg (by omega),if_pos (by omega)];rw [i.out.1,i.out.2]));go_wp2_with (first
  |(at_builtin
    refine fC rfl (.tmp 123) (.tmp 129) 23 39 4 32 _ rfl Tryz.underlying23 fV rfl (by decide) w.heap.size (.slice ao k co) k (oC ops) (nT ((4,A,l/7,0):dA)) (by have:=c.o.o;rw [g.o] at this;exact this) rfl rfl rfl (gy _) (by omega) (by decide) c.o.b.size ?_;intro v' w9 q z y H;obtain ⟨a9,k9,m⟩:=aF q;subst m;have J:=ah (c.o.app (o:=((4,A,l/7,0):dA)) (by rw [g.o];exact q) (gL (z _ _ (aG _ _) (au _)) y));clear q z y H)
  |go_in)
 go_wp2_with fail;refine lV _ ?_ (fun t=>L.o t _ _ _ _ _ _ ⟨u.o,by rw [aT,g.o];rfl,by simp,by omega,J.o⟩);rfl
theorem GJ {S:Nat} {a:Option Addr} {f:Nat->Nat} {s s6:Nat × Int} {ops:List dA} {t:Nat->Value} (h:BF w S (.slice a n cap) n f s s6 made k A r3 r6 ao co ops w6) (hk:12<=r6/\r6<13) (l:∀ t o' s' a9 k9 k' w',TR w S (.slice a n cap) n f s made ops o' (made) s' k' (.slice a9 k' k9) w'->K (fr a n cap S X (.slice a9 k' k9) (.int .i64 (made:Int)) iv A (1+r3) t) w'):
 Code.wp Tryz.prog (cR 36) (Exit.inBlock 2 (Exit.inBlock 1 (Exit.then K Q))) (fr a n cap S X (.slice ao k co) (.int .i64 (made:Int)) iv A (1+r3) t) w6:=by
 have z:=ah l;have c:=ah h.x;have d:=ah h.kl;have i:=ah h.st;have hA:=h.hA;have q:=h.hr;have r:=h.hm;have u:=h.hk;clear h l
 conv=>arg 2;whnf
 unfold fr;have j:=ah (show eY f n made s=([(5,A,0,0)],made,s6) from i.o.trans (by unfold dK;rw [if_neg (by omega),if_neg (by omega),if_neg (by omega),if_neg (by omega),if_pos (by omega)]));go_wp2_with (first
  |(at_builtin
    refine fC rfl (.tmp 133) (.tmp 136) 23 39 4 32 _ rfl Tryz.underlying23 fV rfl (by decide) w.heap.size (.slice ao k co) k (oC ops) (nT ((5,A,0,0):dA)) (by have:=c.o.o;rw [d.o] at this;exact this) rfl rfl rfl (gy _) (by omega) (by decide) c.o.b.size ?_;intro v' w9 g p m v;obtain ⟨a9,k9,e⟩:=aF g;subst e;have y:=ah (c.o.app (o:=((5,A,0,0):dA)) (by rw [d.o];exact g) (gL (p _ _ (aG _ _) (au _)) m));clear g p m v)
  |go_in)
 go_wp2_with fail;refine lV _ ?_ (fun t=>z.o t _ _ _ _ _ _ ⟨j.o,by rw [aT,d.o];rfl,by simp,by omega,y.o⟩);rfl
theorem GU {S:Nat} {a:Option Addr} {f:Nat->Nat} {s s6:Nat × Int} {ops:List dA} {t:Nat->Value} (h:BF w S (.slice a n cap) n f s s6 made k A r3 r6 ao co ops w6) (hk:13<=r6/\r6<14) (J:∀ t o' s' a9 k9 k' w',TR w S (.slice a n cap) n f s made ops o' (made) s' k' (.slice a9 k' k9) w'->K (fr a n cap S X (.slice a9 k' k9) (.int .i64 (made:Int)) iv A (1+r3) t) w'):
 Code.wp Tryz.prog (cR 38) (Exit.inBlock 2 (Exit.inBlock 1 (Exit.then K Q))) (fr a n cap S X (.slice ao k co) (.int .i64 (made:Int)) iv A (1+r3) t) w6:=by
 have HK:=ah J;have z:=ah h.x;have p:=ah h.kl;have D:=ah h.st;have hA:=h.hA;have T:=h.hr;have U:=h.hm;have W:=h.hk;clear h J
 conv=>arg 2;whnf
 unfold fr;have C:Hq (aD (w6.alloc (.cells #[.int .i64 1,.int .i64 3,.int .i64 10,.int .i64 40,.int .i64 0,.int .i64 1000000,.int .i64 1000001] 3)) 3 w6.heap.size 7 (fun j=>.int .i64 (([1,3,10,40,0,1000000,1000001]:List Int).getD j 0))):=ah (CU w6 [1,3,10,40,0,1000000,1000001]);have g:=ah (z.o.low (aU w6 (.cells #[.int .i64 1,.int .i64 3,.int .i64 10,.int .i64 40,.int .i64 0,.int .i64 1000000,.int .i64 1000001] 3)));go_wp2_with fail;refine (dB 7 (by omega) (by omega) (Dn.refl g.o.d)).mono ?_;rintro e P ⟨G,F,rfl,u,V,R,l⟩;have m:=ah (g.o.draw l.out);have B:=ah (C.o.keep l.out.2 (fun c=>C.o.apart g.o.d.r (by decide) c));clear C g l;generalize w6.heap.size=X6 at *;obtain ⟨i,rfl⟩:∃ i:Nat,G=(i:Int):=⟨G.toNat,by omega⟩
 have Z:P.cell? ⟨X6,i,none⟩=some (.int .i64 (([1,3,10,40,0,1000000,1000001]:List Int).getD i 0)):=B.o.c i;have N:=ah (show ([1,3,10,40,0,1000000,1000001]:List Int).getD i 0=([1,3,10,40,0,1000000,1000001]:List Int).getD (dV 7 F).toNat 0 by rw [u.out.2];rfl);obtain ⟨q,H⟩:∃ q,([1,3,10,40,0,1000000,1000001]:List Int).getD i 0=q:=⟨_,rfl⟩
 rw [H] at Z N;clear H;have E:=ah (show eY f n made s=([(6,q,0,0)],made,F) from D.o.trans (by unfold dK;rw [if_neg (by omega),if_neg (by omega),if_neg (by omega),if_neg (by omega),if_neg (by omega),if_pos (by omega)];rw [u.out.1,<-N.o]));go_wp2_with (first
  |(at_builtin
    refine fC rfl (.tmp 140) (.tmp 147) 23 39 4 32 _ rfl Tryz.underlying23 fV rfl (by decide) w.heap.size (.slice ao k co) k (oC ops) (nT ((6,q,0,0):dA)) (by have:=m.o.o;rw [p.o] at this;exact this) rfl rfl rfl (gy _) (by omega) (by decide) m.o.b.size ?_;intro v' w9 y M L Y;obtain ⟨a9,k9,v⟩:=aF y;subst v;have HY:=ah (m.o.app (o:=((6,q,0,0):dA)) (by rw [p.o];exact y) (gL (M _ _ (aG _ _) (au _)) L));clear y M L Y)
  |go_in)
 go_wp2_with fail;refine lV _ ?_ (fun t=>HK.o t _ _ _ _ _ _ ⟨E.o,by rw [aT,p.o];rfl,by simp,by omega,HY.o⟩);rfl
theorem GK {S:Nat} {a:Option Addr} {f:Nat->Nat} {s s6:Nat × Int} {ops:List dA} {t:Nat->Value} {q:Int} {s9:Nat × Int} (h:BF w S (.slice a n cap) n f s s6 made k A r3 r6 ao co ops w6) (i:∀ sA bA,dS f n s9=sA/\(dV 2 sA==0)=bA->eY f n made s=((q,r9,0,0)::(if bA=true then [(4,A,1,0)] else []),made,sA)) (y:DM w S (.slice a n cap) n f s9 (.slice a9 (k+1) k9) (ops++[(q,r9,0,0)]) w9) (B:∀ t o' z s' a9 k9 k' w',TR w S (.slice a n cap) n f s made ops o' z s' k' (.slice a9 k' k9) w'->K (fr a n cap S X (.slice a9 k' k9) (.int .i64 (z:Int)) iv A (1+r3) t) w'):
 Code.wp Tryz.prog (cS 16) (Exit.inBlock 2 (Exit.inBlock 1 (Exit.then K Q))) (fr a n cap S X (.slice a9 (k+1) k9) (.int .i64 (made:Int)) iv A (1+r3) t) w9:=by
 have F:=ah B;have j:=ah y;have i:=ah i;have p:=ah h.kl;have x:=ah h.st;have hA:=h.hA;have G:=h.hr;have H:=h.hm;have J:=h.hk;clear h B y
 conv=>arg 2;whnf
 unfold fr;go_wp2_with fail;refine (vN 2 (by omega) (by omega) (Dn.refl j.o.d)).mono ?_;rintro e N ⟨bA,sA,rfl,l,m⟩;have g:=ah (j.o.draw m.out);have r:=ah (i.o sA bA l.out);have c:=ah (show (ops++[((q,r9,0,0):dA)]).length=k+1 by rw [aT,p.o];rfl);clear m j i l x;cases bA with
 |false=>
  go_wp2_with fail;refine lV _ ?_ (fun t=>F.o t _ _ _ _ _ _ _ ⟨r.o,c.o,by simp,by omega,g.o⟩);rfl
 |true=>
  go_wp2_with (first
   |(at_builtin
     refine fC rfl (.tmp 64) (.tmp 67) 23 39 4 32 _ rfl Tryz.underlying23 fV rfl (by decide) w.heap.size (.slice a9 (k+1) k9) (k+1) (oC (ops++[((q,r9,0,0):dA)])) (nT ((4,A,1,0):dA)) (by have:=g.o.o;rw [c.o] at this;exact this) rfl rfl rfl (gy _) (by omega) (by decide) g.o.b.size ?_;intro v' M v D C L;obtain ⟨R,P,u⟩:=aF v;subst u;have E:=ah (g.o.app (o:=((4,A,1,0):dA)) (by rw [c.o];exact v) (gL (D _ _ (aG _ _) (au _)) C));clear v D C L)
   |go_in)
  go_wp2_with fail;refine lV _ ?_ (fun t=>F.o t _ _ _ _ _ (k+1+1) _ ⟨r.o,(by simp;have:=p.o;omega),by simp,by omega,(by rw [List.append_assoc] at E;exact E.o)⟩);rfl
end
section
variable {A r3 r6:Int} {K:Act->World->Prop} {X cap co k made n:Nat} {ao:Option Addr} {iv:Value} {w w6:World}
theorem GL {S:Nat} {a:Option Addr} {f:Nat->Nat} {s s6:Nat × Int} {ops:List dA} {t:Nat->Value} (h:BF w S (.slice a n cap) n f s s6 made k A r3 r6 ao co ops w6) (hk:14<=r6/\r6<15) (hK:∀ t o' s' a9 k9 k' w',TR w S (.slice a n cap) n f s made ops o' (made) s' k' (.slice a9 k' k9) w'->K (fr a n cap S X (.slice a9 k' k9) (.int .i64 (made:Int)) iv A (1+r3) t) w'):
 Code.wp Tryz.prog (cR 40) (Exit.then K fun _ _ _=>False) (fr a n cap S X (.slice ao k co) (.int .i64 (made:Int)) iv A (1+r3) t) w6:=by
 have HK:=ah hK;have a1:=ah h.x;have C:=ah h.kl;have a5:=ah h.st;have hA:=h.hA;have a7:=h.hr;have a8:=h.hm;have b0:=h.hk;clear h hK
 conv=>arg 2;whnf
 unfold fr;have R:Hq (∀ w':World,aD (w'.alloc (.cells #[.int .i64 7,.int .i64 9,.int .i64 8,.int .i64 6] 3)) 3 w'.heap.size 4 (fun j=>.int .i64 (([7,9,8,6]:List Int).getD j 0))):=ah (fun w'=>CU w' [7,9,8,6]);have P:=ah (a1.o.low ((aU w6 (.cells #[.int .i64 7,.int .i64 9,.int .i64 8,.int .i64 6] 3)).drew));have a0:=ah (a1.o.low ((aG w6.heap.size w6).drew));have a2:=ah (fun (q' r8':Int) (s7' s8':Nat × Int) (h7:dS f n s6=s7') (hq':q'=([7,9,8,6]:List Int).getD (dV 4 s7').toNat 0) (h8:dS f n s7'=s8'/\dV 20 s8'=r8')=>(show eY f n made s=([(q',1+r8',0,0)],made,s8') from a5.o.trans (by unfold dK;rw [if_neg (by omega),if_neg (by omega),if_neg (by omega),if_neg (by omega),if_neg (by omega),if_neg (by omega),if_pos (by omega),h7,h8.1,h8.2,<-hq'])));go_wp2_with fail
 go_region_law (first
  |(refine iN (.tmp 153) (.const (.int .i64 4)) rfl _ _ rfl rfl (dB 4 (by omega) (by omega) (Dn.refl P.o.d)) ?_
    rintro e D ⟨T,s7,rfl,E,a4,a3,u⟩;refine ⟨_,rfl,?_⟩;have m:=ah (P.o.draw u.out);have F:=ah (aD.keep (show aD (w6.alloc (.cells #[.int .i64 7,.int .i64 9,.int .i64 8,.int .i64 6] 3)).drew 3 w6.heap.size 4 _ from R.o w6) u.out.2 (fun c=>(R.o w6).apart (show aD (w6.alloc (.cells #[.int .i64 7,.int .i64 9,.int .i64 8,.int .i64 6] 3)) 83 S 3 _ from P.o.d.r) (by decide) c));obtain ⟨g,L⟩:∃ g:Nat,T=(g:Int):=⟨T.toNat,by omega⟩
    subst L;have l:g<4:=by omega
    have HQ:=ah (show ([7,9,8,6]:List Int).getD g 0=([7,9,8,6]:List Int).getD (dV 4 s7).toNat 0 by rw [E.out.2];rfl);obtain ⟨q,M⟩:∃ q,([7,9,8,6]:List Int).getD g 0=q:=⟨_,rfl⟩
    rw [M] at HQ;have y:=ah M;clear M;have ct:D.cell? ⟨w6.heap.size,g,none⟩=some (.int .i64 q):=by rw [<-y.o];exact F.o.cell (j:=g) l
    clear u)
  |(refine iN (.tmp 153) (.const (.int .i64 4)) rfl _ _ rfl rfl (dB 4 (by omega) (by omega) (Dn.refl a0.o.d)) ?_
    rintro e D ⟨T,s7,rfl,E,a4,a3,u⟩;refine ⟨_,rfl,?_⟩;have m:=ah (a0.o.draw u.out);have B:=ah (m.o.low (aU D (.cells #[.int .i64 7,.int .i64 9,.int .i64 8,.int .i64 6] 3)));obtain ⟨g,L⟩:∃ g:Nat,T=(g:Int):=⟨T.toNat,by omega⟩
    subst L;have l:g<4:=by omega
    have HQ:=ah (show ([7,9,8,6]:List Int).getD g 0=([7,9,8,6]:List Int).getD (dV 4 s7).toNat 0 by rw [E.out.2];rfl);obtain ⟨q,M⟩:∃ q,([7,9,8,6]:List Int).getD g 0=q:=⟨_,rfl⟩
    rw [M] at HQ;have y:=ah M;clear M;have ct:(D.alloc (.cells #[.int .i64 7,.int .i64 9,.int .i64 8,.int .i64 6] 3)).cell? ⟨D.heap.size,g,none⟩=some (.int .i64 q):=by rw [<-y.o];exact (R.o D).cell (j:=g) l
    clear u)
  |(refine iN (.tmp 157) (.const (.int .i64 20)) rfl _ _ rfl rfl (dB 20 (by omega) (by omega) (Dn.refl B.o.d)) ?_
    rintro e G ⟨p,s8,rfl,J,W,V,i⟩;refine ⟨_,rfl,?_⟩;have v:=ah (B.o.draw i.out);have Q:=ah ((R.o D).keep i.out.2 (fun c=>(R.o D).apart B.o.d.r (by decide) c));have Z:G.cell? ⟨D.heap.size,g,none⟩=some (.int .i64 q):=by rw [<-y.o];exact Q.o.cell (j:=g) l
    have U:IntKind.i64.wrap (1+p)=1+p:=IntWalk.i64_in _ (by omega);clear i)
  |(have b1:=F
    refine iN (.tmp 157) (.const (.int .i64 20)) rfl _ _ rfl rfl (dB 20 (by omega) (by omega) (Dn.refl m.o.d)) ?_;rintro e G ⟨p,s8,rfl,J,W,V,i⟩;refine ⟨_,rfl,?_⟩;have v:=ah (m.o.draw i.out);have Q:=ah (F.o.keep i.out.2 (fun c=>F.o.apart m.o.d.r (by decide) c));have Z:G.cell? ⟨w6.heap.size,g,none⟩=some (.int .i64 q):=by rw [<-y.o];exact Q.o.cell (j:=g) l
    have U:IntKind.i64.wrap (1+p)=1+p:=IntWalk.i64_in _ (by omega);clear i)
  |(refine iN (.tmp 157) (.const (.int .i64 20)) rfl _ _ rfl rfl (dB 20 (by omega) (by omega) (Dn.refl m.o.d)) ?_
    rintro e G ⟨p,s8,rfl,J,W,V,i⟩;refine ⟨_,rfl,?_⟩;have v:=ah (m.o.draw i.out);have z:=ah (v.o.low (aU G (.cells #[.int .i64 7,.int .i64 9,.int .i64 8,.int .i64 6] 3)));have Z:(G.alloc (.cells #[.int .i64 7,.int .i64 9,.int .i64 8,.int .i64 6] 3)).cell? ⟨G.heap.size,g,none⟩=some (.int .i64 q):=by rw [<-y.o];exact (R.o G).cell (j:=g) l
    have U:IntKind.i64.wrap (1+p)=1+p:=IntWalk.i64_in _ (by omega);clear i)
  |(refine nC (.tmp 151) (.tmp 161) rfl w.heap.size (.slice ao k co) k (oC ops) (nT ((q,1+p,0,0):dA)) (by have:=z.o.o;rw [C.o] at this;exact this) rfl (by rw [Gv];rfl) rfl (gy _) (by omega) z.o.b.size ?_
    intro v' w9 N Y;obtain ⟨a9,k9,H⟩:=aF N;subst H;have HY:=ah (z.o.app (o:=((q,1+p,0,0):dA)) (by rw [C.o];exact N) Y);clear N Y)
  |(refine nC (.tmp 151) (.tmp 161) rfl w.heap.size (.slice ao k co) k (oC ops) (nT ((q,1+p,0,0):dA)) (by have:=v.o.o;rw [C.o] at this;exact this) rfl rfl rfl (gy _) (by omega) v.o.b.size ?_
    intro v' w9 N Y;obtain ⟨a9,k9,H⟩:=aF N;subst H;have HY:=ah (v.o.app (o:=((q,1+p,0,0):dA)) (by rw [C.o];exact N) Y);clear N Y))
 all_goals
  have a6:=ah (a2.o q p s7 s8 E.out.1 HQ.o J.out);go_wp2_with fail;refine lV _ ?_ (fun t=>HK.o t _ _ _ _ _ _ ⟨a6.o,by rw [aT,C.o];rfl,by simp,by omega,HY.o⟩);rfl
end
section
variable {A r3 r6:Int} {K:Act->World->Prop} {X cap co k made n:Nat} {ao:Option Addr} {iv:Value} {w w6:World}
theorem GV {S:Nat} {a:Option Addr} {f:Nat->Nat} {s s6:Nat × Int} {ops:List dA} {t:Nat->Value} (h:BF w S (.slice a n cap) n f s s6 made k A r3 r6 ao co ops w6) (hk:15<=r6) (hK:∀ t q r9 s9 a9 k9 w',(∀ sA bA,dS f n s9=sA/\(dV 2 sA==0)=bA->eY f n made s=((q,r9,0,0)::(if bA=true then [(4,A,1,0)] else []),made,sA))->DM w S (.slice a n cap) n f s9 (.slice a9 (k+1) k9) (ops++[(q,r9,0,0)]) w'->K (fr a n cap S X (.slice a9 (k+1) k9) (.int .i64 (made:Int)) iv A (1+r3) t) w'):
 Code.wp Tryz.prog (cR 15) (Exit.then K fun _ _ _=>False) (fr a n cap S X (.slice ao k co) (.int .i64 (made:Int)) iv A (1+r3) t) w6:=by
 have HK:=ah hK;have a7:=ah h.x;have G:=ah h.kl;have a8:=ah h.st;have hA:=h.hA;have b1:=h.hr;have b2:=h.hm;have b4:=h.hk;clear h hK
 conv=>arg 2;whnf
 unfold fr;have T:Hq (∀ (g:Int) (w':World),aD (w'.alloc (.cells #[.int .i64 8,.int .i64 8,.int .i64 9,.int .i64 0,.int .i64 10,.int .i64 g] 3)) 3 w'.heap.size 6 (fun j=>.int .i64 (([8,8,9,0,10,g]:List Int).getD j 0))):=ah (fun g w'=>CU w' [8,8,9,0,10,g]);have a1:=ah (a7.o.low ((aG w6.heap.size w6).drew));have a2:=ah (fun (g q' r9':Int) (s7' s8' s9' sA:Nat × Int) (bA:Bool) (h7:dW f n s6=(g,s7')) (h8:dS f n s7'=s8') (hq':q'=([8,8,9,0,10,g]:List Int).getD (dV 6 s8').toNat 0) (h9:dS f n s8'=s9'/\dV 3 s9'=r9') (hA':dS f n s9'=sA/\(dV 2 sA==0)=bA)=>(show eY f n made s=((q',r9',0,0)::(if bA=true then [(4,A,1,0)] else []),made,sA) from a8.o.trans (by unfold dK;rw [if_neg (by omega),if_neg (by omega),if_neg (by omega),if_neg (by omega),if_neg (by omega),if_neg (by omega),if_neg (by omega),h7];simp only;rw [h8,h9.1,hA'.1,h9.2,hA'.2,<-hq'])))
 go_region_law (first
  |(refine Et (.tmp 50) rfl _ rfl (DN (Dn.refl a1.o.d)) ?_
    rintro e U ⟨g,s7,rfl,a4,b3,b0,Z⟩;refine ⟨_,rfl,?_⟩;have Q:=ah (a1.o.draw Z.out);have C:=ah (Q.o.low (aU U (.cells #[.int .i64 8,.int .i64 8,.int .i64 9,.int .i64 0,.int .i64 10,.int .i64 g] 3)));clear Z)
  |(refine iN (.tmp 53) (.const (.int .i64 6)) rfl _ _ rfl rfl (dB 6 (by omega) (by omega) (Dn.refl C.o.d)) ?_
    rintro e D ⟨V,s8,rfl,E,a5,a3,u⟩;refine ⟨_,rfl,?_⟩;have p:=ah (C.o.draw u.out);obtain ⟨i,M⟩:∃ i:Nat,V=(i:Int):=⟨V.toNat,by omega⟩
    subst M;have m:i<6:=by omega
    have HQ:=ah (show ([8,8,9,0,10,g]:List Int).getD i 0=([8,8,9,0,10,g]:List Int).getD (dV 6 s8).toNat 0 by rw [E.out.2];rfl);obtain ⟨q,N⟩:∃ q,([8,8,9,0,10,g]:List Int).getD i 0=q:=⟨_,rfl⟩
    rw [N] at HQ;have y:=ah N;clear N;have F:=ah ((T.o g U).keep u.out.2 (fun c=>(T.o g U).apart C.o.d.r (by decide) c));have a6:D.cell? ⟨U.heap.size,i,none⟩=some (.int .i64 q):=by rw [<-y.o];exact F.o.cell (j:=i) m
    clear u)
  |(refine iN (.tmp 53) (.const (.int .i64 6)) rfl _ _ rfl rfl (dB 6 (by omega) (by omega) (Dn.refl Q.o.d)) ?_
    rintro e D ⟨V,s8,rfl,E,a5,a3,u⟩;refine ⟨_,rfl,?_⟩;have p:=ah (Q.o.draw u.out);obtain ⟨i,M⟩:∃ i:Nat,V=(i:Int):=⟨V.toNat,by omega⟩
    subst M;have m:i<6:=by omega
    have HQ:=ah (show ([8,8,9,0,10,g]:List Int).getD i 0=([8,8,9,0,10,g]:List Int).getD (dV 6 s8).toNat 0 by rw [E.out.2];rfl);obtain ⟨q,N⟩:∃ q,([8,8,9,0,10,g]:List Int).getD i 0=q:=⟨_,rfl⟩
    rw [N] at HQ;have y:=ah N;clear N;have B:=ah (p.o.low (aU D (.cells #[.int .i64 8,.int .i64 8,.int .i64 9,.int .i64 0,.int .i64 10,.int .i64 g] 3)));have a6:(D.alloc (.cells #[.int .i64 8,.int .i64 8,.int .i64 9,.int .i64 0,.int .i64 10,.int .i64 g] 3)).cell? ⟨D.heap.size,i,none⟩=some (.int .i64 q):=by rw [<-y.o];exact (T.o g D).cell (j:=i) m
    clear u)
  |(refine iN (.tmp 57) (.const (.int .i64 3)) rfl _ _ rfl rfl (dB 3 (by omega) (by omega) (Dn.refl B.o.d)) ?_
    rintro e H ⟨r9,s9,rfl,L,Y,W,l⟩;refine ⟨_,rfl,?_⟩;have v:=ah (B.o.draw l.out);have R:=ah ((T.o g D).keep l.out.2 (fun c=>(T.o g D).apart B.o.d.r (by decide) c));have a0:H.cell? ⟨D.heap.size,i,none⟩=some (.int .i64 q):=by rw [<-y.o];exact R.o.cell (j:=i) m
    clear l)
  |(have b5:=F
    refine iN (.tmp 57) (.const (.int .i64 3)) rfl _ _ rfl rfl (dB 3 (by omega) (by omega) (Dn.refl p.o.d)) ?_;rintro e H ⟨r9,s9,rfl,L,Y,W,l⟩;refine ⟨_,rfl,?_⟩;have v:=ah (p.o.draw l.out);have R:=ah (F.o.keep l.out.2 (fun c=>F.o.apart p.o.d.r (by decide) c));have a0:H.cell? ⟨U.heap.size,i,none⟩=some (.int .i64 q):=by rw [<-y.o];exact R.o.cell (j:=i) m
    clear l)
  |(refine iN (.tmp 57) (.const (.int .i64 3)) rfl _ _ rfl rfl (dB 3 (by omega) (by omega) (Dn.refl p.o.d)) ?_
    rintro e H ⟨r9,s9,rfl,L,Y,W,l⟩;refine ⟨_,rfl,?_⟩;have v:=ah (p.o.draw l.out);have z:=ah (v.o.low (aU H (.cells #[.int .i64 8,.int .i64 8,.int .i64 9,.int .i64 0,.int .i64 10,.int .i64 g] 3)));have a0:(H.alloc (.cells #[.int .i64 8,.int .i64 8,.int .i64 9,.int .i64 0,.int .i64 10,.int .i64 g] 3)).cell? ⟨H.heap.size,i,none⟩=some (.int .i64 q):=by rw [<-y.o];exact (T.o g H).cell (j:=i) m
    clear l)
  |(refine nC (.tmp 49) (.tmp 60) rfl w.heap.size (.slice ao k co) k (oC ops) (nT ((q,r9,0,0):dA)) (by have:=z.o.o;rw [G.o] at this;exact this) rfl (by rw [Gv];rfl) rfl (gy _) (by omega) z.o.b.size ?_
    intro v' wA P g2;obtain ⟨a9,k9,J⟩:=aF P;subst J;have HY:=ah (z.o.app (o:=((q,r9,0,0):dA)) (by rw [G.o];exact P) g2);clear P g2)
  |(refine nC (.tmp 49) (.tmp 60) rfl w.heap.size (.slice ao k co) k (oC ops) (nT ((q,r9,0,0):dA)) (by have:=v.o.o;rw [G.o] at this;exact this) rfl rfl rfl (gy _) (by omega) v.o.b.size ?_
    intro v' wA P g2;obtain ⟨a9,k9,J⟩:=aF P;subst J;have HY:=ah (v.o.app (o:=((q,r9,0,0):dA)) (by rw [G.o];exact P) g2);clear P g2))
 all_goals
  go_wp2_with fail;refine lV _ ?_ (fun t=>HK.o t q r9 s9 a9 k9 _ (fun sA bA hA'=>a2.o g q r9 s7 s8 s9 sA bA a4.out E.out.1 HQ.o L.out hA') HY.o);rfl
end
section
variable {n:Nat} {v:Value} {w:World}
theorem Ct {f:Nat->Nat} (h:iw w.heap.size w v n f) (hn:n<=1048576):Calls Tryz.prog 6 #[v] w (Gz f n w):=by
 have e0:=ah (AV h hn);have d9:=ah (fun (w1:World) (hb:Below w.heap.size w w1)=>(show iw w1.heap.size w1 v n f from by
  rcases h.keep (Keeps.of hb (au _) (fun _=>False)) (au _) (fun _ e=>e.elim) with c|⟨b,o,l,c1,c2,c3⟩
  ·exact .inl c
  ·exact .inr ⟨b,o,l,c1,aX c2 hb.size,c3⟩))
 obtain ⟨a,l,rfl⟩:=h.form;obtain ⟨i0,c6,b9,b8,b7⟩:=info_parts fV;have a5:=ah (b6.intro c6 (b6.intro b9 (b6.intro b8 b7)));clear h c6 b9 b8 b7;go_enter Tryz.func6,Tryz.ntmps6;go_wp2_with fail;refine e0.o.mono ?_;rintro e w1 ⟨rfl,HD⟩;have d5:=ah (xO (d9.o w1 HD.o.2) hn);clear e0 d9;generalize hS:w.heap.size=S at *;have H:=ah hS;clear hS;go_wp2_with fail;refine d5.o.mono ?_;rintro e f9 ⟨rfl,c0⟩;obtain rfl:=c0.symm;clear d5 c0;have d6:=ah (vN 60 (by omega) (by omega) (Dn.refl HD.o.1));go_wp2_with fail;refine d6.o.mono ?_;rintro e U ⟨bo,s1,rfl,a0,b0⟩;have y:=ah (show DS S U S _ n f s1/\Below S w U from ⟨b0.out.1,HD.o.2.trans (b0.out.2.below (by have:=HD.o.2.size;rw [H.o] at this;exact this) (fun b e=>by rw [e];exact au _))⟩);clear b0 HD d6;have g6:dN n<=400:=by unfold dN;split<;>omega
 cases bo with
 |true=>
  have f6:=ah (dB 2 (by omega) (by omega) (Dn.refl y.o.1));go_wp2_with fail;refine f6.o.mono ?_;rintro e w3 ⟨r,s2,rfl,P,h0,h1,a3⟩;obtain ⟨rn,rfl⟩:∃ rn:Nat,r=(rn:j):=⟨r.toNat,by omega⟩
  have e1:=ah (show Below S w w3 from y.o.2.trans (a3.out.2.below (by have:=y.o.2.size;rw [H.o] at this;exact this) (fun b e=>by rw [e];exact au _)));have d0:S<=w3.heap.size:=by have:=e1.o.size;rw [H.o] at this;exact this
  go_wp2_with (first
   |(at_make;refine wpList_make_full _ rfl _ _ 23 rfl S 39 i0 (.agg #[.int .i64 0,.int .i64 0,.int .i64 0,.int .i64 0]) 4 Tryz.underlying23 a5.o.1 a5.o.2.1 a5.o.2.2.1 _ _ _ _ (5000+rn) rfl rfl (by simp) (by simp) (by rw [a5.o.2.2.2];omega) (by unfold maxLen;omega) d0 ?_;a7 w4 hown hgrow)
   |go_in)
  have HO:=ah (b6.intro hown hgrow);clear hown hgrow;go_wp2;go_ret;have a1:gV f n=List.replicate (5000+rn) (0,0,0,0):=by
   unfold gV;rw [a0.out.1,a0.out.2,if_pos rfl,P.out.1,P.out.2,show ((5000:j)+(rn:j)).toNat=5000+rn by omega]
  refine ⟨_,rfl,?_,?_⟩
  ·rw [a1,List.length_replicate,H.o,<-yx]
   exact HO.o.1
  ·rw [H.o]
   exact e1.o.grown HO.o.2 d0 (fun _ c=>by cases c)
 |false=>
  have d8:Hq (DM w S (.slice a n l) n f s1 (.slice (some ⟨U.heap.size,0,none⟩) 0 0) [] (U.alloc (.cells #[] 39))):=ah (by
   have hb:=aU U (.cells #[] 39);have k:=Keeps.of hb (au _) (fun _=>False);have b1:S<=U.heap.size:=by have:=y.o.2.size;rw [H.o] at this;exact this
   refine ⟨?_,⟨rfl,.inr ⟨U.heap.size,0,#[],rfl,by rw [H.o];exact b1,heap_alloc_new U _,by decide,by decide,rfl,rfl⟩⟩,by rw [H.o];exact y.o.2.trans (hb.mono b1)⟩;rw [H.o];exact ⟨y.o.1.c.keep k b1 (fun _ e=>e.elim),y.o.1.n1,y.o.1.b,y.o.1.r.low hb y.o.1.r.lt,y.o.1.x0,y.o.1.x1,y.o.1.i⟩)
  have hX:∃ X,U.heap.size=X:=⟨_,rfl⟩
  clear y;go_upto_region 6 with (fail)
  generalize U.alloc (.cells #[] 39)=w3 at *;clear hX;generalize U.heap.size=X at *;go_wp2_with fail;go_loopw [5,6,7] (fun ov mv iv ws=>∃ (i g k:Nat) (F:Option Addr) (E:Nat),i<=2*dN n/\g<=i/\k<=2*i/\iv=.int .i64 (i:j)/\mv=.int .i64 (g:j)/\ov=.slice F k E/\Hq (DJ w S (.slice a n l) n f s1 i g (.slice F k E) k ws)) (fun _ _ iv _=>2*dN n-bF iv)
  case atStart=>exact ⟨0,0,0,some ⟨X,0,none⟩,0,by omega,by omega,by omega,rfl,rfl,rfl,rfl,rfl,d8.o,by omega,by omega⟩
  case round=>
   clear d8;obtain ⟨i,g,k,F,E,g5,e6,f0,rfl,rfl,rfl,HJ⟩:=hrel;by_cases g4:i<2*dN n
   ·have f3:((i:j)<2*(dN n:j)):=by omega
    obtain ⟨M,s,a2⟩:∃ M s,dI f n s1 i=(M,g,s):=⟨_,_,by rw [<-HJ.o.mm]⟩
    have f8:=ah a2;have c5:M.length=k:=by have:=HJ.o.kk;rw [a2] at this;exact this
    have b3:Hq (DM w S (.slice a n l) n f s (.slice F k E) M wr):=ah (by have:=HJ.o.x;rw [a2] at this;exact this);have b5:=ah c5;have f1:k<=1600:=by omega
    clear HJ a2 c5;go_wp2_with fail;refine (dB _ (by omega) (by omega) (Dn.refl b3.o.d)).mono ?_;rintro e U ⟨r2,s2,rfl,P,e9,e4,a3⟩;have b2:=ah (b3.o.draw (a3.out));clear a3 b3;go_wp2_with fail;refine (dB _ (by omega) (by omega) (Dn.refl b2.o.d)).mono ?_;rintro e w3 ⟨p,s3,rfl,V,e8,e3,c9⟩;have a4:=ah (b2.o.draw (c9.out));clear c9 b2;have e5:0<=p/\p<=100000:=by omega
    clear e8 e3;go_upto_region 12 with (fail)
    rename_i Q9 K2 d1 K1 d2 K0 d3;have m:Hq (∀ (A B:j) (t:Nat->Value) (L:List dA) (m':Nat) (J:Nat × j) (D:Option Addr) (C z:Nat) (w':World),TR w S (.slice a n l) n f s g M L m' J z (.slice D z C) w'->K2 (fr a n l S X (.slice D z C) (.int .i64 (m':j)) (.int .i64 (i:j)) A B t) w'):=ah (by
     a7 A B t L m' J D C z w' u
     have R:=ah u;have g3:z<=k+2:=by have:=u.2.1;have:=u.2.2.1;rw [aT] at *;have:=b5.o;omega
     have g1:m'<=g+1:=u.2.2.2.1;clear u a4;unfold fr;refine d1 _ _ ?_;go_wp2;go_roundw
     ·refine ⟨i+1,m',z,D,C,by omega,by omega,by omega,by simp,rfl,rfl,DJ.next f8.o R.o.1 R.o.2.2.2.2 R.o.2.1 (by rw [b5.o];exact f0) R.o.2.2.1 e6 R.o.2.2.2.1⟩
     ·simp [bF];omega)
    go_cut [42] from 21 to 162 (fun tv wc=>∃ (b4 T:Bool) (Y:Nat × j),tv=.bool T/\Hq (dS f n s3=Y/\(dV 3 Y==0)=b4/\(b4&&decide (4<g))=T/\DM w S (.slice a n l) n f Y (.slice F k E) M wc))
    case first=>
     go_wp2_with fail;refine (vN 3 (by omega) (by omega) (Dn.refl a4.o.d)).mono ?_;rintro e w4 ⟨b4,Y,rfl,Z,c8⟩;have d4:=ah (a4.o.draw c8.out);clear c8 a4;cases b4 with
     |false=>
      go_wp2_with fail;go_meet;exact ⟨false,false,Y,rfl,Z.out.1,Z.out.2,rfl,d4.o⟩
     |true=>
      go_wp2_with fail;go_meet;exact ⟨true,_,Y,rfl,Z.out.1,Z.out.2,(by simp;omega),d4.o⟩
    case rest=>
    obtain ⟨b4,T,Y,rfl,G⟩:=hcut;refine d3 _ _ ?_;rename World=>w4
    go_cut [8] from 21 to 162 (fun av wc=>∃ (A:j) (s5:Nat × j),av=.int .i64 A/\Hq ((-10<=A/\A<=100000)/\(∀ k Q,dS f n s5=Q->dV 16 Q=k->eY f n g s=dK f n g A (1+p) k Q)/\DM w S (.slice a n l) n f s5 (.slice F k E) M wc))
    case first=>
     cases T with
     |false=>
      have HF:=ah (fun (k:j) (Q:Nat × j) (h6:dS f n Y=Q) (hk:dV 16 Q=k)=>(show eY f n g s=dK f n g (1+r2) (1+p) k Q from by
       unfold eY;rw [P.out.1,V.out.1,G.o.1,h6,P.out.2,V.out.2,G.o.2.1,hk,if_neg];rintro ⟨c1,c2⟩;have:=G.o.2.2.1;rw [c1] at this;simp [c2] at this))
      go_wp2_with fail;go_meet;exact ⟨_,Y,rfl,by omega,HF.o,G.o.2.2.2⟩
     |true=>
      have hc:b4=true/\4<g:=by
       have:=G.o.2.2.1;simp at this;exact this
      go_wp2_with fail;refine (dB 4 (by omega) (by omega) (Dn.refl G.o.2.2.2.d)).mono ?_;rintro e w5 ⟨r5,s5,rfl,c4,g2,g0,f4⟩;have W:=ah (G.o.2.2.2.draw f4.out);have HF:=ah (fun (k:j) (Q:Nat × j) (h6:dS f n s5=Q) (hk:dV 16 Q=k)=>(show eY f n g s=dK f n g ((g:j)-r5) (1+p) k Q from by
       unfold eY;rw [P.out.1,V.out.1,G.o.1,c4.out.1,h6,V.out.2,G.o.2.1,c4.out.2,hk,if_pos hc]))
      go_wp2_with fail;go_meet;exact ⟨_,s5,rfl,by omega,HF.o,W.o⟩
    case rest=>
    obtain ⟨A,s5,rfl,a6⟩:=hcut;rename World=>w5;clear G P V e9 e4;have W:=ah a6.o.2.2;have d7:=ah a6.o.2.1;have hA:=a6.o.1;clear a6;refine d2 _ _ ?_;clear d2 d3 d1;go_wp2_with fail;refine (dB 16 (by omega) (by omega) (Dn.refl W.o.d)).mono ?_;rintro e w6 ⟨K,Q,rfl,a8,e7,e2,c7⟩;have N:=ah (show BF w S (.slice a n l) n f s Q g k A p K F E M w6 from ⟨hA,e5,by omega,f1,b5.o,d7.o K Q a8.out.1 a8.out.2,W.o.draw c7.out⟩);clear c7 W d7 a8;have f2:K=0∨K=1∨K=2∨K=3∨K=4∨K=5∨K=6∨K=7∨K=8∨K=9∨K=10∨K=11∨K=12∨K=13∨K=14∨K=15:=by omega
    clear e7 e2;rcases f2 with rfl|rfl|rfl|rfl|rfl|rfl|rfl|rfl|rfl|rfl|rfl|rfl|rfl|rfl|rfl|rfl
    ·go_upto_region 22 with (fail)
     refine uy (fr a n l S X (.slice F k E) (.int .i64 (g:j)) (.int .i64 (i:j)) A (1+p)) ?_ (fun t=>FU N.o (by omega) (fun t L J D C z w' u=>?_))
     ·rfl
     ·unfold fr
      have R:=ah u;clear u;go_wp2_with fail;refine lV (fr a n l S X (.slice D z C) (.int .i64 ((g+1:Nat):j)) (.int .i64 (i:j)) A (1+p)) ?_ (fun t=>m.o A (1+p) t _ (g+1) _ _ _ _ _ R.o);rfl
    ·go_upto_region 22 with (fail)
     refine uy (fr a n l S X (.slice F k E) (.int .i64 (g:j)) (.int .i64 (i:j)) A (1+p)) ?_ (fun t=>FU N.o (by omega) (fun t L J D C z w' u=>?_))
     ·rfl
     ·unfold fr
      have R:=ah u;clear u;go_wp2_with fail;refine lV (fr a n l S X (.slice D z C) (.int .i64 ((g+1:Nat):j)) (.int .i64 (i:j)) A (1+p)) ?_ (fun t=>m.o A (1+p) t _ (g+1) _ _ _ _ _ R.o);rfl
    ·go_upto_region 22 with (fail)
     refine uy (fr a n l S X (.slice F k E) (.int .i64 (g:j)) (.int .i64 (i:j)) A (1+p)) ?_ (fun t=>FU N.o (by omega) (fun t L J D C z w' u=>?_))
     ·rfl
     ·unfold fr
      have R:=ah u;clear u;go_wp2_with fail;refine lV (fr a n l S X (.slice D z C) (.int .i64 ((g+1:Nat):j)) (.int .i64 (i:j)) A (1+p)) ?_ (fun t=>m.o A (1+p) t _ (g+1) _ _ _ _ _ R.o);rfl
    ·go_upto_region 22 with (fail)
     refine uy (fr a n l S X (.slice F k E) (.int .i64 (g:j)) (.int .i64 (i:j)) A (1+p)) ?_ (fun t=>FU N.o (by omega) (fun t L J D C z w' u=>?_))
     ·rfl
     ·unfold fr
      have R:=ah u;clear u;go_wp2_with fail;refine lV (fr a n l S X (.slice D z C) (.int .i64 ((g+1:Nat):j)) (.int .i64 (i:j)) A (1+p)) ?_ (fun t=>m.o A (1+p) t _ (g+1) _ _ _ _ _ R.o);rfl
    ·go_upto_region 27 with (fail)
     refine uy (fr a n l S X (.slice F k E) (.int .i64 (g:j)) (.int .i64 (i:j)) A (1+p)) ?_ (fun t=>Gg N.o (by omega) (fun t L J D C z w' u=>m.o A (1+p) t _ _ _ _ _ _ _ u));rfl
    ·go_upto_region 27 with (fail)
     refine uy (fr a n l S X (.slice F k E) (.int .i64 (g:j)) (.int .i64 (i:j)) A (1+p)) ?_ (fun t=>Gg N.o (by omega) (fun t L J D C z w' u=>m.o A (1+p) t _ _ _ _ _ _ _ u));rfl
    ·go_upto_region 27 with (fail)
     refine uy (fr a n l S X (.slice F k E) (.int .i64 (g:j)) (.int .i64 (i:j)) A (1+p)) ?_ (fun t=>Gg N.o (by omega) (fun t L J D C z w' u=>m.o A (1+p) t _ _ _ _ _ _ _ u));rfl
    ·go_upto_region 31 with (fail)
     refine uy (fr a n l S X (.slice F k E) (.int .i64 (g:j)) (.int .i64 (i:j)) A (1+p)) ?_ (fun t=>FY N.o (by omega) (fun t L J D C z w' u=>m.o A (1+p) t _ _ _ _ _ _ _ u));rfl
    ·go_upto_region 31 with (fail)
     refine uy (fr a n l S X (.slice F k E) (.int .i64 (g:j)) (.int .i64 (i:j)) A (1+p)) ?_ (fun t=>FY N.o (by omega) (fun t L J D C z w' u=>m.o A (1+p) t _ _ _ _ _ _ _ u));rfl
    ·go_upto_region 31 with (fail)
     refine uy (fr a n l S X (.slice F k E) (.int .i64 (g:j)) (.int .i64 (i:j)) A (1+p)) ?_ (fun t=>FY N.o (by omega) (fun t L J D C z w' u=>m.o A (1+p) t _ _ _ _ _ _ _ u));rfl
    ·go_upto_region 34 with (fail)
     refine uy (fr a n l S X (.slice F k E) (.int .i64 (g:j)) (.int .i64 (i:j)) A (1+p)) ?_ (fun t=>Gy N.o (by omega) (fun t L J D C z w' u=>m.o A (1+p) t _ _ _ _ _ _ _ u));rfl
    ·go_upto_region 34 with (fail)
     refine uy (fr a n l S X (.slice F k E) (.int .i64 (g:j)) (.int .i64 (i:j)) A (1+p)) ?_ (fun t=>Gy N.o (by omega) (fun t L J D C z w' u=>m.o A (1+p) t _ _ _ _ _ _ _ u));rfl
    ·go_upto_region 36 with (fail)
     refine uy (fr a n l S X (.slice F k E) (.int .i64 (g:j)) (.int .i64 (i:j)) A (1+p)) ?_ (fun t=>GJ N.o (by omega) (fun t L J D C z w' u=>m.o A (1+p) t _ _ _ _ _ _ _ u));rfl
    ·go_upto_region 38 with (fail)
     refine uy (fr a n l S X (.slice F k E) (.int .i64 (g:j)) (.int .i64 (i:j)) A (1+p)) ?_ (fun t=>GU N.o (by omega) (fun t L J D C z w' u=>m.o A (1+p) t _ _ _ _ _ _ _ u));rfl
    ·go_upto_region 40 with (fail)
     refine uy (fr a n l S X (.slice F k E) (.int .i64 (g:j)) (.int .i64 (i:j)) A (1+p)) ?_ (fun t=>DC (GL N.o (by omega) (fun t L J D C z w' u=>m.o A (1+p) t _ _ _ _ _ _ _ u)) (fun _ _ h=>h));rfl
    ·go_upto_region 15 with (fail)
     rename_i K5 f5;refine uy (fr a n l S X (.slice F k E) (.int .i64 (g:j)) (.int .i64 (i:j)) A (1+p)) ?_ (fun t=>DC (GV N.o (by omega) (fun t q r9 s9 D C w' h1 h2=>f5 _ _ (GK N.o h1 h2 (fun t L m' J D C z w' u=>m.o A (1+p) t _ _ _ _ _ _ _ u)))) (fun _ _ h=>h));rfl
   ·have f3:¬ ((i:j)<2*(dN n:j)):=by omega
    obtain rfl:i=2*dN n:=by omega
    have a1:gV f n=(dI f n s1 (2*dN n)).1:=by
     unfold gV;rw [a0.out.1,a0.out.2,if_neg (by decide)]
    have f7:=ah a1;clear a1;go_wp2;go_ret;refine ⟨_,rfl,?_,HJ.o.x.b⟩;rw [f7.o,HJ.o.kk];have:=HJ.o.x.o;rw [HJ.o.kk] at this;exact this
end
end Go.Proofs.YtbpcdfbmnklcjaaGreatDoor
namespace Go.Proofs.YtbpcdfbmnklcjaaGreatDoor
open Go.ChangeShapes Go.WideShapes Go.ChangeAt Go Go.RowKit Go.ChangeMaps Go.WideElems Go.Joins Go.Deep
set_option linter.unusedVariables false
section
variable {W:World}
theorem qC {H:Type} {enc:TypeId × Value->H} {P:Program} (j:laidOutB P=true) {W W':World} (hb:Below W.heap.size W W'):
 ∀ {ns:List String} {gs:List (DataW H)} {ps:List MemPlace} {sp:Nat->Bool},(∀ n∈ns,∀ g t,P.globalNamed n=some g->(P.globals[g]?).map (·.type)=some t->P.readableRec t=true/\t<P.types.size)->(∀ p∈ps,sp p.block=true)->
   DataW.TrodVars enc P W (fun _=>true) ns gs ps->DataW.TrodVars enc P W' sp ns gs ps
 | [],[],_,_,_,_,h=>h
 | [],_::_,_,_,_,_,h=>h.elim
 |_::_,[],_,_,_,_,h=>h.elim
 |n::ns,d::ds,ps,sp,hv,hp,h=>by
  have hlt:=h.lt;obtain ⟨g,t,l,c,p,q,f,k,a,w,u,e⟩:=h;obtain ⟨i,r⟩:=hv n (List.mem_cons_self) g t f k;subst e;have b:W'.var? P n=some l:=by
   unfold World.var? at a ⊢;rw [f] at a ⊢;simp only [Option.bind_some] at a ⊢;have v:g<W.heap.size:=by
    cases hh:W.heap[g]? with
    |none=>rw [hh] at a;cases a
    |some o=>exact (Array.getElem?_eq_some_iff.1 hh).1
   rw [hb.block g v];exact a
  have s:∀ x∈p,x.block<W.heap.size:=fun x hx=>hlt x (by simp [hx]);refine ⟨g,t,l,c,p,q,f,k,b,?_,qC j hb (fun m hm=>hv m (List.mem_cons_of_mem _ hm)) (fun x hx=>hp x (by simp [hx])) u,rfl⟩;exact DataW.trod_stays (kids_book j i) (book_sized i) (fun h=>by cases h) ⟨r,book_self t⟩ w (fun x hx=>hb.same (s x hx)) (fun x hx=>hp x (by simp [hx]))
theorem tT {H:Type} {enc:TypeId × Value->H} {P:Program} {W:World} {sp:Nat->Bool}:∀ {ns:List String} {gs:List (DataW H)} {ps:List MemPlace},DataW.TrodVars enc P W sp ns gs ps->gs.length=ns.length
 | [],[],_,_=>rfl
 | [],_::_,_,h=>h.elim
 |_::_,[],_,h=>h.elim
 |_::ns,_::ds,_,h=>by
  obtain ⟨g,t,cs,fuel,p,q,h1,h2,h3,h4,hs,e⟩:=h;rw [fZ,fZ,tT hs]
theorem Ab {H:Type} {enc:TypeId × Value->H} {sp:Nat->Bool} {gs:List (DataW H)} {ps:List MemPlace} (h:DataW.TrodVars enc Tryz.prog W sp ["loop.example/g00002/impl.errNumWhole"] gs ps):∃ g1,gs=[g1]:=by
 have:=tT h
 match gs,this with
 | [g1],_=>exact ⟨g1,rfl⟩
theorem ER:∀ n∈["loop.example/g00002/impl.errNumWhole"],∀ g t,Tryz.prog.globalNamed n=some g->(Tryz.prog.globals[g]?).map (·.type)=some t->Tryz.prog.readableRec t=true/\t<Tryz.prog.types.size:=by
 have key:(["loop.example/g00002/impl.errNumWhole"].all fun n=>match Tryz.prog.globalNamed n with
  |some g=>(match (Tryz.prog.globals[g]?).map (·.type) with |some t=>Tryz.prog.readableRec t&&decide (t<Tryz.prog.types.size)|none=>true)
  |none=>true)=true:=by kernel_rfl
 intro n b g t c a;have:=List.all_eq_true.1 key n b;rw [c] at this;simp only [a,Bool.and_eq_true,decide_eq_true_eq] at this;exact this
end
end Go.Proofs.YtbpcdfbmnklcjaaGreatDoor
