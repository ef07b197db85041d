import Derived.Test.YtbpcdfbmnklcjaaGreatDoorKJS5
import Derived.Test.YtbpcdfbmnklcjaaGreatDoorKJR0
import Derived.Test.YtbpcdfbmnklcjaaGreatDoorKJL
import Derived.Test.YtbpcdfbmnklcjaaGreatDoorKJS6
import Derived.Test.YtbpcdfbmnklcjaaGreatDoorCards
import Derived.Test.YtbpcdfbmnklcjaaGreatDoorTie
import Derived.Lay
import Derived.LaidOnce
import Derived.SevenTiedAt
import Derived.MakeChecks
namespace Go.Proofs.YtbpcdfbmnklcjaaGreatDoor
open Go Go.RowKit
set_option linter.unusedVariables false
section
variable {k:Nat}
theorem rF (f:Nat->Nat) (n:Nat) (s:Nat × Int) {k:Int} (hk:1<=k) (a:k<=9223372036854775807):0<=dV k (dS f n s)/\dV k (dS f n s)<k:=sM (jX _).1 (jX _).2 hk a
theorem Dz (f:Nat->Nat) (n c:Nat) (a b k:Int) (s:Nat × Int) (hb:0<=b/\b<=1000000):(∀ o∈(dK f n c a b k s).1,0<=o.2.2.1/\o.2.2.1<=1000000)/\(dK f n c a b k s).1.length<=2/\(dK f n c a b k s).2.1<=c+1:=by
 have d:=rF f n s (k:=12) (by omega) (by omega);have e:=rF f n s (k:=8) (by omega) (by omega);unfold dK;split
 ·refine ⟨fun o ho=>?_,by simp,au _⟩
  simp only [List.mem_singleton] at ho;subst ho;simp only;omega
 split
 ·refine ⟨fun o ho=>?_,by simp,Nat.le_succ _⟩
  simp only [List.mem_singleton] at ho;subst ho;show 0<=dV 12 _/\dV 12 _<=1000000;omega
 split
 ·refine ⟨fun o ho=>?_,by simp,Nat.le_succ _⟩
  simp only [List.mem_singleton] at ho;subst ho;exact hb
 split
 ·refine ⟨fun o ho=>?_,by simp,Nat.le_succ _⟩
  simp only [List.mem_singleton] at ho;subst ho;show 0<=dV 8 _/7/\dV 8 _/7<=1000000;omega
 split
 ·refine ⟨fun o ho=>?_,by simp,Nat.le_succ _⟩
  simp only [List.mem_singleton] at ho;subst ho;simp only;omega
 split
 ·refine ⟨fun o ho=>?_,by simp,Nat.le_succ _⟩
  simp only [List.mem_singleton] at ho;subst ho;simp only;omega
 split
 ·refine ⟨fun o ho=>?_,by simp,Nat.le_succ _⟩
  simp only [List.mem_singleton] at ho;subst ho;simp only;omega
 ·refine ⟨fun o ho=>?_,?_,Nat.le_succ _⟩
  ·rcases eT.1 ho with rfl|ho
   ·simp only;omega
   ·split at ho
    ·simp only [List.mem_singleton] at ho;subst ho;simp only;omega
    ·simp at ho
  ·show (_::_:List dA).length<=2
   split<;>simp
theorem Dq (f:Nat->Nat) (n:Nat) (s:Nat × Int):∀ i,i<=10000->(∀ o∈(dI f n s i).1,0<=o.2.2.1/\o.2.2.1<=1000000)/\(dI f n s i).1.length<=2*i/\(dI f n s i).2.1<=i
 |0,_=>⟨fun o ho=>by simp [dI] at ho,by simp [dI],by simp [dI]⟩
 |i+1,hi=>by
  obtain ⟨h1,h2,h3⟩:=Dq f n s i (by omega);have key:(∀ o∈(eY f n (dI f n s i).2.1 (dI f n s i).2.2).1,0<=o.2.2.1/\o.2.2.1<=1000000)/\(eY f n (dI f n s i).2.1 (dI f n s i).2.2).1.length<=2/\(eY f n (dI f n s i).2.1 (dI f n s i).2.2).2.1<=(dI f n s i).2.1+1:=by
   have hb:=rF f n (dS f n (dI f n s i).2.2) (k:=((dI f n s i).2.1:Int)+1) (by omega) (by omega);unfold eY;split
   ·exact Dz _ _ _ _ _ _ _ (by omega)
   ·exact Dz _ _ _ _ _ _ _ (by omega)
  refine ⟨fun o ho=>?_,?_,?_⟩
  ·rcases aY.1 (show o∈(dI f n s i).1++_ from ho) with c|c
   ·exact h1 o c
   ·exact key.1 o c
  ·show ((dI f n s i).1++_).length<=_
   rw [aT];have:=key.2.1;omega
  ·have:=key.2.2
   show _<=i+1;exact aI this (by omega)
theorem vw (f:Nat->Nat) (n:Nat):(∀ o∈gV f n,0<=o.2.2.1/\o.2.2.1<=1000000)/\(gV f n).length<=5001:=by
 have a:dN n<=400:=by unfold dN;split<;>omega
 unfold gV;split
 ·have b:=rF f n (dS f n (0,88172645463325252+(n:Int))) (k:=2) (by omega) (by omega)
  refine ⟨fun o ho=>?_,by rw [List.length_replicate];omega⟩;obtain ⟨_,rfl⟩:=List.mem_replicate.1 ho;exact ⟨by decide,by decide⟩
 ·obtain ⟨c,b,_⟩:=Dq f n (dS f n (0,88172645463325252+(n:Int))) (2*dN n) (by omega)
  exact ⟨c,by omega⟩
theorem nD (l:List dA):∀ j,j<=l.length->(cZ (l.take j)).1.length=j
 |0,_=>by rw [List.take_zero];rfl
 |j+1,h=>by
  have hj:l[j]?=some l[j]:=aN (by omega);rw [fF hj];unfold pX;simp [nD l j (by omega)]
theorem wN {l:List dA} {k:Nat} {o:dA} (h:l[k]?=some o):∀ m,k<m->m<=l.length->(cZ (l.take m)).1[k]?=some (cK (cZ (l.take k)).2 o.1 o.2.1 o.2.2.1 o.2.2.2).1
 |0,h0,_=>by omega
 |m+1,h0,hm=>by
  have hj:l[m]?=some l[m]:=aN (by omega);rw [fF hj];unfold pX;have a:=nD l m (by omega);by_cases c:k=m
  ·subst c
   rw [h] at hj;cases hj;rw [fI (by omega),a];simp
  ·rw [dF (by omega)]
   exact wN h m (by omega) (by omega)
theorem DU {l:List dA} {o:dA} (a:l.length<=5000) (h:l[k]?=some o):xA (eD l) k=(cK (cZ (l.take k)).2 o.1 o.2.1 o.2.2.1 o.2.2.2).1:=by
 have hk:=(aJ.1 h).1;have:=wN h l.length hk (au _);rw [bf] at this;unfold xA;rw [show eD l=(cZ l).1 by unfold eD;rw [if_neg (by omega)],bq,this];rfl
theorem tK (l:List Ed) (x:Ed):(iE l x).length<=l.length+1:=by
 induction l with
 |nil=>exact au _
 |cons a l ih=>
  unfold iE;split
  ·simp
  ·simp;omega
theorem BQ (b:Bk) (kd A B C:Int):(b.act kd A B C).edges.length<=b.edges.length+1:=by
 unfold Bk.act;split
 ·exact Nat.le_succ _
 split
 ·exact tK _ _
 split
 ·exact tK _ _
 split<;>exact Nat.le_succ _
end
section
variable {b:Bk} {fl l:List Nat} {gn:List Bool} {j k m z:Nat} {r:Rn}
def Bq (gn:List Bool) (l:List Nat):List Bool:=l.foldl (fun g z=>g.set z true) gn
theorem AU (gn:List Bool) (l:List Nat) (z:Nat):Bq gn (l++[z])=(Bq gn l).set z true:=by simp [Bq]
theorem qK (gn:List Bool) (l:List Nat):(Bq gn l).length=gn.length:=by
 induction l generalizing gn with
 |nil=>rfl
 |cons z l ih=>show (Bq (gn.set z true) l).length=_;rw [ih,bN]
theorem wG {x:Nat} (h:(Bq gn l)[x]?=some true):gn[x]?=some true∨x∈l:=by
 induction l generalizing gn with
 |nil=>exact .inl h
 |cons z l ih=>
  rcases ih (gn:=gn.set z true) h with c|c
  ·by_cases e:z=x
   ·exact .inr (e ▸ List.mem_cons_self)
   ·rw [aH e] at c
    exact .inl c
  ·exact .inr (List.mem_cons_of_mem _ c)
theorem Bs.more (x:Bs k b gn r) (h:gn.length+m<=b.modes.length):Bs k b (gn++List.replicate m false) r:=by
 refine ⟨x.ok,x.wm,x.bk,by rw [aT,List.length_replicate];exact h,fun z hz=>x.gd z ?_⟩;by_cases c:z<gn.length
 ·rw [dF c] at hz
  exact hz
 ·rw [fI (by omega),List.getElem?_replicate] at hz
  split at hz<;>cases hz
theorem Bs.done (x:Bs k b gn r) (a:∀ z∈fl,¬ r.h.Lv z):Bs k b (Bq gn fl) r:=by
 refine ⟨x.ok,x.wm,x.bk,by rw [qK];exact x.gl,fun z hz=>?_⟩;rcases wG hz with c|c
 ·exact x.gd z c
 ·exact a z c
theorem Fg (d:fl.Nodup) (a:fl[j]?=some z) (f:gn[z]?≠some true) (g:z<gn.length):(Bq gn (fl.take j)).getD z false=false:=by
 have h:=(aJ.1 a).1;rw [bq];cases q:(Bq gn (fl.take j))[z]? with
 |none=>rfl
 |some v=>
  cases v with
  |false=>rfl
  |true=>
   rcases wG q with c|c
   ·exact (f c).elim
   ·obtain ⟨i,hi⟩:=List.mem_iff_getElem?.1 c
    rw [List.getElem?_take] at hi;split at hi
    ·rename_i e
     have:=(List.getElem?_inj (i:=i) (j:=j) (by omega) d).1 (hi.trans a.symm);omega
    ·cases hi
theorem xQ (h:l[j]?=some z):l.take (j+1)=l.take j++[z]:=by
 obtain ⟨a,c⟩:=aJ.1 h;rw [List.take_add_one,h];rfl
end
section
variable {N P T base gc k z:Nat} {b:Bk} {ev gv mv rv v':Value} {gn sn:List Bool} {r:Rn} {w w7 w9 ws:World}
structure SL (w7:World) (P:Nat) (ops:List dA) (i:Nat) (gv:Value) (gn:List Bool) (b:Bk) (mv rv ev:Value) (ws:World):Prop where
 bs:Bs i b gn (cZ (ops.take i)).2
 bk:Mf w7.heap.size ws P b mv rv ev
 g:ws.ownsRow w7.heap.size 4 1 gv gn.length (iZ gn)
 ap:∀ q,gv.ownBlock=some q->¬ Zk P mv rv ev q
 el:b.edges.length<=i
 bl:Below w7.heap.size w7 ws
theorem SL.low {P i:Nat} {w7 ws ws':World} {ops:List dA} {gv mv rv ev:Value} {gn:List Bool} {b:Bk} (x:SL w7 P ops i gv gn b mv rv ev ws) (h:Below ws.heap.size ws ws'):SL w7 P ops i gv gn b mv rv ev ws':=
 ⟨x.bs,x.bk.low h,aj x.g (Keeps.of h (au _) (fun _=>False)) (fun _ _ e=>e),x.ap,x.el,x.bl.trans (h.mono x.bl.size)⟩
theorem SL.new (w:World) (h:List dA):
 SL w (w.heap.size+1+1) h 0 (.slice (some ⟨w.heap.size+1+1+1,0,none⟩) 0 0) [] Bk.new (.slice (some ⟨w.heap.size,0,none⟩) 1 1) (.slice (some ⟨w.heap.size+1,0,none⟩) 1 1) (.slice none 0 0)
  ((((w.alloc (.cells #[.int .i64 0] 3)).alloc (.cells #[.bool false] 4)).alloc (.cells #[.slice (some ⟨w.heap.size,0,none⟩) 1 1,.slice (some ⟨w.heap.size+1,0,none⟩) 1 1,.slice none 0 0] 34)).alloc (.cells #[] 4)):=by
 have s1:(w.alloc (.cells #[.int .i64 0] 3)).heap.size=w.heap.size+1:=by simp
 have p:(w.alloc (.cells #[.int .i64 0] 3)).ownsRow w.heap.size 3 1 (.slice (some ⟨w.heap.size,0,none⟩) 1 1) 1 (iL [0]):=⟨rfl,.inr ⟨w.heap.size,1,#[.int .i64 0],rfl,au _,heap_alloc_new w _,by decide,by decide,rfl,rfl⟩⟩
 have i:=aU w (.cells #[.int .i64 0] 3);generalize w.alloc (.cells #[.int .i64 0] 3)=wa at *;have s2:(wa.alloc (.cells #[.bool false] 4)).heap.size=w.heap.size+1+1:=by rw [<-s1];simp
 have o2:(wa.alloc (.cells #[.bool false] 4)).ownsRow w.heap.size 4 1 (.slice (some ⟨w.heap.size+1,0,none⟩) 1 1) 1 (iZ [false]):=⟨rfl,.inr ⟨w.heap.size+1,1,#[.bool false],rfl,by omega,by rw [<-s1];exact heap_alloc_new wa _,by decide,by decide,rfl,rfl⟩⟩
 have f:=aU wa (.cells #[.bool false] 4);have o:=aj p (Keeps.of f (au _) (fun _=>False)) (fun _ _ e=>e);generalize wa.alloc (.cells #[.bool false] 4)=wb at *;have g:=aD.mk' wb 34 #[.slice (some ⟨w.heap.size,0,none⟩) 1 1,.slice (some ⟨w.heap.size+1,0,none⟩) 1 1,.slice none 0 0];have d:=aU wb (.cells #[.slice (some ⟨w.heap.size,0,none⟩) 1 1,.slice (some ⟨w.heap.size+1,0,none⟩) 1 1,.slice none 0 0] 34);have m:(wb.alloc (.cells #[.slice (some ⟨w.heap.size,0,none⟩) 1 1,.slice (some ⟨w.heap.size+1,0,none⟩) 1 1,.slice none 0 0] 34)).heap.size=w.heap.size+1+1+1:=by rw [<-s2];simp
 have n:=aj o (Keeps.of d (au _) (fun _=>False)) (fun _ _ e=>e);have o3:=aj o2 (Keeps.of d (au _) (fun _=>False)) (fun _ _ e=>e);rw [s2] at g;generalize wb.alloc (.cells #[.slice (some ⟨w.heap.size,0,none⟩) 1 1,.slice (some ⟨w.heap.size+1,0,none⟩) 1 1,.slice none 0 0] 34)=wc at *;have a:=aU wc (.cells #[] 4);have l:=Keeps.of a (au _) (fun _=>False);have hb:Below w.heap.size w (wc.alloc (.cells #[] 4)):=((i.trans (f.mono (by omega))).trans (d.mono (by omega))).trans (a.mono (by omega));refine ⟨Bs.new,⟨?_,aj n l (fun _ _ e=>e),aj o3 l (fun _ _ e=>e),⟨rfl,.inl ⟨rfl,rfl⟩⟩,by omega⟩,⟨rfl,.inr ⟨w.heap.size+1+1+1,0,#[],rfl,by omega,by rw [<-m];exact heap_alloc_new wc _,by decide,by decide,rfl,rfl⟩⟩,?_,au _,hb⟩
 ·refine aD.congr (show aD _ _ _ 3 _ from g.low a g.lt) (fun j hj=>?_)
  have:j=0∨j=1∨j=2:=by omega
  rcases this with rfl|rfl|rfl<;>rfl
 ·intro q s c
  simp [Value.ownBlock] at s;rcases c with c|c|c|c
  ·omega
  all_goals simp [Value.ownBlock] at c
  all_goals omega
structure LK (w7:World) (ops:List dA) (a1:Option Addr) (k1 PW PG:Nat) (aA:Option Addr) (kA:Nat) (aB:Option Addr) (kB:Nat) (fs fs2:List Value):Prop where
 o:yw w7 (.slice a1 ops.length k1) ops
 p1:w7.cell? ⟨PW,1,none⟩=some (.slice aA (eD ops).length kA)
 q1:w7.cell? ⟨PG,1,none⟩=some (.slice aB (eD ops).length kB)
 pl:PW<w7.heap.size/\PG<w7.heap.size
 A:∃ B,JZ w7 B (.slice aA (eD ops).length kA) (eD ops) fs
 B:∃ B,JZ w7 B (.slice aB (eD ops).length kB) (eD ops) fs2
structure RC (ops:List dA) (i PW PG:Nat) (aA:Option Addr) (kA:Nat) (aB:Option Addr) (kB:Nat) (o:dA) (x:An) (gO gA gB:Nat) (af af2:Option Addr) (cf cf2:Nat) (ws:World):Prop where
 p1:ws.cell? ⟨PW,1,none⟩=some (.slice aA (eD ops).length kA)
 q1:ws.cell? ⟨PG,1,none⟩=some (.slice aB (eD ops).length kB)
 o0:ws.cell? ⟨gO,i*4,none⟩=some (.int .i64 o.1)
 o1:ws.cell? ⟨gO,i*4+1,none⟩=some (.int .i64 o.2.1)
 o2:ws.cell? ⟨gO,i*4+2,none⟩=some (.int .i64 o.2.2.1)
 o3:ws.cell? ⟨gO,i*4+3,none⟩=some (.int .i64 o.2.2.2)
 A0:ws.cell? ⟨gA,i*7,none⟩=some (.int .i64 x.code)
 A6:ws.cell? ⟨gA,i*7+6,none⟩=some (.slice af x.freed.length cf)
 b0:ws.cell? ⟨gB,i*7,none⟩=some (.int .i64 x.code)
 b1:ws.cell? ⟨gB,i*7+1,none⟩=some (.int .i64 x.id)
 b2:ws.cell? ⟨gB,i*7+2,none⟩=some (.int .i64 x.live)
 b3:ws.cell? ⟨gB,i*7+3,none⟩=some (.int .i64 x.bytes)
 b4:ws.cell? ⟨gB,i*7+4,none⟩=some (.int .i64 x.state)
 b5:ws.cell? ⟨gB,i*7+5,none⟩=some (.int .i64 x.pend)
 b6:ws.cell? ⟨gB,i*7+6,none⟩=some (.slice af2 x.freed.length cf2)
structure RD (w7:World) (ops:List dA) (i:Nat) (a1:Option Addr) (PW PG:Nat) (aA:Option Addr) (kA:Nat) (aB:Option Addr) (kB:Nat) (o:dA) (x:An) (gO gA gB:Nat) (af af2:Option Addr) (cf cf2:Nat):Prop where
 ho:ops[i]?=some o
 hx:(cK (cZ (ops.take i)).2 o.1 o.2.1 o.2.2.1 o.2.2.2).1=x
 e1:a1=some ⟨gO,0,none⟩
 eA:aA=some ⟨gA,0,none⟩
 eB:aB=some ⟨gB,0,none⟩
 c:∀ ws,Below w7.heap.size w7 ws->RC ops i PW PG aA kA aB kB o x gO gA gB af af2 cf cf2 ws
 f:∀ (j z:Nat),x.freed[j]?=some z->∃ g,af2=some ⟨g,0,none⟩/\∀ ws,Below w7.heap.size w7 ws->ws.cell? ⟨g,j,none⟩=some (.int .i64 (z:Int))
 fl:x.freed.length<=10000
 ol:ops.length<=5000
 il:i<ops.length
theorem Ac {ops:List dA} (h:ops.length<=5000):(eD ops).length=ops.length:=by
 unfold eD;rw [if_neg (by omega)];have:=nD ops ops.length (au _)
 rwa [bf] at this
theorem JZ.some {w:World} {B cap i:Nat} {aB:Option Addr} {al:List An} {fs:List Value} (h:JZ w B (.slice aB al.length cap) al fs) (hi:i<al.length):∃ g,aB=some ⟨g,0,none⟩/\g<w.heap.size:=by
 have e:=h.l;obtain ⟨n,⟨_,m⟩|⟨g,c,f,a,hb,j,d,hr⟩⟩:=e
 ·omega
 ·simp only [Value.slice.injEq] at a
  exact ⟨g,a.1,(h.l.lt g (by rw [a.1];rfl)).2⟩
theorem LK.at {w7:World} {ops:List dA} {a1:Option Addr} {k1 PW PG kA kB i:Nat} {aA aB:Option Addr} {fs fs2:List Value} (x:LK w7 ops a1 k1 PW PG aA kA aB kB fs fs2) (hi:i<(eD ops).length):
 ∃ o an gO gA gB af af2 cf cf2,RD w7 ops i a1 PW PG aA kA aB kB o an gO gA gB af af2 cf cf2:=by
 have q:ops.length<=5000:=by
  rcases Nat.lt_or_ge 5000 ops.length with c|c
  ·unfold eD at hi;rw [if_pos c] at hi;exact (Nat.not_lt_zero _ hi).elim
  ·exact c
 have y:=Ac q;obtain ⟨o,ho⟩:∃ o,ops[i]?=d o:=⟨_,aN (by omega)⟩
 obtain ⟨Z,hA⟩:=x.A;obtain ⟨Y,a⟩:=x.B;obtain ⟨gA,eA,u⟩:=hA.some hi;obtain ⟨gB,eB,e⟩:=a.some hi;obtain ⟨X,W,l,G,hO⟩:=x.o;simp only [Value.slice.injEq] at l;obtain ⟨rfl,-,rfl⟩:=l;obtain ⟨gO,e1,n,R,Q,M,L⟩:=hO i o ho;have hx:=DU q ho;have E:=hA.sub hi;have f:=a.sub hi;obtain ⟨af,cf,H⟩:=aF E;obtain ⟨af2,cf2,m⟩:=aF f;have t:∀ {ws:World},Below w7.heap.size w7 ws->∀ {g j:Nat} {v:Value},g<w7.heap.size->w7.cell? ⟨g,j,none⟩=d v->ws.cell? ⟨g,j,none⟩=d v:=fun {_} hb {g j v} C h=>(hb.cell (p:=⟨g,j,none⟩) C).trans h;subst eA eB;have s:=(w_ ops).2 i hi;refine ⟨o,xA (eD ops) i,gO,gA,gB,af,af2,cf,cf2,⟨ho,hx.symm,e1,rfl,rfl,fun ws hb=>⟨t hb x.pl.1 x.p1,t hb x.pl.2 x.q1,t hb n R,t hb n Q,t hb n M,t hb n L,t hb u (hA.cell hi 0 (by omega) rfl),t hb u (hA.cell hi 6 (by omega) (by rw [H];rfl)),
  t hb e (a.cell hi 0 (by omega) rfl),t hb e (a.cell hi 1 (by omega) rfl),t hb e (a.cell hi 2 (by omega) rfl),t hb e (a.cell hi 3 (by omega) rfl),t hb e (a.cell hi 4 (by omega) rfl),t hb e (a.cell hi 5 (by omega) rfl),t hb e (a.cell hi 6 (by omega) (by rw [m];rfl))⟩,fun j z hz=>?_,s,q,by omega⟩⟩
 rw [m] at f;have S:=(aJ.1 hz).1;have s0:=f;obtain ⟨V,⟨_,U⟩|⟨g,D,K,l,J,C,F,hr⟩⟩:=s0
 ·omega
 ·simp only [Value.slice.injEq] at l
  obtain ⟨rfl,-,rfl⟩:=l;refine ⟨g,rfl,fun ws hb=>t hb (f.lt g rfl).2 ?_⟩;have:=f.cells (g:=g) rfl j (.int .i64 (z:Int)) (by unfold dZ;rw [List.getElem?_map,hz];rfl)
  rwa [bL,Nat.zero_add] at this
theorem Mf.ap {g:Nat} {f:Nat->Value} (x:Mf base w P b mv rv ev) (h:aD w T g N f) (j:T≠34) (i:T≠3) (d:T≠4) (a:T≠80):¬ Zk P mv rv ev g:=by
 rintro (c|c|c|c)
 ·exact h.apart x.r j c
 ·exact ak x.m h (Ne.symm i) c
 ·exact ak x.o h (Ne.symm d) c
 ·exact ak x.e h (Ne.symm a) c
theorem SL.no {w7 ws:World} {P i:Nat} {ops:List dA} {gv mv rv ev:Value} {gn:List Bool} {b:Bk} {o:dA} (x:SL w7 P ops i gv gn b mv rv ev ws) (ho:ops[i]?=some o) (hi:i+1<=5000) (a:(cK (cZ (ops.take i)).2 o.1 o.2.1 o.2.2.1 o.2.2.2).1.code≠0):SL w7 P ops (i+1) gv gn b mv rv ev ws:=by
 refine ⟨?_,x.bk,x.g,x.ap,Nat.le_succ_of_le x.el,x.bl⟩;rw [fF ho];exact x.bs.no hi a
def FZ (fl:List Nat) (gn:List Bool) (b:Bk) (r:Rn):Prop:=fl.Nodup/\∀ z∈fl,1<=z/\z<b.modes.length/\gn[z]?≠some true/\¬ b.Rc z/\¬ r.h.Lv z
theorem SL.act {w7 ws w':World} {P i:Nat} {ops:List dA} {gv mv rv ev:Value} {gn:List Bool} {b:Bk} {o:dA} {e:Ending} (x:SL w7 P ops i gv gn b mv rv ev ws) (ho:ops[i]?=some o) (hi:i+1<=5000) (m:(cK (cZ (ops.take i)).2 o.1 o.2.1 o.2.2.1 o.2.2.2).1.code=0)
 (h:vo w7.heap.size P (b.act o.1 o.2.1 o.2.2.1 o.2.2.2) mv rv ev ws e w'):
 e=.returned (.tuple #[])/\∃ mv' rv' ev',SL w7 P ops (i+1) gv gn (b.act o.1 o.2.1 o.2.2.1 o.2.2.2) mv' rv' ev' w'/\Keeps ws w' (Zk P mv rv ev)/\FZ (cK (cZ (ops.take i)).2 o.1 o.2.1 o.2.2.1 o.2.2.2).1.freed gn (b.act o.1 o.2.1 o.2.2.1 o.2.2.2) (cZ (ops.take (i+1))).2:=by
 obtain ⟨p,mv',rv',ev',n,a⟩:=h;obtain ⟨_,_,_,l,j,f⟩:=x.bs.yes hi m;have d:(cZ (ops.take (i+1))).2=(cK (cZ (ops.take i)).2 o.1 o.2.1 o.2.2.1 o.2.2.2).2:=by rw [fF ho];rfl
 refine ⟨p,mv',rv',ev',⟨by rw [d];exact l,n,aj x.g a.k x.ap,fun q hq c=>?_,aI (BQ _ _ _ _ _) (Nat.succ_le_succ x.el),x.bl.trans (a.k.below x.bl.size (fun g hg=>(x.bk.zl hg).1))⟩,a.k,j,by rw [d];exact f⟩;rcases a.z q c with c|c
 ·exact x.ap q hq c
 ·have:=(x.g.lt q hq).2
  omega
theorem FZ.push {fl:List Nat} (x:FZ fl gn b r):FZ fl (gn++[false]) b r:=by
 refine ⟨x.1,fun z hz=>?_⟩;obtain ⟨g,f,e,a⟩:=x.2 z hz;refine ⟨g,f,fun c=>?_,a⟩;by_cases d:z<gn.length
 ·rw [dF d] at c
  exact e c
 ·rw [fI (by omega)] at c
  cases q:z-gn.length with
  |zero=>rw [q] at c;cases c
  |succ k=>rw [q] at c;cases c
theorem SL.push {ops:List dA} (x:SL w7 P ops k gv gn b mv rv ev ws) (h:gn.length<b.modes.length) (f:w9.ownsRow w7.heap.size 4 1 v' (gn.length+1) (iZ gn++[.bool false])) (a:Keeps ws w9 (fun c=>gv.ownBlock=some c)) (e:∀ g,v'.ownBlock=some g->gv.ownBlock=some g∨ws.heap.size<=g):
 SL w7 P ops k v' (gn++[false]) b mv rv ev w9:=by
 refine ⟨x.bs.more (m:=1) (by omega),x.bk.keep a (fun g hg=>x.ap g hg),by rw [aT,tN];exact f,fun q hq c=>?_,x.el,x.bl.trans (a.below x.bl.size (fun g hg=>(x.g.lt g hg).1))⟩;rcases e q hq with d|d
 ·exact x.ap q d c
 ·have:=(x.bk.zl c).2
  omega
theorem SL.mark {g L:Nat} {ops:List dA} (x:SL w7 P ops k (.slice (some ⟨g,0,none⟩) L gc) gn b mv rv ev ws) (l:z<gn.length) (f:¬ (cZ (ops.take k)).2.h.Lv z):
 SL w7 P ops k (.slice (some ⟨g,0,none⟩) L gc) (gn.set z true) b mv rv ev (ws.setCell ⟨g,z,none⟩ (.bool true))/\Keeps ws (ws.setCell ⟨g,z,none⟩ (.bool true)) (fun q=>q=g):=by
 have hk:Keeps ws (ws.setCell ⟨g,z,none⟩ (.bool true)) (fun q=>q=g):=Keeps.setCell (S:=fun q=>q=g) (Keeps.refl ws _) rfl _;have d:(Value.slice (some ⟨g,0,none⟩) L gc).ownBlock=some g:=by simp [Value.ownBlock]
 have j:L=gn.length:=by
  obtain ⟨_,_,e⟩:=aF x.g;simp only [Value.slice.injEq] at e;exact e.2.1
 subst j;have a:=aL x.g (i:=z) (by omega) (.bool true);rw [show (iZ gn).set z (.bool true)=iZ (gn.set z true) by unfold iZ;rw [List.map_set]] at a;refine ⟨⟨x.bs.done (fl:=[z]) (fun y hy=>by simp at hy;rw [hy];exact f),x.bk.keep hk (fun q e c=>x.ap q (e ▸ d) c),by rw [bN];exact a,x.ap,x.el,x.bl.trans (hk.below x.bl.size (fun q e=>e ▸ (x.g.lt g d).1))⟩,hk⟩
theorem SL.at {w7 ws:World} {P k L gc:Nat} {ga:Option Addr} {ops:List dA} {mv rv ev:Value} {gn:List Bool} {b:Bk} (x:SL w7 P ops k (.slice ga L gc) gn b mv rv ev ws) (d:1<=gn.length):∃ g,ga=some ⟨g,0,none⟩/\gn.length<=gc/\aD ws 4 g gn.length (eG gn):=by
 have a:L=gn.length:=by
  obtain ⟨_,_,e⟩:=aF x.g;simp only [Value.slice.injEq] at e;exact e.2.1
 subst a;obtain ⟨g,rfl,_,c,_⟩:=iW x.g d;exact ⟨g,rfl,c,uF x.g⟩
theorem SL.row {g L:Nat} {ops:List dA} (x:SL w7 P ops k (.slice (some ⟨g,0,none⟩) L gc) gn b mv rv ev ws):L=gn.length/\aD ws 4 g gn.length (eG gn):=by
 have a:L=gn.length:=by
  obtain ⟨_,_,e⟩:=aF x.g;simp only [Value.slice.injEq] at e;exact e.2.1
 subst a;exact ⟨rfl,uF x.g⟩
theorem Fe (h:Fb b sn) (a:¬ b.Rc z):eG sn z=.bool false:=by
 unfold eG;rw [bq];cases q:sn[z]? with
 |none=>rfl
 |some v=>
  cases v with
  |false=>rfl
  |true=>exact (a ((h.iff z).1 q)).elim
def GA (cd aid alv aby ast ape:Int) (fv:Value) (j:Nat):Value:=(#[.int .i64 cd,.int .i64 aid,.int .i64 alv,.int .i64 aby,.int .i64 ast,.int .i64 ape,fv]:Array Value).getD j (.bool false)
end
set_option maxHeartbeats 6400000
set_option maxRecDepth 100000
section
variable {n:Nat} {v:Value} {w w1:World}
theorem iw.up {f:Nat->Nat} (h:iw w.heap.size w v n f) (hb:Below w.heap.size w w1):iw w1.heap.size w1 v n f:=by
 rcases h.keep (Keeps.of hb (au _) (fun _=>False)) (au _) (fun _ e=>e.elim) with c|⟨b,o,a,i,g,d⟩
 ·exact .inl c
 ·exact .inr ⟨b,o,a,i,aX g hb.size,d⟩
theorem sW {f:Nat->Nat} (h:iw w.heap.size w v n f) (h9:n<=9223372036854775807):
 Calls Tryz.prog 3 #[v] w fun e w'=>e=.returned (.bool true)/\Below w.heap.size w w':=by
 obtain ⟨a,k9,rfl⟩:=h.form;by_cases hn:n<=1048576
 case neg=>
  have g8:((n:Int) > 1048576):=by omega
  clear h;go_enter Tryz.func3,Tryz.ntmps3;go_wp2;go_ret;exact ⟨rfl,y _ _⟩
 have g8:¬ ((n:Int) > 1048576):=by omega
 have HC:=ah (fun (w1:World) (hb:Below w.heap.size w w1)=>h.up hb);have HD:=ah (fun (w1:World) (hb:Below w.heap.size w w1)=>Ct (h.up hb) hn);have a0:=ah (vw f n);unfold Gz at HD;generalize c7:gV f n=ops at *;clear c7 h;go_enter Tryz.func3,Tryz.ntmps3;go_wp2_with fail;refine (HD.o w (y _ _)).mono ?_;rintro e w1 ⟨j2,rfl,a9,d8⟩;obtain ⟨a1,k1,rfl⟩:=aF a9;have H1:=ah (And.intro a9 d8);clear a9 d8;go_wp2_with fail;refine (HD.o w1 H1.o.2).mono ?_;rintro e T ⟨j1,rfl,d1,A⟩;have H2:=ah (And.intro d1 (H1.o.2.trans (A.mono H1.o.2.size)));have H:=ah A;clear d1 A;go_wp2_with fail;refine (ze (rA H2.o.1) (by have:=a0.o.2;omega)).mono ?_;rintro e w3 ⟨W,aA,kA,fs,rfl,c9⟩;have D:=aU w3 (.cells #[.int .i64 (Br ops),.slice aA (eD ops).length kA] 27);have Z:=ah (show Below w.heap.size w _/\JZ _ T.heap.size (.slice aA (eD ops).length kA) (eD ops) fs/\aD _ 27 w3.heap.size 2 _/\Below w1.heap.size w1 _ from
  ⟨(H2.o.2.trans (W.mono H2.o.2.size)).trans (D.mono (aI H2.o.2.size W.size)),c9.keep (Keeps.of D (au _) (fun _=>False)) (fun _ e=>e.elim),yK w3 (Br ops) aA (eD ops).length kA,(H.o.trans (W.mono H.o.size)).trans (D.mono (aI H.o.size W.size))⟩)
 clear W c9 D H2 H;go_upto_region 5 with (fail)
 generalize w3.alloc (.cells #[.int .i64 (Br ops),.slice aA (eD ops).length kA] 27)=w4 at *;generalize w3.heap.size=PW at *;go_wp2_with fail;refine (HD.o w4 Z.o.1).mono ?_;rintro e w5 ⟨j0,rfl,d0,J⟩;have H5:=ah (And.intro d0 J);clear d0 J;go_wp2_with fail;refine (zA (rA H5.o.1) (by have:=a0.o.2;omega) (fun o ho=>by have:=a0.o.1 o ho;omega)).mono ?_;rintro e w6 ⟨d7,aB,kB,e2,rfl,c8,i1⟩;have D:=aU w6 (.cells #[.int .i64 (Br ops),.slice aB (eD ops).length kB] 27);have V:=H5.o.2.trans (d7.mono H5.o.2.size);have S:=ah (show Below w4.heap.size w4 _/\JZ _ w5.heap.size (.slice aB (eD ops).length kB) (eD ops) e2/\aD _ 27 w6.heap.size 2 _ from
  ⟨V.trans (D.mono V.size),c8.keep (Keeps.of D (au _) (fun _=>False)) (fun _ e=>e.elim),yK w6 (Br ops) aB (eD ops).length kB⟩)
 clear d7 c8 D V H5 i1;go_upto_region 6 with (fail)
 generalize w6.alloc (.cells #[.int .i64 (Br ops),.slice aB (eD ops).length kB] 27)=w7 at *;generalize w6.heap.size=PG at *;generalize w5.heap.size=B5 at *;generalize T.heap.size=B2 at *;have a2:Hq (LK w7 ops a1 k1 PW PG aA kA aB kB fs e2):=ah (by
  have d9:PW<w4.heap.size:=Z.o.2.2.1.lt;have g3:=Keeps.of S.o.1 (au _) (fun _=>False);have g4:=Keeps.of (Z.o.2.2.2.trans (S.o.1.mono Z.o.2.2.2.size)) (au _) (fun _=>False);exact ⟨rA (aj H1.o.1 g4 (fun _ _ e=>e)),(Z.o.2.2.1.low S.o.1 d9).c 1,S.o.2.2.c 1,⟨aX d9 S.o.1.size,S.o.2.2.lt⟩,⟨_,Z.o.2.1.keep g3 (fun _ e=>e.elim)⟩,⟨_,S.o.2.1⟩⟩)
 have g0:Hq (Below w.heap.size w w7):=ah (Z.o.1.trans (S.o.1.mono Z.o.1.size));have p0:w7.cell? ⟨PW,0,none⟩=k (.int .i64 (Br ops)):=(Z.o.2.2.1.low S.o.1 Z.o.2.2.1.lt).c 0;have q0:w7.cell? ⟨PG,0,none⟩=k (.int .i64 (Br ops)):=S.o.2.2.c 0;have p1:=a2.o.p1;have q1:=a2.o.q1;have g2:((((w7.alloc (.cells #[.int .i64 0] 3)).alloc (.cells #[.bool false] 4)).alloc (.cells #[.slice (k ⟨w7.heap.size,0,none⟩) 1 1,.slice (k ⟨w7.heap.size+1,0,none⟩) 1 1,.slice none 0 0] 34)).alloc (.cells #[] 4)).cell? ⟨PG,1,none⟩=k (.slice aB (eD ops).length kB):=((SL.new w7 ops).bl.cell (p:=⟨PG,1,none⟩) a2.o.pl.2).trans q1;have e5:=ah (SL.new w7 ops);have j6:(eD ops).length<=5000:=(w_ ops).1;clear H1 Z S HC HD a0;go_upto_region 10 with (fail)
 clear p0 p1 q0 q1;generalize (((w7.alloc (.cells #[.int .i64 0] 3)).alloc (.cells #[.bool false] 4)).alloc (.cells #[.slice (k ⟨w7.heap.size,0,none⟩) 1 1,.slice (k ⟨w7.heap.size+1,0,none⟩) 1 1,.slice none 0 0] 34)).alloc (.cells #[] 4)=w8 at *;generalize w7.heap.size+1+1=P at *;generalize P+1=GG at *;generalize hm:(eD ops).length=m at *;have HM:=ah hm;clear hm;go_wp2_with fail;clear g2;go_loopw [7,46] (fun gv iv ws=>∃ (i gl gc:Nat) (ga:Option Addr) (gn:List Bool) (b:Bk) (mv rv ev:Value),i<=m/\iv=.int .i64 (i:Int)/\gv=.slice ga gl gc/\Hq (gn.length=gl/\SL w7 P ops i (.slice ga gl gc) gn b mv rv ev ws)) (fun _ iv _=>m-bF iv)
 case atStart=>exact ⟨0,0,0,_,[],_,_,_,_,by omega,rfl,rfl,rfl,e5.o⟩
 case round=>
  clear e5;obtain ⟨i,gl,gc,ga,gn,b,mv,rv,ev,j9,rfl,rfl,HJ⟩:=hrel;by_cases h7:i<m
  ·have h8:((i:Int)<(m:Int)):=by omega
   obtain ⟨o,an,gO,gA,gB,af,G,cf,F,rd⟩:=a2.o.at (i:=i) (by rw [HM.o];exact h7);obtain ⟨cd,Q,N,R,L,M,fl⟩:=an;have e1:=rd.e1;have eA:=rd.eA;have eB:=rd.eB;subst e1 eA eB;have B:=ah rd;have j5:ops.length<=5000:=rd.ol;have k7:fl.length<=10000:=rd.fl;have j8:i<ops.length:=rd.il;clear rd;have c1:=B.o.c wr HJ.o.2.bl;have b0:wr.cell? ⟨gB,i*7,none⟩=k (.int .i64 cd):=c1.b0;have b1:wr.cell? ⟨gB,i*7+1,none⟩=k (.int .i64 Q):=c1.b1;have b2:wr.cell? ⟨gB,i*7+2,none⟩=k (.int .i64 N):=c1.b2;have b3:wr.cell? ⟨gB,i*7+3,none⟩=k (.int .i64 R):=c1.b3;have b4:wr.cell? ⟨gB,i*7+4,none⟩=k (.int .i64 L):=c1.b4;have b5:wr.cell? ⟨gB,i*7+5,none⟩=k (.int .i64 M):=c1.b5;have b6:wr.cell? ⟨gB,i*7+6,none⟩=k (.slice G fl.length F):=c1.b6;clear c1;have HE:=ah (show aD _ 36 wr.heap.size 7 (GA cd Q N R L M (.slice G fl.length F)) from aD.mk' wr 36 #[.int .i64 cd,.int .i64 Q,.int .i64 N,.int .i64 R,.int .i64 L,.int .i64 M,.slice G fl.length F]);have a3:=ah (And.intro HJ.o.1 (HJ.o.2.low (aU wr (.cells #[.int .i64 cd,.int .i64 Q,.int .i64 N,.int .i64 R,.int .i64 L,.int .i64 M,.slice G fl.length F] 36))));clear HJ;go_upto_region 13 with (fail)
   clear b0 b1 b2 b3 b4 b5 b6;generalize wr.alloc (.cells #[.int .i64 cd,.int .i64 Q,.int .i64 N,.int .i64 R,.int .i64 L,.int .i64 M,.slice G fl.length F] 36)=T at *;generalize wr.heap.size=Y at *;have e0:T.cell? ⟨Y,0,none⟩=k (.int .i64 cd):=HE.o.c 0;have e6:T.cell? ⟨Y,6,none⟩=k (.slice G fl.length F):=HE.o.c 6;have c2:=B.o.c T a3.o.2.bl;have p1:T.cell? ⟨PW,1,none⟩=k (.slice (k ⟨gA,0,none⟩) m kA):=by have:=c2.p1;rw [HM.o] at this;exact this
   have f0:T.cell? ⟨gA,i*7,none⟩=k (.int .i64 cd):=c2.A0;have f6:T.cell? ⟨gA,i*7+6,none⟩=k (.slice af fl.length cf):=c2.A6;clear c2;go_wp2_with fail;go_quiet (fail);have s:=ah (And.intro a3.o.1 (a3.o.2.low (aC (y _ _) nq)));have a5:=ah (show aD (T.drewN nq) 36 Y 7 _ from HE.o);clear e0 e6 p1 f0 f6 a3 HE;generalize T.drewN nq=w3 at *;have e0:w3.cell? ⟨Y,0,none⟩=k (.int .i64 cd):=a5.o.c 0;by_cases hc:cd=0
   ·subst hc
    have c3:=B.o.c w3 s.o.2.bl;have o0:w3.cell? ⟨gO,i*4,none⟩=k (.int .i64 o.1):=c3.o0;have o1:w3.cell? ⟨gO,i*4+1,none⟩=k (.int .i64 o.2.1):=c3.o1;have o2:w3.cell? ⟨gO,i*4+2,none⟩=k (.int .i64 o.2.2.1):=c3.o2;have o3:w3.cell? ⟨gO,i*4+3,none⟩=k (.int .i64 o.2.2.2):=c3.o3;clear c3;have h6:((i:Int)<(ops.length:Int)):=by omega
    have c4:=ah (show (cK (cZ (ops.take i)).2 o.1 o.2.1 o.2.2.1 o.2.2.2).1.code=0 by rw [B.o.hx]);have HY:=ah (s.o.2.bs.yes (by omega) c4.o);have f9:=ah (show (cZ (ops.take i)).2.h.objs.length<=5001 from aI s.o.2.bs.ok.b.len (by omega));have f8:=ah (CK o.1 o.2.1 o.2.2.1 o.2.2.2 s.o.2.bk s.o.2.bl.size HY.o.1 HY.o.2.1 HY.o.2.2.1 (by have:=f9.o;omega) (aI s.o.2.el (by omega)));go_wp2_with fail;refine f8.o.mono ?_;intro e w4 ha;obtain ⟨rfl,j3,c5,e3,U,k4,z4⟩:=s.o.2.act B.o.ho (by omega) c4.o ha;have HF:=ah (show FZ fl gn _ _ from by rw [B.o.hx] at z4;exact z4);have f7:=ah (a5.o.keep k4 (s.o.2.bk.ap a5.o (by decide) (by decide) (by decide) (by decide)));have X:=ah (And.intro s.o.1 U);have b8:(b.act o.1 o.2.1 o.2.2.1 o.2.2.2).modes.length=(b.act o.1 o.2.1 o.2.2.1 o.2.2.2).roots.length/\1<=(b.act o.1 o.2.1 o.2.2.1 o.2.2.2).roots.length/\(b.act o.1 o.2.1 o.2.2.1 o.2.2.2).roots.length<=5002:=by
     have h1:=U.bs.bk.ml;have h2:=U.bs.ok.l;have h3:=U.bs.ok.b.len;have h5:=(aJ.1 U.bs.ok.r0).1;rw [U.bs.bk.rt];omega
    have i5:=ah (show ∀ e∈(b.act o.1 o.2.1 o.2.2.1 o.2.2.2).edges,e.t<(b.act o.1 o.2.1 o.2.2.1 o.2.2.2).roots.length/\e.key<(b.act o.1 o.2.1 o.2.2.1 o.2.2.2).roots.length/\e.val<(b.act o.1 o.2.1 o.2.2.1 o.2.2.2).roots.length from fun e he=>by
     have:=U.bs.bk.rg e he;rw [U.bs.bk.rt,U.bs.ok.l];exact this)
    obtain ⟨c0,b9,rfl⟩:=aF U.bk.m;generalize b.act o.1 o.2.1 o.2.2.1 o.2.2.2=b4 at *;clear U k4 z4 ha f8 HY c4 f9 s a5 o0 o1 o2 o3 e0 h6;have f2:=ah X.o.2.bs.gl;go_wp2_with fail;go_loopw [7] (fun gv ws=>∃ (q E:Nat) (K:Option Addr) (g1:List Bool),gv=.slice K q E/\q<=b4.modes.length/\Hq (g1.length=q/\SL w7 P ops (i+1) (.slice K q E) g1 b4 (.slice c0 b4.modes.length b9) c5 e3 ws/\FZ fl g1 b4 (cZ (ops.take (i+1))).2/\aD ws 36 Y 7 (GA 0 Q N R L M (.slice G fl.length F)))) (fun gv _=>b4.modes.length-FX gv)
    case atStart=>exact ⟨gl,gc,ga,gn,rfl,by have:=f2.o;have:=X.o.1;omega,X.o.1,X.o.2,HF.o,f7.o⟩
    case round=>
     clear X HF f7 f2;obtain ⟨q,E,K,g1,rfl,k5,x⟩:=hrel;have r0:wr.cell? ⟨P,0,none⟩=k (.slice c0 b4.modes.length b9):=x.o.2.1.bk.r.c 0;by_cases d2:q<b4.modes.length
     ·have g9:((q:Int)<(b4.modes.length:Int)):=by omega
      have i2:w7.heap.size<=wr.heap.size:=x.o.2.1.bl.size;go_wp2_with (first
       |(at_builtin
         refine fC rfl (.tmp 90) (.tmp 91) 31 4 1 1 (.bool false) rfl Tryz.underlying31 jc rfl (by decide) w7.heap.size (.slice K q E) q (iZ g1) [.bool false] (by have:=x.o.2.1.g;rw [x.o.1] at this;exact this) rfl rfl rfl (fun u hu=>by simp at hu;subst hu;rfl) (by omega) (by decide) i2 ?_;intro v' w6 k1 k2 k3 k4;obtain ⟨a6,k6,g6⟩:=aF k1;subst g6;have A:=k2 w7.heap.size wr (y _ _) (au _);have b7:Keeps wr w6 (fun c=>(Value.slice K q E).ownBlock=k c):=⟨A.os,A.tape,A.output,A.size,fun b hb hn=>k3 b hb hn⟩
         have S:=ah (x.o.2.1.push (by rw [x.o.1];exact d2) (by rw [x.o.1];exact k1) b7 (fun g e=>by
          by_cases c:(Value.slice K q E).ownBlock=k g
          ·exact .inl c
          ·right
           rcases Nat.lt_or_ge g wr.heap.size with d|d
           ·exact absurd e (k4 g d c)
           ·exact d))
         have i7:=ah (x.o.2.2.2.keep b7 (fun c=>ak x.o.2.1.g x.o.2.2.2 (by decide) c));clear k1 k2 k3 k4 A b7)
       |go_in)
      go_wp2;go_roundw
      ·exact ⟨q+1,k6,a6,g1++[false],rfl,by omega,by rw [aT,x.o.1];rfl,S.o,x.o.2.2.1.push,i7.o⟩
      ·simp [FX];omega
     ·have g9:¬ ((q:Int)<(b4.modes.length:Int)):=by omega
      have d5:q=b4.modes.length:=by omega
      have e7:=ah (xq x.o.2.1.bk x.o.2.1.bl.size i5.o b8.1 b8.2.1 (by omega) (aI x.o.2.1.el (by omega)));have f3:=ah d5;clear d5 d2;go_wp2_with fail;refine e7.o.mono ?_;rintro e w5 ⟨sn,sG,i9,rfl,a7,j4,c6,g7,J⟩;have f1:=ah (x.o.2.1.low J);have f5:=ah (x.o.2.2.2.low J x.o.2.2.2.lt);have f4:=ah x.o.2.2.1;have a4:=ah x.o.1;obtain ⟨gG,rfl,k0,d4⟩:=x.o.2.1.at (by have:=a4.o;have:=f3.o;omega);have d3:gG≠sG:=by have:=d4.lt;omega
      have e4:=ah (And.intro a7 c6);have i6:=ah d3;clear x e7 a7 c6 g7 J d4 r0 d3;have e6:w5.cell? ⟨Y,6,none⟩=k (.slice G fl.length F):=f5.o.c 6;go_wp2_with fail;clear e6 f5;go_loopw [98] (fun jv ws=>∃ j:Nat,j<=fl.length/\jv=.int .i64 (j:Int)/\Hq (SL w7 P ops (i+1) (.slice (k ⟨gG,0,none⟩) q E) (Bq g1 (fl.take j)) b4 (.slice c0 b4.modes.length b9) c5 e3 ws/\aD ws 4 sG b4.roots.length (eG sn))) (fun jv _=>fl.length-bF jv)
      case atStart=>exact ⟨0,by omega,rfl,f1.o,e4.o.2⟩
      case round=>
       clear f1;obtain ⟨j,j7,rfl,HQ⟩:=hrel;by_cases h0:j<fl.length
       ·have h4:((j:Int)<(fl.length:Int)):=by omega
        obtain ⟨z,hz⟩:∃ z,fl[j]?=k z:=⟨_,aN h0⟩
        obtain ⟨gf,i3,d6⟩:=B.o.f j z hz;subst i3;have fz:=d6 wr HQ.o.1.bl;obtain ⟨z1,z2,z3,z4,z5⟩:=f4.o.2 z (aW hz);have C:=HQ.o.1.row;have i0:=C.1;rw [qK,a4.o] at C;have a8:z<q:=by rw [f3.o];exact z2
        have cg:wr.cell? ⟨gG,z,none⟩=k (.bool false):=by
         rw [C.2.cell (j:=z) a8];unfold eG;rw [Fg f4.o.1 hz z3 (by rw [a4.o];exact a8)]
        have zg:=C.2.Nq z;have g5:z<b4.roots.length:=by rw [<-b8.1];exact z2
        have cs:wr.cell? ⟨sG,z,none⟩=k (.bool false):=by rw [HQ.o.2.cell (j:=z) g5,Fe e4.o.1 z4]
        have e8:=ah (HQ.o.1.mark (by rw [qK,a4.o];exact a8) z5);have i4:=ah (HQ.o.2.keep e8.o.2 (fun c=>i6.o c.symm));have HZ:=ah hz;have y1:¬ ((z:Int)<1):=by omega
        have y2:¬ ((z:Int) ≥ (q:Int)):=by omega
        have y3:((z:Int)<(q:Int)):=by omega
        have y4:((z:Int)<(b4.roots.length:Int)):=by omega
        clear C i0 d6 hz z3 z4 z5 z2 HQ;go_wp2;go_roundw
        ·exact ⟨j+1,by omega,by simp,by rw [xQ HZ.o,AU];exact e8.o.1,i4.o⟩
        ·simp [bF];omega
       ·have h4:¬ ((j:Int)<(fl.length:Int)):=by omega
        have e9:=ah (And.intro (HQ.o.1.row).1 HQ.o.1);clear HQ;go_wp2;go_roundw
        ·exact ⟨i+1,q,E,_,_,b4,_,_,_,by omega,by simp,rfl,e9.o.1.symm,e9.o.2⟩
        ·simp [bF];omega
   ·have k8:(cd !=0)=true:=by simp [hc]
    have HN:=ah (s.o.2.no B.o.ho (by omega) (by rw [B.o.hx];exact hc));clear hc;go_wp2;go_roundw
    ·exact ⟨i+1,gl,gc,ga,gn,b,mv,rv,ev,by omega,by simp,rfl,s.o.1,HN.o⟩
    ·simp [bF];omega
  ·have h8:¬ ((i:Int)<(m:Int)):=by omega
   have i8:=ah (g0.o.trans (HJ.o.2.bl.mono g0.o.size));go_wp2;go_ret;exact ⟨rfl,i8.o⟩
end
end Go.Proofs.YtbpcdfbmnklcjaaGreatDoor
namespace Go.Proofs.YtbpcdfbmnklcjaaGreatDoor
open Go.ChangeShapes Go.WideShapes Go.ChangeAt Go Go.RowKit Go.ChangeMaps Go.WideElems Go.Joins Go.Deep
set_option maxRecDepth 100000
set_option linter.unusedVariables false
section
variable {W:World} {cap fuel n:Nat}
theorem Ad:Tryz.prog.readableRec 22=true/\22<Tryz.prog.types.size:=⟨by kernel_rfl,by decide+kernel⟩
theorem xu {H:Type} {enc:TypeId × Value->H} {sp:Nat->Bool} {hd:Bool} {a:Option Addr} {x:DataW H × List MemPlace} (h:DataW.trod enc Tryz.prog W 0 sp hd fuel 22 [.slice a n cap]=some x):
 n<=9223372036854775807/\∃ f,iw W.heap.size W (.slice a n cap) n f:=by
 obtain ⟨r,h⟩:=A_ Tryz.underlying22 (show Tryz.prog.cellsOf 5=1 by kernel_rfl) (by omega) h;refine ⟨aI r (by decide+kernel),?_⟩;rcases h with rfl|⟨b,o,m,rfl,hb,k,g⟩
 ·exact ⟨fun _=>0,.inl ⟨rfl,_,_,rfl⟩⟩
 ·have key:∀ i,∃ z:Nat,i<n->z<=255/\W.cell? ⟨b,o+i,none⟩=some (.int .u8 (z:Int)):=by
   intro i;by_cases hi:i<n
   ·obtain ⟨u,y,t,d,e⟩:=g i hi
    obtain ⟨l,s,_,j⟩:=DataW.trod_int Tryz.underlying5 e;subst s;have q:IntKind.u8.min=0:=by decide
    have p:IntKind.u8.max=255:=by decide
    simp only [Lit.wf,Bool.and_eq_true,decide_eq_true_eq,q,p] at j;have c:=d 0 (by omega);rw [Nat.mul_one,Nat.add_zero] at c;refine ⟨l.toNat,fun _=>⟨by omega,?_⟩⟩;rw [Int.toNat_of_nonneg j.1];exact c
   ·exact ⟨0,fun h=>absurd h hi⟩
  exact ⟨fun i=>Classical.choose (key i),.inr ⟨b,o,cap,rfl,hb,fun i hi=>Classical.choose_spec (key i) hi⟩⟩
theorem oZ (H:Type) (a:TypeId × Value->H) (W:World) (base:Nat) (args:Array Value) (C B:List (DataW H)) (b:List MemPlace)
 (d:∀ (j:Nat) t v,Tryz.f3.params[j]?=some t->args[j]?=some v->Value.okWide Tryz.prog W .any base t v)
 (z:DataW.Whole a Tryz.prog Tryz.f3.params.toList Rows.fnHeapSafeSpec.vars false W args.toList C B b):
 Calls Tryz.prog 3 args W fun e W'=>∃ v,e=.returned v/\Rows.fnHeapSafeSpec.post a Tryz.prog Tryz.f3 false true false false W args v W':=by
 have i:=z;obtain ⟨p,q,l,k,rfl,G,F⟩:=z;have hA:DataW.TrodAll a Tryz.prog W 0 (fun _=>true) true Tryz.f3.params.toList args.toList C p:=l;have A:DataW.TrodVars a Tryz.prog W (fun _=>true) ["loop.example/g00002/impl.errNumWhole"] B q:=k;rw [Tryz.params3] at hA d;obtain ⟨w,E,d0,M,m,N,u,rfl,rfl,L,r0⟩:=trodAll_cons hA;obtain ⟨rfl,rfl,rfl⟩:=trodAll_nil r0;obtain rfl:args=#[w]:=by cases args;simp_all
 obtain ⟨P,rfl⟩:=Ab A;have r:=i.lt;obtain ⟨fuel,y⟩:=L;clear l k;obtain ⟨D,c,g,rfl⟩:=okWide_slice Tryz.underlying22 (d 0 22 w rfl rfl);have s:DataW.trod a Tryz.prog W 0 (fun _=>true) true fuel 22 [.slice D c g]=some (d0,m):=y;obtain ⟨K,f,J⟩:=xu s;refine (sW J K).mono fun e W' ⟨he,hb⟩=>?_;subst he;have o:∀ (sp:Nat->Bool),(∀ x∈m,sp x.block=true)->DataW.Trod a Tryz.prog W' 0 sp true 22 (.slice D c g) d0 m:=fun sp hsp=>by
  exact ⟨fuel,DataW.trod_stays (kids_book Tryz.laidOut Ad.1) (book_sized Ad.1) (fun h=>by cases h) ⟨Ad.2,book_self 22⟩ y (fun x hx=>hb.same (r x (by simp [hx]))) hsp⟩
 refine ⟨_,rfl,Bj i (pa:=m++[]) (pv:=q) (fun _ _ _=>trodAll_cons_mk (shut_bool Tryz.underlying4 _) trodAll_mk0) (fun sp hsp=>trodAll_cons_mk (o sp (fun x hx=>hsp x (by simp [hx]))) trodAll_mk0)
  (fun sp hsp=>qC Tryz.laidOut hb ER (fun x hx=>hsp x (by simp [hx])) A) (by simp) hb (ok_one (by kernel_rfl) rfl (okWide_bool_mk Tryz.underlying4 _))⟩
end
end Go.Proofs.YtbpcdfbmnklcjaaGreatDoor
namespace Go.Proofs.YtbpcdfbmnklcjaaGreatDoor
open Go.ChangeShapes Go.WideShapes Go.ChangeAt Go Go.RowKit
set_option maxRecDepth 100000
set_option linter.unusedVariables false
abbrev jr:=Rows.fnHeapSafeRow.laid
noncomputable def qH:Input:=⟨#[],#[.slice none 0 0],[]⟩
theorem rT (os:Os):((World.laidAll Tryz.prog os jr).forCall (fun _ _=>0) qH).Shaped Tryz.checked.prog:=World.shaped_of_ZipB (by kernel_rfl) (by kernel_rfl)
theorem Cu (os:Os):Input.okWideB Tryz.checked.prog ((World.laidAll Tryz.prog os jr).forCall (fun _ _=>0) qH) 3 qH=true:=by kernel_rfl
theorem yc (os:Os):laidMetH Tryz.checked.prog jr ((World.laidAll Tryz.prog os jr).forCall (fun _ _=>0) qH).memory:=by
 rw [MakeChecks.laidMetH_plain _ _ _ (by kernel_rfl)];exact laidMet_laidAll _ (by kernel_rfl) (by kernel_rfl)
theorem xY (os:Os) {H:Type} (a:TypeId × Value->H):(DataW.whole a Tryz.checked.prog ((World.laidAll Tryz.prog os jr).forCall (fun _ _=>0) qH).memory Tryz.f3.params.toList (OpenSpec.ofChange Rows.fnHeapSafeSpec).vars false qH.args.toList 8).isSome=true:=by kernel_rfl
theorem uT (os:Os) {H:Type} (a:TypeId × Value->H):(OpenSpec.ofChange Rows.fnHeapSafeSpec).bare.sizedB a Tryz.checked.prog Tryz.f3 false ((World.laidAll Tryz.prog os jr).forCall (fun _ _=>0) qH).memory qH.args 8=true:=by kernel_rfl
theorem zG (os:Os) {H:Type} (a:TypeId × Value->H):∃ (w:World) (tape:Tape) (i:Input),w.os=os/\(w.forCall tape i).Shaped Tryz.checked.prog/\i.vars=[]/\Input.okWide Tryz.checked.prog (w.forCall tape i) .any w.heap.size 3 i/\
 (OpenSpec.ofChange Rows.fnHeapSafeSpec).preRow a Tryz.checked.prog Tryz.f3 Rows.fnHeapSafeRow.domain false jr (w.forCall tape i).memory i.args/\({}:Assume).holds Tryz.checked.prog (lone (Frame.enter Tryz.checked.prog 3 i.args .normal) [] (w.forCall tape i)):=by
 obtain ⟨x,hx⟩:=Option.isSome_iff_exists.1 (xY os a);exact ⟨World.laidAll Tryz.prog os jr,fun _ _=>0,qH,World.laidAll_os _ _ _,rT os,rfl,(Input.okWide_of_okWideB (Cu os)).2,
  OpenSpec.preRow_of_cond 8 hx rfl (fun k hk=>by cases hk) (uT os a) (yc os),by
   simp only [Assume.holds];exact ⟨by simp,by simp,fun _=>Modest.zero,by simp,by simp⟩⟩
theorem Bu (os:Os) (a:os.Started) (H:Type) (b:TypeId × Value->H) (F:Stop.Interp):
 ReturnsInHanded {} Tryz.checked os 3 .any ((OpenSpec.ofChange Rows.fnHeapSafeSpec).preRow b Tryz.prog Tryz.f3 Rows.fnHeapSafeRow.domain false jr) (((OpenSpec.ofChange Rows.fnHeapSafeSpec).at F).post b Tryz.prog Tryz.f3 false true false false):=by
 refine returnsInHanded_of_row (C:=Tryz.checked) (s:=OpenSpec.ofChange Rows.fnHeapSafeSpec) Tryz.own a (by kernel_rfl) Tryz.func3 (zG os b) ?_;intro W base args g f c d e _ _ _ i h _;exact oZ H b W base args g f c d e
theorem FC:Rows.FnHeapSafeSaid:=
 OpenClaim.holds_of_cond (p:=Tryz.pinned) (s:=OpenSpec.ofChange Rows.fnHeapSafeSpec) (c:=Rows.fnHeapSafeRow) 3 Tryz.f3 rfl rfl rfl rfl rfl rfl rfl ⟨rfl,rfl,rfl,rfl,rfl⟩ rfl rfl rfl rfl rfl zx Tryz.func3 Bg zY Aw
  (fun os started H enc _ F=>by rw [OpenClaim.pre_eq_preRow];exact Bu os started H enc F)
theorem Ep (f:FuncId) (fn:Func) (b:Tryz.pinned.checked.prog.funcNamed "loop.example/g00002/laws.FnHeapSafe" =some f) (a:Tryz.pinned.checked.prog.funcs[f]?=some fn):
 true=Tryz.pinned.checked.prog.looks []/\∀ (j:Nat) t,fn.params[j]?=some t->Tryz.pinned.checked.prog.wantsStandIn t=false:=by
 obtain rfl:f=3:=Option.some.inj ((show Tryz.prog.funcNamed "loop.example/g00002/laws.FnHeapSafe" =some 3 by kernel_rfl).symm.trans b)|>.symm;obtain rfl:fn=Tryz.f3:=(Option.some.inj (Tryz.func3.symm.trans a)).symm;refine ⟨by kernel_rfl,fun j t ht=>?_⟩;rw [Tryz.params3] at ht;obtain rfl:t=22:=by simpa using Array.mem_of_getElem? ht
 exact (show Tryz.prog.wantsStandIn 22=false by kernel_rfl)
theorem fnHeapSafe_holds:Rows.FnHeapSafeCardSaid:=
 Claim7.holds_tied_plain_at .later [] _ _ _ _ FC (fun _ h=>by cases h) (by kernel_rfl) (fun _ h=>by cases h) fnHeapSafe_row_tie rfl ⟨rfl,rfl⟩ (by kernel_rfl) rfl Ep (by kernel_rfl)
#print axioms fnHeapSafe_holds
end Go.Proofs.YtbpcdfbmnklcjaaGreatDoor
