import Derived.Test.YtbpcdfbmnklcjaaGreatDoorKJP
import Derived.Test.YtbpcdfbmnklcjaaGreatDoorKJL
namespace Go.Proofs.YtbpcdfbmnklcjaaGreatDoor
open Go Go.RowKit
set_option linter.unusedVariables false
section
variable {b:Bk} {gn:List Bool} {k m:Nat} {r:Rn}
def Bu (gn:List Bool) (l:List Nat):List Bool:=l.foldl (fun g z=>g.set z true) gn
theorem ru (gn:List Bool) (l:List Nat):(Bu gn l).length=gn.length:=by
 induction l generalizing gn with
 |nil=>rfl
 |cons z l ih=>show (Bu (gn.set z true) l).length=_;rw [ih,bX]
theorem vX {l:List Nat} {x:Nat} (h:(Bu gn l)[x]?=some true):gn[x]?=some true∨x∈l:=by
 induction l generalizing gn with
 |nil=>exact .inl h
 |cons z l ih=>
  rcases ih (gn:=gn.set z true) h with c|c
  ·by_cases e:z=x
   ·exact .inr (e ▸ List.mem_cons_self)
   ·rw [aH e] at c
    exact .inl c
  ·exact .inr (List.mem_cons_of_mem _ c)
theorem Bs.more (x:Bs k b gn r) (h:gn.length+m<=b.modes.length):Bs k b (gn++List.replicate m false) r:=by
 refine ⟨x.ok,x.wm,x.bk,by rw [bI,List.length_replicate];exact h,fun z hz=>x.gd z ?_⟩;by_cases c:z<gn.length
 ·rw [dF c] at hz
  exact hz
 ·rw [fI (by omega),List.getElem?_replicate] at hz
  split at hz<;>cases hz
theorem Bs.done (x:Bs k b gn r) {fl:List Nat} (a:∀ z∈fl,¬ r.h.Lv z):Bs k b (Bu gn fl) r:=by
 refine ⟨x.ok,x.wm,x.bk,by rw [ru];exact x.gl,fun z hz=>?_⟩;rcases vX hz with c|c
 ·exact x.gd z c
 ·exact a z c
end
section
variable {N P T base gc k:Nat} {b:Bk} {ev gv mv rv v':Value} {gn:List Bool} {r:Rn} {w w7 w9 ws:World}
structure SL (w7:World) (P:Nat) (ops:List dA) (i:Nat) (gv:Value) (gn:List Bool) (b:Bk) (mv rv ev:Value) (ws:World):Prop where
 bs:Bs i b gn (cZ (ops.take i)).2
 bk:Nj w7.heap.size ws P b mv rv ev
 g:ws.ownsRow w7.heap.size 4 1 gv gn.length (iQ gn)
 ap:∀ q,gv.ownBlock=some q->¬ Zk P mv rv ev q
 el:b.edges.length<=i
 bl:Below w7.heap.size w7 ws
theorem SL.low {P i:Nat} {w7 ws ws':World} {ops:List dA} {gv mv rv ev:Value} {gn:List Bool} {b:Bk} (x:SL w7 P ops i gv gn b mv rv ev ws) (h:Below ws.heap.size ws ws'):SL w7 P ops i gv gn b mv rv ev ws':=
 ⟨x.bs,x.bk.low h,aj x.g (Keeps.of h (au _) (fun _=>False)) (fun _ _ e=>e),x.ap,x.el,x.bl.trans (h.mono x.bl.size)⟩
theorem SL.new (w:World) (ops:List dA):
 SL w (w.heap.size+1+1) ops 0 (.slice (some ⟨w.heap.size+1+1+1,0,none⟩) 0 0) [] Bk.new (.slice (some ⟨w.heap.size,0,none⟩) 1 1) (.slice (some ⟨w.heap.size+1,0,none⟩) 1 1) (.slice none 0 0)
  ((((w.alloc (.cells #[.int .i64 0] 3)).alloc (.cells #[.bool false] 4)).alloc (.cells #[.slice (some ⟨w.heap.size,0,none⟩) 1 1,.slice (some ⟨w.heap.size+1,0,none⟩) 1 1,.slice none 0 0] 34)).alloc (.cells #[] 4)):=by
 have s1:(w.alloc (.cells #[.int .i64 0] 3)).heap.size=w.heap.size+1:=by simp
 have o:(w.alloc (.cells #[.int .i64 0] 3)).ownsRow w.heap.size 3 1 (.slice (some ⟨w.heap.size,0,none⟩) 1 1) 1 (iL [0]):=⟨rfl,.inr ⟨w.heap.size,1,#[.int .i64 0],rfl,au _,heap_alloc_new w _,by decide,by decide,rfl,rfl⟩⟩
 have h:=aU w (.cells #[.int .i64 0] 3);generalize w.alloc (.cells #[.int .i64 0] 3)=wa at *;have s2:(wa.alloc (.cells #[.bool false] 4)).heap.size=w.heap.size+1+1:=by rw [<-s1];simp
 have o2:(wa.alloc (.cells #[.bool false] 4)).ownsRow w.heap.size 4 1 (.slice (some ⟨w.heap.size+1,0,none⟩) 1 1) 1 (iQ [false]):=⟨rfl,.inr ⟨w.heap.size+1,1,#[.bool false],rfl,by omega,by rw [<-s1];exact heap_alloc_new wa _,by decide,by decide,rfl,rfl⟩⟩
 have f:=aU wa (.cells #[.bool false] 4);have n:=aj o (Keeps.of f (au _) (fun _=>False)) (fun _ _ e=>e);generalize wa.alloc (.cells #[.bool false] 4)=wb at *;have g:=aD.mk' wb 34 #[.slice (some ⟨w.heap.size,0,none⟩) 1 1,.slice (some ⟨w.heap.size+1,0,none⟩) 1 1,.slice none 0 0];have d:=aU wb (.cells #[.slice (some ⟨w.heap.size,0,none⟩) 1 1,.slice (some ⟨w.heap.size+1,0,none⟩) 1 1,.slice none 0 0] 34);have l:(wb.alloc (.cells #[.slice (some ⟨w.heap.size,0,none⟩) 1 1,.slice (some ⟨w.heap.size+1,0,none⟩) 1 1,.slice none 0 0] 34)).heap.size=w.heap.size+1+1+1:=by rw [<-s2];simp
 have m:=aj n (Keeps.of d (au _) (fun _=>False)) (fun _ _ e=>e);have o3:=aj o2 (Keeps.of d (au _) (fun _=>False)) (fun _ _ e=>e);rw [s2] at g;generalize wb.alloc (.cells #[.slice (some ⟨w.heap.size,0,none⟩) 1 1,.slice (some ⟨w.heap.size+1,0,none⟩) 1 1,.slice none 0 0] 34)=wc at *;have a:=aU wc (.cells #[] 4);have i:=Keeps.of a (au _) (fun _=>False);have hb:Below w.heap.size w (wc.alloc (.cells #[] 4)):=((h.trans (f.mono (by omega))).trans (d.mono (by omega))).trans (a.mono (by omega));refine ⟨Bs.new,⟨?_,aj m i (fun _ _ e=>e),aj o3 i (fun _ _ e=>e),⟨rfl,.inl ⟨rfl,rfl⟩⟩,by omega⟩,⟨rfl,.inr ⟨w.heap.size+1+1+1,0,#[],rfl,by omega,by rw [<-l];exact heap_alloc_new wc _,by decide,by decide,rfl,rfl⟩⟩,?_,au _,hb⟩
 ·refine aD.congr (show aD _ _ _ 3 _ from g.low a g.lt) (fun j hj=>?_)
  have:j=0∨j=1∨j=2:=by omega
  rcases this with rfl|rfl|rfl<;>rfl
 ·intro q p c
  simp [Value.ownBlock] at p;rcases c with c|c|c|c
  ·omega
  all_goals simp [Value.ownBlock] at c
  all_goals omega
structure LK (w7:World) (ops:List dA) (a1:Option Addr) (k1 PW PG:Nat) (aA:Option Addr) (kA:Nat) (aB:Option Addr) (kB:Nat) (fs fs2:List Value):Prop where
 o:xX w7 (.slice a1 ops.length k1) ops
 p1:w7.cell? ⟨PW,1,none⟩=some (.slice aA (dZ ops).length kA)
 q1:w7.cell? ⟨PG,1,none⟩=some (.slice aB (dZ ops).length kB)
 pl:PW<w7.heap.size/\PG<w7.heap.size
 A:∃ B,J7 w7 B (.slice aA (dZ ops).length kA) (dZ ops) fs
 B:∃ B,J7 w7 B (.slice aB (dZ ops).length kB) (dZ ops) fs2
structure RC (ops:List dA) (i PW PG:Nat) (aA:Option Addr) (kA:Nat) (aB:Option Addr) (kB:Nat) (o:dA) (x:An) (gO gA gB:Nat) (af af2:Option Addr) (cf cf2:Nat) (ws:World):Prop where
 p1:ws.cell? ⟨PW,1,none⟩=some (.slice aA (dZ ops).length kA)
 q1:ws.cell? ⟨PG,1,none⟩=some (.slice aB (dZ ops).length kB)
 o0:ws.cell? ⟨gO,i*4,none⟩=some (.int .i64 o.1)
 o1:ws.cell? ⟨gO,i*4+1,none⟩=some (.int .i64 o.2.1)
 o2:ws.cell? ⟨gO,i*4+2,none⟩=some (.int .i64 o.2.2.1)
 o3:ws.cell? ⟨gO,i*4+3,none⟩=some (.int .i64 o.2.2.2)
 A0:ws.cell? ⟨gA,i*7,none⟩=some (.int .i64 x.code)
 A6:ws.cell? ⟨gA,i*7+6,none⟩=some (.slice af x.freed.length cf)
 b0:ws.cell? ⟨gB,i*7,none⟩=some (.int .i64 x.code)
 b1:ws.cell? ⟨gB,i*7+1,none⟩=some (.int .i64 x.id)
 b2:ws.cell? ⟨gB,i*7+2,none⟩=some (.int .i64 x.live)
 b3:ws.cell? ⟨gB,i*7+3,none⟩=some (.int .i64 x.bytes)
 b4:ws.cell? ⟨gB,i*7+4,none⟩=some (.int .i64 x.state)
 b5:ws.cell? ⟨gB,i*7+5,none⟩=some (.int .i64 x.pend)
 b6:ws.cell? ⟨gB,i*7+6,none⟩=some (.slice af2 x.freed.length cf2)
structure RD (w7:World) (ops:List dA) (i:Nat) (a1:Option Addr) (PW PG:Nat) (aA:Option Addr) (kA:Nat) (aB:Option Addr) (kB:Nat) (o:dA) (x:An) (gO gA gB:Nat) (af af2:Option Addr) (cf cf2:Nat):Prop where
 ho:ops[i]?=some o
 hx:(cK (cZ (ops.take i)).2 o.1 o.2.1 o.2.2.1 o.2.2.2).1=x
 e1:a1=some ⟨gO,0,none⟩
 eA:aA=some ⟨gA,0,none⟩
 eB:aB=some ⟨gB,0,none⟩
 c:∀ ws,Below w7.heap.size w7 ws->RC ops i PW PG aA kA aB kB o x gO gA gB af af2 cf cf2 ws
 f:∀ (j z:Nat),x.freed[j]?=some z->∃ g,af2=some ⟨g,0,none⟩/\∀ ws,Below w7.heap.size w7 ws->ws.cell? ⟨g,j,none⟩=some (.int .i64 (z:Int))
 fl:x.freed.length<=10000
 ol:ops.length<=5000
 il:i<ops.length
theorem Ay {ops:List dA} (h:ops.length<=5000):(dZ ops).length=ops.length:=by
 unfold dZ;rw [if_neg (by omega)];have:=nP ops ops.length (au _)
 rwa [bN] at this
theorem J7.some {w:World} {B cap i:Nat} {aB:Option Addr} {al:List An} {fs:List Value} (h:J7 w B (.slice aB al.length cap) al fs) (hi:i<al.length):∃ g,aB=some ⟨g,0,none⟩/\g<w.heap.size:=by
 have e:=h.l;obtain ⟨n,⟨_,m⟩|⟨g,c,f,a,hb,j,d,hr⟩⟩:=e
 ·omega
 ·simp only [Value.slice.injEq] at a
  exact ⟨g,a.1,(h.l.lt g (by rw [a.1];rfl)).2⟩
theorem LK.at {w7:World} {ops:List dA} {a1:Option Addr} {k1 PW PG kA kB i:Nat} {aA aB:Option Addr} {fs fs2:List Value} (x:LK w7 ops a1 k1 PW PG aA kA aB kB fs fs2) (hi:i<(dZ ops).length):
 ∃ o an gO gA gB af af2 cf cf2,RD w7 ops i a1 PW PG aA kA aB kB o an gO gA gB af af2 cf cf2:=by
 have n:ops.length<=5000:=by
  rcases Nat.lt_or_ge 5000 ops.length with c|c
  ·unfold dZ at hi;rw [if_pos c] at hi;exact (Nat.not_lt_zero _ hi).elim
  ·exact c
 have u:=Ay n;obtain ⟨o,ho⟩:∃ o,ops[i]?=some o:=⟨_,aN (by omega)⟩
 obtain ⟨Y,hA⟩:=x.A;obtain ⟨X,a⟩:=x.B;obtain ⟨gA,eA,s⟩:=hA.some hi;obtain ⟨gB,eB,d⟩:=a.some hi;obtain ⟨W,V,f,F,hO⟩:=x.o;simp only [Value.slice.injEq] at f;obtain ⟨rfl,-,rfl⟩:=f;obtain ⟨gO,e1,m,Q,M,L,K⟩:=hO i o ho;have hx:=EC n ho;have D:=hA.sub hi;have e:=a.sub hi;obtain ⟨af,cf,G⟩:=aF D;obtain ⟨af2,cf2,l⟩:=aF e;have t:∀ {ws:World},Below w7.heap.size w7 ws->∀ {g j:Nat} {v:Value},g<w7.heap.size->w7.cell? ⟨g,j,none⟩=some v->ws.cell? ⟨g,j,none⟩=some v:=fun {_} hb {g j v} y h=>(hb.cell (p:=⟨g,j,none⟩) y).trans h;subst eA eB;have q:=(wu ops).2 i hi;refine ⟨o,xA (dZ ops) i,gO,gA,gB,af,af2,cf,cf2,⟨ho,hx.symm,e1,rfl,rfl,fun ws hb=>⟨t hb x.pl.1 x.p1,t hb x.pl.2 x.q1,t hb m Q,t hb m M,t hb m L,t hb m K,t hb s (hA.cell hi 0 (by omega) rfl),t hb s (hA.cell hi 6 (by omega) (by rw [G];rfl)),
  t hb d (a.cell hi 0 (by omega) rfl),t hb d (a.cell hi 1 (by omega) rfl),t hb d (a.cell hi 2 (by omega) rfl),t hb d (a.cell hi 3 (by omega) rfl),t hb d (a.cell hi 4 (by omega) rfl),t hb d (a.cell hi 5 (by omega) rfl),t hb d (a.cell hi 6 (by omega) (by rw [l];rfl))⟩,fun j z hz=>?_,q,n,by omega⟩⟩
 rw [l] at e;have R:=(aJ.1 hz).1;have s0:=e;obtain ⟨U,⟨_,S⟩|⟨g,C,J,f,H,y,E,hr⟩⟩:=s0
 ·omega
 ·simp only [Value.slice.injEq] at f
  obtain ⟨rfl,-,rfl⟩:=f;refine ⟨g,rfl,fun ws hb=>t hb (e.lt g rfl).2 ?_⟩;have:=e.cells (g:=g) rfl j (.int .i64 (z:Int)) (by unfold eu;rw [fC,hz];rfl)
  rwa [bL,Nat.zero_add] at this
theorem Nj.ap {g:Nat} {f:Nat->Value} (x:Nj base w P b mv rv ev) (h:aD w T g N f) (j:T≠34) (i:T≠3) (d:T≠4) (a:T≠80):¬ Zk P mv rv ev g:=by
 rintro (c|c|c|c)
 ·exact h.apart x.r j c
 ·exact ak x.m h (Ne.symm i) c
 ·exact ak x.o h (Ne.symm d) c
 ·exact ak x.e h (Ne.symm a) c
theorem SL.no {w7 ws:World} {P i:Nat} {ops:List dA} {gv mv rv ev:Value} {gn:List Bool} {b:Bk} {o:dA} (x:SL w7 P ops i gv gn b mv rv ev ws) (ho:ops[i]?=some o) (hi:i+1<=5000) (a:(cK (cZ (ops.take i)).2 o.1 o.2.1 o.2.2.1 o.2.2.2).1.code≠0):SL w7 P ops (i+1) gv gn b mv rv ev ws:=by
 refine ⟨?_,x.bk,x.g,x.ap,Nat.le_succ_of_le x.el,x.bl⟩;rw [fH ho];exact x.bs.no hi a
def FZ (fl:List Nat) (gn:List Bool) (b:Bk) (r:Rn):Prop:=fl.Nodup/\∀ z∈fl,1<=z/\z<b.modes.length/\gn[z]?≠some true/\¬ b.Rc z/\¬ r.h.Lv z
theorem SL.act {w7 ws w':World} {P i:Nat} {ops:List dA} {gv mv rv ev:Value} {gn:List Bool} {b:Bk} {o:dA} {e:Ending} (x:SL w7 P ops i gv gn b mv rv ev ws) (ho:ops[i]?=some o) (hi:i+1<=5000) (m:(cK (cZ (ops.take i)).2 o.1 o.2.1 o.2.2.1 o.2.2.2).1.code=0)
 (h:uH w7.heap.size P (b.act o.1 o.2.1 o.2.2.1 o.2.2.2) mv rv ev ws e w'):
 e=.returned (.tuple #[])/\∃ mv' rv' ev',SL w7 P ops (i+1) gv gn (b.act o.1 o.2.1 o.2.2.1 o.2.2.2) mv' rv' ev' w'/\Keeps ws w' (Zk P mv rv ev)/\FZ (cK (cZ (ops.take i)).2 o.1 o.2.1 o.2.2.1 o.2.2.2).1.freed gn (b.act o.1 o.2.1 o.2.2.1 o.2.2.2) (cZ (ops.take (i+1))).2:=by
 obtain ⟨p,mv',rv',ev',n,a⟩:=h;obtain ⟨_,_,_,l,j,f⟩:=x.bs.yes hi m;have d:(cZ (ops.take (i+1))).2=(cK (cZ (ops.take i)).2 o.1 o.2.1 o.2.2.1 o.2.2.2).2:=by rw [fH ho];rfl
 refine ⟨p,mv',rv',ev',⟨by rw [d];exact l,n,aj x.g a.k x.ap,fun q hq c=>?_,aI (CF _ _ _ _ _) (Nat.succ_le_succ x.el),x.bl.trans (a.k.below x.bl.size (fun g hg=>(x.bk.zl hg).1))⟩,a.k,j,by rw [d];exact f⟩;rcases a.z q c with c|c
 ·exact x.ap q hq c
 ·have:=(x.g.lt q hq).2
  omega
theorem FZ.push {fl:List Nat} (x:FZ fl gn b r):FZ fl (gn++[false]) b r:=by
 refine ⟨x.1,fun z hz=>?_⟩;obtain ⟨g,f,e,a⟩:=x.2 z hz;refine ⟨g,f,fun c=>?_,a⟩;by_cases d:z<gn.length
 ·rw [dF d] at c
  exact e c
 ·rw [fI (by omega)] at c
  cases q:z-gn.length with
  |zero=>rw [q] at c;cases c
  |succ k=>rw [q] at c;cases c
theorem SL.push {ops:List dA} (x:SL w7 P ops k gv gn b mv rv ev ws) (h:gn.length<b.modes.length) (f:w9.ownsRow w7.heap.size 4 1 v' (gn.length+1) (iQ gn++[.bool false])) (a:Keeps ws w9 (fun c=>gv.ownBlock=some c)) (e:∀ g,v'.ownBlock=some g->gv.ownBlock=some g∨ws.heap.size<=g):
 SL w7 P ops k v' (gn++[false]) b mv rv ev w9:=by
 refine ⟨x.bs.more (m:=1) (by omega),x.bk.keep a (fun g hg=>x.ap g hg),by rw [bI,sN];exact f,fun q hq c=>?_,x.el,x.bl.trans (a.below x.bl.size (fun g hg=>(x.g.lt g hg).1))⟩;rcases e q hq with d|d
 ·exact x.ap q d c
 ·have:=(x.bk.zl c).2
  omega
theorem SL.mark {g L z:Nat} {ops:List dA} (x:SL w7 P ops k (.slice (some ⟨g,0,none⟩) L gc) gn b mv rv ev ws) (l:z<gn.length) (f:¬ (cZ (ops.take k)).2.h.Lv z):
 SL w7 P ops k (.slice (some ⟨g,0,none⟩) L gc) (gn.set z true) b mv rv ev (ws.setCell ⟨g,z,none⟩ (.bool true))/\Keeps ws (ws.setCell ⟨g,z,none⟩ (.bool true)) (fun q=>q=g):=by
 have hk:Keeps ws (ws.setCell ⟨g,z,none⟩ (.bool true)) (fun q=>q=g):=Keeps.setCell (S:=fun q=>q=g) (Keeps.refl ws _) rfl _;have d:(Value.slice (some ⟨g,0,none⟩) L gc).ownBlock=some g:=by simp [Value.ownBlock]
 have j:L=gn.length:=by
  obtain ⟨_,_,e⟩:=aF x.g;simp only [Value.slice.injEq] at e;exact e.2.1
 subst j;have a:=aL x.g (i:=z) (by omega) (.bool true);rw [show (iQ gn).set z (.bool true)=iQ (gn.set z true) by unfold iQ;rw [List.map_set]] at a;refine ⟨⟨x.bs.done (fl:=[z]) (fun y hy=>by simp at hy;rw [hy];exact f),x.bk.keep hk (fun q e c=>x.ap q (e ▸ d) c),by rw [bX];exact a,x.ap,x.el,x.bl.trans (hk.below x.bl.size (fun q e=>e ▸ (x.g.lt g d).1))⟩,hk⟩
theorem SL.at {w7 ws:World} {P k L gc:Nat} {ga:Option Addr} {ops:List dA} {mv rv ev:Value} {gn:List Bool} {b:Bk} (x:SL w7 P ops k (.slice ga L gc) gn b mv rv ev ws) (d:1<=gn.length):∃ g,ga=some ⟨g,0,none⟩/\gn.length<=gc/\aD ws 4 g gn.length (eG gn):=by
 have a:L=gn.length:=by
  obtain ⟨_,_,e⟩:=aF x.g;simp only [Value.slice.injEq] at e;exact e.2.1
 subst a;obtain ⟨g,rfl,_,c,_⟩:=jd x.g d;exact ⟨g,rfl,c,uJ x.g⟩
theorem SL.row {g L:Nat} {ops:List dA} (x:SL w7 P ops k (.slice (some ⟨g,0,none⟩) L gc) gn b mv rv ev ws):L=gn.length/\aD ws 4 g gn.length (eG gn):=by
 have a:L=gn.length:=by
  obtain ⟨_,_,e⟩:=aF x.g;simp only [Value.slice.injEq] at e;exact e.2.1
 subst a;exact ⟨rfl,uJ x.g⟩
def GA (cd aid alv aby ast ape:Int) (fv:Value) (j:Nat):Value:=(#[.int .i64 cd,.int .i64 aid,.int .i64 alv,.int .i64 aby,.int .i64 ast,.int .i64 ape,fv]:Array Value).getD j (.bool false)
end
end Go.Proofs.YtbpcdfbmnklcjaaGreatDoor
