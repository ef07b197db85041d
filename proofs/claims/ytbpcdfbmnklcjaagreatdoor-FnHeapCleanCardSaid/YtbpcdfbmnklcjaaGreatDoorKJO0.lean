import Derived.Test.YtbpcdfbmnklcjaaGreatDoorKJJ
import Derived.Deep.LoopGhost
import Derived.Deep.QuietTactic
import Derived.Test.YtbpcdfbmnklcjaaGreatDoorKJM
namespace Go.Proofs.YtbpcdfbmnklcjaaGreatDoor
open Go Go.RowKit
set_option linter.unusedVariables false
section
variable {B P base cap i j n:Nat} {ev rv:Value} {sn sn0:List Bool} {w:World}
structure Sn (b:Bk) (sn:List Bool):Prop where
 l:sn.length=b.roots.length
 r:∀ n:Nat,b.roots[n]?=some true->sn[n]?=some true
 c:∀ n:Nat,sn[n]?=some true->b.Rc n
def yQ (b:Bk) (sn:List Bool) (e:Ed):Prop:=sn[e.t]?=some true->e.val≠0->∀ m,b.modes[e.t]?=some m->(e.ob=true->m=0->sn[e.key]?=some true)/\(m<2->m=0∨e.ob=false∨sn[e.key]?=some true->sn[e.val]?=some true)
def FI (b:Bk) (sn:List Bool):Prop:=Sn b sn/\∀ e∈b.edges,yQ b sn e
theorem FI.iff {b:Bk} (h:FI b sn) (n:Nat):sn[n]?=some true↔b.Rc n:=by
 constructor
 ·exact h.1.c n
 ·intro r
  exact r (fun n:Nat=>sn[n]?=some true) ⟨h.1.r,fun e he ht hv m hm=>h.2 e he ht hv m hm⟩
structure Mw (b:Bk) (sn0 sn:List Bool) (j:Nat) (ag:Bool):Prop where
 s:Sn b sn
 f:ag=false->sn=sn0/\∀ (q:Nat) (e:Ed),q<j->b.edges[q]?=some e->yQ b sn e
 t:ag=true->sn.count false<sn0.count false
theorem uP {r:Nat} (h:sn[r]?=some false):(sn.set r true).count false<sn.count false:=by
 induction sn generalizing r with
 |nil=>cases h
 |cons a l ih=>
  rcases r with _|r
  ·obtain rfl:a=false:=by simpa using h
   simp
  ·have:=ih (show l[r]?=some false from h)
   show ((a::l.set r true).count false)<_;rw [List.count_cons,List.count_cons];omega
theorem Mw.set {b:Bk} {sn0 sn:List Bool} {j r:Nat} {ag:Bool} (x:Mw b sn0 sn j ag) (h:sn[r]?=some false) (hr:b.Rc r):Mw b sn0 (sn.set r true) j true:=by
 have d:r<sn.length:=(aJ.1 h).1;refine ⟨⟨by rw [bX];exact x.s.l,fun n hn=>?_,fun n hn=>?_⟩,fun c=>(by cases c),fun _=>?_⟩
 ·rw [gD]
  split
  ·simp
  ·exact x.s.r n hn
 ·rw [gD] at hn
  split at hn
  ·rename_i c;rw [<-c];exact hr
  ·exact x.s.c n hn
 ·have a:=uP h
  cases hag:ag with
  |false=>rw [<-(x.f hag).1];exact a
  |true=>have:=x.t hag;omega
theorem Mw.go {b:Bk} (x:Mw b sn0 sn j true):Mw b sn0 sn (j+1) true:=⟨x.s,fun c=>(by cases c),x.t⟩
theorem Mw.no {b:Bk} {ag:Bool} {e:Ed} (x:Mw b sn0 sn j ag) (a:b.edges[j]?=some e) (h:yQ b sn e):Mw b sn0 sn (j+1) ag:=by
 refine ⟨x.s,fun c=>⟨(x.f c).1,fun q e' hq he'=>?_⟩,x.t⟩;by_cases d:q<j
 ·exact (x.f c).2 q e' d he'
 ·obtain rfl:q=j:=by omega
  rw [a] at he';cases he';exact h
theorem D6 {b:Bk} {e:Ed} (f:e∈b.edges) (d:b.Rc e.t) (a:e.val≠0) (hm:b.modes[e.t]?=some 0) (ho:e.ob=true):b.Rc e.key:=fun S c=>(c.2 e f (d S c) a 0 hm).1 ho rfl
theorem nS {b:Bk} {e:Ed} (g:e∈b.edges) (f:b.Rc e.t) (a:e.val≠0) {m:Int} (hm:b.modes[e.t]?=some m) (h:m<2) (ho:m=0∨e.ob=false∨b.Rc e.key):b.Rc e.val:=fun S c=>(c.2 e g (f S c) a m hm).2 h (ho.imp id (fun d=>d.imp id (fun r=>r S c)))
theorem j_ {v:Bool} (a:n<sn.length) (h:sn.getD n false=v):sn[n]?=some v:=by
 rw [bq,aN a] at h;rw [aN a]
 simpa using h
structure Mr (base:Nat) (w:World) (P:Nat) (b:Bk) (mv rv ev:Value) (G:Nat) (sn:List Bool) (ws:World):Prop where
 k:Nj base ws P b mv rv ev
 r:aD ws 4 G b.roots.length (eG sn)
 b:Below w.heap.size w ws
 g:w.heap.size<=G
theorem Mr.low {base P G:Nat} {w ws ws':World} {b:Bk} {mv rv ev:Value} {sn:List Bool} (x:Mr base w P b mv rv ev G sn ws) (h:Below ws.heap.size ws ws'):Mr base w P b mv rv ev G sn ws':=
 ⟨x.k.low h,x.r.low h x.r.lt,x.b.trans (h.mono x.b.size),x.g⟩
theorem Mr.set {base P G r:Nat} {w ws:World} {b:Bk} {mv rv ev:Value} {sn:List Bool} (x:Mr base w P b mv rv ev G sn ws) (a:∀ g,Zk P mv rv ev g->g<w.heap.size) (d:sn.length=b.roots.length) (hr:r<b.roots.length):Mr base w P b mv rv ev G (sn.set r true) (ws.setCell ⟨G,r,none⟩ (.bool true)):=by
 have k:Keeps ws (ws.setCell ⟨G,r,none⟩ (.bool true)) (fun q=>q=G):=Keeps.setCell (S:=fun q=>q=G) (Keeps.refl ws _) rfl _;exact ⟨x.k.keep k (fun g e c=>by have:=a g c;have:=x.g;omega),(x.r.set (j:=r) hr (.bool true)).congr (fun q _=>uy (by omega) q),x.b.trans (k.below x.b.size (fun q e=>by rw [e];exact x.g)),x.g⟩
theorem Nj.md {b:Bk} {a:Option Addr} {m:Int} (h:Nj base w P b (.slice a b.modes.length cap) rv ev) (hi:b.modes[i]?=some m):
 ∃ g,a=some ⟨g,0,none⟩/\b.modes.length<=cap/\w.cell? ⟨g,i,none⟩=some (.int .i64 m):=by
 have l:=(aJ.1 hi).1;obtain ⟨q,o|⟨g,f,p,e,hb,r,k,hr⟩⟩:=id h.m
 ·have:=o.2;omega
 ·simp only [Value.slice.injEq] at e
  obtain ⟨rfl,-,rfl⟩:=e;have d:=ay h.m (g:=g) (by simp [Value.ownBlock]);refine ⟨g,rfl,by omega,?_⟩;rw [d.c i,bq];simp [iL,hi]
theorem uJ {G:Nat} (h:w.ownsRow B 4 1 (.slice (some ⟨G,0,none⟩) n cap) n (iQ sn)):aD w 4 G n (eG sn):=by
 have q:=ay h (g:=G) (by simp [Value.ownBlock]);rw [Nat.mul_one] at q;have b:sn.length=n:=by have:=h.1;simpa [iQ] using this
 refine q.congr (fun j hj=>?_);have a:j<sn.length:=by omega
 simp [iQ,eG,List.getD_eq_getElem?_getD,a]
def GK (base:Nat) (b:Bk) (w:World) (e:Ending) (w':World):Prop:=∃ sn G cap,e=.returned (.slice (some ⟨G,0,none⟩) b.roots.length cap)/\FI b sn/\b.roots.length<=cap/\aD w' 4 G b.roots.length (eG sn)/\w.heap.size<=G/\Below w.heap.size w w'
end
set_option maxHeartbeats 6400000
set_option maxRecDepth 100000
section
variable {B n:Nat} {K:Act->World->Prop} {Q:Exit->Act->World->Prop} {a:Act} {v:Value} {w wr:World}
theorem F8 (w:World) (v:Value) (x:Int):aD (w.alloc (.cells #[v,.int .i64 0,.int .u64 x] 83)) 83 w.heap.size 3 (fun j=>if j=0 then v else if j=1 then .int .i64 ((0:Nat):Int) else .int .u64 x):=by
 have h:=aD.mk' w 83 #[v,.int .i64 0,.int .u64 x];refine aD.congr (show aD _ _ _ 3 _ from h) (fun j hj=>?_);have:j=0∨j=1∨j=2:=by omega
 rcases this with rfl|rfl|rfl<;>rfl
theorem iy.form {f:Nat->Nat} (h:iy B w v n f):∃ a cap,v=.slice a n cap:=by
 rcases h with ⟨rfl,a,cap,rfl⟩|⟨b,o,cap,rfl,_⟩
 ·exact ⟨a,cap,rfl⟩
 ·exact ⟨_,cap,rfl⟩
theorem Am {f:Nat->Nat} (h:iy w.heap.size w v n f) (d:n<=1048576):Calls Tryz.prog 11 #[v] w fun e w'=>e=.returned (.pointer (some ⟨w.heap.size,0,none⟩))/\Hq (DS w.heap.size w' w.heap.size v n f (0,88172645463325252+(n:Int))/\Below w.heap.size w w'):=by
 obtain ⟨a,b,rfl⟩:=h.form;have k:=ah h;have j:=ah (F8 w (.slice a n b) (88172645463325252+(n:Int)));have g:=ah (aU w (.cells #[.slice a n b,.int .i64 0,.int .u64 (88172645463325252+(n:Int))] 83));have l:IntKind.u64.wrap (88172645463325252+(n:Int))=88172645463325252+(n:Int):=lI (by omega) (by omega);have i:IntKind.u64.wrap (n:Int)=(n:Int):=lI (by omega) (by omega);have c:=ah d;clear h d;go_enter Tryz.func11,Tryz.ntmps11;go_wp2;go_ret;refine ⟨rfl,ah ⟨⟨k.o.keep (Keeps.of g.o (au _) (fun _=>False)) (au _) (fun _ e=>e.elim),c.o,au _,j.o,?_,?_,Nat.zero_le _⟩,g.o⟩⟩
 ·have:=c.o
  show (0:Int)<=88172645463325252+(n:Int);omega
 ·have:=c.o
  show 88172645463325252+(n:Int)<18446744073709551616;omega
theorem yh {f:Nat->Nat} (h:iy w.heap.size w v n f) (g:n<=1048576):Calls Tryz.prog 20 #[v,.int .i64 400] w fun e w'=>e=.returned (.int .i64 (dN n:Int))/\w'=w:=by
 obtain ⟨a,b,rfl⟩:=h.form;clear h;have hd:((n:Int).tdiv 2)=((n/2:Nat):Int):=by rw [Int.tdiv_eq_ediv_of_nonneg (by omega)];omega
 unfold dN;by_cases c:400<2+n/2
 ·rw [if_pos c]
  have d:(2+((n/2:Nat):Int) > 400):=by omega
  go_enter Tryz.func20,Tryz.ntmps20;go_wp2;go_ret;exact ⟨rfl,rfl⟩
 ·rw [if_neg c]
  have d:¬ (2+((n/2:Nat):Int) > 400):=by omega
  go_enter Tryz.func20,Tryz.ntmps20;go_wp2;go_ret;exact ⟨by simp,rfl⟩
theorem iM {o:Oper} {K:Act->World->Prop} {Q:Exit->Act->World->Prop} (x y:Operand)
 (ho:o.op=.call { callee:=.value (.func 21),args:=#[x,y],argTypes:=#[42,3] }) (c b:Value) (hx:a.eval x=c) (d:a.eval y=b) {E:Ending->World->Prop} (i:Calls Tryz.prog 21 #[c,b] w E)
 (h:∀ e w',E e w'->∃ v,e=.returned v/\K (a.put o.dst v) w'):Oper.wp Tryz.prog o a w K Q:=by
 unfold Oper.wp;have f:a.eval (.func 21)=.func (.func 21) #[] #[]:=rfl;generalize a.eval=ev at hx d f ⊢;simp [execOp,ho,resolve,invoke,hx,d,f,go_sem];refine i.mono ?_;intro e w' g;obtain ⟨v,rfl,hk⟩:=h e w' g;exact hk
theorem Ey {o:Oper} {K:Act->World->Prop} {Q:Exit->Act->World->Prop} (x:Operand)
 (ho:o.op=.call { callee:=.value (.func 22),args:=#[x],argTypes:=#[42] }) (b:Value) (hx:a.eval x=b) {E:Ending->World->Prop} (f:Calls Tryz.prog 22 #[b] w E)
 (h:∀ e w',E e w'->∃ v,e=.returned v/\K (a.put o.dst v) w'):Oper.wp Tryz.prog o a w K Q:=by
 unfold Oper.wp;have c:a.eval (.func 22)=.func (.func 22) #[] #[]:=rfl;generalize a.eval=ev at hx c ⊢;simp [execOp,ho,resolve,invoke,hx,c,go_sem];refine f.mono ?_;intro e w' d;obtain ⟨v,rfl,hk⟩:=h e w' d;exact hk
theorem fV:(Tryz.prog.info? 39).map (fun i=>(i.zero,i.size,i.bytes))=some (some (.agg #[.int .i64 0,.int .i64 0,.int .i64 0,.int .i64 0]),4,32):=by kernel_rfl
theorem nC {o:Oper} (s x:Operand)
 (ho:o.op=.call { callee:=.builtin .append,args:=#[s,x],argTypes:=#[23,23] })
 (base:Nat) (v:Value) (n:Nat) (m c:List Value) (hown:wr.ownsRow base 39 4 v n m) (C:a.eval s=v) (hx:a.eval x=.slice (some ⟨wr.heap.size,0,none⟩) 1 1) (k:c.length=4) (F:∀ u∈c,u.oneCell'=true) (y:n<=10000) (g:base<=wr.heap.size)
 (h:∀ v' w',w'.ownsRow base 39 4 v' (n+1) (m++c)->Keeps wr w' (fun b=>v.ownBlock=some b)->K (a.put o.dst v') w'):
 Oper.wp Tryz.prog o a (wr.alloc (.cells c.toArray 39)) K Q:=by
 obtain ⟨A,hi,r,q,p⟩:=info_parts fV;have hb:=aU wr (.cells c.toArray 39);have d:=aj hown (Keeps.of hb (au _) (fun _=>False)) (fun _ _ e=>e);have i:aD (wr.alloc (.cells c.toArray 39)) 39 wr.heap.size 4 (fun j=>c.toArray.getD j (.bool false)):=by
  have:=aD.mk' wr 39 c.toArray;rw [show c.toArray.size=4 from (List.size_toArray).trans k] at this;exact this
 have f:∀ j u,c[j]?=some u->(wr.alloc (.cells c.toArray 39)).cell? ((⟨wr.heap.size,0,none⟩:Addr).add j)=some u:=by
  intro j u z;have t:j<4:=by have:=(aJ.1 z).1;omega
  rw [bL];have:=i.cell (j:=j) t;rw [show (⟨wr.heap.size,0+j,none⟩:Addr)=⟨wr.heap.size,j,none⟩ by rw [Nat.zero_add],this];obtain ⟨D,rfl⟩:=aJ.1 z;simp [Array.getD,D]
 obtain ⟨v',w',hr,E,l,G⟩:=run_append_own (P:=Tryz.prog) _ base 23 o.type 39 A (.agg #[.int .i64 0,.int .i64 0,.int .i64 0,.int .i64 0]) 4 32 Tryz.underlying23 hi r q p rfl (by decide) v n m d ⟨wr.heap.size,0,none⟩ 1 1 c (by rw [k]) f F (by unfold maxLen;omega) (by omega) (aI g hb.size);unfold Oper.wp execOp;simp only [ho,resolve,invoke,builtin,Sem.run_bind,Sem.run_pure,Result.andThen_ok,List.map_toArray,List.map_cons,List.map_nil,C,hx,hr];refine h v' w' E ((Keeps.of hb (au _) _).trans ⟨l.os,l.tape,l.output,l.size,fun b hb hn=>l.block b hb (fun e=>hn e.symm)⟩)
end
section
variable {K:Act->World->Prop} {Q:Exit->Act->World->Prop} {i k' made made' n:Nat} {ov v:Value} {w w0 ws:World}
theorem xP (n:Nat):(madeCells (Value.agg #[.int .i64 0,.int .i64 0,.int .i64 0,.int .i64 0]).cells (n*4)).toList=nH (List.replicate n (0,0,0,0)):=by
 apply List.ext_getElem?;intro j;by_cases b:j<n*4
 ·have e:(List.replicate n ((0,0,0,0):dA))[j/4]?=some (0,0,0,0):=by rw [List.getElem?_replicate,if_pos (by omega)]
  have a:=zH e (j%4) (.int .i64 0) (by
   have:j%4=0∨j%4=1∨j%4=2∨j%4=3:=by omega
   rcases this with c|c|c|c<;>rw [c]<;>rfl)
  rw [show j/4*4+j%4=j by omega] at a;rw [a];have d:(madeCells (Value.agg #[.int .i64 0,.int .i64 0,.int .i64 0,.int .i64 0]).cells (n*4)).toList[j]?=some ((#[.int .i64 0,.int .i64 0,.int .i64 0,.int .i64 0]:Array Value)[j%4]!):=by
   rw [show (Value.agg #[.int .i64 0,.int .i64 0,.int .i64 0,.int .i64 0]).cells=#[.int .i64 0,.int .i64 0,.int .i64 0,.int .i64 0] from rfl];unfold madeCells;simp [b]
  rw [d];have:j%4=0∨j%4=1∨j%4=2∨j%4=3:=by omega
  rcases this with c|c|c|c<;>rw [c]<;>rfl
 ·rw [aM (by rw [Array.length_toList,size_madeCells];omega),aM (by rw [Cj,List.length_replicate];omega)]
theorem GH (w:World) (o:Obj):(w.alloc o).heap.size=w.heap.size+1:=by simp
def Gy (f:Nat->Nat) (n:Nat) (w:World) (e:Ending) (w':World):Prop:=∃ ov,e=.returned ov/\w'.ownsRow w.heap.size 39 4 ov (gQ f n).length (nH (gQ f n))/\Below w.heap.size w w'
structure DJ (w0:World) (S:Nat) (v:Value) (n:Nat) (f:Nat->Nat) (s0:Nat × Int) (i:Nat) (made:Nat) (ov:Value) (k:Nat) (ws:World):Prop where
 mm:(dI f n s0 i).2.1=made
 kk:(dI f n s0 i).1.length=k
 x:DM w0 S v n f (dI f n s0 i).2.2 ov (dI f n s0 i).1 ws
 l:k<=2*i
 bb:made<=i
theorem DJ.next {S:Nat} {f:Nat->Nat} {s0:Nat × Int} {ops o':List dA} {s s':Nat × Int} (h:dI f n s0 i=(ops,made,s)) (a:eY f n made s=(o',made',s')) (x:DM w0 S v n f s' ov (ops++o') ws) (hk:(ops++o').length=k') (c:ops.length<=2*i) (ho:o'.length<=2) (hm:made<=i) (b:made'<=made+1):DJ w0 S v n f s0 (i+1) made' ov k' ws:=by
 have e:dI f n s0 (i+1)=(ops++o',made',s'):=by
  unfold dI;rw [h];simp only [a]
 refine ⟨by rw [e],by rw [e];exact hk,by rw [e];exact x,?_,by omega⟩;rw [bI] at hk;omega
def fr (a:Option Addr) (n cap S X:Nat) (ov mv iv:Value) (A B:Int) (t:Nat->Value):Act:=
 ⟨#[.slice a n cap,undef,.slice none 0 0,.pointer (some ⟨S,0,none⟩),.int .i64 (dN n:Int),ov,mv,iv,.int .i64 A,.int .i64 B,.slice a n cap,.pointer (some ⟨S,0,none⟩),.slice a n cap,.int .i64 (dN n:Int),.pointer (some ⟨S,0,none⟩),.bool false,undef,undef,undef,undef,.slice (some ⟨X,0,none⟩) 0 0,t 21,t 22,t 23,t 24,t 25,t 26,t 27,t 28,t 29,t 30,t 31,t 32,t 33,t 34,t 35,t 36,t 37,t 38,t 39,t 40,t 41,t 42,t 43,t 44,t 45,t 46,t 47,t 48,t 49,t 50,t 51,t 52,t 53,t 54,t 55,t 56,t 57,t 58,t 59,t 60,t 61,t 62,t 63,t 64,t 65,t 66,t 67,t 68,t 69,t 70,t 71,t 72,t 73,t 74,t 75,t 76,t 77,t 78,t 79,t 80,t 81,t 82,t 83,t 84,t 85,t 86,t 87,t 88,t 89,t 90,t 91,t 92,t 93,t 94,t 95,t 96,t 97,t 98,t 99,t 100,t 101,t 102,t 103,t 104,t 105,t 106,t 107,t 108,t 109,t 110,t 111,t 112,t 113,t 114,t 115,t 116,t 117,t 118,t 119,t 120,t 121,t 122,t 123,t 124,t 125,t 126,t 127,t 128,t 129,t 130,t 131,t 132,t 133,t 134,t 135,t 136,t 137,t 138,t 139,t 140,t 141,t 142,t 143,t 144,t 145,t 146,t 147,t 148,t 149,t 150,t 151,t 152,t 153,t 154,t 155,t 156,t 157,t 158,t 159,t 160,t 161,t 162,undef],[]⟩
theorem uz {P:Program} {c:Code} {x:Act} (F:(Nat->Value)->Act) (e:x=F (fun j=>x.tmps.getD j (.bool false))) (h:∀ t,Code.wp P c Q (F t) w):Code.wp P c Q x w:=by
 have:=h (fun j=>x.tmps.getD j (.bool false));rw [<-e] at this;exact this
theorem lK {x:Act} (F:(Nat->Value)->Act) (e:x=F (fun j=>x.tmps.getD j (.bool false))) (h:∀ t,K (F t) w):K x w:=by
 have:=h (fun j=>x.tmps.getD j (.bool false));rw [<-e] at this;exact this
theorem Du {P:Program} {c:Code} {x:Act} (h:Code.wp P c (Exit.then K fun _ _ _=>False) x w) (b:∀ a w,K a w->Q .normal a w):Code.wp P c Q x w:=
 wp_mono h (by intro e a w h;cases e<;>first |exact b _ _ h|exact h.elim)
def fR (k:Nat):Code->Option Code
 | .region j o b=>if j=k then some (.region j o b) else none
 | .seq a b=>(fR k a).or (fR k b)
 | .block _ c=>fR k c
 | .scope c=>fR k c
 | .loop c=>fR k c
 | .cond _ a b=>(fR k a).or (fR k b)
 |_=>none
def fS (k:Nat):Code->Option Code
 | .seq (.region j o c) b=>if j=k then some (.seq (.region j o c) b) else fS k b
 | .seq a b=>(fS k a).or (fS k b)
 | .block _ c=>fS k c
 | .scope c=>fS k c
 | .loop c=>fS k c
 | .cond _ a b=>(fS k a).or (fS k b)
 |_=>none
noncomputable def cR (k:Nat):Code:=(Tryz.f6.body.bind (fR k)).getD .skip
noncomputable def cS (k:Nat):Code:=(Tryz.f6.body.bind (fS k)).getD .skip
structure BF (w:World) (S:Nat) (v:Value) (n:Nat) (f:Nat->Nat) (s s6:Nat × Int) (made k:Nat) (A r3 r6:Int) (ao:Option Addr) (co:Nat) (ops:List dA) (w6:World):Prop where
 hA: -10<=A/\A<=100000
 hr:0<=r3/\r3<=100000
 hm:made<=800
 hk:k<=1600
 kl:ops.length=k
 st:eY f n made s=dK f n made A (1+r3) r6 s6
 x:DM w S v n f s6 (.slice ao k co) ops w6
def TR (w:World) (S:Nat) (v:Value) (n:Nat) (f:Nat->Nat) (s:Nat × Int) (made:Nat) (ops o':List dA) (m':Nat) (s':Nat × Int) (k':Nat) (ov:Value) (w':World):Prop:=
 eY f n made s=(o',m',s')/\(ops++o').length=k'/\o'.length<=2/\m'<=made+1/\DM w S v n f s' ov (ops++o') w'
end
end Go.Proofs.YtbpcdfbmnklcjaaGreatDoor
