import Derived.Test.YtbpcdfbmnklcjaaGreatDoorKJJ
import Derived.Deep.LoopGhost
import Derived.Deep.QuietTactic
import Derived.Test.YtbpcdfbmnklcjaaGreatDoorKJS5
namespace Go.Proofs.YtbpcdfbmnklcjaaGreatDoor
open Go Go.RowKit
set_option linter.unusedVariables false
section
variable {B P base cap i j n:Nat} {ev rv:Value} {sn sn0:List Bool} {w:World}
structure Sn (b:Bk) (sn:List Bool):Prop where
 l:sn.length=b.roots.length
 r:∀ n:Nat,b.roots[n]?=some true->sn[n]?=some true
 c:∀ n:Nat,sn[n]?=some true->b.Rc n
def yO (b:Bk) (sn:List Bool) (e:Ed):Prop:=sn[e.t]?=some true->e.val≠0->∀ m,b.modes[e.t]?=some m->(e.ob=true->m=0->sn[e.key]?=some true)/\(m<2->m=0∨e.ob=false∨sn[e.key]?=some true->sn[e.val]?=some true)
def Fb (b:Bk) (sn:List Bool):Prop:=Sn b sn/\∀ e∈b.edges,yO b sn e
theorem Fb.iff {b:Bk} (h:Fb b sn) (n:Nat):sn[n]?=some true↔b.Rc n:=by
 constructor
 ·exact h.1.c n
 ·intro r
  exact r (fun n:Nat=>sn[n]?=some true) ⟨h.1.r,fun e he ht hv m hm=>h.2 e he ht hv m hm⟩
structure Ml (b:Bk) (sn0 sn:List Bool) (j:Nat) (ag:Bool):Prop where
 s:Sn b sn
 f:ag=false->sn=sn0/\∀ (q:Nat) (e:Ed),q<j->b.edges[q]?=some e->yO b sn e
 t:ag=true->sn.count false<sn0.count false
theorem vI {r:Nat} (h:sn[r]?=some false):(sn.set r true).count false<sn.count false:=by
 induction sn generalizing r with
 |nil=>cases h
 |cons a l ih=>
  rcases r with _|r
  ·obtain rfl:a=false:=by simpa using h
   simp
  ·have:=ih (show l[r]?=some false from h)
   show ((a::l.set r true).count false)<_;rw [List.count_cons,List.count_cons];omega
theorem Ml.set {b:Bk} {sn0 sn:List Bool} {j r:Nat} {ag:Bool} (x:Ml b sn0 sn j ag) (h:sn[r]?=some false) (hr:b.Rc r):Ml b sn0 (sn.set r true) j true:=by
 have d:r<sn.length:=(aJ.1 h).1;refine ⟨⟨by rw [bN];exact x.s.l,fun n hn=>?_,fun n hn=>?_⟩,fun c=>(by cases c),fun _=>?_⟩
 ·rw [bY]
  split
  ·simp
  ·exact x.s.r n hn
 ·rw [bY] at hn
  split at hn
  ·rename_i c;rw [<-c];exact hr
  ·exact x.s.c n hn
 ·have a:=vI h
  cases hag:ag with
  |false=>rw [<-(x.f hag).1];exact a
  |true=>have:=x.t hag;omega
theorem Ml.go {b:Bk} (x:Ml b sn0 sn j true):Ml b sn0 sn (j+1) true:=⟨x.s,fun c=>(by cases c),x.t⟩
theorem Ml.no {b:Bk} {ag:Bool} {e:Ed} (x:Ml b sn0 sn j ag) (a:b.edges[j]?=some e) (h:yO b sn e):Ml b sn0 sn (j+1) ag:=by
 refine ⟨x.s,fun c=>⟨(x.f c).1,fun q e' hq he'=>?_⟩,x.t⟩;by_cases d:q<j
 ·exact (x.f c).2 q e' d he'
 ·obtain rfl:q=j:=by omega
  rw [a] at he';cases he';exact h
theorem DW {b:Bk} {e:Ed} (f:e∈b.edges) (d:b.Rc e.t) (a:e.val≠0) (hm:b.modes[e.t]?=some 0) (ho:e.ob=true):b.Rc e.key:=fun S c=>(c.2 e f (d S c) a 0 hm).1 ho rfl
theorem nG {b:Bk} {e:Ed} (g:e∈b.edges) (f:b.Rc e.t) (a:e.val≠0) {m:Int} (hm:b.modes[e.t]?=some m) (h:m<2) (ho:m=0∨e.ob=false∨b.Rc e.key):b.Rc e.val:=fun S c=>(c.2 e g (f S c) a m hm).2 h (ho.imp id (fun d=>d.imp id (fun r=>r S c)))
theorem kg {v:Bool} (a:n<sn.length) (h:sn.getD n false=v):sn[n]?=some v:=by
 rw [bq,aN a] at h;rw [aN a]
 simpa using h
structure Mj (base:Nat) (w:World) (P:Nat) (b:Bk) (mv rv ev:Value) (G:Nat) (sn:List Bool) (ws:World):Prop where
 k:Mf base ws P b mv rv ev
 r:aD ws 4 G b.roots.length (eG sn)
 b:Below w.heap.size w ws
 g:w.heap.size<=G
theorem Mj.low {base P G:Nat} {w ws ws':World} {b:Bk} {mv rv ev:Value} {sn:List Bool} (x:Mj base w P b mv rv ev G sn ws) (h:Below ws.heap.size ws ws'):Mj base w P b mv rv ev G sn ws':=
 ⟨x.k.low h,x.r.low h x.r.lt,x.b.trans (h.mono x.b.size),x.g⟩
theorem Mj.set {base P G r:Nat} {w ws:World} {b:Bk} {mv rv ev:Value} {sn:List Bool} (x:Mj base w P b mv rv ev G sn ws) (a:∀ g,Zk P mv rv ev g->g<w.heap.size) (d:sn.length=b.roots.length) (hr:r<b.roots.length):Mj base w P b mv rv ev G (sn.set r true) (ws.setCell ⟨G,r,none⟩ (.bool true)):=by
 have k:Keeps ws (ws.setCell ⟨G,r,none⟩ (.bool true)) (fun q=>q=G):=Keeps.setCell (S:=fun q=>q=G) (Keeps.refl ws _) rfl _;exact ⟨x.k.keep k (fun g e c=>by have:=a g c;have:=x.g;omega),(x.r.set (j:=r) hr (.bool true)).congr (fun q _=>tF (by omega) q),x.b.trans (k.below x.b.size (fun q e=>by rw [e];exact x.g)),x.g⟩
theorem Mf.md {b:Bk} {a:Option Addr} {m:Int} (h:Mf base w P b (.slice a b.modes.length cap) rv ev) (hi:b.modes[i]?=some m):
 ∃ g,a=some ⟨g,0,none⟩/\b.modes.length<=cap/\w.cell? ⟨g,i,none⟩=some (.int .i64 m):=by
 have l:=(aJ.1 hi).1;obtain ⟨q,o|⟨g,f,p,e,hb,r,k,hr⟩⟩:=id h.m
 ·have:=o.2;omega
 ·simp only [Value.slice.injEq] at e
  obtain ⟨rfl,-,rfl⟩:=e;have d:=ay h.m (g:=g) (by simp [Value.ownBlock]);refine ⟨g,rfl,by omega,?_⟩;rw [d.c i,bq];simp [iL,hi]
theorem uF {G:Nat} (h:w.ownsRow B 4 1 (.slice (some ⟨G,0,none⟩) n cap) n (iZ sn)):aD w 4 G n (eG sn):=by
 have q:=ay h (g:=G) (by simp [Value.ownBlock]);rw [Nat.mul_one] at q;have b:sn.length=n:=by have:=h.1;simpa [iZ] using this
 refine q.congr (fun j hj=>?_);have a:j<sn.length:=by omega
 simp [iZ,eG,bq,a]
def GR (base:Nat) (b:Bk) (w:World) (e:Ending) (w':World):Prop:=∃ sn G cap,e=.returned (.slice (some ⟨G,0,none⟩) b.roots.length cap)/\Fb b sn/\b.roots.length<=cap/\aD w' 4 G b.roots.length (eG sn)/\w.heap.size<=G/\Below w.heap.size w w'
end
section
variable {K:Act->World->Prop} {Q:Exit->Act->World->Prop} {i k' made made' n:Nat} {ov v:Value} {w w0 ws:World}
theorem yx (n:Nat):(madeCells (Value.agg #[.int .i64 0,.int .i64 0,.int .i64 0,.int .i64 0]).cells (n*4)).toList=oC (List.replicate n (0,0,0,0)):=by
 apply List.ext_getElem?;intro j;by_cases b:j<n*4
 ·have e:(List.replicate n ((0,0,0,0):dA))[j/4]?=some (0,0,0,0):=by rw [List.getElem?_replicate,if_pos (by omega)]
  have a:=Al e (j%4) (.int .i64 0) (by
   have:j%4=0∨j%4=1∨j%4=2∨j%4=3:=by omega
   rcases this with c|c|c|c<;>rw [c]<;>rfl)
  rw [show j/4*4+j%4=j by omega] at a;rw [a];have d:(madeCells (Value.agg #[.int .i64 0,.int .i64 0,.int .i64 0,.int .i64 0]).cells (n*4)).toList[j]?=some ((#[.int .i64 0,.int .i64 0,.int .i64 0,.int .i64 0]:Array Value)[j%4]!):=by
   rw [show (Value.agg #[.int .i64 0,.int .i64 0,.int .i64 0,.int .i64 0]).cells=#[.int .i64 0,.int .i64 0,.int .i64 0,.int .i64 0] from rfl];unfold madeCells;simp [b]
  rw [d];have:j%4=0∨j%4=1∨j%4=2∨j%4=3:=by omega
  rcases this with c|c|c|c<;>rw [c]<;>rfl
 ·rw [fD (by rw [Array.length_toList,size_madeCells];omega),fD (by rw [BZ,List.length_replicate];omega)]
theorem Gv (w:World) (o:Obj):(w.alloc o).heap.size=w.heap.size+1:=by simp
def Gz (f:Nat->Nat) (n:Nat) (w:World) (e:Ending) (w':World):Prop:=∃ ov,e=.returned ov/\w'.ownsRow w.heap.size 39 4 ov (gV f n).length (oC (gV f n))/\Below w.heap.size w w'
structure DJ (w0:World) (S:Nat) (v:Value) (n:Nat) (f:Nat->Nat) (s0:Nat × Int) (i:Nat) (made:Nat) (ov:Value) (k:Nat) (ws:World):Prop where
 mm:(dI f n s0 i).2.1=made
 kk:(dI f n s0 i).1.length=k
 x:DM w0 S v n f (dI f n s0 i).2.2 ov (dI f n s0 i).1 ws
 l:k<=2*i
 bb:made<=i
theorem DJ.next {S:Nat} {f:Nat->Nat} {s0:Nat × Int} {ops o':List dA} {s s':Nat × Int} (h:dI f n s0 i=(ops,made,s)) (a:eY f n made s=(o',made',s')) (x:DM w0 S v n f s' ov (ops++o') ws) (hk:(ops++o').length=k') (c:ops.length<=2*i) (ho:o'.length<=2) (hm:made<=i) (b:made'<=made+1):DJ w0 S v n f s0 (i+1) made' ov k' ws:=by
 have e:dI f n s0 (i+1)=(ops++o',made',s'):=by
  unfold dI;rw [h];simp only [a]
 refine ⟨by rw [e],by rw [e];exact hk,by rw [e];exact x,?_,by omega⟩;rw [aT] at hk;omega
def fr (a:Option Addr) (n cap S X:Nat) (ov mv iv:Value) (A B:Int) (t:Nat->Value):Act:=
 ⟨#[.slice a n cap,undef,.slice none 0 0,.pointer (some ⟨S,0,none⟩),.int .i64 (dN n:Int),ov,mv,iv,.int .i64 A,.int .i64 B,.slice a n cap,.pointer (some ⟨S,0,none⟩),.slice a n cap,.int .i64 (dN n:Int),.pointer (some ⟨S,0,none⟩),.bool false,undef,undef,undef,undef,.slice (some ⟨X,0,none⟩) 0 0,t 21,t 22,t 23,t 24,t 25,t 26,t 27,t 28,t 29,t 30,t 31,t 32,t 33,t 34,t 35,t 36,t 37,t 38,t 39,t 40,t 41,t 42,t 43,t 44,t 45,t 46,t 47,t 48,t 49,t 50,t 51,t 52,t 53,t 54,t 55,t 56,t 57,t 58,t 59,t 60,t 61,t 62,t 63,t 64,t 65,t 66,t 67,t 68,t 69,t 70,t 71,t 72,t 73,t 74,t 75,t 76,t 77,t 78,t 79,t 80,t 81,t 82,t 83,t 84,t 85,t 86,t 87,t 88,t 89,t 90,t 91,t 92,t 93,t 94,t 95,t 96,t 97,t 98,t 99,t 100,t 101,t 102,t 103,t 104,t 105,t 106,t 107,t 108,t 109,t 110,t 111,t 112,t 113,t 114,t 115,t 116,t 117,t 118,t 119,t 120,t 121,t 122,t 123,t 124,t 125,t 126,t 127,t 128,t 129,t 130,t 131,t 132,t 133,t 134,t 135,t 136,t 137,t 138,t 139,t 140,t 141,t 142,t 143,t 144,t 145,t 146,t 147,t 148,t 149,t 150,t 151,t 152,t 153,t 154,t 155,t 156,t 157,t 158,t 159,t 160,t 161,t 162,undef],[]⟩
theorem uy {P:Program} {c:Code} {x:Act} (F:(Nat->Value)->Act) (e:x=F (fun j=>x.tmps.getD j (.bool false))) (h:∀ t,Code.wp P c Q (F t) w):Code.wp P c Q x w:=by
 have:=h (fun j=>x.tmps.getD j (.bool false));rw [<-e] at this;exact this
theorem lV {x:Act} (F:(Nat->Value)->Act) (e:x=F (fun j=>x.tmps.getD j (.bool false))) (h:∀ t,K (F t) w):K x w:=by
 have:=h (fun j=>x.tmps.getD j (.bool false));rw [<-e] at this;exact this
theorem DC {P:Program} {c:Code} {x:Act} (h:Code.wp P c (Exit.then K fun _ _ _=>False) x w) (b:∀ a w,K a w->Q .normal a w):Code.wp P c Q x w:=
 wp_mono h (by intro e a w h;cases e<;>first |exact b _ _ h|exact h.elim)
def fR (k:Nat):Code->Option Code
 | .region j o b=>if j=k then some (.region j o b) else none
 | .seq a b=>(fR k a).or (fR k b)
 | .block _ c=>fR k c
 | .scope c=>fR k c
 | .loop c=>fR k c
 | .cond _ a b=>(fR k a).or (fR k b)
 |_=>none
def fS (k:Nat):Code->Option Code
 | .seq (.region j o c) b=>if j=k then some (.seq (.region j o c) b) else fS k b
 | .seq a b=>(fS k a).or (fS k b)
 | .block _ c=>fS k c
 | .scope c=>fS k c
 | .loop c=>fS k c
 | .cond _ a b=>(fS k a).or (fS k b)
 |_=>none
noncomputable def cR (k:Nat):Code:=(Tryz.f6.body.bind (fR k)).getD .skip
noncomputable def cS (k:Nat):Code:=(Tryz.f6.body.bind (fS k)).getD .skip
structure BF (w:World) (S:Nat) (v:Value) (n:Nat) (f:Nat->Nat) (s s6:Nat × Int) (made k:Nat) (A r3 r6:Int) (ao:Option Addr) (co:Nat) (ops:List dA) (w6:World):Prop where
 hA: -10<=A/\A<=100000
 hr:0<=r3/\r3<=100000
 hm:made<=800
 hk:k<=1600
 kl:ops.length=k
 st:eY f n made s=dK f n made A (1+r3) r6 s6
 x:DM w S v n f s6 (.slice ao k co) ops w6
def TR (w:World) (S:Nat) (v:Value) (n:Nat) (f:Nat->Nat) (s:Nat × Int) (made:Nat) (ops o':List dA) (m':Nat) (s':Nat × Int) (k':Nat) (ov:Value) (w':World):Prop:=
 eY f n made s=(o',m',s')/\(ops++o').length=k'/\o'.length<=2/\m'<=made+1/\DM w S v n f s' ov (ops++o') w'
end
end Go.Proofs.YtbpcdfbmnklcjaaGreatDoor
