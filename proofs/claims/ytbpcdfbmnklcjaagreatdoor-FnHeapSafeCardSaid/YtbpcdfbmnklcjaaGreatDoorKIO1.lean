import Derived.Test.YtbpcdfbmnklcjaaGreatDoorKHXB
import Derived.Test.YtbpcdfbmnklcjaaGreatDoorKHZQ
import Derived.Test.YtbpcdfbmnklcjaaGreatDoorKHWG
import Derived.Test.YtbpcdfbmnklcjaaGreatDoorKHZD
import Derived.Test.YtbpcdfbmnklcjaaGreatDoorKIO0
import Derived.Deep.Slices
import Derived.Lib.SmallJoins
namespace Go.Proofs.YtbpcdfbmnklcjaaGreatDoor
open Go Go.RowKit
set_option maxHeartbeats 6400000
set_option maxRecDepth 100000
set_option linter.unusedVariables false
def qW (X:Nat):SM:=⟨X+2,.slice (some ⟨X+1,0,none⟩) 1 1,fun _=>X,fun _=>.slice none 0 0,fun _=>.slice none 0 0,.slice none 0 0⟩
theorem mG (n:Nat):Hp.new.ob n=none:=by
 simp only [Hp.ob,Hp.new];cases n<;>rfl
def mX:Array Value:=#[.int .i64 0,.int .i64 0,.bool true,.int .i64 0,.int .i64 0,.slice none 0 0,.slice none 0 0,.int .i64 0,.int .i64 0,.slice none 0 0,.pointer none,.int .i64 0,.int .i64 0,.int .u64 0,.string { data:=#[] },.int .i64 0,.int .i64 0,.int .i64 0,.int .i64 0,.pointer none,.pointer none,.int .i64 0,.bool false,.pointer none,.pointer none]
def vE (X:Nat):Array Value:=#[.slice (some ⟨X+1,0,none⟩) 1 1,.int .i64 0,.int .i64 0,.int .i64 4096,.int .i64 0,.int .i64 0,.int .i64 0,.slice none 0 0,.slice none 0 0,.slice none 0 0,.slice none 0 0,.slice none 0 0,.slice none 0 0,.slice none 0 0,.int .i64 0,.slice none 0 0,.bool false,.int .i64 64]
theorem Ci (w:World):MW w.heap.size (fun b=>w.heap.size<=b) Hp.new (qW w.heap.size) (((w.alloc (.cells mX 101)).alloc (.cells #[.pointer (some ⟨w.heap.size,0,none⟩)] 90)).alloc (.cells (vE w.heap.size) 105)):=by
 have e1:(w.alloc (.cells mX 101)).heap.size=w.heap.size+1:=bM _;have l:((w.alloc (.cells mX 101)).alloc (.cells #[.pointer (some ⟨w.heap.size,0,none⟩)] 90)).heap.size=w.heap.size+2:=by rw [show ((w.alloc (.cells mX 101)).alloc (.cells #[.pointer (some ⟨w.heap.size,0,none⟩)] 90)).heap.size=_ from bM _,e1]
 have r0:=aD.mk' w 101 mX;have q:=heap_alloc_new (w.alloc (.cells mX 101)) (.cells #[.pointer (some ⟨w.heap.size,0,none⟩)] 90);have p:=aD.mk' ((w.alloc (.cells mX 101)).alloc (.cells #[.pointer (some ⟨w.heap.size,0,none⟩)] 90)) 105 (vE w.heap.size);rw [l] at p;rw [e1] at q;have b2:=aU ((w.alloc (.cells mX 101)).alloc (.cells #[.pointer (some ⟨w.heap.size,0,none⟩)] 90)) (.cells (vE w.heap.size) 105);have b1:=aU (w.alloc (.cells mX 101)) (.cells #[.pointer (some ⟨w.heap.size,0,none⟩)] 90);have d:=b1.trans (b2.mono (by rw [e1,l];omega));have h:=r0.low d (by rw [e1];omega);have f:=(b2.block (w.heap.size+1) (by rw [l];omega)).trans q;have a:=d.size;refine ⟨?_,?_,fun n o e=>?_,fun n hn e=>?_,fun n o e=>?_,fun k hk=>?_,⟨rfl,.inl ⟨rfl,rfl⟩⟩,fun n m hn hm e=>?_,fun n m o o' g e=>?_,fun k k' g hk hk' e=>?_,?_,fun n hn=>?_,?_,?_,fun n hn=>?_,fun g e=>?_,fun n o g e=>?_,fun k g hk e=>?_,fun g e=>?_,fun b hb=>?_⟩
 ·exact aD.congr (show aD _ _ _ 18 _ from p) (bV _ rfl rfl rfl rfl rfl rfl rfl rfl rfl rfl rfl rfl rfl rfl rfl rfl rfl rfl)
 ·refine ⟨rfl,.inr ⟨w.heap.size+1,1,_,rfl,by omega,f,by decide,by decide,rfl,rfl⟩⟩
 ·rw [mG] at e;cases e
 ·have i:n=0:=by
   have:n<1:=hn;omega
  subst i;refine ⟨fun j=>mX.getD j (.bool false),0,rfl,aD.congr (show aD _ _ _ 25 _ from h) (fun j hj=>?_)⟩;unfold kY;by_cases x:j=0
  ·subst x;rfl
  by_cases v:j=1
  ·subst v;rfl
  by_cases u:j=2
  ·subst u;rfl
  by_cases t:j=3
  ·subst t;rfl
  by_cases s:j=4
  ·subst s;rfl
  by_cases r:j=5
  ·subst r;rfl
  by_cases c:j=22
  ·subst c;rfl
  simp [x,v,u,t,s,r,c]
 ·rw [mG] at e;cases e
 ·have:h_ Hp.new k=[]:=by rcases hk with rfl|rfl|rfl|rfl|rfl|rfl|rfl<;>rfl
  rw [this];exact ⟨rfl,.inl ⟨rfl,rfl⟩⟩
 ·have z:n<1:=hn
  have y:m<1:=hm;omega
 ·rw [mG] at e;cases e
 ·simp [qW,Value.ownBlock] at e
 ·show w.heap.size<=w.heap.size+2;omega
 ·exact au _
 ·rw [e1] at a;omega
 ·show w.heap.size<=w.heap.size+2;omega
 ·exact au _
 ·simp [qW,Value.ownBlock] at e;omega
 ·rw [mG] at e;cases e
 ·simp [qW,Value.ownBlock] at e
 ·simp [qW,Value.ownBlock] at e
 ·rw [e1] at a;omega
theorem Cy (w:World):Calls Tryz.prog 23 #[] w fun e w'=>e=.returned (.pointer (some ⟨w.heap.size+2,0,none⟩))/\MW w.heap.size (fun b=>w.heap.size<=b) Hp.new (qW w.heap.size) w'/\Below w.heap.size w w':=by
 have a:=ah (Ci w);have c:=ah (Gw w (.cells mX 101) (.cells #[.pointer (some ⟨w.heap.size,0,none⟩)] 90) (.cells (vE w.heap.size) 105));unfold mX vE at a c;go_enter Tryz.func23,Tryz.ntmps23;go_wp2;go_ret;exact ⟨rfl,a.o,c.o⟩
section
variable {O R j:Nat} {S S':Nat->Prop} {al:List An} {av fv rv rv' v':Value} {fs:List Value} {w' w0 w5 ws:World}
abbrev dA:=Int × Int × Int × Int
noncomputable def pX (p:List An × Rn) (o:dA):List An × Rn:=(p.1++[(cK p.2 o.1 o.2.1 o.2.2.1 o.2.2.2).1],(cK p.2 o.1 o.2.1 o.2.2.1 o.2.2.2).2)
noncomputable def cZ (ops:List dA):List An × Rn:=ops.foldl pX ([],⟨Hp.new,[false],0⟩)
theorem Am:cZ []=([],⟨Hp.new,[false],0⟩):=rfl
theorem xE (l:List dA) (o:dA):cZ (l++[o])=pX (cZ l) o:=by unfold cZ;rw [List.foldl_append];rfl
theorem fF {l:List dA} {o:dA} (h:l[j]?=some o):cZ (l.take (j+1))=pX (cZ (l.take j)) o:=by
 rw [List.take_add_one,h,Option.toList_some,xE]
theorem Gd.new:Gd Hp.new:=by
 have a:mg Hp.new:=⟨rfl,rfl⟩
 refine ⟨Inv.new,Sm.of Inv.new a Bd.new (by omega) rfl (by decide),a,fun _=>⟨rfl,rfl,rfl,rfl⟩⟩
theorem Rn.Lb:Rn.Ok 0 ⟨Hp.new,[false],0⟩:=⟨Gd.new,Bd.new,rfl,rfl,rfl,.inl rfl⟩
theorem kr (l:List dA):∀ j,j<=l.length->j<=5000->(cZ (l.take j)).2.Ok j/\(cZ (l.take j)).1.length=j
 |0,_,_=>⟨by rw [List.take_zero];exact Rn.Lb,by rw [List.take_zero];rfl⟩
 |j+1,h1,h2=>by
  obtain ⟨a,b⟩:=kr l j (by omega) (by omega);have c:l[j]?=some l[j]:=aN (by omega);rw [fF c];unfold pX;exact ⟨qV a h2 _ _ _ _,by simp [b]⟩
def tH (al:List An) (fs:List Value):List Value:=(al.zip fs).flatMap fun p=>mO p.1 p.2
theorem uf (h:fs.length=al.length) (a:An) (f:Value):tH (al++[a]) (fs++[f])=tH al fs++mO a f:=by
 unfold tH;rw [List.zip_append (by rw [h])];simp
theorem RW.keep {base:Nat} {S:Nat->Prop} {h:Hp} {L:SM} {R hand:Nat} {rv:Value} {root:List Bool} {w w':World} {T:Nat->Prop} (x:RW base S h L R hand rv root w) (k:Keeps w w' T) (c:∀ b,T b->¬ Zs S R rv b):RW base S h L R hand rv root w':=
 ⟨⟨x.x.a.out (k.mono (fun b e y=>c b e (.inl y))),x.x.r.keep k (fun e=>c R e (.inr (.inl rfl))),aj x.x.v k (fun g hg e=>c g e (.inr (.inr hg))),x.x.l,x.x.o⟩,x.nR,x.nb,x.r0⟩
structure HI (w0:World) (R O:Nat) (al:List An) (fs:List Value) (r:Rn) (av:Value) (S:Nat->Prop) (L:SM) (rv:Value) (ws:World):Prop where
 x:RW w0.heap.size S r.h L R r.hand rv r.root ws
 o:aD ws 27 O 2 (fun j=>if j=0 then .int .i64 0 else av)
 a:ws.ownsRow w0.heap.size 36 7 av al.length (tH al fs)
 fl:fs.length=al.length
 f:∀ (i:Nat) (b:An) (f:Value),al[i]?=some b->fs[i]?=some f->ws.ownsRow w0.heap.size 3 1 f b.freed.length (dZ b.freed)
 nO:¬ Zs S R rv O
 na:∀ g,av.ownBlock=some g->¬ Zs S R rv g
 nf:∀ f∈fs,∀ g,f.ownBlock=some g->¬ Zs S R rv g
 hb:Below w0.heap.size w0 ws
 bO:w0.heap.size<=O
 bR:w0.heap.size<=R
 bS:∀ b,S b->w0.heap.size<=b
 bv:∀ g,rv.ownBlock=some g->w0.heap.size<=g
theorem HI.zs {r:Rn} {L:SM} (x:HI w0 R O al fs r av S L rv ws):∀ b,Zs S R rv b->w0.heap.size<=b:=by
 rintro b (e|e|e)
 ·exact x.bS b e
 ·rw [e];exact x.bR
 ·exact x.bv b e
theorem HI.low {w0:World} {R O:Nat} {al:List An} {fs:List Value} {r:Rn} {av:Value} {S:Nat->Prop} {L:SM} {rv:Value} {ws ws':World} (x:HI w0 R O al fs r av S L rv ws) (b:Below ws.heap.size ws ws'):HI w0 R O al fs r av S L rv ws':=by
 have k:=Keeps.of b (au _) (fun _=>False);exact ⟨x.x.low b,x.o.keep k (fun y=>y),aj x.a k (fun _ _ y=>y),x.fl,fun i a f h1 h2=>aj (x.f i a f h1 h2) k (fun _ _ y=>y),x.nO,x.na,x.nf,x.hb.trans (b.mono x.hb.size),x.bO,x.bR,x.bS,x.bv⟩
theorem HI.hole {w0:World} {R O:Nat} {al:List An} {fs:List Value} {r:Rn} {av:Value} {S:Nat->Prop} {L:SM} {rv:Value} {ws:World} (x:HI w0 R O al fs r av S L rv ws) (o:Obj):HI w0 R O al fs r av (fun b=>S b/\b≠ws.heap.size) L rv (ws.alloc o):=by
 have y:=x.low (aU ws o);have c:∀ b,Zs (fun b=>S b/\b≠ws.heap.size) R rv b->Zs S R rv b:=by
  rintro b (e|e|e)
  ·exact .inl e.1
  ·exact .inr (.inl e)
  ·exact .inr (.inr e)
 exact ⟨x.x.hole o,y.o,y.a,y.fl,y.f,fun e=>x.nO (c _ e),fun g hg e=>x.na g hg (c _ e),fun f hf g hg e=>x.nf f hf g hg (c _ e),y.hb,y.bO,y.bR,fun b e=>x.bS b e.1,y.bv⟩
theorem HI.one {r r':Rn} {L:SM} (x:HI w0 R O al fs r av S L rv ws) {a:An} {L':SM} 
 (c:w5.ownsRow ws.heap.size 3 1 fv a.freed.length (dZ a.freed)) (kk:Keeps ws w5 (Zs S R rv)) (k:RW w0.heap.size S' r'.h L' R r'.hand rv' r'.root w5) (m:∀ b,S' b->S b) (l:∀ g,rv'.ownBlock=some g->rv.ownBlock=some g∨S g) (n:∀ g,fv.ownBlock=some g->¬ S' g):
 HI w0 R O al fs r' av S' L' rv' w5/\w5.ownsRow w0.heap.size 3 1 fv a.freed.length (dZ a.freed)/\∀ g,fv.ownBlock=some g->¬ Zs S' R rv' g:=by
 have d:∀ b,Zs S' R rv' b->Zs S R rv b:=by
  rintro b (e|e|e)
  ·exact .inl (m b e)
  ·exact .inr (.inl e)
  ·rcases l b e with y|y
   ·exact .inr (.inr y)
   ·exact .inl y
 refine ⟨⟨k,x.o.keep kk x.nO,aj x.a kk x.na,x.fl,fun i a f h1 h2=>aj (x.f i a f h1 h2) kk (x.nf f (aW h2)),fun e=>x.nO (d _ e),fun g hg e=>x.na g hg (d _ e),fun f c g hg e=>x.nf f c g hg (d _ e),x.hb.trans (kk.below x.hb.size x.zs),x.bO,x.bR,fun b e=>x.bS b (m b e),fun g e=>?_⟩,iq c x.hb.size,fun g hg e=>?_⟩
 ·rcases l g e with y|y
  ·exact x.bv g y
  ·exact x.bS g y
 ·rcases e with e|e|e
  ·exact n g hg e
  ·exact ak c k.x.r (by decide) (e ▸ hg)
  ·exact aV c k.x.v (by decide) e hg
theorem HI.app {r:Rn} {L:SM} (x:HI w0 R O al fs r av S L rv w5) {a:An} (A:w5.ownsRow w0.heap.size 3 1 fv a.freed.length (dZ a.freed)) (u:∀ g,fv.ownBlock=some g->¬ Zs S R rv g)
 (m:w'.ownsRow w0.heap.size 36 7 v' (al.length+1) (tH al fs++mO a fv)) (k:Keeps w5 w' (fun b=>av.ownBlock=some b)) (t:∀ g,v'.ownBlock=some g->av.ownBlock=some g∨w5.heap.size<=g):
 aD w' 27 O 2 (fun j=>if j=0 then .int .i64 0 else av)/\HI w0 R O (al++[a]) (fs++[fv]) r v' (fun b=>S b/\v'.ownBlock≠some b) L rv (w'.setCell ⟨O,1,none⟩ v'):=by
 have ho:aD w' 27 O 2 (fun j=>if j=0 then .int .i64 0 else av):=x.o.keep k (fun e=>ak x.a x.o (by decide) e);have z:Keeps w' (w'.setCell ⟨O,1,none⟩ v') (fun b=>b=O):=Keeps.setCell (S:=fun b=>b=O) (Keeps.refl w' _) rfl _;have q:Keeps w5 (w'.setCell ⟨O,1,none⟩ v') (fun b=>av.ownBlock=some b∨b=O):=(k.mono (fun b e=>Or.inl e)).trans (z.mono (fun b e=>Or.inr e));have d:(w'.setCell ⟨O,1,none⟩ v').ownsRow w0.heap.size 36 7 v' (al.length+1) (tH al fs++mO a fv):=aj m z (fun g hg e=>ak m ho (by decide) (e ▸ hg));have w:RW w0.heap.size S r.h L R r.hand rv r.root (w'.setCell ⟨O,1,none⟩ v'):=x.x.keep q (fun b e=>by
  rcases e with e|e
  ·exact x.na b e
  ·rw [e];exact x.nO)
 have n:(al++[a]).length=al.length+1:=by simp
 have s:∀ b,Zs (fun b=>S b/\v'.ownBlock≠some b) R rv b->Zs S R rv b:=by
  rintro b (e|e|e)
  ·exact .inl e.1
  ·exact .inr (.inl e)
  ·exact .inr (.inr e)
 have p:∀ {f:Value} {l:List Nat},w5.ownsRow w0.heap.size 3 1 f l.length (dZ l)->(w'.setCell ⟨O,1,none⟩ v').ownsRow w0.heap.size 3 1 f l.length (dZ l):=fun h=>aj h q (fun g hg e=>by
  rcases e with e|e
  ·exact aV h x.a (by decide) e hg
  ·exact ak h x.o (by decide) (e ▸ hg))
 refine ⟨ho,w.less v' (fun g hg=>⟨?_,(ay d hg).lt⟩),?_,?_,by simp [x.fl],fun i b f h1 h2=>?_,fun e=>x.nO (s _ e),fun g hg e=>?_,fun f hf' g hg e=>?_,?_,x.bO,x.bR,fun b e=>x.bS b e.1,x.bv⟩
 ·rcases t g hg with y|y
  ·exact x.x.x.a.free (fun e=>x.na g y (.inl e))
  ·exact x.x.x.a.past y
 ·refine (ho.set (j:=1) (by omega) v').congr (fun j hj=>?_)
  have:j=0∨j=1:=by omega
  rcases this with rfl|rfl<;>rfl
 ·rw [n,uf x.fl]
  exact d
 ·by_cases c:i<al.length
  ·rw [dF c] at h1
   rw [dF (by rw [x.fl];exact c)] at h2;exact p (x.f i b f h1 h2)
  ·have hi:i=al.length:=by
    have:=(aJ.1 h1).1;rw [n] at this;omega
   subst hi;simp at h1;rw [<-x.fl] at h2;simp at h2;subst h1;subst h2;exact p A
 ·rcases e with e|e|e
  ·exact e.2 hg
  ·exact ak m (x.x.x.r.keep k (fun e=>ak x.a x.x.x.r (by decide) e)) (by decide) (e ▸ hg)
  ·exact aV m (aj x.x.x.v k (fun g hg e=>aV x.x.x.v x.a (by decide) e hg)) (by decide) e hg
 ·rcases aY.1 hf' with y|y
  ·exact x.nf f y g hg (s _ e)
  ·simp at y
   subst y;exact u g hg (s _ e)
 ·refine x.hb.trans (q.below x.hb.size (fun b e=>?_))
  rcases e with e|e
  ·exact (x.a.lt b e).1
  ·rw [e];exact x.bO
theorem Ar:(Tryz.prog.info? 36).map (fun i=>(i.zero,i.size,i.bytes))=some (some (.agg #[.int .i64 0,.int .i64 0,.int .i64 0,.int .i64 0,.int .i64 0,.int .i64 0,.slice none 0 0]),7,72):=by kernel_rfl
end
section
variable {P base i:Nat} {b:Bk} {ev mv rv:Value} {w w':World}
def iL (l:List Int):List Value:=l.map (fun x=>.int .i64 x)
def uD (e:Ed):List Value:=[.int .i64 (e.t:Int),.int .i64 e.num,.int .i64 (e.key:Int),.int .i64 (e.val:Int),.bool e.ob]
def u_ (l:List Ed):List Value:=l.flatMap uD
theorem Bb (l:List Ed) (e:Ed):u_ (l++[e])=u_ l++uD e:=by simp [u_]
def Zk (P:Nat) (mv rv ev:Value) (b:Nat):Prop:=b=P∨mv.ownBlock=some b∨rv.ownBlock=some b∨ev.ownBlock=some b
structure Mf (base:Nat) (w:World) (P:Nat) (b:Bk) (mv rv ev:Value):Prop where
 r:aD w 34 P 3 (fun j=>if j=0 then mv else if j=1 then rv else ev)
 m:w.ownsRow base 3 1 mv b.modes.length (iL b.modes)
 o:w.ownsRow base 4 1 rv b.roots.length (iZ b.roots)
 e:w.ownsRow base 80 5 ev b.edges.length (u_ b.edges)
 bP:base<=P
theorem Mf.keep {base P:Nat} {w w':World} {b:Bk} {mv rv ev:Value} {S:Nat->Prop} (x:Mf base w P b mv rv ev) (k:Keeps w w' S) (a:∀ g,S g->¬ Zk P mv rv ev g):Mf base w' P b mv rv ev:=
 ⟨x.r.keep k (fun e=>a P e (.inl rfl)),aj x.m k (fun g hg e=>a g e (.inr (.inl hg))),aj x.o k (fun g hg e=>a g e (.inr (.inr (.inl hg)))),aj x.e k (fun g hg e=>a g e (.inr (.inr (.inr hg)))),x.bP⟩
theorem Mf.low (x:Mf base w P b mv rv ev) (k:Below w.heap.size w w'):Mf base w' P b mv rv ev:=x.keep (Keeps.of k (au _) (fun _=>False)) (fun _ e=>e.elim)
theorem Mf.zl (x:Mf base w P b mv rv ev) {g:Nat} (h:Zk P mv rv ev g):base<=g/\g<w.heap.size:=by
 rcases h with rfl|h|h|h
 ·exact ⟨x.bP,x.r.lt⟩
 ·exact ⟨(x.m.lt g h).1,(ay x.m h).lt⟩
 ·exact ⟨(x.o.lt g h).1,(ay x.o h).lt⟩
 ·exact ⟨(x.e.lt g h).1,(ay x.e h).lt⟩
structure Nn (P:Nat) (mv rv ev mv' rv' ev':Value) (w w':World):Prop where
 k:Keeps w w' (Zk P mv rv ev)
 z:∀ g,Zk P mv' rv' ev' g->Zk P mv rv ev g∨w.heap.size<=g
theorem Nn.trans {P:Nat} {mv rv ev mv' rv' ev' mv2 rv2 ev2:Value} {w w' w2:World} (x:Nn P mv rv ev mv' rv' ev' w w') (y:Nn P mv' rv' ev' mv2 rv2 ev2 w' w2):Nn P mv rv ev mv2 rv2 ev2 w w2:=by
 refine ⟨⟨y.k.os.trans x.k.os,y.k.tape.trans x.k.tape,y.k.output.trans x.k.output,aI x.k.size y.k.size,fun b hb hn=>?_⟩,fun g hg=>?_⟩
 ·refine (y.k.block b (aX hb x.k.size) (fun e=>?_)).trans (x.k.block b hb hn)
  rcases x.z b e with c|c
  ·exact hn c
  ·omega
 ·rcases y.z g hg with c|c
  ·exact x.z g c
  ·exact .inr (aI x.k.size c)
theorem Nn.refl (P:Nat) (mv rv ev:Value) (w:World):Nn P mv rv ev mv rv ev w w:=⟨Keeps.refl w _,fun g h=>.inl h⟩
theorem Nn.low (k:Below w.heap.size w w'):Nn P mv rv ev mv rv ev w w':=⟨Keeps.of k (au _) _,fun g h=>.inl h⟩
theorem Ec {l:List Ed} {e:Ed} (h:l[i]?=some e):∀ j x,(uD e)[j]?=some x->(u_ l)[i*5+j]?=some x:=by
 intro j x d;have c:j<5:=(aJ.1 d).1
 induction l generalizing i with
 |nil=>cases h
 |cons a l ih=>
  rcases i with _|i
  ·obtain rfl:a=e:=by simpa using h
   show (uD a++u_ l)[0*5+j]?=_;rw [Nat.zero_mul,Nat.zero_add,dF (show j<(uD a).length from c)];exact d
  ·have h':l[i]?=some e:=h
   show (uD a++u_ l)[(i+1)*5+j]?=_;rw [fI (by show 5<=_;omega),show (i+1)*5+j-(uD a).length=i*5+j by show _-5=_;omega];exact ih h'
theorem Ba {l:List Ed} {x:Ed} (h:∀ e∈l,e.sm x=false):iE l x=l++[x]:=by
 induction l with
 |nil=>rfl
 |cons a l ih=>
  unfold iE;rw [h a List.mem_cons_self,ih (fun e he=>h e (List.mem_cons_of_mem _ he))];rfl
theorem Bw {l:List Ed} {x e:Ed} (hi:l[i]?=some e) (c:e.sm x=true) (h:∀ j y,j<i->l[j]?=some y->y.sm x=false):iE l x=l.set i { e with val:=x.val }:=by
 induction l generalizing i with
 |nil=>cases hi
 |cons a l ih=>
  rcases i with _|i
  ·cases hi
   unfold iE;rw [c];rfl
  ·have d:=h 0 a (by omega) rfl
   unfold iE;rw [d];show a::iE l x=a::l.set i _;rw [ih (show l[i]?=some e from hi) (fun j y hj hy=>h (j+1) y (by omega) hy)]
theorem Cg {l:List Ed} {e:Ed} (h:l[i]?=some e) (v:Nat):(u_ l).set (i*5+3) (.int .i64 (v:Int))=u_ (l.set i { e with val:=v }):=by
 induction l generalizing i with
 |nil=>cases h
 |cons a l ih=>
  rcases i with _|i
  ·obtain rfl:a=e:=by simpa using h
   show (uD a++u_ l).set (0*5+3) _=uD _++u_ l;rw [List.set_append_left _ _ (by show _<5;omega)];rfl
  ·show (uD a++u_ l).set ((i+1)*5+3) _=uD a++u_ (l.set i _)
   rw [List.set_append_right _ _ (by show 5<=_;omega),show (i+1)*5+3-(uD a).length=i*5+3 by show _-5=_;omega,ih (show l[i]?=some e from h)]
end
end Go.Proofs.YtbpcdfbmnklcjaaGreatDoor
namespace Go.Proofs.YtbpcdfbmnklcjaaGreatDoor
open Go.ChangeShapes Go.WideShapes Go.ChangeAt Go Go.RowKit Go.ChangeMaps Go.WideElems Go.Joins Go.Deep
set_option linter.unusedVariables false
section
variable {cap fuel n:Nat}
section
variable {H : Type} {enc : TypeId × Value → H} {P : Program} {w : World} {sp : Nat → Bool} {hd : Bool}
theorem A_ {t e:TypeId} {sz:Nat} {a:Option Addr} {x:DataW H × List MemPlace} (z:P.underlying t=some (.slice e)) (G:P.cellsOf e=sz) (A:0<sz)
 (h:DataW.trod enc P w 0 sp hd fuel t [.slice a n cap]=some x):
 n<=maxLen/\(n=0∨∃ b o m,a=some ⟨b,o,none⟩/\b<w.heap.size/\n<=cap/\∀ i,i<n->∃ cs y,cs.length=sz/\(∀ j,j<sz->w.cell? ⟨b,o+(i*sz+j),none⟩=cs[j]?)/\DataW.trod enc P w 0 sp hd m e cs=some y):=by
 rcases open_slice z h with ⟨d,_⟩|⟨K,len,u,m,q,D,N,d,_,k,F,hm,_,c⟩
 ·simp at d
  obtain ⟨-,rfl,-⟩:=d;exact ⟨Nat.zero_le _,.inl rfl⟩
 ·simp at d
  obtain ⟨rfl,rfl,rfl⟩:=d;refine ⟨by omega,?_⟩;by_cases E:n=0
  ·exact .inl E
  right;have C:n<=m:=by rw [hm];split<;>omega
  obtain ⟨b,o,s⟩:=K;obtain ⟨J,p,_⟩:=c 0 (by omega);obtain ⟨_,M,k0⟩:=World.cells?_some p;have f:=k0 0 (by omega);rw [Nat.zero_mul,aN (by omega)] at f;have B:s=none:=uX f;subst B;refine ⟨b,o,q,rfl,zW f,k,fun i hi=>?_⟩;obtain ⟨cs,l,g⟩:=c i (by omega);obtain ⟨_,L,v⟩:=World.cells?_some l;refine ⟨cs,_,by omega,fun j hj=>?_,g⟩;have r:=v j (by omega);rw [sU,sU,G,Nat.add_assoc] at r;exact r
end
end
end Go.Proofs.YtbpcdfbmnklcjaaGreatDoor
