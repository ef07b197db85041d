import Derived.Test.YtbpcdfbmnklcjaaGreatDoorKIC
import Derived.Test.YtbpcdfbmnklcjaaGreatDoorKJR0
import Derived.Test.YtbpcdfbmnklcjaaGreatDoorKJM
namespace Go.Proofs.YtbpcdfbmnklcjaaGreatDoor
open Go Go.RowKit
set_option linter.unusedVariables false
section
variable {A C kd:Int} {L:PM} {R base k:Nat} {S:Nat->Prop} {h:Hp} {r:Rn} {root:List Bool} {w:World}
theorem xw {B:Int} (b:h.freed=[]) (a:(fF h root kd A B C).code≠0):(fF h root kd A B C).h.freed=[]:=by
 unfold fF at a ⊢;by_cases j:kd=1
 ·subst j
  rw [if_pos rfl] at a ⊢;split at a
  ·rw [if_pos ‹_›];exact b
  ·exact absurd rfl a
 rw [if_neg j] at a ⊢;by_cases i:kd=2
 ·subst i;rw [if_pos rfl] at a;exact absurd rfl a
 rw [if_neg i] at a ⊢;by_cases g:kd=3
 ·subst g;rw [if_pos rfl] at a;exact absurd rfl a
 rw [if_neg g] at a ⊢;by_cases f:kd=4
 ·subst f
  rw [if_pos rfl] at a ⊢;split at a
  ·rw [if_pos ‹_›];exact b
  ·exact absurd rfl a
 rw [if_neg f] at a ⊢;by_cases k5:kd=5
 ·subst k5
  rw [if_pos rfl] at a ⊢;split at a
  ·rw [if_pos ‹_›];exact b
  ·exact absurd rfl a
 rw [if_neg k5] at a ⊢;by_cases e:kd=6
 ·subst e
  rw [if_pos rfl] at a ⊢;split at a
  ·rw [if_pos ‹_›];exact b
  ·exact absurd rfl a
 rw [if_neg e] at a ⊢;by_cases d:kd=7
 ·subst d;rw [if_pos rfl] at a;exact absurd rfl a
 rw [if_neg d] at a ⊢;by_cases c:kd=8
 ·subst c;rw [if_pos rfl];exact b
 rw [if_neg c] at a ⊢;split<;>exact b
theorem xC (a:h.freed=[]):h.forget=h:=by
 cases h;simp only at a;subst a;rfl
theorem zU (x:PW base S r.h.forget L R r.hand w) (ok:r.Ok k) (hk:k+1<=5000) (b:MF r.h) (kd A B C:Int) (j: -9223372036854775808<=B/\B<=9223372036854775807):
 Calls Tryz.prog 26 #[.pointer (some ⟨R,0,none⟩),.agg #[.int .i64 kd,.int .i64 A,.int .i64 B,.int .i64 C]] w (E_ base S R w (cK r kd A B C).1 (cK r kd A B C).2.h.forget (cK r kd A B C).2.hand):=by
 have c:Jo k r.h.forget r.root r.hand:=Jo.forget (show Jo k r.h r.root r.hand from ok) (by omega);have l:MF r.h.forget:=b.same (g:=r.h.forget) (fun _=>rfl) rfl;by_cases f:bG r.h r.hand kd A B C
 ·have a:=fun (S1:Nat->Prop) (w1:World) (y:PW base S1 r.h.forget L R r.hand w1)=>Eh y c hk rfl l kd A B C j (dP.2 f)
  have hm:cK r kd A B C=(let m:=fF r.h.forget r.root kd A B C
   if m.code≠0 then (An.no m.code,⟨m.h,m.root,0⟩)
   else (⟨0,m.id,(m.h.live:Int),(m.h.bytes:Int),(m.h.state:Int),(m.h.pending.length:Int),m.h.freed⟩,⟨m.h,m.root,if kd=8 then m.id.toNat else 0⟩)):=by unfold cK;rw [if_pos f]
  have i:=xw (h:=r.h.forget) (root:=r.root) (kd:=kd) (A:=A) (B:=B) (C:=C) rfl;generalize fF r.h.forget r.root kd A B C=m at *;by_cases d:m.code=0
  ·simp only [d,ne_eq,not_true_eq_false,if_false] at hm
   rw [hm];rw [d] at a;exact Dl x kd A B C m.id m.h _ a (fun e=>if_pos e) (fun e=>if_neg e)
  ·simp only [ne_eq,d,not_false_eq_true,if_true] at hm
   rw [hm];have:=tT x kd A B C m.code m.id m.h a d;show Calls _ _ _ _ (E_ _ _ _ _ (An.no m.code) m.h.forget 0);rw [xC (i d)];exact this
 ·have hm:cK r kd A B C=(An.no 3,⟨r.h,r.root,0⟩):=by unfold cK;rw [if_neg f]
  rw [hm];exact tT x kd A B C 3 0 r.h.forget (fun S1 w1 y=>(DN y c hk l kd A B C j (fun e=>f (dP.1 e))).2) (by decide)
end
set_option maxHeartbeats 6400000
set_option maxRecDepth 100000
section
variable {H O R base:Nat} {L L':PM} {S S':Nat->Prop} {al:List An} {av fv v':Value} {fs:List Value} {r r':Rn} {w w' w0 w5 ws:World}
def mD:Array Value:=#[.int .i64 0,.int .i64 0,.int .i64 0,.int .i64 0,.int .i64 0,.int .i64 0,.int .i64 4096,.slice none 0 0,.int .i64 0,.int .i64 0,.slice none 0 0,.slice none 0 0,.slice none 0 0,.slice none 0 0,.slice none 0 0,.slice none 0 0,.slice none 0 0,.bool false,.slice none 0 0]
def ER (H:Nat):PM:=⟨H,fun _=>0,fun _=>.slice none 0 0,fun _=>.map none,fun _=>.slice none 0 0⟩
theorem EK (h:aD w 77 H 19 (kK Hp.new ⟨[],0,0,[]⟩ (ER H))) (hb:base<=H) (d:S H) (c:∀ b,w.heap.size<=b->S b) (bs:base<=w.heap.size):PS base S Hp.new (ER H) w:=by
 refine ⟨[],[],⟨[],0,0,[]⟩,⟨h,fun n o e=>?_,fun n o e=>?_,fun n o e=>?_,fun k hk=>?_,fun n m o o' e=>?_,fun n m o o' g e=>?_,fun n m o o' g e=>?_,fun k k' g hk hk' e=>?_,hb,fun n o e=>?_,fun n o g e=>?_,bs,d,fun n o e=>?_,fun n o g e=>?_,fun n o g e=>?_,fun k g hk e=>?_,c⟩,⟨fun e=>?_,fun e=>?_,fun _=>⟨List.Pairwise.nil,fun n=>⟨fun e=>by simp at e,fun e=>?_⟩⟩,Nat.zero_le _⟩⟩
 all_goals first
  |(exfalso;have a:Hp.new.ob n=some o:=e;rw [mh] at a;cases a)
  |(exfalso;simp [ER,Value.ownBlock] at e)
  |(exfalso;obtain ⟨o,a⟩:=e;rw [mh] at a;cases a)
  |(exfalso;have a:(0:Nat)=1:=e;omega)
  |(exfalso;have a:(0:Nat)=2:=e;omega)
  |(rcases hk with rfl|rfl|rfl|rfl|rfl|rfl|rfl|rfl|rfl<;>exact ⟨rfl,.inl ⟨rfl,rfl⟩⟩)
theorem xK (w:World):Calls Tryz.prog 25 #[] w fun e w'=>e=.returned (.pointer (some ⟨w.heap.size,0,none⟩))/\w'=w.alloc (.cells mD 77):=by
 unfold mD;go_enter Tryz.func25,Tryz.ntmps25;go_wp2;go_ret;exact ⟨rfl,rfl⟩
def Ys (S:Nat->Prop) (R:Nat) (b:Nat):Prop:=S b∨b=R
theorem PW.keep {base:Nat} {S:Nat->Prop} {h:Hp} {L:PM} {R hand:Nat} {w w':World} {T:Nat->Prop} (x:PW base S h L R hand w) (k:Keeps w w' T) (a:∀ b,T b->¬ Ys S R b):PW base S h L R hand w':=
 ⟨x.p.out (k.mono (fun b e y=>a b e (.inl y))),x.r.keep k (fun e=>a R e (.inr rfl)),x.n⟩
theorem PW.less {base:Nat} {S:Nat->Prop} {h:Hp} {L:PM} {R hand:Nat} {w w':World} {T:Nat->Prop} (x:PW base S h L R hand w) (k:Keeps w w' T) (i:∀ b,T b->¬ Ys S R b) (v:Value) (f:∀ g,v.ownBlock=some g->g<w'.heap.size/\(¬ S g∨w.heap.size<=g)):PW base (fun b=>S b/\v.ownBlock≠some b) h L R hand w':=by
 obtain ⟨m,l,G,a,r⟩:=x.p;have key:∀ g,v.ownBlock=some g->∀ b,S b->b<w.heap.size->g≠b:=fun g hg b hb hl c=>by
  rcases (f g hg).2 with d|d
  ·exact d (c ▸ hb)
  ·omega
 refine ⟨⟨m,l,G,(a.out (k.mono (fun b e y=>i b e (.inl y)))).less v (fun g hg=>⟨(f g hg).1,key g hg _ a.sH a.hp.lt,fun n o e=>⟨key g hg _ (a.st n o e) (a.ob n o e).lt,fun c=>key g hg g (a.se n o g e c) (ay (a.en n o e) c).lt rfl,fun c=>key g hg g (a.sm n o g e c) ((a.mp n o e).lt c) rfl⟩,fun j hj c=>key g hg g (a.sl j g hj c) (ay (a.li j hj) c).lt rfl⟩),r⟩,(x.keep k i).r,fun e=>x.n e.1⟩
structure PI (w0:World) (R O:Nat) (al:List An) (fs:List Value) (r:Rn) (av:Value) (S:Nat->Prop) (L:PM) (ws:World):Prop where
 x:PW w0.heap.size S r.h.forget L R r.hand ws
 o:aD ws 27 O 2 (fun j=>if j=0 then .int .i64 0 else av)
 a:ws.ownsRow w0.heap.size 36 7 av al.length (tY al fs)
 fl:fs.length=al.length
 f:∀ (i:Nat) (b:An) (f:Value),al[i]?=some b->fs[i]?=some f->ws.ownsRow w0.heap.size 3 1 f b.freed.length (eu b.freed)
 nO:¬ Ys S R O
 na:∀ g,av.ownBlock=some g->¬ Ys S R g
 nf:∀ f∈fs,∀ g,f.ownBlock=some g->¬ Ys S R g
 hb:Below w0.heap.size w0 ws
 bO:w0.heap.size<=O
 bR:w0.heap.size<=R
 bS:∀ b,S b->w0.heap.size<=b
 fd:fs.Pairwise (fun a b=>∀ g,a.ownBlock=some g->b.ownBlock≠some g)
theorem PI.ys (x:PI w0 R O al fs r av S L ws):∀ b,Ys S R b->w0.heap.size<=b:=by
 rintro b (e|e)
 ·exact x.bS b e
 ·rw [e];exact x.bR
theorem PI.low {w0:World} {R O:Nat} {al:List An} {fs:List Value} {r:Rn} {av:Value} {S:Nat->Prop} {L:PM} {ws ws':World} (x:PI w0 R O al fs r av S L ws) (b:Below ws.heap.size ws ws'):PI w0 R O al fs r av S L ws':=by
 have k:=Keeps.of b (au _) (fun _=>False);exact ⟨x.x.low b,x.o.keep k (fun y=>y),aj x.a k (fun _ _ y=>y),x.fl,fun i a f h1 h2=>aj (x.f i a f h1 h2) k (fun _ _ y=>y),x.nO,x.na,x.nf,x.hb.trans (b.mono x.hb.size),x.bO,x.bR,x.bS,x.fd⟩
theorem PI.hole {w0:World} {R O:Nat} {al:List An} {fs:List Value} {r:Rn} {av:Value} {S:Nat->Prop} {L:PM} {ws:World} (x:PI w0 R O al fs r av S L ws) (o:Obj):PI w0 R O al fs r av (fun b=>S b/\b≠ws.heap.size) L (ws.alloc o):=by
 have y:=x.low (aU ws o);have d:(ws.alloc o).heap.size=ws.heap.size+1:=aG _;have c:∀ b,Ys (fun b=>S b/\b≠ws.heap.size) R b->Ys S R b:=by
  rintro b (e|e)
  ·exact .inl e.1
  ·exact .inr e
 exact ⟨x.x.hole (aU ws o) (au _) (by omega),y.o,y.a,y.fl,y.f,fun e=>x.nO (c _ e),fun g hg e=>x.na g hg (c _ e),fun f hf g hg e=>x.nf f hf g hg (c _ e),y.hb,y.bO,y.bR,fun b e=>x.bS b e.1,x.fd⟩
theorem PI.one (x:PI w0 R O al fs r av S L ws) {a:An} 
 (c:w5.ownsRow w0.heap.size 3 1 fv a.freed.length (eu a.freed)) (kk:Keeps ws w5 (fun b=>S b∨b=R)) (j:PW w0.heap.size S' r'.h.forget L' R r'.hand w5) (k:∀ b,S' b->S b) (l:∀ g,fv.ownBlock=some g->¬ S' g/\S g):
 PI w0 R O al fs r' av S' L' w5/\(∀ g,fv.ownBlock=some g->¬ Ys S' R g)/\∀ f∈fs,∀ g,f.ownBlock=some g->fv.ownBlock≠some g:=by
 have d:∀ b,Ys S' R b->Ys S R b:=by
  rintro b (e|e)
  ·exact .inl (k b e)
  ·exact .inr e
 refine ⟨⟨j,x.o.keep kk x.nO,aj x.a kk x.na,x.fl,fun i a f h1 h2=>aj (x.f i a f h1 h2) kk (x.nf f (aX h2)),fun e=>x.nO (d _ e),fun g hg e=>x.na g hg (d _ e),fun f c g hg e=>x.nf f c g hg (d _ e),x.hb.trans (kk.below x.hb.size x.ys),x.bO,x.bR,fun b e=>x.bS b (k b e),x.fd⟩,fun g hg e=>?_,fun f c g hg e=>x.nf f c g hg (.inl (l g e).2)⟩;rcases e with e|e
 ·exact (l g hg).1 e
 ·exact ak c j.r (by decide) (e ▸ hg)
theorem PI.app (x:PI w0 R O al fs r av S L w5) {a:An} (B:w5.ownsRow w0.heap.size 3 1 fv a.freed.length (eu a.freed)) (u:∀ g,fv.ownBlock=some g->¬ Ys S R g) (v:∀ f∈fs,∀ g,f.ownBlock=some g->fv.ownBlock≠some g)
 (n:w'.ownsRow w0.heap.size 36 7 v' (al.length+1) (tY al fs++mO a fv)) (m:Keeps w5 w' (fun b=>av.ownBlock=some b)) (t:∀ g,v'.ownBlock=some g->av.ownBlock=some g∨w5.heap.size<=g):
 aD w' 27 O 2 (fun j=>if j=0 then .int .i64 0 else av)/\PI w0 R O (al++[a]) (fs++[fv]) r v' (fun b=>S b/\v'.ownBlock≠some b) L (w'.setCell ⟨O,1,none⟩ v'):=by
 have ho:aD w' 27 O 2 (fun j=>if j=0 then .int .i64 0 else av):=x.o.keep m (fun e=>ak x.a x.o (by decide) e);have A:Keeps w' (w'.setCell ⟨O,1,none⟩ v') (fun b=>b=O):=Keeps.setCell (S:=fun b=>b=O) (Keeps.refl w' _) rfl _;have q:Keeps w5 (w'.setCell ⟨O,1,none⟩ v') (fun b=>av.ownBlock=some b∨b=O):=(m.mono (fun b e=>Or.inl e)).trans (A.mono (fun b e=>Or.inr e));have d:(w'.setCell ⟨O,1,none⟩ v').ownsRow w0.heap.size 36 7 v' (al.length+1) (tY al fs++mO a fv):=aj n A (fun g hg e=>ak n ho (by decide) (e ▸ hg));have z:PW w0.heap.size (fun b=>S b/\v'.ownBlock≠some b) r.h.forget L R r.hand (w'.setCell ⟨O,1,none⟩ v'):=x.x.less q (fun b e=>by
  rcases e with e|e
  ·exact x.na b e
  ·rw [e];exact x.nO) v' (fun g hg=>⟨(ay d hg).lt,(t g hg).imp (fun y e=>x.na g y (.inl e)) (fun y=>y)⟩)
 have k:(al++[a]).length=al.length+1:=by simp
 have s:∀ b,Ys (fun b=>S b/\v'.ownBlock≠some b) R b->Ys S R b:=by
  rintro b (e|e)
  ·exact .inl e.1
  ·exact .inr e
 have p:∀ {f:Value} {l:List Nat},w5.ownsRow w0.heap.size 3 1 f l.length (eu l)->(w'.setCell ⟨O,1,none⟩ v').ownsRow w0.heap.size 3 1 f l.length (eu l):=fun h=>aj h q (fun g hg e=>by
  rcases e with e|e
  ·exact aV h x.a (by decide) e hg
  ·exact ak h x.o (by decide) (e ▸ hg))
 refine ⟨ho,z,?_,?_,by simp [x.fl],fun i b f h1 h2=>?_,fun e=>x.nO (s _ e),fun g hg e=>?_,fun f hf' g hg e=>?_,?_,x.bO,x.bR,fun b e=>x.bS b e.1,List.pairwise_append.2 ⟨x.fd,List.pairwise_singleton _ _,fun a ha b hb g hg=>by simp at hb;subst hb;exact v a ha g hg⟩⟩
 ·refine (ho.set (j:=1) (by omega) v').congr (fun j hj=>?_)
  have:j=0∨j=1:=by omega
  rcases this with rfl|rfl<;>rfl
 ·rw [k,sU x.fl]
  exact d
 ·by_cases c:i<al.length
  ·rw [dF c] at h1
   rw [dF (by rw [x.fl];exact c)] at h2;exact p (x.f i b f h1 h2)
  ·have hi:i=al.length:=by
    have:=(aJ.1 h1).1;rw [k] at this;omega
   subst hi;simp at h1;rw [<-x.fl] at h2;simp at h2;subst h1;subst h2;exact p B
 ·rcases e with e|e
  ·exact e.2 hg
  ·exact ak n (x.x.r.keep m (fun e=>ak x.a x.x.r (by decide) e)) (by decide) (e ▸ hg)
 ·rcases eT.1 hf' with y|y
  ·exact x.nf f y g hg (s _ e)
  ·simp at y
   subst y;exact u g hg (s _ e)
 ·refine x.hb.trans (q.below x.hb.size (fun b e=>?_))
  rcases e with e|e
  ·exact (x.a.lt b e).1
  ·rw [e];exact x.bO
theorem tZ (l:List dA):∀ j,j<=l.length->j<=5000->MF (cZ (l.take j)).2.h
 |0,_,_=>by rw [List.take_zero];exact MF.new
 |j+1,h1,h2=>by
  have b:=tZ l j (by omega) (by omega);have a:l[j]?=some l[j]:=aN (by omega);rw [fH a];exact Ab b (jZ l j (by omega) (by omega)).1 h2 _ _ _ _
theorem zP {o:Oper} {a:Act} {K:Act->World->Prop} {Q:Exit->Act->World->Prop} (x y:Operand)
 (ho:o.op=.call { callee:=.value (.func 26),args:=#[x,y],argTypes:=#[63,39] }) (c b:Value) (hx:a.eval x=c) (d:a.eval y=b) {E:Ending->World->Prop} (i:Calls Tryz.prog 26 #[c,b] w E)
 (h:∀ e w',E e w'->∃ v,e=.returned v/\K (a.put o.dst v) w'):Oper.wp Tryz.prog o a w K Q:=by
 unfold Oper.wp;have f:a.eval (.func 26)=.func (.func 26) #[] #[]:=rfl;generalize a.eval=ev at hx d f ⊢;simp [execOp,ho,resolve,invoke,hx,d,f,go_sem];refine i.mono ?_;intro e w' g;obtain ⟨v,rfl,hk⟩:=h e w' g;exact hk
def F9 (ops:List dA) (w:World) (e:Ending) (w':World):Prop:=Below w.heap.size w w'/\∃ (c:Int) (av:Value) (al:List An) (fs:List Value),e=.returned (.agg #[.int .i64 c,av])/\c=(if 5000<ops.length then 5 else 0)/\al=(if 5000<ops.length then [] else (cZ ops).1)/\w'.ownsRow w.heap.size 36 7 av al.length (tY al fs)/\fs.length=al.length/\(∀ (i:Nat) (b:An) (f:Value),al[i]?=some b->fs[i]?=some f->w'.ownsRow w.heap.size 3 1 f b.freed.length (eu b.freed))/\fs.Pairwise (fun a b=>∀ g,a.ownBlock=some g->b.ownBlock≠some g)
end
section
variable {R:Nat} {v:Value} {w w1 w3 w4:World}
theorem BS {S0:Nat->Prop} (p:R=w1.heap.size+1) (a:w3=(w1.alloc (.cells mD 77)).alloc (.cells #[.pointer (some ⟨w1.heap.size,0,none⟩),.nilIface] 69)) (m:w4=w3.setCell ⟨w1.heap.size,17,none⟩ (.bool true)):
 PI w1 R (R+1) [] [] ⟨Hp.new,[false],0⟩ (.slice none 0 0) (fun b=>((w1.heap.size<=b/\b≠R)/\b≠R+1)) (ER w1.heap.size) (w4.alloc (.cells #[.int .i64 0,.slice none 0 0] 27)):=by
 have e1:(w1.alloc (.cells mD 77)).heap.size=w1.heap.size+1:=aG _;have r:w3.heap.size=w1.heap.size+2:=by rw [a,show ((w1.alloc (.cells mD 77)).alloc (.cells #[.pointer (some ⟨w1.heap.size,0,none⟩),.nilIface] 69)).heap.size=_ from aG _,e1]
 have n:Keeps w3 w4 (fun b=>b=w1.heap.size):=by rw [m];exact Keeps.setCell (S:=fun b=>b=w1.heap.size) (Keeps.refl w3 _) rfl _
 have q:w4.heap.size=w1.heap.size+2:=by rw [m];exact (World.size_setCell _ _ _).trans r
 have o:aD w3 77 w1.heap.size 19 (fun j=>mD.getD j (.bool false)):=by
  rw [a];exact aD.low (show aD _ _ _ 19 _ from aD.mk' w1 77 mD) (aU _ _) (by omega)
 have hr:aD w3 69 R 2 (ES w1.heap.size (aK (fun _=>0) (cO 0))):=by
  have:=aD.mk' (w1.alloc (.cells mD 77)) 69 #[.pointer (some ⟨w1.heap.size,0,none⟩),.nilIface];rw [e1,<-p,<-a] at this;refine aD.congr (show aD _ _ _ 2 _ from this) (fun j hj=>?_);have:j=0∨j=1:=by omega
  rcases this with rfl|rfl<;>rfl
 have hb:Below w1.heap.size w1 w4:=by
  have k:Below w1.heap.size w1 w3:=by rw [a];exact EP w1 _ _
  exact k.trans (n.below (by omega) (fun b e=>by omega))
 have b5:=aU w4 (.cells #[.int .i64 0,.slice none 0 0] 27);have d:aD w4 77 w1.heap.size 19 (kK Hp.new ⟨[],0,0,[]⟩ (ER w1.heap.size)):=by
  rw [m];refine (o.set (j:=17) (by omega) (.bool true)).congr (fun j hj=>?_)
  revert j
  exact bJ _ rfl rfl rfl rfl rfl rfl rfl rfl rfl rfl rfl rfl rfl rfl rfl rfl rfl rfl rfl
 have ho:=xO w4 0 none 0 0;have s:(w4.alloc (.cells #[.int .i64 0,.slice none 0 0] 27)).heap.size=w1.heap.size+3:=by rw [show (w4.alloc (.cells #[.int .i64 0,.slice none 0 0] 27)).heap.size=_ from aG _,q]
 have l:w4.heap.size=R+1:=by omega
 rw [l] at ho;refine ⟨⟨EK (d.low b5 (by omega)) (au _) ⟨⟨au _,by omega⟩,by omega⟩ (fun b hb=>⟨⟨by omega,by omega⟩,by omega⟩) (by omega),(hr.keep n (fun c=>by omega)).low b5 (by omega),fun e=>e.1.2 rfl⟩,ho,⟨rfl,.inl ⟨rfl,rfl⟩⟩,rfl,fun i b f h=>by simp at h,?_,fun g hg=>by simp [Value.ownBlock] at hg,fun f hf=>by simp at hf,hb.trans (b5.mono (by omega)),by omega,by omega,fun b e=>e.1.1,List.Pairwise.nil⟩;rintro (e|e)
 ·exact e.2 rfl
 ·omega
theorem EM (w1:World):∃ (f g:Nat->Value),aD ((w1.alloc (.cells mD 77)).alloc (.cells #[.pointer (some ⟨w1.heap.size,0,none⟩),.nilIface] 69)) 77 w1.heap.size 19 f/\f 17=.bool false/\aD ((w1.alloc (.cells mD 77)).alloc (.cells #[.pointer (some ⟨w1.heap.size,0,none⟩),.nilIface] 69)) 69 (w1.heap.size+1) 2 g/\g 0=.pointer (some ⟨w1.heap.size,0,none⟩):=by
 have e1:(w1.alloc (.cells mD 77)).heap.size=w1.heap.size+1:=aG _;have:=aD.mk' (w1.alloc (.cells mD 77)) 69 #[.pointer (some ⟨w1.heap.size,0,none⟩),.nilIface];rw [e1] at this;exact ⟨_,_,aD.low (show aD _ _ _ 19 _ from aD.mk' w1 77 mD) (aU _ _) (by omega),rfl,this,rfl⟩
theorem Ct {ops:List dA} (hv:xX w v ops) (hn:ops.length<=1048576) (hB:∀ o∈ops,-9223372036854775808<=o.2.2.1/\o.2.2.1<=9223372036854775807):Calls Tryz.prog 8 #[v] w (F9 ops w):=by
 obtain ⟨A,d7,rfl,d5,m⟩:=hv;have HC:=ah m;have d4:=ah hB;clear m hB;have K:=ah (xO w 0 none 0 0);have M:=ah (aU w (.cells #[.int .i64 0,.slice none 0 0] 27));by_cases h5:5000<ops.length
 ·have c5:((ops.length:Int) > 5000):=by omega
  go_enter Tryz.func8,Tryz.ntmps8;go_upto_region 1 with (fail)
  generalize w.alloc (.cells #[.int .i64 0,.slice none 0 0] 27)=w1 at *;generalize Q:w.heap.size=X at *;have x0:=K.o.c 0;have x1:=K.o.c 1;have z0:=K.o.ME 0;have z1:=K.o.ME 1;go_wp2;have HR:=ah (((K.o.set (j:=0) (by omega) (.int .i64 5)).set (j:=1) (by omega) (.slice none 0 0)));have HK:=ah (show Below X w _ from M.o.trans (((Keeps.setCell (S:=fun b=>b=X) (Keeps.refl w1 _) (g:=X) (j:=0) rfl (.int .i64 5)).setCell (g:=X) (j:=1) rfl (.slice none 0 0)).below (B:=X) (dh K.o.lt) (fun b e=>by omega)));generalize (w1.setCell ⟨X,0,none⟩ (.int .i64 5)).setCell ⟨X,1,none⟩ (.slice none 0 0)=w7 at *;have q0:w7.cell? ⟨X,0,none⟩=some (.int .i64 5):=HR.o.c 0;have q1:w7.cell? ⟨X,1,none⟩=some (.slice none 0 0):=HR.o.c 1;refine bodyPost_ret (v:=.agg #[.int .i64 5,.slice none 0 0]) ?_ rfl ?_
  ·simp [results,Tryz.results8,go_sem,q0,q1]
  ·exact ⟨by rw [Q];exact HK.o,5,.slice none 0 0,[],[],rfl,by rw [if_pos h5],by rw [if_pos h5],⟨rfl,.inl ⟨rfl,rfl⟩⟩,rfl,fun i b f h=>by simp at h,List.Pairwise.nil⟩
 ·have c5:¬ ((ops.length:Int) > 5000):=by omega
  go_enter Tryz.func8,Tryz.ntmps8;go_upto_region 1 with (fail)
  have a6:=ah (xK (w.alloc (.cells #[.int .i64 0,.slice none 0 0] 27)));generalize w.alloc (.cells #[.int .i64 0,.slice none 0 0] 27)=w1 at *;generalize Q:w.heap.size=X at *;go_wp2_with fail;refine a6.o.mono ?_;rintro e2 G ⟨rfl,V⟩;have F:=ah V;clear V a6;have a4:=ah (show G.heap.size=w1.heap.size+1 by rw [F.o];exact aG _);go_upto_region 4 with (fail)
  obtain ⟨ff,gg,E,Z,k,Y⟩:=EM w1;rw [<-F.o] at E k;rw [<-a4.o] at k;have a9:=ah (BS (w1:=w1) (w3:=G.alloc (.cells #[.pointer (some ⟨w1.heap.size,0,none⟩),.nilIface] 69)) (w4:=(G.alloc (.cells #[.pointer (some ⟨w1.heap.size,0,none⟩),.nilIface] 69)).setCell ⟨w1.heap.size,17,none⟩ (.bool true)) (R:=G.heap.size) (S0:=fun _=>True) a4.o (by rw [F.o]) rfl);have h3:(G.alloc (.cells #[.pointer (some ⟨w1.heap.size,0,none⟩),.nilIface] 69)).heap.size=G.heap.size+1:=aG _;generalize G.alloc (.cells #[.pointer (some ⟨w1.heap.size,0,none⟩),.nilIface] 69)=w3 at *;generalize G.heap.size=R at *;have c0:=k.c 0;rw [Y] at c0;have a1:=E.c 17;rw [Z] at a1;have b3:=E.ME 17;clear E Z k Y F;go_upto_region 5 with (fail)
  have h4:(w3.setCell ⟨w1.heap.size,17,none⟩ (.bool true)).heap.size=R+1:=(World.size_setCell _ _ _).trans h3;generalize w3.setCell ⟨w1.heap.size,17,none⟩ (.bool true)=w4 at *;have c7:=ah h4;clear c0 a1 b3 h3 h4;go_upto_region 6 with (fail)
  rw [c7.o];have a7:Hq (PI w1 R (R+1) [] [] ⟨Hp.new,[false],0⟩ (.slice none 0 0) (fun b=>((w1.heap.size<=b/\b≠R)/\b≠R+1)) (ER w1.heap.size) (w4.alloc (.cells #[.int .i64 0,.slice none 0 0] 27))):=a9;clear a9;generalize w4.alloc (.cells #[.int .i64 0,.slice none 0 0] 27)=w5 at *;go_wp2;go_loopw [22] (fun jv ws=>∃ j:Nat,j<=ops.length/\jv=.int .i64 j/\Hq (∃ fs av S L,PI w1 R (R+1) (cZ (ops.take j)).1 fs (cZ (ops.take j)).2 av S L ws)) (fun jv _=>ops.length-bF jv)
  case atStart=>exact ⟨0,by omega,rfl,_,_,_,_,by rw [List.take_zero];exact a7.o⟩
  case round=>
   clear a7;obtain ⟨j,b8,rfl,HJ⟩:=hrel;obtain ⟨fs,av,S,L,hj⟩:=HJ.o;have d:=ah hj;clear hj HJ;have z:=(jZ ops j b8 (by omega))
   have c3:(cZ (ops.take j)).1.length<=5000:=by rw [z.2];omega
   by_cases b6:j<ops.length
   ·obtain ⟨o,ho⟩:∃ o,ops[j]?=some o:=⟨_,aN b6⟩
    have d6:(j:Int)<(ops.length:Int):=by omega
    have a3:=ah (fH ho);obtain ⟨g,rfl,hg,d0,d1,d2,d3⟩:=HC.o j o ho;have k:g<w1.heap.size:=aW (Q ▸ hg) (Q ▸ M.o.size);have D:g<X:=Q ▸ hg;have f0:wr.cell? ⟨g,j*4,none⟩=some (.int .i64 o.1):=(d.o.hb.cell (p:=⟨g,j*4,none⟩) k).trans ((M.o.cell (p:=⟨g,j*4,none⟩) D).trans d0);have f1:wr.cell? ⟨g,j*4+1,none⟩=some (.int .i64 o.2.1):=(d.o.hb.cell (p:=⟨g,j*4+1,none⟩) k).trans ((M.o.cell (p:=⟨g,j*4+1,none⟩) D).trans d1);have f2:wr.cell? ⟨g,j*4+2,none⟩=some (.int .i64 o.2.2.1):=(d.o.hb.cell (p:=⟨g,j*4+2,none⟩) k).trans ((M.o.cell (p:=⟨g,j*4+2,none⟩) D).trans d2);have f3:wr.cell? ⟨g,j*4+3,none⟩=some (.int .i64 o.2.2.2):=(d.o.hb.cell (p:=⟨g,j*4+3,none⟩) k).trans ((M.o.cell (p:=⟨g,j*4+3,none⟩) D).trans d3);have c6:=ah z.1;have c8:=ah (tZ ops j (by omega) (by omega));have c9:=ah (d4.o o (aX ho));obtain ⟨kd,A,B,C⟩:=o;simp only at f0 f1 f2 f3;have HP:=ah (fO wr kd A B C);have HH:=ah (d.o.hole (.cells #[.int .i64 kd,.int .i64 A,.int .i64 B,.int .i64 C] 39));clear d0 d1 d2 d3 ho z;go_upto_region 9 with (fail)
    generalize wr.alloc (.cells #[.int .i64 kd,.int .i64 A,.int .i64 B,.int .i64 C] 39)=w5 at *;generalize wr.heap.size=P at *;clear f0 f1 f2 f3;generalize cZ (ops.take j)=q at *;obtain ⟨r,l,rfl⟩:∃ r l,av=.slice r q.1.length l:=aF HH.o.a;have c1:w5.cell? ⟨R+1,1,none⟩=some (.slice r q.1.length l):=HH.o.o.c 1;have p0:w5.cell? ⟨P,0,none⟩=some (.int .i64 kd):=HP.o.c 0;have p1:w5.cell? ⟨P,1,none⟩=some (.int .i64 A):=HP.o.c 1;have p2:w5.cell? ⟨P,2,none⟩=some (.int .i64 B):=HP.o.c 2;have p3:w5.cell? ⟨P,3,none⟩=some (.int .i64 C):=HP.o.c 3;have a5:=ah (fun (w9:World) (y:PW w1.heap.size (fun b=>S b/\b≠P) q.2.h.forget L R q.2.hand w9)=>zU y c6.o (by omega) c8.o kd A B C c9.o);have a2:Hq (cZ (ops.take (j+1))=(q.1++[(cK q.2 kd A B C).1],(cK q.2 kd A B C).2)):=a3;clear a3 d;generalize cK q.2 kd A B C=pp at *;have b0:=ah (HH.o.low (aC (aT _ _) 1));have d8:=ah (HP.o.keep (Keeps.of (aC (aT w5.heap.size w5) 1) (au _) (fun _=>False)) (fun y=>y));go_wp2_with fail
    go_region_law (first
     |(rw [if_pos (by rfl)]
       refine zP (.tmp 28) (.tmp 29) rfl _ _ rfl rfl (a5.o _ b0.o.x) ?_;rintro e6 u ⟨fv,S',L',rfl,hf,W,hs,hw,kk⟩;obtain ⟨af,U,b9⟩:=aF hf;subst b9;refine ⟨_,rfl,?_⟩;have H:=b0.o.one hf kk hw hs W;have HF:=ah hf;have N:=ah H;have b1:u.cell? ⟨R+1,1,none⟩=some (.slice r q.1.length l):=N.o.1.o.c 1;have c4:=N.o.1.o.lt;have b2:=((aU u (.cells #[.int .i64 pp.1.code,.int .i64 pp.1.id,.int .i64 pp.1.live,.int .i64 pp.1.bytes,.int .i64 pp.1.state,.int .i64 pp.1.pend,.slice af pp.1.freed.length U] 36)).cell (p:=⟨R+1,1,none⟩) c4).trans b1;have e7:(mO pp.1 (.slice af pp.1.freed.length U)).toArray=#[.int .i64 pp.1.code,.int .i64 pp.1.id,.int .i64 pp.1.live,.int .i64 pp.1.bytes,.int .i64 pp.1.state,.int .i64 pp.1.pend,.slice af pp.1.freed.length U]:=rfl;rw [e7];clear H hf kk hw hs W e7)
     |(rw [if_pos (by rfl)]
       refine nG (wr:=u.alloc (.cells #[.int .i64 pp.1.code,.int .i64 pp.1.id,.int .i64 pp.1.live,.int .i64 pp.1.bytes,.int .i64 pp.1.state,.int .i64 pp.1.pend,.slice af pp.1.freed.length U] 36)) (.tmp 27) (.tmp 31) rfl w1.heap.size (.slice r q.1.length l) q.1.length (tY q.1 fs) (mO pp.1 (.slice af pp.1.freed.length U)) (aj N.o.1.a (Keeps.of (aU u _) (au _) (fun _=>False)) (fun _ _ y=>y)) rfl u.heap.size rfl rfl (wM _ _ _ _) (EU u _ _ _ _ _ _ _ _ _) (by omega) (aI N.o.1.hb.size (aU u _).size) ?_;intro v' w8 g1 g2 g3;obtain ⟨a8,k8,b4⟩:=aF g1;subst b4;have H8:=ah (N.o.1.app (w':=w8) HF.o N.o.2.1 N.o.2.2 g1 ((Keeps.of (aU u _) (au _) _).trans g2) (fun g e=>(g3 g e).imp id (fun y=>aI (aU u _).size y)));have u1:=H8.o.1.c 1;have z1:=H8.o.1.ME 1;clear g1 g2 g3))
    all_goals
     go_wp2_with fail;go_roundw
     case rel=>exact ⟨j+1,by omega,by simp,_,_,_,_,by rw [a2.o];exact H8.o.2⟩
     case measure=>simp [bF];omega
   ·have b7:j=ops.length:=by omega
    subst b7;rw [bN] at d;obtain ⟨r,l,rfl⟩:∃ r l,av=.slice r (cZ ops).1.length l:=aF d.o.a;have a0:X<w1.heap.size:=K.o.lt;have t:=ah (K.o.low d.o.hb a0);have c0:wr.cell? ⟨R+1,0,none⟩=some (.int .i64 0):=d.o.o.c 0;have c1:wr.cell? ⟨R+1,1,none⟩=some (.slice r (cZ ops).1.length l):=d.o.o.c 1;have x0:=t.o.c 0;have x1:=t.o.c 1;have z0:=t.o.ME 0;have z1:=t.o.ME 1;clear c3 z;go_wp2;have HR:=ah (((t.o.set (j:=0) (by omega) (.int .i64 0)).set (j:=1) (by omega) (.slice r (cZ ops).1.length l)));have HK:=ah ((Keeps.setCell (S:=fun b=>b=X) (Keeps.refl wr _) (g:=X) (j:=0) rfl (.int .i64 0)).setCell (g:=X) (j:=1) rfl (.slice r (cZ ops).1.length l));generalize (wr.setCell ⟨X,0,none⟩ (.int .i64 0)).setCell ⟨X,1,none⟩ (.slice r (cZ ops).1.length l)=w7 at *;have q0:w7.cell? ⟨X,0,none⟩=some (.int .i64 0):=HR.o.c 0;have q1:w7.cell? ⟨X,1,none⟩=some (.slice r (cZ ops).1.length l):=HR.o.c 1;refine bodyPost_ret (v:=.agg #[.int .i64 0,.slice r (cZ ops).1.length l]) ?_ rfl ?_
    ·simp [results,Tryz.results8,go_sem,q0,q1]
    ·have b5:w.heap.size<=w1.heap.size:=by omega
     have c2:Below X w wr:=M.o.trans (d.o.hb.mono (dh a0));have J:∀ {T s n:Nat} {v:Value} {xs:List Value},wr.ownsRow w1.heap.size T s v n xs->w7.ownsRow w.heap.size T s v n xs:=fun h=>iq (aj h HK.o (fun g hg e=>by have:=(h.lt g hg).1;omega)) b5;exact ⟨by rw [Q];exact c2.trans (HK.o.below (B:=X) (dh t.o.lt) (fun b e=>by omega)),0,_,(cZ ops).1,fs,rfl,by rw [if_neg h5],by rw [if_neg h5],J d.o.a,d.o.fl,fun i b f h1 h2=>J (d.o.f i b f h1 h2),d.o.fd⟩
end
section
variable {B n:Nat} {v:Value} {w w':World} {x0 x1 x2 x3:Nat->Int}
def xR (w:World) (v:Value) (n:Nat) (x0:Nat->Int) (x1:Nat->Int) (x2:Nat->Int) (x3:Nat->Int):Prop:=
 (n=0/\∃ a cap,v=.slice a 0 cap)∨∃ b o cap,v=.slice (some ⟨b,o,none⟩) n cap/\b<w.heap.size/\n<=cap/\∀ i,i<n->w.cell? ⟨b,o+i*4,none⟩=some (.int .i64 (x0 i))/\w.cell? ⟨b,o+i*4+1,none⟩=some (.int .i64 (x1 i))/\w.cell? ⟨b,o+i*4+2,none⟩=some (.int .i64 (x2 i))/\w.cell? ⟨b,o+i*4+3,none⟩=some (.int .i64 (x3 i))
theorem xR.low (h:xR w v n x0 x1 x2 x3) (hb:Below B w w') (e:w.heap.size<=B):xR w' v n x0 x1 x2 x3:=by
 rcases h with h|⟨b,o,f,rfl,a,d,c⟩
 ·exact .inl h
 ·refine .inr ⟨b,o,f,rfl,aW a hb.size,d,fun i hi=>?_⟩
  have c:=c i hi;exact ⟨(hb.cell (p:=⟨b,o+i*4,none⟩) (aW a e)).trans c.1,(hb.cell (p:=⟨b,o+i*4+1,none⟩) (aW a e)).trans c.2.1,(hb.cell (p:=⟨b,o+i*4+2,none⟩) (aW a e)).trans c.2.2.1,(hb.cell (p:=⟨b,o+i*4+3,none⟩) (aW a e)).trans c.2.2.2⟩
theorem xR.val (h:xR w v n x0 x1 x2 x3):∃ a cap,v=.slice a n cap:=by
 rcases h with ⟨rfl,a,cap,rfl⟩|⟨b,o,cap,rfl,_⟩
 ·exact ⟨a,cap,rfl⟩
 ·exact ⟨_,cap,rfl⟩
def oU (w:World) (g n:Nat) (x0:Nat->Int) (x1:Nat->Int) (x2:Nat->Int) (x3:Nat->Int):Prop:=∃ f,aD w 39 g (n*4) f/\∀ i,i<n->f (i*4)=(.int .i64 (x0 i))/\f (i*4+1)=(.int .i64 (x1 i))/\f (i*4+2)=(.int .i64 (x2 i))/\f (i*4+3)=(.int .i64 (x3 i))
theorem oU.by {w:World} {g n:Nat} {x0:Nat->Int} {x1:Nat->Int} {x2:Nat->Int} {x3:Nat->Int} (h:oU w g n x0 x1 x2 x3):xR w (.slice (some ⟨g,0,none⟩) n n) n x0 x1 x2 x3:=by
 obtain ⟨f,b,a⟩:=h;refine .inr ⟨g,0,n,rfl,b.lt,au _,fun i hi=>?_⟩;have a:=a i hi;rw [Nat.zero_add,b.c (i*4),a.1,b.c (i*4+1),a.2.1,b.c (i*4+2),a.2.2.1,b.c (i*4+3),a.2.2.2];exact ⟨rfl,rfl,rfl,rfl⟩
theorem oU.low {w w':World} {g n B:Nat} {x0:Nat->Int} {x1:Nat->Int} {x2:Nat->Int} {x3:Nat->Int} (h:oU w g n x0 x1 x2 x3) (hb:Below B w w') (a:g<B):oU w' g n x0 x1 x2 x3:=by
 obtain ⟨f,c,b⟩:=h;exact ⟨f,c.low hb a,b⟩
theorem oU.other {w:World} {g g' j n:Nat} {x0:Nat->Int} {x1:Nat->Int} {x2:Nat->Int} {x3:Nat->Int} {x:Value} (h:oU w g n x0 x1 x2 x3) (a:g≠g'):oU (w.setCell ⟨g',j,none⟩ x) g n x0 x1 x2 x3:=by
 obtain ⟨f,c,b⟩:=h;exact ⟨f,c.other a,b⟩
theorem oU.lt {w:World} {g n:Nat} {x0:Nat->Int} {x1:Nat->Int} {x2:Nat->Int} {x3:Nat->Int} (h:oU w g n x0 x1 x2 x3):g<w.heap.size:=by
 obtain ⟨f,a,b⟩:=h;exact a.lt
end
section
variable {B n:Nat} {v:Value} {w w':World} {x0:Nat->Int}
def pK (w:World) (v:Value) (n:Nat) (x0:Nat->Int):Prop:=
 (n=0/\∃ a cap,v=.slice a 0 cap)∨∃ b o cap,v=.slice (some ⟨b,o,none⟩) n cap/\b<w.heap.size/\n<=cap/\∀ i,i<n->w.cell? ⟨b,o+i,none⟩=some (.int .i64 (x0 i))
theorem pK.low (h:pK w v n x0) (hb:Below B w w') (f:w.heap.size<=B):pK w' v n x0:=by
 rcases h with h|⟨b,o,e,rfl,c,a,d⟩
 ·exact .inl h
 ·refine .inr ⟨b,o,e,rfl,aW c hb.size,a,fun i hi=>?_⟩
  have d:=d i hi;exact (hb.cell (p:=⟨b,o+i,none⟩) (aW c f)).trans d
theorem pK.val (h:pK w v n x0):∃ a cap,v=.slice a n cap:=by
 rcases h with ⟨rfl,a,cap,rfl⟩|⟨b,o,cap,rfl,_⟩
 ·exact ⟨a,cap,rfl⟩
 ·exact ⟨_,cap,rfl⟩
def Gx (k j:Nat):Value:=if j%4=0 then .int .i64 ((k:Int)+(j:Int)) else if j%4=1 then .int .i64 ((k:Int)+(j:Int)) else if j%4=2 then .int .i64 ((k:Int)+(j:Int)) else .int .i64 ((k:Int)+(j:Int))
def Bb (k j:Nat):Value:=.int .i64 ((k:Int)+(j:Int))
end
end Go.Proofs.YtbpcdfbmnklcjaaGreatDoor
