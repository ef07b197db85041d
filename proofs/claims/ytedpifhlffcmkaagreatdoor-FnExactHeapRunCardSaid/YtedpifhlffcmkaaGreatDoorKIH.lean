import Derived.Test.YtedpifhlffcmkaaGreatDoorKIC
import Derived.Test.YtedpifhlffcmkaaGreatDoorKIQ6
namespace Go.Proofs.YtedpifhlffcmkaaGreatDoor
open Go Go.RowKit
set_option linter.unusedVariables false
section
variable {A C kd:Int} {L:PM} {R base k:Nat} {S:Nat->Prop} {h:Hp} {r:Rn} {root:List Bool} {w:World}
theorem uP {B:Int} (hf:h.freed=[]) (hc:(eD h root kd A B C).code≠0):(eD h root kd A B C).h.freed=[]:=by
 unfold eD at hc ⊢
 by_cases k1:kd=1
 ·subst k1
  rw [if_pos rfl] at hc ⊢
  split at hc
  ·rw [if_pos ‹_›];exact hf
  ·exact absurd rfl hc
 rw [if_neg k1] at hc ⊢
 by_cases k2:kd=2
 ·subst k2;rw [if_pos rfl] at hc;exact absurd rfl hc
 rw [if_neg k2] at hc ⊢
 by_cases k3:kd=3
 ·subst k3;rw [if_pos rfl] at hc;exact absurd rfl hc
 rw [if_neg k3] at hc ⊢
 by_cases k4:kd=4
 ·subst k4
  rw [if_pos rfl] at hc ⊢
  split at hc
  ·rw [if_pos ‹_›];exact hf
  ·exact absurd rfl hc
 rw [if_neg k4] at hc ⊢
 by_cases k5:kd=5
 ·subst k5
  rw [if_pos rfl] at hc ⊢
  split at hc
  ·rw [if_pos ‹_›];exact hf
  ·exact absurd rfl hc
 rw [if_neg k5] at hc ⊢
 by_cases k6:kd=6
 ·subst k6
  rw [if_pos rfl] at hc ⊢
  split at hc
  ·rw [if_pos ‹_›];exact hf
  ·exact absurd rfl hc
 rw [if_neg k6] at hc ⊢
 by_cases k7:kd=7
 ·subst k7;rw [if_pos rfl] at hc;exact absurd rfl hc
 rw [if_neg k7] at hc ⊢
 by_cases k8:kd=8
 ·subst k8;rw [if_pos rfl];exact hf
 rw [if_neg k8] at hc ⊢
 split<;>exact hf
theorem vR (hf:h.freed=[]):h.forget=h:=by
 cases h
 simp only at hf
 subst hf
 rfl
theorem wM (x:PW base S r.h.forget L R r.hand w) (ok:r.Ok k) (hk:k+1<=5000) (b:Ja r.h) (kd A B C:Int) (hB: -9223372036854775808<=B/\B<=9223372036854775807):
 Calls Tryz.prog 26 #[.pointer (some ⟨R,0,none⟩),.agg #[.int .i64 kd,.int .i64 A,.int .i64 B,.int .i64 C]] w (CP base S R w (dI r kd A B C).1 (dI r kd A B C).2.h.forget (dI r kd A B C).2.hand):=by
 have okf:FK k r.h.forget r.root r.hand:=FK.forget (show FK k r.h r.root r.hand from ok) (by omega)
 have bf:Ja r.h.forget:=b.same (g:=r.h.forget) (fun _=>rfl) rfl
 by_cases hh:aW r.h r.hand kd A B C
 ·have hca:=fun (S1:Nat->Prop) (w1:World) (y:PW base S1 r.h.forget L R r.hand w1)=>Ch y okf hk rfl bf kd A B C hB (cZ.2 hh)
  have hm:dI r kd A B C=(let m:=eD r.h.forget r.root kd A B C
   if m.code≠0 then (An.no m.code,⟨m.h,m.root,0⟩)
   else (⟨0,m.id,(m.h.live:Int),(m.h.bytes:Int),(m.h.state:Int),(m.h.pending.length:Int),m.h.freed⟩,⟨m.h,m.root,if kd=8 then m.id.toNat else 0⟩)):=by unfold dI;rw [if_pos hh]
  have hfr:=uP (h:=r.h.forget) (root:=r.root) (kd:=kd) (A:=A) (B:=B) (C:=C) rfl
  generalize eD r.h.forget r.root kd A B C=m at *
  by_cases hc:m.code=0
  ·simp only [hc,ne_eq,not_true_eq_false,if_false] at hm
   rw [hm]
   rw [hc] at hca
   exact Ap x kd A B C m.id m.h _ hca (fun e=>if_pos e) (fun e=>if_neg e)
  ·simp only [ne_eq,hc,not_false_eq_true,if_true] at hm
   rw [hm]
   have:=pJ x kd A B C m.code m.id m.h hca hc
   show Calls _ _ _ _ (CP _ _ _ _ (An.no m.code) m.h.forget 0)
   rw [vR (hfr hc)]
   exact this
 ·have hm:dI r kd A B C=(An.no 3,⟨r.h,r.root,0⟩):=by unfold dI;rw [if_neg hh]
  rw [hm]
  exact pJ x kd A B C 3 0 r.h.forget (fun S1 w1 y=>(Ce y okf hk bf kd A B C hB (fun e=>hh (cZ.1 e))).2) (by decide)
end
set_option maxHeartbeats 6400000
set_option maxRecDepth 100000
section
variable {H O R base:Nat} {L L':PM} {S S':Nat->Prop} {al:List An} {av fv v':Value} {fs:List Value} {r r':Rn} {w w' w0 w5 ws:World}
def j3:Array Value:=#[.int .i64 0,.int .i64 0,.int .i64 0,.int .i64 0,.int .i64 0,.int .i64 0,.int .i64 4096,.slice none 0 0,.int .i64 0,.int .i64 0,.slice none 0 0,.slice none 0 0,.slice none 0 0,.slice none 0 0,.slice none 0 0,.slice none 0 0,.slice none 0 0,.bool false,.slice none 0 0]
def Ct (H:Nat):PM:=⟨H,fun _=>0,fun _=>.slice none 0 0,fun _=>.map none,fun _=>.slice none 0 0⟩
theorem BA (h:aD w 77 H 19 (iY Hp.new ⟨[],0,0,[]⟩ (Ct H))) (hb:base<=H) (hs:S H) (hu:∀ b,w.heap.size<=b->S b) (bs:base<=w.heap.size):PS base S Hp.new (Ct H) w:=by
 refine ⟨[],[],⟨[],0,0,[]⟩,⟨h,fun n o e=>?_,fun n o e=>?_,fun n o e=>?_,fun k hk=>?_,fun n m o o' e=>?_,fun n m o o' g e=>?_,fun n m o o' g e=>?_,fun k k' g hk hk' e=>?_,hb,fun n o e=>?_,fun n o g e=>?_,bs,hs,fun n o e=>?_,fun n o g e=>?_,fun n o g e=>?_,fun k g hk e=>?_,hu⟩,⟨fun e=>?_,fun e=>?_,fun _=>⟨List.Pairwise.nil,fun n=>⟨fun e=>by simp at e,fun e=>?_⟩⟩,Nat.zero_le _⟩⟩
 all_goals first
  |(exfalso;have e':Hp.new.ob n=some o:=e;rw [jW] at e';cases e')
  |(exfalso;simp [Ct,Value.ownBlock] at e)
  |(exfalso;obtain ⟨o,e'⟩:=e;rw [jW] at e';cases e')
  |(exfalso;have e':(0:Nat)=1:=e;omega)
  |(exfalso;have e':(0:Nat)=2:=e;omega)
  |(rcases hk with rfl|rfl|rfl|rfl|rfl|rfl|rfl|rfl|rfl<;>exact ⟨rfl,.inl ⟨rfl,rfl⟩⟩)
theorem vS (w:World):Calls Tryz.prog 25 #[] w fun e w'=>e=.returned (.pointer (some ⟨w.heap.size,0,none⟩))/\w'=w.alloc (.cells j3 77):=by
 unfold j3
 go_enter Tryz.func25,Tryz.ntmps25
 go_wp2
 go_ret
 exact ⟨rfl,rfl⟩
def Ys (S:Nat->Prop) (R:Nat) (b:Nat):Prop:=S b∨b=R
theorem PW.keep {base:Nat} {S:Nat->Prop} {h:Hp} {L:PM} {R hand:Nat} {w w':World} {T:Nat->Prop} (x:PW base S h L R hand w) (k:Keeps w w' T) (hT:∀ b,T b->¬ Ys S R b):PW base S h L R hand w':=
 ⟨x.p.out (k.mono (fun b e y=>hT b e (.inl y))),x.r.keep k (fun e=>hT R e (.inr rfl)),x.n⟩
theorem PW.less {base:Nat} {S:Nat->Prop} {h:Hp} {L:PM} {R hand:Nat} {w w':World} {T:Nat->Prop} (x:PW base S h L R hand w) (k:Keeps w w' T) (hT:∀ b,T b->¬ Ys S R b) (v:Value) (hv:∀ g,v.ownBlock=some g->g<w'.heap.size/\(¬ S g∨w.heap.size<=g)):PW base (fun b=>S b/\v.ownBlock≠some b) h L R hand w':=by
 obtain ⟨px,py,G,a,r⟩:=x.p
 have key:∀ g,v.ownBlock=some g->∀ b,S b->b<w.heap.size->g≠b:=fun g hg b hb hl c=>by
  rcases (hv g hg).2 with d|d
  ·exact d (c ▸ hb)
  ·omega
 refine ⟨⟨px,py,G,(a.out (k.mono (fun b e y=>hT b e (.inl y)))).less v (fun g hg=>⟨(hv g hg).1,key g hg _ a.sH a.hp.lt,fun n o e=>⟨key g hg _ (a.st n o e) (a.ob n o e).lt,fun c=>key g hg g (a.se n o g e c) (au (a.en n o e) c).lt rfl,fun c=>key g hg g (a.sm n o g e c) ((a.mp n o e).lt c) rfl⟩,fun j hj c=>key g hg g (a.sl j g hj c) (au (a.li j hj) c).lt rfl⟩),r⟩,(x.keep k hT).r,fun e=>x.n e.1⟩
structure PI (w0:World) (R O:Nat) (al:List An) (fs:List Value) (r:Rn) (av:Value) (S:Nat->Prop) (L:PM) (ws:World):Prop where
 x:PW w0.heap.size S r.h.forget L R r.hand ws
 o:aD ws 27 O 2 (fun j=>if j=0 then .int .i64 0 else av)
 a:ws.ownsRow w0.heap.size 36 7 av al.length (qg al fs)
 fl:fs.length=al.length
 f:∀ (i:Nat) (b:An) (f:Value),al[i]?=some b->fs[i]?=some f->ws.ownsRow w0.heap.size 3 1 f b.freed.length (bU b.freed)
 nO:¬ Ys S R O
 na:∀ g,av.ownBlock=some g->¬ Ys S R g
 nf:∀ f∈fs,∀ g,f.ownBlock=some g->¬ Ys S R g
 hb:Below w0.heap.size w0 ws
 bO:w0.heap.size<=O
 bR:w0.heap.size<=R
 bS:∀ b,S b->w0.heap.size<=b
 fd:fs.Pairwise (fun a b=>∀ g,a.ownBlock=some g->b.ownBlock≠some g)
theorem PI.ys (x:PI w0 R O al fs r av S L ws):∀ b,Ys S R b->w0.heap.size<=b:=by
 rintro b (e|e)
 ·exact x.bS b e
 ·rw [e];exact x.bR
theorem PI.low {w0:World} {R O:Nat} {al:List An} {fs:List Value} {r:Rn} {av:Value} {S:Nat->Prop} {L:PM} {ws ws':World} (x:PI w0 R O al fs r av S L ws) (b:Below ws.heap.size ws ws'):PI w0 R O al fs r av S L ws':=by
 have k:=Keeps.of b (Nat.le_refl _) (fun _=>False)
 exact ⟨x.x.low b,x.o.keep k (fun y=>y),aj x.a k (fun _ _ y=>y),x.fl,fun i a f h1 h2=>aj (x.f i a f h1 h2) k (fun _ _ y=>y),x.nO,x.na,x.nf,x.hb.trans (b.mono x.hb.size),x.bO,x.bR,x.bS,x.fd⟩
theorem PI.hole {w0:World} {R O:Nat} {al:List An} {fs:List Value} {r:Rn} {av:Value} {S:Nat->Prop} {L:PM} {ws:World} (x:PI w0 R O al fs r av S L ws) (o:Obj):PI w0 R O al fs r av (fun b=>S b/\b≠ws.heap.size) L (ws.alloc o):=by
 have y:=x.low (aJ ws o)
 have hs:(ws.alloc o).heap.size=ws.heap.size+1:=Array.size_push _
 have hz:∀ b,Ys (fun b=>S b/\b≠ws.heap.size) R b->Ys S R b:=by
  rintro b (e|e)
  ·exact .inl e.1
  ·exact .inr e
 exact ⟨x.x.hole (aJ ws o) (Nat.le_refl _) (by omega),y.o,y.a,y.fl,y.f,fun e=>x.nO (hz _ e),fun g hg e=>x.na g hg (hz _ e),fun f hf g hg e=>x.nf f hf g hg (hz _ e),y.hb,y.bO,y.bR,fun b e=>x.bS b e.1,x.fd⟩
theorem PI.one (x:PI w0 R O al fs r av S L ws) {a:An} 
 (hf:w5.ownsRow w0.heap.size 3 1 fv a.freed.length (bU a.freed)) (kk:Keeps ws w5 (fun b=>S b∨b=R)) (hw:PW w0.heap.size S' r'.h.forget L' R r'.hand w5) (hs:∀ b,S' b->S b) (hn:∀ g,fv.ownBlock=some g->¬ S' g/\S g):
 PI w0 R O al fs r' av S' L' w5/\(∀ g,fv.ownBlock=some g->¬ Ys S' R g)/\∀ f∈fs,∀ g,f.ownBlock=some g->fv.ownBlock≠some g:=by
 have hz:∀ b,Ys S' R b->Ys S R b:=by
  rintro b (e|e)
  ·exact .inl (hs b e)
  ·exact .inr e
 refine ⟨⟨hw,x.o.keep kk x.nO,aj x.a kk x.na,x.fl,fun i a f h1 h2=>aj (x.f i a f h1 h2) kk (x.nf f (List.mem_of_getElem? h2)),fun e=>x.nO (hz _ e),fun g hg e=>x.na g hg (hz _ e),fun f hf g hg e=>x.nf f hf g hg (hz _ e),x.hb.trans (kk.below x.hb.size x.ys),x.bO,x.bR,fun b e=>x.bS b (hs b e),x.fd⟩,fun g hg e=>?_,fun f hf g hg e=>x.nf f hf g hg (.inl (hn g e).2)⟩
 rcases e with e|e
 ·exact (hn g hg).1 e
 ·exact ak hf hw.r (by decide) (e ▸ hg)
theorem PI.app (x:PI w0 R O al fs r av S L w5) {a:An} (hf:w5.ownsRow w0.heap.size 3 1 fv a.freed.length (bU a.freed)) (hfz:∀ g,fv.ownBlock=some g->¬ Ys S R g) (hfd:∀ f∈fs,∀ g,f.ownBlock=some g->fv.ownBlock≠some g)
 (hv1:w'.ownsRow w0.heap.size 36 7 v' (al.length+1) (qg al fs++kI a fv)) (hv2:Keeps w5 w' (fun b=>av.ownBlock=some b)) (hv3:∀ g,v'.ownBlock=some g->av.ownBlock=some g∨w5.heap.size<=g):
 aD w' 27 O 2 (fun j=>if j=0 then .int .i64 0 else av)/\PI w0 R O (al++[a]) (fs++[fv]) r v' (fun b=>S b/\v'.ownBlock≠some b) L (w'.setCell ⟨O,1,none⟩ v'):=by
 have ho:aD w' 27 O 2 (fun j=>if j=0 then .int .i64 0 else av):=x.o.keep hv2 (fun e=>ak x.a x.o (by decide) e)
 have k1:Keeps w' (w'.setCell ⟨O,1,none⟩ v') (fun b=>b=O):=Keeps.setCell (S:=fun b=>b=O) (Keeps.refl w' _) rfl _
 have k2:Keeps w5 (w'.setCell ⟨O,1,none⟩ v') (fun b=>av.ownBlock=some b∨b=O):=(hv2.mono (fun b e=>Or.inl e)).trans (k1.mono (fun b e=>Or.inr e))
 have hown2:(w'.setCell ⟨O,1,none⟩ v').ownsRow w0.heap.size 36 7 v' (al.length+1) (qg al fs++kI a fv):=aj hv1 k1 (fun g hg e=>ak hv1 ho (by decide) (e ▸ hg))
 have hRW:PW w0.heap.size (fun b=>S b/\v'.ownBlock≠some b) r.h.forget L R r.hand (w'.setCell ⟨O,1,none⟩ v'):=x.x.less k2 (fun b e=>by
  rcases e with e|e
  ·exact x.na b e
  ·rw [e];exact x.nO) v' (fun g hg=>⟨(au hown2 hg).lt,(hv3 g hg).imp (fun y e=>x.na g y (.inl e)) (fun y=>y)⟩)
 have hlen:(al++[a]).length=al.length+1:=by simp
 have hz:∀ b,Ys (fun b=>S b/\v'.ownBlock≠some b) R b->Ys S R b:=by
  rintro b (e|e)
  ·exact .inl e.1
  ·exact .inr e
 have hfk:∀ {f:Value} {l:List Nat},w5.ownsRow w0.heap.size 3 1 f l.length (bU l)->(w'.setCell ⟨O,1,none⟩ v').ownsRow w0.heap.size 3 1 f l.length (bU l):=fun h=>aj h k2 (fun g hg e=>by
  rcases e with e|e
  ·exact aV h x.a (by decide) e hg
  ·exact ak h x.o (by decide) (e ▸ hg))
 refine ⟨ho,hRW,?_,?_,by simp [x.fl],fun i b f h1 h2=>?_,fun e=>x.nO (hz _ e),fun g hg e=>?_,fun f hf' g hg e=>?_,?_,x.bO,x.bR,fun b e=>x.bS b e.1,List.pairwise_append.2 ⟨x.fd,List.pairwise_singleton _ _,fun a ha b hb g hg=>by simp at hb;subst hb;exact hfd a ha g hg⟩⟩
 ·refine (ho.set (j:=1) (by omega) v').congr (fun j hj=>?_)
  have:j=0∨j=1:=by omega
  rcases this with rfl|rfl<;>rfl
 ·rw [hlen,p9 x.fl]
  exact hown2
 ·by_cases c:i<al.length
  ·rw [List.getElem?_append_left c] at h1
   rw [List.getElem?_append_left (by rw [x.fl];exact c)] at h2
   exact hfk (x.f i b f h1 h2)
  ·have hi:i=al.length:=by
    have:=(List.getElem?_eq_some_iff.1 h1).1
    rw [hlen] at this
    omega
   subst hi
   simp at h1
   rw [<-x.fl] at h2
   simp at h2
   subst h1
   subst h2
   exact hfk hf
 ·rcases e with e|e
  ·exact e.2 hg
  ·exact ak hv1 (x.x.r.keep hv2 (fun e=>ak x.a x.x.r (by decide) e)) (by decide) (e ▸ hg)
 ·rcases List.mem_append.1 hf' with y|y
  ·exact x.nf f y g hg (hz _ e)
  ·simp at y
   subst y
   exact hfz g hg (hz _ e)
 ·refine x.hb.trans (k2.below x.hb.size (fun b e=>?_))
  rcases e with e|e
  ·exact (x.a.lt b e).1
  ·rw [e];exact x.bO
theorem qF (l:List mJ):∀ j,j<=l.length->j<=5000->Ja (cK (l.take j)).2.h
 |0,_,_=>by rw [List.take_zero];exact Ja.new
 |j+1,h1,h2=>by
  have b:=qF l j (by omega) (by omega)
  have hj:l[j]?=some l[j]:=List.getElem?_eq_getElem (by omega)
  rw [gu hj]
  exact vY b (iL l j (by omega) (by omega)).1 h2 _ _ _ _
theorem yc {o:Oper} {a:Act} {K:Act->World->Prop} {Q:Exit->Act->World->Prop} (x y:Operand)
 (ho:o.op=.call { callee:=.value (.func 26),args:=#[x,y],argTypes:=#[63,39] }) (v1 v2:Value) (hx:a.eval x=v1) (hy:a.eval y=v2) {E:Ending->World->Prop} (hC:Calls Tryz.prog 26 #[v1,v2] w E)
 (h:∀ e w',E e w'->∃ v,e=.returned v/\K (a.put o.dst v) w'):Oper.wp Tryz.prog o a w K Q:=by
 unfold Oper.wp
 have hf:a.eval (.func 26)=.func (.func 26) #[] #[]:=rfl
 generalize a.eval=ev at hx hy hf ⊢
 simp [execOp,ho,resolve,invoke,hx,hy,hf,go_sem]
 refine hC.mono ?_
 intro e w' he
 obtain ⟨v,rfl,hk⟩:=h e w' he
 exact hk
def DF (ops:List mJ) (w:World) (e:Ending) (w':World):Prop:=Below w.heap.size w w'/\∃ (c:Int) (av:Value) (al:List An) (fs:List Value),e=.returned (.agg #[.int .i64 c,av])/\c=(if 5000<ops.length then 5 else 0)/\al=(if 5000<ops.length then [] else (cK ops).1)/\w'.ownsRow w.heap.size 36 7 av al.length (qg al fs)/\fs.length=al.length/\(∀ (i:Nat) (b:An) (f:Value),al[i]?=some b->fs[i]?=some f->w'.ownsRow w.heap.size 3 1 f b.freed.length (bU b.freed))/\fs.Pairwise (fun a b=>∀ g,a.ownBlock=some g->b.ownBlock≠some g)
end
section
variable {R:Nat} {v:Value} {w w1 w3 w4:World}
theorem za {S0:Nat->Prop} (hR:R=w1.heap.size+1) (h0:w3=(w1.alloc (.cells j3 77)).alloc (.cells #[.pointer (some ⟨w1.heap.size,0,none⟩),.nilIface] 69)) (h4:w4=w3.setCell ⟨w1.heap.size,17,none⟩ (.bool true)):
 PI w1 R (R+1) [] [] ⟨Hp.new,[false],0⟩ (.slice none 0 0) (fun b=>((w1.heap.size<=b/\b≠R)/\b≠R+1)) (Ct w1.heap.size) (w4.alloc (.cells #[.int .i64 0,.slice none 0 0] 27)):=by
 have e1:(w1.alloc (.cells j3 77)).heap.size=w1.heap.size+1:=Array.size_push _
 have e3:w3.heap.size=w1.heap.size+2:=by rw [h0,show ((w1.alloc (.cells j3 77)).alloc (.cells #[.pointer (some ⟨w1.heap.size,0,none⟩),.nilIface] 69)).heap.size=_ from Array.size_push _,e1]
 have k4:Keeps w3 w4 (fun b=>b=w1.heap.size):=by rw [h4];exact Keeps.setCell (S:=fun b=>b=w1.heap.size) (Keeps.refl w3 _) rfl _
 have e4:w4.heap.size=w1.heap.size+2:=by rw [h4];exact (World.size_setCell _ _ _).trans e3
 have hh:aD w3 77 w1.heap.size 19 (fun j=>j3.getD j (.bool false)):=by
  rw [h0]
  exact aD.low (show aD _ _ _ 19 _ from aD.mk' w1 77 j3) (aJ _ _) (by omega)
 have hr:aD w3 69 R 2 (Cr w1.heap.size (aG (fun _=>0) (cu 0))):=by
  have:=aD.mk' (w1.alloc (.cells j3 77)) 69 #[.pointer (some ⟨w1.heap.size,0,none⟩),.nilIface]
  rw [e1,<-hR,<-h0] at this
  refine aD.congr (show aD _ _ _ 2 _ from this) (fun j hj=>?_)
  have:j=0∨j=1:=by omega
  rcases this with rfl|rfl<;>rfl
 have hb:Below w1.heap.size w1 w4:=by
  have hb3:Below w1.heap.size w1 w3:=by rw [h0];exact zO w1 _ _
  exact hb3.trans (k4.below (by omega) (fun b e=>by omega))
 have b5:=aJ w4 (.cells #[.int .i64 0,.slice none 0 0] 27)
 have hh4:aD w4 77 w1.heap.size 19 (iY Hp.new ⟨[],0,0,[]⟩ (Ct w1.heap.size)):=by
  rw [h4]
  refine (hh.set (j:=17) (by omega) (.bool true)).congr (fun j hj=>?_)
  revert j
  exact aS _ rfl rfl rfl rfl rfl rfl rfl rfl rfl rfl rfl rfl rfl rfl rfl rfl rfl rfl rfl
 have ho:=rE w4 0 none 0 0
 have e5:(w4.alloc (.cells #[.int .i64 0,.slice none 0 0] 27)).heap.size=w1.heap.size+3:=by rw [show (w4.alloc (.cells #[.int .i64 0,.slice none 0 0] 27)).heap.size=_ from Array.size_push _,e4]
 have hRO:w4.heap.size=R+1:=by omega
 rw [hRO] at ho
 refine ⟨⟨BA (hh4.low b5 (by omega)) (Nat.le_refl _) ⟨⟨Nat.le_refl _,by omega⟩,by omega⟩ (fun b hb=>⟨⟨by omega,by omega⟩,by omega⟩) (by omega),(hr.keep k4 (fun c=>by omega)).low b5 (by omega),fun e=>e.1.2 rfl⟩,ho,⟨rfl,.inl ⟨rfl,rfl⟩⟩,rfl,fun i b f h=>by simp at h,?_,fun g hg=>by simp [Value.ownBlock] at hg,fun f hf=>by simp at hf,hb.trans (b5.mono (by omega)),by omega,by omega,fun b e=>e.1.1,List.Pairwise.nil⟩
 rintro (e|e)
 ·exact e.2 rfl
 ·omega
theorem Br (w1:World):∃ (f g:Nat->Value),aD ((w1.alloc (.cells j3 77)).alloc (.cells #[.pointer (some ⟨w1.heap.size,0,none⟩),.nilIface] 69)) 77 w1.heap.size 19 f/\f 17=.bool false/\aD ((w1.alloc (.cells j3 77)).alloc (.cells #[.pointer (some ⟨w1.heap.size,0,none⟩),.nilIface] 69)) 69 (w1.heap.size+1) 2 g/\g 0=.pointer (some ⟨w1.heap.size,0,none⟩):=by
 have e1:(w1.alloc (.cells j3 77)).heap.size=w1.heap.size+1:=Array.size_push _
 have:=aD.mk' (w1.alloc (.cells j3 77)) 69 #[.pointer (some ⟨w1.heap.size,0,none⟩),.nilIface]
 rw [e1] at this
 exact ⟨_,_,aD.low (show aD _ _ _ 19 _ from aD.mk' w1 77 j3) (aJ _ _) (by omega),rfl,this,rfl⟩
theorem AQ {ops:List mJ} (hv:wR w v ops) (hn:ops.length<=1048576) (hB:∀ o∈ops,-9223372036854775808<=o.2.2.1/\o.2.2.1<=9223372036854775807):Calls Tryz.prog 8 #[v] w (DF ops w):=by
 obtain ⟨A,cap,rfl,hcap,hcells⟩:=hv
 have HC:=ah hcells
 have HBB:=ah hB
 clear hcells hB
 have HX:=ah (rE w 0 none 0 0)
 have HB:=ah (aJ w (.cells #[.int .i64 0,.slice none 0 0] 27))
 by_cases h5:5000<ops.length
 ·have h5i:((ops.length:Int) > 5000):=by omega
  go_enter Tryz.func8,Tryz.ntmps8
  go_upto_region 1 with (fail)
  generalize w.alloc (.cells #[.int .i64 0,.slice none 0 0] 27)=w1 at *
  generalize hX:w.heap.size=X at *
  have x0:=HX.o.cell (j:=0) (by omega)
  have x1:=HX.o.cell (j:=1) (by omega)
  have z0:=HX.o.Jv 0
  have z1:=HX.o.Jv 1
  go_wp2
  have HR:=ah (((HX.o.set (j:=0) (by omega) (.int .i64 5)).set (j:=1) (by omega) (.slice none 0 0)))
  have HK:=ah (show Below X w _ from HB.o.trans (((Keeps.setCell (S:=fun b=>b=X) (Keeps.refl w1 _) (g:=X) (j:=0) rfl (.int .i64 5)).setCell (g:=X) (j:=1) rfl (.slice none 0 0)).below (B:=X) (Nat.le_of_lt HX.o.lt) (fun b e=>by omega)))
  generalize (w1.setCell ⟨X,0,none⟩ (.int .i64 5)).setCell ⟨X,1,none⟩ (.slice none 0 0)=w7 at *
  have q0:w7.cell? ⟨X,0,none⟩=some (.int .i64 5):=HR.o.cell (j:=0) (by omega)
  have q1:w7.cell? ⟨X,1,none⟩=some (.slice none 0 0):=HR.o.cell (j:=1) (by omega)
  refine bodyPost_ret (v:=.agg #[.int .i64 5,.slice none 0 0]) ?_ rfl ?_
  ·simp [results,Tryz.results8,go_sem,q0,q1]
  ·exact ⟨by rw [hX];exact HK.o,5,.slice none 0 0,[],[],rfl,by rw [if_pos h5],by rw [if_pos h5],⟨rfl,.inl ⟨rfl,rfl⟩⟩,rfl,fun i b f h=>by simp at h,List.Pairwise.nil⟩
 ·have h5i:¬ ((ops.length:Int) > 5000):=by omega
  go_enter Tryz.func8,Tryz.ntmps8
  go_upto_region 1 with (fail)
  have HNW:=ah (vS (w.alloc (.cells #[.int .i64 0,.slice none 0 0] 27)))
  generalize w.alloc (.cells #[.int .i64 0,.slice none 0 0] 27)=w1 at *
  generalize hX:w.heap.size=X at *
  go_wp2_with fail
  refine HNW.o.mono ?_
  rintro e2 w2 ⟨rfl,hw2⟩
  have HW2:=ah hw2
  clear hw2 HNW
  have HRR:=ah (show w2.heap.size=w1.heap.size+1 by rw [HW2.o];exact Array.size_push _)
  go_upto_region 4 with (fail)
  obtain ⟨ff,gg,hf1,hf2,hg1,hg2⟩:=Br w1
  rw [<-HW2.o] at hf1 hg1
  rw [<-HRR.o] at hg1
  have HI0:=ah (za (w1:=w1) (w3:=w2.alloc (.cells #[.pointer (some ⟨w1.heap.size,0,none⟩),.nilIface] 69)) (w4:=(w2.alloc (.cells #[.pointer (some ⟨w1.heap.size,0,none⟩),.nilIface] 69)).setCell ⟨w1.heap.size,17,none⟩ (.bool true)) (R:=w2.heap.size) (S0:=fun _=>True) HRR.o (by rw [HW2.o]) rfl)
  have h3:(w2.alloc (.cells #[.pointer (some ⟨w1.heap.size,0,none⟩),.nilIface] 69)).heap.size=w2.heap.size+1:=Array.size_push _
  generalize w2.alloc (.cells #[.pointer (some ⟨w1.heap.size,0,none⟩),.nilIface] 69)=w3 at *
  generalize w2.heap.size=R at *
  have c0:=hg1.cell (j:=0) (by omega)
  rw [hg2] at c0
  have c17:=hf1.cell (j:=17) (by omega)
  rw [hf2] at c17
  have z17:=hf1.Jv 17
  clear hf1 hf2 hg1 hg2 HW2
  go_upto_region 5 with (fail)
  have h4:(w3.setCell ⟨w1.heap.size,17,none⟩ (.bool true)).heap.size=R+1:=(World.size_setCell _ _ _).trans h3
  generalize w3.setCell ⟨w1.heap.size,17,none⟩ (.bool true)=w4 at *
  have HH4:=ah h4
  clear c0 c17 z17 h3 h4
  go_upto_region 6 with (fail)
  rw [HH4.o]
  have HI1:Hq (PI w1 R (R+1) [] [] ⟨Hp.new,[false],0⟩ (.slice none 0 0) (fun b=>((w1.heap.size<=b/\b≠R)/\b≠R+1)) (Ct w1.heap.size) (w4.alloc (.cells #[.int .i64 0,.slice none 0 0] 27))):=HI0
  clear HI0
  generalize w4.alloc (.cells #[.int .i64 0,.slice none 0 0] 27)=w5 at *
  go_wp2
  go_loopw [22] (fun jv ws=>∃ j:Nat,j<=ops.length/\jv=.int .i64 j/\Hq (∃ fs av S L,PI w1 R (R+1) (cK (ops.take j)).1 fs (cK (ops.take j)).2 av S L ws)) (fun jv _=>ops.length-aU jv)
  case atStart=>exact ⟨0,by omega,rfl,_,_,_,_,by rw [List.take_zero];exact HI1.o⟩
  case round=>
   clear HI1
   obtain ⟨j,hj9,rfl,HJ⟩:=hrel
   obtain ⟨fs,av,S,L,hj⟩:=HJ.o
   have HJI:=ah hj
   clear hj HJ
   have hok:=(iL ops j hj9 (by omega))
   have hal:(cK (ops.take j)).1.length<=5000:=by rw [hok.2];omega
   by_cases hjn:j<ops.length
   ·obtain ⟨o,ho⟩:∃ o,ops[j]?=some o:=⟨_,List.getElem?_eq_getElem hjn⟩
    have hji:(j:Int)<(ops.length:Int):=by omega
    have HRT:=ah (gu ho)
    obtain ⟨g,rfl,hg,d0,d1,d2,d3⟩:=HC.o j o ho
    have hg1:g<w1.heap.size:=Nat.lt_of_lt_of_le (hX ▸ hg) (hX ▸ HB.o.size)
    have hgX:g<X:=hX ▸ hg
    have f0:wr.cell? ⟨g,j*4,none⟩=some (.int .i64 o.1):=(HJI.o.hb.cell (p:=⟨g,j*4,none⟩) hg1).trans ((HB.o.cell (p:=⟨g,j*4,none⟩) hgX).trans d0)
    have f1:wr.cell? ⟨g,j*4+1,none⟩=some (.int .i64 o.2.1):=(HJI.o.hb.cell (p:=⟨g,j*4+1,none⟩) hg1).trans ((HB.o.cell (p:=⟨g,j*4+1,none⟩) hgX).trans d1)
    have f2:wr.cell? ⟨g,j*4+2,none⟩=some (.int .i64 o.2.2.1):=(HJI.o.hb.cell (p:=⟨g,j*4+2,none⟩) hg1).trans ((HB.o.cell (p:=⟨g,j*4+2,none⟩) hgX).trans d2)
    have f3:wr.cell? ⟨g,j*4+3,none⟩=some (.int .i64 o.2.2.2):=(HJI.o.hb.cell (p:=⟨g,j*4+3,none⟩) hg1).trans ((HB.o.cell (p:=⟨g,j*4+3,none⟩) hgX).trans d3)
    have HOK:=ah hok.1
    have HBN:=ah (qF ops j (by omega) (by omega))
    have HBC:=ah (HBB.o o (List.mem_of_getElem? ho))
    obtain ⟨kd,A,B,C⟩:=o
    simp only at f0 f1 f2 f3
    have HP:=ah (eT wr kd A B C)
    have HH:=ah (HJI.o.hole (.cells #[.int .i64 kd,.int .i64 A,.int .i64 B,.int .i64 C] 39))
    clear d0 d1 d2 d3 ho hok
    go_upto_region 9 with (fail)
    generalize wr.alloc (.cells #[.int .i64 kd,.int .i64 A,.int .i64 B,.int .i64 C] 39)=w5 at *
    generalize wr.heap.size=P at *
    clear f0 f1 f2 f3
    generalize cK (ops.take j)=q at *
    obtain ⟨aA,kA,rfl⟩:∃ aA kA,av=.slice aA q.1.length kA:=aF HH.o.a
    have c1:w5.cell? ⟨R+1,1,none⟩=some (.slice aA q.1.length kA):=HH.o.o.cell (j:=1) (by omega)
    have p0:w5.cell? ⟨P,0,none⟩=some (.int .i64 kd):=HP.o.cell (j:=0) (by omega)
    have p1:w5.cell? ⟨P,1,none⟩=some (.int .i64 A):=HP.o.cell (j:=1) (by omega)
    have p2:w5.cell? ⟨P,2,none⟩=some (.int .i64 B):=HP.o.cell (j:=2) (by omega)
    have p3:w5.cell? ⟨P,3,none⟩=some (.int .i64 C):=HP.o.cell (j:=3) (by omega)
    have HONE:=ah (fun (w9:World) (y:PW w1.heap.size (fun b=>S b/\b≠P) q.2.h.forget L R q.2.hand w9)=>wM y HOK.o (by omega) HBN.o kd A B C HBC.o)
    have HRT2:Hq (cK (ops.take (j+1))=(q.1++[(dI q.2 kd A B C).1],(dI q.2 kd A B C).2)):=HRT
    clear HRT HJI
    generalize dI q.2 kd A B C=pp at *
    have HHd:=ah (HH.o.low (ay (Below.refl _ _) 1))
    have HPd:=ah (HP.o.keep (Keeps.of (ay (Below.refl w5.heap.size w5) 1) (Nat.le_refl _) (fun _=>False)) (fun y=>y))
    go_wp2_with fail
    go_region_law (first
     |(rw [if_pos (by rfl)]
       refine yc (.tmp 28) (.tmp 29) rfl _ _ rfl rfl (HONE.o _ HHd.o.x) ?_
       rintro e6 w6 ⟨fv,S',L',rfl,hf,hn',hs,hw,kk⟩
       obtain ⟨af,kf,hfv⟩:=aF hf
       subst hfv
       refine ⟨_,rfl,?_⟩
       have hone:=HHd.o.one hf kk hw hs hn'
       have HF:=ah hf
       have H6:=ah hone
       have b1:w6.cell? ⟨R+1,1,none⟩=some (.slice aA q.1.length kA):=H6.o.1.o.cell (j:=1) (by omega)
       have hOl:=H6.o.1.o.lt
       have b2:=((aJ w6 (.cells #[.int .i64 pp.1.code,.int .i64 pp.1.id,.int .i64 pp.1.live,.int .i64 pp.1.bytes,.int .i64 pp.1.state,.int .i64 pp.1.pend,.slice af pp.1.freed.length kf] 36)).cell (p:=⟨R+1,1,none⟩) hOl).trans b1
       have e7:(kI pp.1 (.slice af pp.1.freed.length kf)).toArray=#[.int .i64 pp.1.code,.int .i64 pp.1.id,.int .i64 pp.1.live,.int .i64 pp.1.bytes,.int .i64 pp.1.state,.int .i64 pp.1.pend,.slice af pp.1.freed.length kf]:=rfl
       rw [e7]
       clear hone hf kk hw hs hn' e7)
     |(rw [if_pos (by rfl)]
       refine lD (wr:=w6.alloc (.cells #[.int .i64 pp.1.code,.int .i64 pp.1.id,.int .i64 pp.1.live,.int .i64 pp.1.bytes,.int .i64 pp.1.state,.int .i64 pp.1.pend,.slice af pp.1.freed.length kf] 36)) (.tmp 27) (.tmp 31) rfl w1.heap.size (.slice aA q.1.length kA) q.1.length (qg q.1 fs) (kI pp.1 (.slice af pp.1.freed.length kf)) (aj H6.o.1.a (Keeps.of (aJ w6 _) (Nat.le_refl _) (fun _=>False)) (fun _ _ y=>y)) rfl w6.heap.size rfl rfl (uF _ _ _ _) (CG w6 _ _ _ _ _ _ _ _ _) (by omega) (Nat.le_trans H6.o.1.hb.size (aJ w6 _).size) ?_
       intro v' w8 g1 g2 g3
       obtain ⟨a8,k8,hv8⟩:=aF g1
       subst hv8
       have H8:=ah (H6.o.1.app (w':=w8) HF.o H6.o.2.1 H6.o.2.2 g1 ((Keeps.of (aJ w6 _) (Nat.le_refl _) _).trans g2) (fun g e=>(g3 g e).imp id (fun y=>Nat.le_trans (aJ w6 _).size y)))
       have u1:=H8.o.1.cell (j:=1) (by omega)
       have z1:=H8.o.1.Jv 1
       clear g1 g2 g3))
    all_goals
     go_wp2_with fail
     go_roundw
     case rel=>exact ⟨j+1,by omega,by simp,_,_,_,_,by rw [HRT2.o];exact H8.o.2⟩
     case measure=>simp [aU];omega
   ·have hje:j=ops.length:=by omega
    subst hje
    rw [List.take_length] at HJI
    obtain ⟨aA,kA,rfl⟩:∃ aA kA,av=.slice aA (cK ops).1.length kA:=aF HJI.o.a
    have hXl:X<w1.heap.size:=HX.o.lt
    have HXR:=ah (HX.o.low HJI.o.hb hXl)
    have c0:wr.cell? ⟨R+1,0,none⟩=some (.int .i64 0):=HJI.o.o.cell (j:=0) (by omega)
    have c1:wr.cell? ⟨R+1,1,none⟩=some (.slice aA (cK ops).1.length kA):=HJI.o.o.cell (j:=1) (by omega)
    have x0:=HXR.o.cell (j:=0) (by omega)
    have x1:=HXR.o.cell (j:=1) (by omega)
    have z0:=HXR.o.Jv 0
    have z1:=HXR.o.Jv 1
    clear hal hok
    go_wp2
    have HR:=ah (((HXR.o.set (j:=0) (by omega) (.int .i64 0)).set (j:=1) (by omega) (.slice aA (cK ops).1.length kA)))
    have HK:=ah ((Keeps.setCell (S:=fun b=>b=X) (Keeps.refl wr _) (g:=X) (j:=0) rfl (.int .i64 0)).setCell (g:=X) (j:=1) rfl (.slice aA (cK ops).1.length kA))
    generalize (wr.setCell ⟨X,0,none⟩ (.int .i64 0)).setCell ⟨X,1,none⟩ (.slice aA (cK ops).1.length kA)=w7 at *
    have q0:w7.cell? ⟨X,0,none⟩=some (.int .i64 0):=HR.o.cell (j:=0) (by omega)
    have q1:w7.cell? ⟨X,1,none⟩=some (.slice aA (cK ops).1.length kA):=HR.o.cell (j:=1) (by omega)
    refine bodyPost_ret (v:=.agg #[.int .i64 0,.slice aA (cK ops).1.length kA]) ?_ rfl ?_
    ·simp [results,Tryz.results8,go_sem,q0,q1]
    ·have hsz:w.heap.size<=w1.heap.size:=by omega
     have hbw:Below X w wr:=HB.o.trans (HJI.o.hb.mono (Nat.le_of_lt hXl))
     have hfar:∀ {T s n:Nat} {v:Value} {xs:List Value},wr.ownsRow w1.heap.size T s v n xs->w7.ownsRow w.heap.size T s v n xs:=fun h=>fq (aj h HK.o (fun g hg e=>by have:=(h.lt g hg).1;omega)) hsz
     exact ⟨by rw [hX];exact hbw.trans (HK.o.below (B:=X) (Nat.le_of_lt HXR.o.lt) (fun b e=>by omega)),0,_,(cK ops).1,fs,rfl,by rw [if_neg h5],by rw [if_neg h5],hfar HJI.o.a,HJI.o.fl,fun i b f h1 h2=>hfar (HJI.o.f i b f h1 h2),HJI.o.fd⟩
end
section
variable {B i n:Nat} {f:Nat->Value} {v:Value} {w w':World} {x0 x1 x2 x3:Nat->Int}
def lJ (w:World) (v:Value) (n:Nat) (x0:Nat->Int) (x1:Nat->Int) (x2:Nat->Int) (x3:Nat->Int):Prop:=
 (n=0/\∃ a cap,v=.slice a 0 cap)∨∃ b o cap,v=.slice (some ⟨b,o,none⟩) n cap/\b<w.heap.size/\n<=cap/\∀ i,i<n->w.cell? ⟨b,o+i*4,none⟩=some (.int .i64 (x0 i))/\w.cell? ⟨b,o+i*4+1,none⟩=some (.int .i64 (x1 i))/\w.cell? ⟨b,o+i*4+2,none⟩=some (.int .i64 (x2 i))/\w.cell? ⟨b,o+i*4+3,none⟩=some (.int .i64 (x3 i))
theorem lJ.low (h:lJ w v n x0 x1 x2 x3) (hb:Below B w w') (hB:w.heap.size<=B):lJ w' v n x0 x1 x2 x3:=by
 rcases h with h|⟨b,o,cap,rfl,hbB,hcap,hc⟩
 ·exact .inl h
 ·refine .inr ⟨b,o,cap,rfl,Nat.lt_of_lt_of_le hbB hb.size,hcap,fun i hi=>?_⟩
  have hc:=hc i hi
  exact ⟨(hb.cell (p:=⟨b,o+i*4,none⟩) (Nat.lt_of_lt_of_le hbB hB)).trans hc.1,(hb.cell (p:=⟨b,o+i*4+1,none⟩) (Nat.lt_of_lt_of_le hbB hB)).trans hc.2.1,(hb.cell (p:=⟨b,o+i*4+2,none⟩) (Nat.lt_of_lt_of_le hbB hB)).trans hc.2.2.1,(hb.cell (p:=⟨b,o+i*4+3,none⟩) (Nat.lt_of_lt_of_le hbB hB)).trans hc.2.2.2⟩
theorem lJ.val (h:lJ w v n x0 x1 x2 x3):∃ a cap,v=.slice a n cap:=by
 rcases h with ⟨rfl,a,cap,rfl⟩|⟨b,o,cap,rfl,_⟩
 ·exact ⟨a,cap,rfl⟩
 ·exact ⟨_,cap,rfl⟩
def jN (w:World) (g n:Nat) (x0:Nat->Int) (x1:Nat->Int) (x2:Nat->Int) (x3:Nat->Int):Prop:=∃ f,aD w 39 g (n*4) f/\∀ i,i<n->f (i*4)=(.int .i64 (x0 i))/\f (i*4+1)=(.int .i64 (x1 i))/\f (i*4+2)=(.int .i64 (x2 i))/\f (i*4+3)=(.int .i64 (x3 i))
theorem jN.by {w:World} {g n:Nat} {x0:Nat->Int} {x1:Nat->Int} {x2:Nat->Int} {x3:Nat->Int} (h:jN w g n x0 x1 x2 x3):lJ w (.slice (some ⟨g,0,none⟩) n n) n x0 x1 x2 x3:=by
 obtain ⟨f,h1,h2⟩:=h
 refine .inr ⟨g,0,n,rfl,h1.lt,Nat.le_refl _,fun i hi=>?_⟩
 have h2:=h2 i hi
 rw [Nat.zero_add,h1.cell (j:=i*4) (by omega),h2.1,h1.cell (j:=i*4+1) (by omega),h2.2.1,h1.cell (j:=i*4+2) (by omega),h2.2.2.1,h1.cell (j:=i*4+3) (by omega),h2.2.2.2]
 exact ⟨rfl,rfl,rfl,rfl⟩
theorem jN.low {w w':World} {g n B:Nat} {x0:Nat->Int} {x1:Nat->Int} {x2:Nat->Int} {x3:Nat->Int} (h:jN w g n x0 x1 x2 x3) (hb:Below B w w') (hg:g<B):jN w' g n x0 x1 x2 x3:=by
 obtain ⟨f,h1,h2⟩:=h
 exact ⟨f,h1.low hb hg,h2⟩
theorem jN.other {w:World} {g g' j n:Nat} {x0:Nat->Int} {x1:Nat->Int} {x2:Nat->Int} {x3:Nat->Int} {x:Value} (h:jN w g n x0 x1 x2 x3) (hn:g≠g'):jN (w.setCell ⟨g',j,none⟩ x) g n x0 x1 x2 x3:=by
 obtain ⟨f,h1,h2⟩:=h
 exact ⟨f,h1.other hn,h2⟩
theorem jN.lt {w:World} {g n:Nat} {x0:Nat->Int} {x1:Nat->Int} {x2:Nat->Int} {x3:Nat->Int} (h:jN w g n x0 x1 x2 x3):g<w.heap.size:=by
 obtain ⟨f,h1,h2⟩:=h
 exact h1.lt
theorem Aq:(Tryz.prog.info? 39).map (fun i=>(i.zero,i.size,i.bytes))=some (some (.agg #[.int .i64 0,.int .i64 0,.int .i64 0,.int .i64 0]),4,32):=by kernel_rfl
theorem xS (p0:Int) (p1:Int) (p2:Int) (p3:Int) (w:World):
 Calls Tryz.prog 28 #[.agg #[.int .i64 (p0),.int .i64 (p1),.int .i64 (p2),.int .i64 (p3)]] w fun e w'=>e=.returned (.agg #[.int .i64 (p0),.int .i64 (p1),.int .i64 (p2),.int .i64 (p3)])/\Below w.heap.size w w':=by
 go_enter Tryz.func28,Tryz.ntmps28
 go_wp2
 refine bodyPost_ret (v:=.agg #[.int .i64 (p0),.int .i64 (p1),.int .i64 (p2),.int .i64 (p3)]) ?_ rfl ⟨rfl,Dt _ _ _ _⟩
 simp [results,Tryz.results28,go_sem]
theorem yw (p0:Int) (p1:Int) (p2:Int) (p3:Int) (w:World):
 Calls Tryz.prog 30 #[.agg #[.int .i64 (p0),.int .i64 (p1),.int .i64 (p2),.int .i64 (p3)],.agg #[.int .i64 (p0),.int .i64 (p1),.int .i64 (p2),.int .i64 (p3)]] w fun e w'=>e=.returned (.bool true)/\Below w.heap.size w w':=by
 go_enter Tryz.func30,Tryz.ntmps30
 go_wp2
 go_ret
 exact ⟨rfl,zO _ _ _⟩
theorem wN {n:Nat} (h:∀ k,k<i->f (k*4)=(.int .i64 (x0 k))/\f (k*4+1)=(.int .i64 (x1 k))/\f (k*4+2)=(.int .i64 (x2 k))/\f (k*4+3)=(.int .i64 (x3 k))):∀ k,k<i+1->(fun j=>if j=i*4+3 then (.int .i64 (x3 i)) else if j=i*4+2 then (.int .i64 (x2 i)) else if j=i*4+1 then (.int .i64 (x1 i)) else if j=i*4 then (.int .i64 (x0 i)) else f j) (k*4)=(.int .i64 (x0 k))/\(fun j=>if j=i*4+3 then (.int .i64 (x3 i)) else if j=i*4+2 then (.int .i64 (x2 i)) else if j=i*4+1 then (.int .i64 (x1 i)) else if j=i*4 then (.int .i64 (x0 i)) else f j) (k*4+1)=(.int .i64 (x1 k))/\(fun j=>if j=i*4+3 then (.int .i64 (x3 i)) else if j=i*4+2 then (.int .i64 (x2 i)) else if j=i*4+1 then (.int .i64 (x1 i)) else if j=i*4 then (.int .i64 (x0 i)) else f j) (k*4+2)=(.int .i64 (x2 k))/\(fun j=>if j=i*4+3 then (.int .i64 (x3 i)) else if j=i*4+2 then (.int .i64 (x2 i)) else if j=i*4+1 then (.int .i64 (x1 i)) else if j=i*4 then (.int .i64 (x0 i)) else f j) (k*4+3)=(.int .i64 (x3 k)):=by
 intro k hk
 by_cases e:k=i
 ·subst e
  simp
 ·have:=h k (by omega)
  exact ⟨(if_neg (by omega)).trans ((if_neg (by omega)).trans ((if_neg (by omega)).trans ((if_neg (by omega)).trans (this.1)))),(if_neg (by omega)).trans ((if_neg (by omega)).trans ((if_neg (by omega)).trans ((if_neg (by omega)).trans (this.2.1)))),(if_neg (by omega)).trans ((if_neg (by omega)).trans ((if_neg (by omega)).trans ((if_neg (by omega)).trans (this.2.2.1)))),(if_neg (by omega)).trans ((if_neg (by omega)).trans ((if_neg (by omega)).trans ((if_neg (by omega)).trans (this.2.2.2))))⟩
theorem iT (v:Value) (n:Nat) (x0:Nat->Int) (x1:Nat->Int) (x2:Nat->Int) (x3:Nat->Int) (w:World) (hn:n<=1048576) (h:lJ w v n x0 x1 x2 x3):
 Calls Tryz.prog 14 #[v] w fun e w'=>e=.returned (.slice (some ⟨w.heap.size,0,none⟩) n n)/\jN w' w.heap.size n x0 x1 x2 x3/\Below w.heap.size w w':=by
 obtain ⟨i0,hi,hz0,hz1,hz2⟩:=info_parts Aq
 rcases h with ⟨rfl,a,cap,rfl⟩|⟨b,o,cap,rfl,hb,hcap,hc⟩
 ·go_enter Tryz.func14,Tryz.ntmps14
  go_wp2_with (first
   |(at_make;refine wpList_make_full _ rfl _ _ 23 rfl w.heap.size 39 i0 (.agg #[.int .i64 0,.int .i64 0,.int .i64 0,.int .i64 0]) 4 Tryz.underlying23 hi hz0 hz1 _ _ _ _ 0 rfl rfl rfl rfl (by rw [hz2];omega) (by unfold maxLen;omega) (Nat.le_refl _) ?_;intro w1 hown hgrow)
   |go_in)
  have hb1:Below w.heap.size w w1:=(Below.refl _ _).grown hgrow (Nat.le_refl _) (fun _ h=>by cases h)
  have HO:=ah (fQ hown)
  clear hgrow hown
  go_wp2
  go_loopw [4] (fun iv wr=>iv=.int .i64 0/\wr=w1) (fun _ _=>0)
  case atStart=>exact ⟨rfl,rfl⟩
  case round=>
   obtain ⟨rfl,rfl⟩:=hrel
   go_wp2
   go_ret
   exact ⟨rfl,⟨_,HO.o,fun i hi=>by omega⟩,hb1⟩
 ·have HC:=ah hc
  clear hc
  go_enter Tryz.func14,Tryz.ntmps14
  go_wp2_with (first
   |(at_make;refine wpList_make_full _ rfl _ _ 23 rfl w.heap.size 39 i0 (.agg #[.int .i64 0,.int .i64 0,.int .i64 0,.int .i64 0]) 4 Tryz.underlying23 hi hz0 hz1 _ _ _ _ n rfl rfl rfl rfl (by rw [hz2];omega) (by unfold maxLen;omega) (Nat.le_refl _) ?_;intro w1 hown hgrow)
   |go_in)
  have hb1:Below w.heap.size w w1:=(Below.refl _ _).grown hgrow (Nat.le_refl _) (fun _ h=>by cases h)
  have HO:=ah (fQ hown)
  clear hgrow hown
  go_wp2
  go_loopw [4] (fun iv wr=>∃ i:Nat,i<=n/\iv=.int .i64 i/\(∃ f,aD wr 39 w.heap.size (n*4) f/\∀ k,k<i->f (k*4)=(.int .i64 (x0 k))/\f (k*4+1)=(.int .i64 (x1 k))/\f (k*4+2)=(.int .i64 (x2 k))/\f (k*4+3)=(.int .i64 (x3 k)))/\Below w.heap.size w wr) (fun iv _=>match iv with | .int _ x=>n-x.toNat|_=>0)
  case atStart=>exact ⟨0,by omega,rfl,⟨_,HO.o,fun k hk=>by omega⟩,hb1⟩
  case round=>
   clear HO hb1
   obtain ⟨i,hi9,rfl,⟨f,hF,hf⟩,hbw⟩:=hrel
   by_cases hin:i<n
   ·have c0:=(hbw.cell (p:=⟨b,o+i*4,none⟩) (by assumption)).trans (HC.o i hin).1
    have c1:=(hbw.cell (p:=⟨b,o+i*4+1,none⟩) (by assumption)).trans (HC.o i hin).2.1
    have c2:=(hbw.cell (p:=⟨b,o+i*4+2,none⟩) (by assumption)).trans (HC.o i hin).2.2.1
    have c3:=(hbw.cell (p:=⟨b,o+i*4+3,none⟩) (by assumption)).trans (HC.o i hin).2.2.2
    go_wp2_with fail
    refine (xS (x0 i) (x1 i) (x2 i) (x3 i) wr).mono ?_
    rintro e w2 ⟨rfl,hb2⟩
    have hbw2:=hbw.trans (hb2.mono hbw.size)
    have hF2:=hF.low hb2 hF.lt
    clear c0 c1 c2 c3 hb2 hF hbw
    have d0:=hF2.cell (j:=i*4) (by omega)
    have z0:=hF2.Jv (i*4)
    have d1:=hF2.cell (j:=i*4+1) (by omega)
    have z1:=hF2.Jv (i*4+1)
    have d2:=hF2.cell (j:=i*4+2) (by omega)
    have z2:=hF2.Jv (i*4+2)
    have d3:=hF2.cell (j:=i*4+3) (by omega)
    have z3:=hF2.Jv (i*4+3)
    have HF:=ah hf
    have HR:=ah ((((hF2.set (j:=i*4) (by omega) (.int .i64 (x0 i))).set (j:=i*4+1) (by omega) (.int .i64 (x1 i))).set (j:=i*4+2) (by omega) (.int .i64 (x2 i))).set (j:=i*4+3) (by omega) (.int .i64 (x3 i)))
    have HB:=ah ((((hbw2.setCell (p:=⟨w.heap.size,i*4,none⟩) (Nat.le_refl _) (.int .i64 (x0 i))).setCell (p:=⟨w.heap.size,i*4+1,none⟩) (Nat.le_refl _) (.int .i64 (x1 i))).setCell (p:=⟨w.heap.size,i*4+2,none⟩) (Nat.le_refl _) (.int .i64 (x2 i))).setCell (p:=⟨w.heap.size,i*4+3,none⟩) (Nat.le_refl _) (.int .i64 (x3 i)))
    clear hf hF2 hbw2
    go_wp2
    go_roundw
    case rel=>exact ⟨i+1,by omega,by simp,⟨_,HR.o,wN (n:=n) HF.o⟩,HB.o⟩
    case measure=>simp;omega
   ·obtain rfl:i=n:=by omega
    have HO:=ah hF
    have HF:=ah hf
    clear hF hf
    go_wp2
    go_ret
    exact ⟨rfl,⟨f,HO.o,HF.o⟩,hbw⟩
theorem u7 (v v':Value) (n:Nat) (x0:Nat->Int) (x1:Nat->Int) (x2:Nat->Int) (x3:Nat->Int) (w:World) (hn:n<=1048576) (h:lJ w v n x0 x1 x2 x3) (h':lJ w v' n x0 x1 x2 x3):
 Calls Tryz.prog 16 #[v,v'] w fun e w'=>e=.returned (.bool true)/\Below w.heap.size w w':=by
 by_cases h0:n=0
 ·subst h0
  obtain ⟨a,cap,rfl⟩:=h.val
  obtain ⟨a',cap',rfl⟩:=h'.val
  clear h h'
  go_enter Tryz.func16,Tryz.ntmps16
  go_wp2
  go_loopw [5] (fun iv wr=>iv=.int .i64 0/\wr=w) (fun _ _=>0)
  case atStart=>exact ⟨rfl,rfl⟩
  case round=>
   obtain ⟨rfl,rfl⟩:=hrel
   go_wp2
   go_ret
   exact ⟨rfl,Below.refl _ _⟩
 ·rcases h with ⟨h9,_⟩|⟨b,o,cap,rfl,hb,hcap,hc⟩
  ·exact absurd h9 h0
  rcases h' with ⟨h9,_⟩|⟨b',o',cap',rfl,hb',hcap',hc'⟩
  ·exact absurd h9 h0
  have HC:=ah hc
  have HC':=ah hc'
  clear hc hc'
  go_enter Tryz.func16,Tryz.ntmps16
  go_wp2
  go_loopw [5] (fun iv wr=>∃ i:Nat,i<=n/\iv=.int .i64 i/\Below w.heap.size w wr) (fun iv _=>match iv with | .int _ x=>n-x.toNat|_=>0)
  case atStart=>exact ⟨0,by omega,rfl,Below.refl _ _⟩
  case round=>
   obtain ⟨i,hi9,rfl,hbw⟩:=hrel
   by_cases hin:i<n
   ·have c0:=(hbw.cell (p:=⟨b,o+i*4,none⟩) (by assumption)).trans (HC.o i hin).1
    have c1:=(hbw.cell (p:=⟨b,o+i*4+1,none⟩) (by assumption)).trans (HC.o i hin).2.1
    have c2:=(hbw.cell (p:=⟨b,o+i*4+2,none⟩) (by assumption)).trans (HC.o i hin).2.2.1
    have c3:=(hbw.cell (p:=⟨b,o+i*4+3,none⟩) (by assumption)).trans (HC.o i hin).2.2.2
    have e0:=(hbw.cell (p:=⟨b',o'+i*4,none⟩) (by assumption)).trans (HC'.o i hin).1
    have e1:=(hbw.cell (p:=⟨b',o'+i*4+1,none⟩) (by assumption)).trans (HC'.o i hin).2.1
    have e2:=(hbw.cell (p:=⟨b',o'+i*4+2,none⟩) (by assumption)).trans (HC'.o i hin).2.2.1
    have e3:=(hbw.cell (p:=⟨b',o'+i*4+3,none⟩) (by assumption)).trans (HC'.o i hin).2.2.2
    have hlb:b<wr.heap.size:=Nat.lt_of_lt_of_le hb hbw.size
    have hlb':b'<wr.heap.size:=Nat.lt_of_lt_of_le hb' hbw.size
    have HB:=ah hbw
    clear hbw
    go_wp2_with fail
    go_region_held3 (fun w9=>(w9.cell? ⟨b,o+i*4,none⟩=some (.int .i64 (x0 i))/\w9.cell? ⟨b,o+i*4+1,none⟩=some (.int .i64 (x1 i))/\w9.cell? ⟨b,o+i*4+2,none⟩=some (.int .i64 (x2 i))/\w9.cell? ⟨b,o+i*4+3,none⟩=some (.int .i64 (x3 i)))/\w9.cell? ⟨b',o'+i*4,none⟩=some (.int .i64 (x0 i))/\w9.cell? ⟨b',o'+i*4+1,none⟩=some (.int .i64 (x1 i))/\w9.cell? ⟨b',o'+i*4+2,none⟩=some (.int .i64 (x2 i))/\w9.cell? ⟨b',o'+i*4+3,none⟩=some (.int .i64 (x3 i))) (go_keep)
     (first |(go_at_call 30;refine (yw (x0 i) (x1 i) (x2 i) (x3 i) _).mono ?_;rintro e w2 ⟨rfl,hb2⟩;have q0:=(hb2.cell (p:=⟨b,o+i*4,none⟩) hlb).trans c0;have r0:=(hb2.cell (p:=⟨b',o'+i*4,none⟩) hlb').trans e0;have q1:=(hb2.cell (p:=⟨b,o+i*4+1,none⟩) hlb).trans c1;have r1:=(hb2.cell (p:=⟨b',o'+i*4+1,none⟩) hlb').trans e1;have q2:=(hb2.cell (p:=⟨b,o+i*4+2,none⟩) hlb).trans c2;have r2:=(hb2.cell (p:=⟨b',o'+i*4+2,none⟩) hlb').trans e2;have q3:=(hb2.cell (p:=⟨b,o+i*4+3,none⟩) hlb).trans c3;have r3:=(hb2.cell (p:=⟨b',o'+i*4+3,none⟩) hlb').trans e3;have HB2:=ah hb2;clear hb2))
    have HB3:=ah (HB.o.drew.trans (HB2.o.mono HB.o.size))
    rename_i hh
    clear hh c0 e0 q0 r0 c1 e1 q1 r1 c2 e2 q2 r2 c3 e3 q3 r3
    go_wp2
    go_roundw
    case rel=>exact ⟨i+1,by omega,by simp,HB3.o⟩
    case measure=>simp;omega
   ·obtain rfl:i=n:=by omega
    go_wp2
    go_ret
    exact ⟨rfl,hbw⟩
end
section
variable {B n:Nat} {v:Value} {w w':World} {x0:Nat->Int}
def iy (w:World) (v:Value) (n:Nat) (x0:Nat->Int):Prop:=
 (n=0/\∃ a cap,v=.slice a 0 cap)∨∃ b o cap,v=.slice (some ⟨b,o,none⟩) n cap/\b<w.heap.size/\n<=cap/\∀ i,i<n->w.cell? ⟨b,o+i,none⟩=some (.int .i64 (x0 i))
theorem iy.low (h:iy w v n x0) (hb:Below B w w') (hB:w.heap.size<=B):iy w' v n x0:=by
 rcases h with h|⟨b,o,cap,rfl,hbB,hcap,hc⟩
 ·exact .inl h
 ·refine .inr ⟨b,o,cap,rfl,Nat.lt_of_lt_of_le hbB hb.size,hcap,fun i hi=>?_⟩
  have hc:=hc i hi
  exact (hb.cell (p:=⟨b,o+i,none⟩) (Nat.lt_of_lt_of_le hbB hB)).trans hc
theorem iy.val (h:iy w v n x0):∃ a cap,v=.slice a n cap:=by
 rcases h with ⟨rfl,a,cap,rfl⟩|⟨b,o,cap,rfl,_⟩
 ·exact ⟨a,cap,rfl⟩
 ·exact ⟨_,cap,rfl⟩
theorem rM (v v':Value) (n:Nat) (x0:Nat->Int) (w:World) (hn:n<=1048576) (h:iy w v n x0) (h':iy w v' n x0):
 Calls Tryz.prog 56 #[v,v'] w fun e w'=>e=.returned (.bool true)/\Below w.heap.size w w':=by
 by_cases h0:n=0
 ·subst h0
  obtain ⟨a,cap,rfl⟩:=h.val
  obtain ⟨a',cap',rfl⟩:=h'.val
  clear h h'
  go_enter Tryz.func56,Tryz.ntmps56
  go_wp2
  go_loopw [5] (fun iv wr=>iv=.int .i64 0/\wr=w) (fun _ _=>0)
  case atStart=>exact ⟨rfl,rfl⟩
  case round=>
   obtain ⟨rfl,rfl⟩:=hrel
   go_wp2
   go_ret
   exact ⟨rfl,Below.refl _ _⟩
 ·rcases h with ⟨h9,_⟩|⟨b,o,cap,rfl,hb,hcap,hc⟩
  ·exact absurd h9 h0
  rcases h' with ⟨h9,_⟩|⟨b',o',cap',rfl,hb',hcap',hc'⟩
  ·exact absurd h9 h0
  have HC:=ah hc
  have HC':=ah hc'
  clear hc hc'
  go_enter Tryz.func56,Tryz.ntmps56
  go_wp2
  go_loopw [5] (fun iv wr=>∃ i:Nat,i<=n/\iv=.int .i64 i/\Below w.heap.size w wr) (fun iv _=>match iv with | .int _ x=>n-x.toNat|_=>0)
  case atStart=>exact ⟨0,by omega,rfl,Below.refl _ _⟩
  case round=>
   obtain ⟨i,hi9,rfl,hbw⟩:=hrel
   by_cases hin:i<n
   ·have c0:=(hbw.cell (p:=⟨b,o+i,none⟩) (by assumption)).trans (HC.o i hin)
    have e0:=(hbw.cell (p:=⟨b',o'+i,none⟩) (by assumption)).trans (HC'.o i hin)
    go_wp2
    go_quiet (fail)
    go_wp2
    go_roundw
    case rel=>exact ⟨i+1,by omega,by simp,ay hbw _⟩
    case measure=>simp;omega
   ·obtain rfl:i=n:=by omega
    go_wp2
    go_ret
    exact ⟨rfl,hbw⟩
def gY (k j:Nat):Value:=if j%4=0 then .int .i64 ((k:Int)+(j:Int)) else if j%4=1 then .int .i64 ((k:Int)+(j:Int)) else if j%4=2 then .int .i64 ((k:Int)+(j:Int)) else .int .i64 ((k:Int)+(j:Int))
theorem zB (k i:Nat):gY k (i*4)=.int .i64 ((k:Int)+(i:Int)*4):=by
 unfold gY
 rw [if_pos (show (i*4)%4=0 by omega)]
 rw [show (k:Int)+((i*4:Nat):Int)=(k:Int)+(i:Int)*4 by omega]
theorem Af (k i:Nat):gY k (i*4+1)=.int .i64 ((k:Int)+(i:Int)*4+1):=by
 unfold gY
 rw [if_neg (show ¬ (i*4+1)%4=0 by omega)]
 rw [if_pos (show (i*4+1)%4=1 by omega)]
 rw [show (k:Int)+((i*4+1:Nat):Int)=(k:Int)+(i:Int)*4+1 by omega]
theorem zk (k i:Nat):gY k (i*4+2)=.int .i64 ((k:Int)+(i:Int)*4+2):=by
 unfold gY
 rw [if_neg (show ¬ (i*4+2)%4=0 by omega)]
 rw [if_neg (show ¬ (i*4+2)%4=1 by omega)]
 rw [if_pos (show (i*4+2)%4=2 by omega)]
 rw [show (k:Int)+((i*4+2:Nat):Int)=(k:Int)+(i:Int)*4+2 by omega]
theorem Ak (k i:Nat):gY k (i*4+3)=.int .i64 ((k:Int)+(i:Int)*4+3):=by
 unfold gY
 rw [if_neg (show ¬ (i*4+3)%4=0 by omega)]
 rw [if_neg (show ¬ (i*4+3)%4=1 by omega)]
 rw [if_neg (show ¬ (i*4+3)%4=2 by omega)]
 rw [show (k:Int)+((i*4+3:Nat):Int)=(k:Int)+(i:Int)*4+3 by omega]
theorem qC (g N cap k:Nat) (f:Nat->Value) (w:World) (hN:N<=2000000) (hk0:1<=k) (hk:k<=200000000) (hc:N<=cap) (h:aD w 39 g (N*4) f):
 Calls Tryz.prog 17 #[.slice (some ⟨g,0,none⟩) N cap,.int .i64 k] w fun e w'=>e=.returned (.int .i64 ((k:Int)+(N:Int)*4))/\aD w' 39 g (N*4) (gY k)/\Keeps w w' (fun b=>b=g):=by
 have HR:=ah h
 clear h
 go_enter Tryz.func17,Tryz.ntmps17
 go_wp2
 go_loopw [1,5] (fun kv iv wr=>∃ i:Nat,i<=N/\iv=.int .i64 i/\kv=.int .i64 ((k:Int)+(i:Int)*4)/\Hq (aD wr 39 g (N*4) (fun j=>if j<i*4 then gY k j else f j))/\Hq (Keeps w wr (fun b=>b=g))) (fun _ iv _=>N-aU iv)
 case atStart=>exact ⟨0,by omega,rfl,by simp,ah (HR.o.congr fun j hj=>by simp),ah (Keeps.refl _ _)⟩
 case round=>
  obtain ⟨i,hi9,rfl,rfl,HRw,HKw⟩:=hrel
  by_cases hin:i<N
  ·skip
   have c0:=HRw.o.cell (j:=i*4) (by omega)
   have c1:=HRw.o.cell (j:=i*4+1) (by omega)
   have c2:=HRw.o.cell (j:=i*4+2) (by omega)
   have c3:=HRw.o.cell (j:=i*4+3) (by omega)
   have z0:=HRw.o.Jv (i*4)
   have z1:=HRw.o.Jv (i*4+1)
   have z2:=HRw.o.Jv (i*4+2)
   have z3:=HRw.o.Jv (i*4+3)
   have HS:=ah ((((HRw.o.set (j:=i*4) (by omega) (.int .i64 ((k:Int)+(i:Int)*4))).set (j:=i*4+1) (by omega) (.int .i64 ((k:Int)+(i:Int)*4+1))).set (j:=i*4+2) (by omega) (.int .i64 ((k:Int)+(i:Int)*4+2))).set (j:=i*4+3) (by omega) (.int .i64 ((k:Int)+(i:Int)*4+3)))
   have HK2:=ah ((((HKw.o.setCell (j:=i*4) (S:=fun b=>b=g) rfl (.int .i64 ((k:Int)+(i:Int)*4))).setCell (j:=i*4+1) (S:=fun b=>b=g) rfl (.int .i64 ((k:Int)+(i:Int)*4+1))).setCell (j:=i*4+2) (S:=fun b=>b=g) rfl (.int .i64 ((k:Int)+(i:Int)*4+2))).setCell (j:=i*4+3) (S:=fun b=>b=g) rfl (.int .i64 ((k:Int)+(i:Int)*4+3)))
   clear HRw HKw
   go_wp2_with fail
   go_roundw
   case rel=>
    refine ⟨i+1,by omega,by simp,by simp;omega,ah (HS.o.congr fun j hj=>?_),HK2⟩
    show _=if j<(i+1)*4 then gY k j else f j
    by_cases e0:j=i*4
    ·rw [e0,if_pos (show i*4<(i+1)*4 by omega),zB];simp
    by_cases e1:j=i*4+1
    ·rw [e1,if_pos (show i*4+1<(i+1)*4 by omega),Af];simp
    by_cases e2:j=i*4+2
    ·rw [e2,if_pos (show i*4+2<(i+1)*4 by omega),zk];simp
    by_cases e3:j=i*4+3
    ·rw [e3,if_pos (show i*4+3<(i+1)*4 by omega),Ak];simp
    by_cases e9:j<i*4
    ·simp [e0,e1,e2,e3,e9,show j<(i+1)*4 by omega]
    ·simp [e0,e1,e2,e3,e9,show ¬ j<(i+1)*4 by omega]
   case measure=>show N-aU (.int .i64 _)<N-aU (.int .i64 _);simp [aU];omega
  ·obtain rfl:i=N:=by omega
   go_wp2_with fail
   go_ret
   exact ⟨rfl,HRw.o.congr fun j hj=>by simp [hj],HKw.o⟩
def fH (k j:Nat):Value:=.int .i64 ((k:Int)+(j:Int))
theorem qJ (k i:Nat):fH k (i)=.int .i64 ((k:Int)+(i:Int)):=by
 unfold fH
 rfl
theorem ow (g N cap k:Nat) (f:Nat->Value) (w:World) (hN:N<=2000000) (hk0:1<=k) (hk:k<=200000000) (hc:N<=cap) (h:aD w 3 g N f):
 Calls Tryz.prog 38 #[.slice (some ⟨g,0,none⟩) N cap,.int .i64 k] w fun e w'=>e=.returned (.int .i64 ((k:Int)+(N:Int)))/\aD w' 3 g N (fH k)/\Keeps w w' (fun b=>b=g):=by
 have HR:=ah h
 clear h
 go_enter Tryz.func38,Tryz.ntmps38
 go_wp2
 go_loopw [1,5] (fun kv iv wr=>∃ i:Nat,i<=N/\iv=.int .i64 i/\kv=.int .i64 ((k:Int)+(i:Int))/\Hq (aD wr 3 g N (fun j=>if j<i then fH k j else f j))/\Hq (Keeps w wr (fun b=>b=g))) (fun _ iv _=>N-aU iv)
 case atStart=>exact ⟨0,by omega,rfl,by simp,ah (HR.o.congr fun j hj=>by simp),ah (Keeps.refl _ _)⟩
 case round=>
  obtain ⟨i,hi9,rfl,rfl,HRw,HKw⟩:=hrel
  by_cases hin:i<N
  ·skip
   have c0:=HRw.o.cell (j:=i) (by omega)
   have z0:=HRw.o.Jv (i)
   have HS:=ah (HRw.o.set (j:=i) (by omega) (.int .i64 ((k:Int)+(i:Int))))
   have HK2:=ah (HKw.o.setCell (j:=i) (S:=fun b=>b=g) rfl (.int .i64 ((k:Int)+(i:Int))))
   clear HRw HKw
   go_wp2_with fail
   go_roundw
   case rel=>
    refine ⟨i+1,by omega,by simp,by simp;omega,ah (HS.o.congr fun j hj=>?_),HK2⟩
    show _=if j<i+1 then fH k j else f j
    by_cases e0:j=i
    ·rw [e0,if_pos (show i<i+1 by omega),qJ];simp
    by_cases e9:j<i
    ·simp [e0,e9,show j<i+1 by omega]
    ·simp [e0,e9,show ¬ j<i+1 by omega]
   case measure=>show N-aU (.int .i64 _)<N-aU (.int .i64 _);simp [aU];omega
  ·obtain rfl:i=N:=by omega
   go_wp2_with fail
   go_ret
   exact ⟨rfl,HRw.o.congr fun j hj=>by simp [hj],HKw.o⟩
theorem oK (g N cap k:Nat) (w:World) (hN:N<=2000000) (hk0:1<=k) (hk:k<=200000000) (hc:N<=cap) (h:aD w 3 g N (fH k)):
 Calls Tryz.prog 39 #[.slice (some ⟨g,0,none⟩) N cap,.int .i64 k] w fun e w'=>e=.returned (.int .i64 ((k:Int)+(N:Int)))/\Below w.heap.size w w':=by
 have HR:=ah h
 clear h
 go_enter Tryz.func39,Tryz.ntmps39
 go_wp2
 go_loopw [1,5] (fun kv iv wr=>∃ i:Nat,i<=N/\iv=.int .i64 i/\kv=.int .i64 ((k:Int)+(i:Int))/\Below w.heap.size w wr) (fun _ iv _=>N-aU iv)
 case atStart=>exact ⟨0,by omega,rfl,by simp,Below.refl _ _⟩
 case round=>
  obtain ⟨i,hi9,rfl,rfl,hb⟩:=hrel
  by_cases hin:i<N
  ·have hr:=HR.o.low hb HR.o.lt
   have c0:=hr.cell (j:=i) (by omega)
   rw [qJ] at c0
   clear hr
   go_wp2_with fail
   go_roundw
   case rel=>exact ⟨i+1,by omega,by simp,by simp;omega,hb⟩
   case measure=>show N-aU (.int .i64 _)<N-aU (.int .i64 _);simp [aU];omega
  ·obtain rfl:i=N:=by omega
   go_wp2_with fail
   go_ret
   exact ⟨rfl,hb⟩
theorem sj (v:Value) (n:Nat) (k:Int) (m:Nat) (w:World) (hm:k=(m:Int)) (hN:n<=2000000) (hk0:1<=m) (hk:m<=200000000) (h:∃ f,iN w 3 1 v n f):
 Calls Tryz.prog 38 #[v,.int .i64 k] w fun e w'=>e=.returned (.int .i64 (k+(n:Int)))/\iN w' 3 1 v n (fH m)/\Keeps w w' (fun b=>v.ownBlock=some b):=by
 subst hm
 obtain ⟨f,h⟩:=h
 obtain ⟨a,cap,rfl,h1,⟨rfl,rfl⟩|⟨g,rfl,h3⟩⟩:=h
 ·clear h1
  go_enter Tryz.func38,Tryz.ntmps38
  go_wp2
  go_loopw [1,5] (fun kv iv wr=>kv=.int .i64 m/\iv=.int .i64 0/\wr=w) (fun _ _ _=>0)
  case atStart=>exact ⟨rfl,rfl,rfl⟩
  case round=>
   obtain ⟨rfl,rfl,rfl⟩:=hrel
   go_wp2
   go_ret
   refine ⟨by simp,?_⟩
   exact ⟨⟨_,_,rfl,Nat.zero_le _,.inl ⟨rfl,rfl⟩⟩,Keeps.refl _ _⟩
 ·refine (ow g n cap m _ w hN hk0 hk h1 (by simpa using h3)).mono ?_
  rintro e w' ⟨rfl,h4,h5⟩
  exact ⟨rfl,⟨_,cap,rfl,h1,.inr ⟨g,rfl,by simpa using h4⟩⟩,h5.mono (fun b hb=>by subst hb;simp [Value.ownBlock])⟩
theorem sP (v:Value) (n:Nat) (k:Int) (m:Nat) (w:World) (hm:k=(m:Int)) (hN:n<=2000000) (hk0:1<=m) (hk:m<=200000000) (h:iN w 3 1 v n (fH m)):
 Calls Tryz.prog 39 #[v,.int .i64 k] w fun e w'=>e=.returned (.int .i64 (k+(n:Int)))/\Below w.heap.size w w':=by
 subst hm
 obtain ⟨a,cap,rfl,h1,⟨rfl,rfl⟩|⟨g,rfl,h3⟩⟩:=h
 ·clear h1
  go_enter Tryz.func39,Tryz.ntmps39
  go_wp2
  go_loopw [1,5] (fun kv iv wr=>kv=.int .i64 m/\iv=.int .i64 0/\wr=w) (fun _ _ _=>0)
  case atStart=>exact ⟨rfl,rfl,rfl⟩
  case round=>
   obtain ⟨rfl,rfl,rfl⟩:=hrel
   go_wp2
   go_ret
   refine ⟨by simp,?_⟩
   exact Below.refl _ _
 ·exact oK g n cap m w hN hk0 hk h1 (by simpa using h3)
end
end Go.Proofs.YtedpifhlffcmkaaGreatDoor
