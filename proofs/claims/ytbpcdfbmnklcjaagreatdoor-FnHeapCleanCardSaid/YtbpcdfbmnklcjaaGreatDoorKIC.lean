import Derived.Test.YtbpcdfbmnklcjaaGreatDoorKIB
namespace Go.Proofs.YtbpcdfbmnklcjaaGreatDoor
open Go Go.RowKit
set_option maxHeartbeats 6400000
set_option maxRecDepth 100000
set_option linter.unusedVariables false
variable {L:PM} {R base hand:Nat} {S:Nat->Prop} {h:Hp} {w:World}
attribute [local go_sem] bW
def E_ (base:Nat) (S:Nat->Prop) (R:Nat) (w:World) (a:An) (h':Hp) (hand':Nat) (e:Ending) (w':World):Prop:=
 ∃ fv S' L',e=.returned (.agg (mO a fv).toArray)/\w'.ownsRow base 3 1 fv a.freed.length (eu a.freed)/\(∀ g,fv.ownBlock=some g->¬ S' g/\S g)/\(∀ b,S' b->S b)/\PW base S' h' L' R hand' w'/\Keeps w w' (fun b=>S b∨b=R)
theorem tT (x:PW base S h L R hand w) (kd A B C code id:Int) (h':Hp) (hc:∀ (S1:Nat->Prop) (w1:World),PW base S1 h L R hand w1->Calls Tryz.prog 35 #[.pointer (some ⟨R,0,none⟩),.agg #[.int .i64 kd,.int .i64 A,.int .i64 B,.int .i64 C]] w1 (oJ base S1 L.H R w1 kd code id h')) (m:code≠0):
 Calls Tryz.prog 26 #[.pointer (some ⟨R,0,none⟩),.agg #[.int .i64 kd,.int .i64 A,.int .i64 B,.int .i64 C]] w (E_ base S R w (An.no code) h' 0):=by
 have s:=ah ((fO w kd A B C).keep (Keeps.of (aU (w.alloc (.cells #[.int .i64 kd,.int .i64 A,.int .i64 B,.int .i64 C] 39)) (.cells #[.int .i64 0,.int .i64 0,.int .i64 0,.int .i64 0,.int .i64 0,.int .i64 0,.slice none 0 0] 36)) (au _) (fun _=>False)) (fun y=>y));have HY:=ah (Ez (w.alloc (.cells #[.int .i64 kd,.int .i64 A,.int .i64 B,.int .i64 C] 39)));have HB:=ah (EP w (.cells #[.int .i64 kd,.int .i64 A,.int .i64 B,.int .i64 C] 39) (.cells #[.int .i64 0,.int .i64 0,.int .i64 0,.int .i64 0,.int .i64 0,.int .i64 0,.slice none 0 0] 36));have W:(w.alloc (.cells #[.int .i64 kd,.int .i64 A,.int .i64 B,.int .i64 C] 39)).heap.size=w.heap.size+1:=aG _;have V:((w.alloc (.cells #[.int .i64 kd,.int .i64 A,.int .i64 B,.int .i64 C] 39)).alloc (.cells #[.int .i64 0,.int .i64 0,.int .i64 0,.int .i64 0,.int .i64 0,.int .i64 0,.slice none 0 0] 36)).heap.size=w.heap.size+2:=by rw [show ((w.alloc (.cells #[.int .i64 kd,.int .i64 A,.int .i64 B,.int .i64 C] 39)).alloc (.cells #[.int .i64 0,.int .i64 0,.int .i64 0,.int .i64 0,.int .i64 0,.int .i64 0,.slice none 0 0] 36)).heap.size=(w.alloc (.cells #[.int .i64 kd,.int .i64 A,.int .i64 B,.int .i64 C] 39)).heap.size+1 from aG _,W]
 have K:=ah ((x.hole (aU w (.cells #[.int .i64 kd,.int .i64 A,.int .i64 B,.int .i64 C] 39)) (F:=w.heap.size) (au _) (by omega)).hole (aU (w.alloc (.cells #[.int .i64 kd,.int .i64 A,.int .i64 B,.int .i64 C] 39)) (.cells #[.int .i64 0,.int .i64 0,.int .i64 0,.int .i64 0,.int .i64 0,.int .i64 0,.slice none 0 0] 36)) (F:=w.heap.size+1) (by omega) (by omega));rw [W] at HY;have HC:=ah (hc _ _ K.o);clear x W V hc;go_enter Tryz.func26,Tryz.ntmps26;go_upto_region 1 with (fail)
 change Code.wp _ _ _ _ ((w.alloc (.cells #[.int .i64 kd,.int .i64 A,.int .i64 B,.int .i64 C] 39)).alloc (.cells #[.int .i64 0,.int .i64 0,.int .i64 0,.int .i64 0,.int .i64 0,.int .i64 0,.slice none 0 0] 36));generalize (w.alloc (.cells #[.int .i64 kd,.int .i64 A,.int .i64 B,.int .i64 C] 39)).alloc (.cells #[.int .i64 0,.int .i64 0,.int .i64 0,.int .i64 0,.int .i64 0,.int .i64 0,.slice none 0 0] 36)=w1 at *;generalize hX:w.heap.size=X at *;have J:=ah hX;clear hX;have x0:w1.cell? ⟨X,0,none⟩=some (.int .i64 kd):=s.o.c 0;have x1:w1.cell? ⟨X,1,none⟩=some (.int .i64 A):=s.o.c 1;have x2:w1.cell? ⟨X,2,none⟩=some (.int .i64 B):=s.o.c 2;have x3:w1.cell? ⟨X,3,none⟩=some (.int .i64 C):=s.o.c 3;go_wp2_with fail;refine HC.o.mono ?_;rintro e2 l ⟨rfl,L2,pv,G,z,t,u,i⟩;have Y:X≠R:=fun c=>s.o.apart K.o.r (by decide) c;have p:X+1≠R:=fun c=>HY.o.apart K.o.r (by decide) c;have a1:=ah (s.o.keep i (fun c=>by
  rcases c with c|c
  ·exact c.1.2 rfl
  ·exact Y c))
 have a0:=ah (HY.o.keep i (fun c=>by
  rcases c with c|c
  ·exact c.2 rfl
  ·exact p c))
 have a4:=ah z;have q:=ah t;have a8:=ah u;have a5:=ah i;have HN:=ah K.o.n;have a6:=ah G;clear z t u i G x0 x1 x2 x3;have x0:l.cell? ⟨X,0,none⟩=some (.int .i64 kd):=a1.o.c 0;have r1:l.cell? ⟨R,1,none⟩=some pv:=q.o.c 1;have z1:=q.o.ME 1;have a2:=ah (q.o.set (j:=1) (by omega) .nilIface);have Z:Hq (Keeps l (l.setCell ⟨R,1,none⟩ .nilIface) (fun b=>b=R)):=ah (Keeps.setCell (S:=fun b=>b=R) (Keeps.refl _ _) rfl _);have a3:=ah (a4.o.out (Z.o.mono (fun b e=>by rw [e];exact HN.o)));have a:=ah (a0.o.keep Z.o p);have a7:(code !=0)=true:=by simpa using m
 have k:Hq (∀ wo,Keeps (l.setCell ⟨R,1,none⟩ .nilIface) wo (fun b=>b=X+1)->E_ base S R w (An.no code) h' 0 (.returned (.agg (mO (An.no code) (.slice none 0 0)).toArray)) wo):=ah (fun wo ko=>by
  refine ⟨.slice none 0 0,fun b=>(S b/\b≠X)/\b≠X+1,L2,rfl,⟨rfl,.inl ⟨rfl,rfl⟩⟩,fun g hg=>by simp [Value.ownBlock] at hg,fun b e=>e.1.1,⟨a3.o.out (ko.mono (fun b e=>fun c=>c.2 e)),?_,HN.o⟩,?_⟩
  ·refine (a2.o.keep ko (fun c=>p c.symm)).congr (fun j hj=>?_)
   have:j=0∨j=1:=by omega
   rcases this with rfl|rfl
   ·show Value.pointer (some ⟨L.H,0,none⟩)=Value.pointer (some ⟨L2.H,0,none⟩)
    rw [a6.o]
   ·rfl
  ·have hb:=Keeps.of HB.o (aO J.o) (fun b=>S b∨b=R)
   refine Keeps.into ((hb.trans (a5.o.mono (fun b e=>e.imp (fun c=>c.1.1) (fun c=>c)))).trans (Z.o.mono (fun b e=>Or.inr e))) ko (fun c e=>.inr (by have:=J.o;omega)))
 by_cases E:kd=8
 ·subst E
  have D:((8:Int) !=8)=false:=rfl;go_upto_region 4 with (fail)
  generalize l.setCell ⟨R,1,none⟩ .nilIface=w3 at *;have y0:=a.o.c 0;have v0:=a.o.ME 0;have y1:=a.o.c 1;have v1:=a.o.ME 1;have y2:=a.o.c 2;have v2:=a.o.ME 2;have y3:=a.o.c 3;have v3:=a.o.ME 3;have y4:=a.o.c 4;have v4:=a.o.ME 4;have y5:=a.o.c 5;have v5:=a.o.ME 5;have y6:=a.o.c 6;have v6:=a.o.ME 6;go_wp2;have d:=ah (gX a.o (.int .i64 code) (.int .i64 0) (.int .i64 0) (.int .i64 0) (.int .i64 0) (.int .i64 0) (.slice none 0 0));have f:=ah (fQ w3 (X+1) (.int .i64 code) (.int .i64 0) (.int .i64 0) (.int .i64 0) (.int .i64 0) (.int .i64 0) (.slice none 0 0));unfold oV at d f;generalize ((((((w3.setCell ⟨X+1,0,none⟩ (.int .i64 code)).setCell ⟨X+1,1,none⟩ (.int .i64 0)).setCell ⟨X+1,2,none⟩ (.int .i64 0)).setCell ⟨X+1,3,none⟩ (.int .i64 0)).setCell ⟨X+1,4,none⟩ (.int .i64 0)).setCell ⟨X+1,5,none⟩ (.int .i64 0)).setCell ⟨X+1,6,none⟩ (.slice none 0 0)=wo at *;have U:wo.cell? ⟨X+1,0,none⟩=some (.int .i64 code):=d.o.c 0;have q1:wo.cell? ⟨X+1,1,none⟩=some (.int .i64 0):=d.o.c 1;have T:wo.cell? ⟨X+1,2,none⟩=some (.int .i64 0):=d.o.c 2;have Q:wo.cell? ⟨X+1,3,none⟩=some (.int .i64 0):=d.o.c 3;have P:wo.cell? ⟨X+1,4,none⟩=some (.int .i64 0):=d.o.c 4;have N:wo.cell? ⟨X+1,5,none⟩=some (.int .i64 0):=d.o.c 5;have M:wo.cell? ⟨X+1,6,none⟩=some (.slice none 0 0):=d.o.c 6;refine bodyPost_ret (v:=.agg #[.int .i64 code,.int .i64 0,.int .i64 0,.int .i64 0,.int .i64 0,.int .i64 0,.slice none 0 0]) ?_ rfl ?_
  ·simp [results,Tryz.results26,go_sem,U,q1,T,Q,P,N,M]
  ·exact k.o _ f.o
 ·have D:(kd !=8)=true:=by simpa using E
  go_upto_region 4 with (fail)
  generalize l.setCell ⟨R,1,none⟩ .nilIface=w3 at *;have y0:=a.o.c 0;have v0:=a.o.ME 0;have y1:=a.o.c 1;have v1:=a.o.ME 1;have y2:=a.o.c 2;have v2:=a.o.ME 2;have y3:=a.o.c 3;have v3:=a.o.ME 3;have y4:=a.o.c 4;have v4:=a.o.ME 4;have y5:=a.o.c 5;have v5:=a.o.ME 5;have y6:=a.o.c 6;have v6:=a.o.ME 6;go_wp2;have d:=ah (gX a.o (.int .i64 code) (.int .i64 0) (.int .i64 0) (.int .i64 0) (.int .i64 0) (.int .i64 0) (.slice none 0 0));have f:=ah (fQ w3 (X+1) (.int .i64 code) (.int .i64 0) (.int .i64 0) (.int .i64 0) (.int .i64 0) (.int .i64 0) (.slice none 0 0));unfold oV at d f;generalize ((((((w3.setCell ⟨X+1,0,none⟩ (.int .i64 code)).setCell ⟨X+1,1,none⟩ (.int .i64 0)).setCell ⟨X+1,2,none⟩ (.int .i64 0)).setCell ⟨X+1,3,none⟩ (.int .i64 0)).setCell ⟨X+1,4,none⟩ (.int .i64 0)).setCell ⟨X+1,5,none⟩ (.int .i64 0)).setCell ⟨X+1,6,none⟩ (.slice none 0 0)=wo at *;have U:wo.cell? ⟨X+1,0,none⟩=some (.int .i64 code):=d.o.c 0;have q1:wo.cell? ⟨X+1,1,none⟩=some (.int .i64 0):=d.o.c 1;have T:wo.cell? ⟨X+1,2,none⟩=some (.int .i64 0):=d.o.c 2;have Q:wo.cell? ⟨X+1,3,none⟩=some (.int .i64 0):=d.o.c 3;have P:wo.cell? ⟨X+1,4,none⟩=some (.int .i64 0):=d.o.c 4;have N:wo.cell? ⟨X+1,5,none⟩=some (.int .i64 0):=d.o.c 5;have M:wo.cell? ⟨X+1,6,none⟩=some (.slice none 0 0):=d.o.c 6;refine bodyPost_ret (v:=.agg #[.int .i64 code,.int .i64 0,.int .i64 0,.int .i64 0,.int .i64 0,.int .i64 0,.slice none 0 0]) ?_ rfl ?_
  ·simp [results,Tryz.results26,go_sem,U,q1,T,Q,P,N,M]
  ·exact k.o _ f.o
theorem oF (p:PS base S h L w):
 Calls Tryz.prog 36 #[.pointer (some ⟨L.H,0,none⟩)] w fun e w'=>∃ v,e=.returned v/\w'.ownsRow base 3 1 v h.freed.length (eu h.freed)/\(∀ g,v.ownBlock=some g->S g)/\(∃ L',Nf L L'/\PS base (fun b=>S b/\v.ownBlock≠some b) h.forget L' w')/\Keeps w w' (fun b=>b=L.H)/\w'=w.setCell ⟨L.H,18,none⟩ (.slice none 0 0):=by
 obtain ⟨x,y,G,a,r⟩:=p;have d:=a.li 18 (by simp [eF]);obtain ⟨A,m,l⟩:=aF d;have z:w.cell? ⟨L.H,18,none⟩=some (.slice A h.freed.length m):=by
  have:=a.hp.c 18;rw [this];exact congrArg some l
 have t:=a.hp.ME 18;have i:=ah a;have B:=ah r;have HV:=ah l;clear a r l d;go_enter Tryz.func36,Tryz.ntmps36;go_wp2;go_ret;have q:Keeps w (w.setCell ⟨L.H,18,none⟩ (.slice none 0 0)) (fun b=>b=L.H):=Keeps.setCell (S:=fun b=>b=L.H) (Keeps.refl w _) rfl _;have d:=i.o.li 18 (by simp [eF]);obtain ⟨-,u,C⟩:=i.o.JW (h':=iN (h.wk x y) 18 []) (G':=G) (w1:=w) 18 (by simp [eF]) (Keeps.refl w _) (.slice none 0 0) ⟨rfl,.inl ⟨rfl,rfl⟩⟩ (fun g hg=>by simp [Value.ownBlock] at hg) (jE _ 18 _) (fun j hj hn=>jD (by simp [kI]) hj hn _) (kQ (by simp [kI]) _ _);have l:L.li 18=.slice A h.freed.length m:=HV.out;rw [l] at d;refine ⟨_,rfl,aj d q (fun g hg c=>ak d i.o.hp (by decide) (c ▸ hg)),fun g hg=>i.o.sl 18 g (by simp [eF]) (by rw [l];exact hg),⟨_,?_,⟨x,y,G,u.less (.slice A h.freed.length m) (fun g hg=>?_),B.o.same rfl rfl rfl rfl rfl rfl (fun _=>Iff.rfl)⟩⟩,q,rfl⟩
 ·exact ⟨rfl,rfl,rfl,rfl⟩
 ·have f:=ay d hg
  refine ⟨aW f.lt q.size,fun c=>f.apart i.o.hp (by decide) c,fun n o e=>⟨fun c=>f.apart (i.o.ob n o e) (by decide) c,fun c=>ak (i.o.en n o e) f (by decide) c,(i.o.mp n o e).apart f⟩,fun k hk c=>?_⟩;by_cases s:k=18
  ·subst s
   simp [Value.ownBlock] at c
  ·simp only [if_neg s] at c
   exact s (i.o.lj k 18 g hk (by simp [eF]) c (by rw [l];exact hg))
theorem Dl (x:PW base S h L R hand w) (kd A B C id:Int) (h':Hp) (s:Nat) (hc:∀ (S1:Nat->Prop) (w1:World),PW base S1 h L R hand w1->Calls Tryz.prog 35 #[.pointer (some ⟨R,0,none⟩),.agg #[.int .i64 kd,.int .i64 A,.int .i64 B,.int .i64 C]] w1 (oJ base S1 L.H R w1 kd 0 id h')) (h8:kd=8->s=id.toNat) (a9:kd≠8->s=0):
 Calls Tryz.prog 26 #[.pointer (some ⟨R,0,none⟩),.agg #[.int .i64 kd,.int .i64 A,.int .i64 B,.int .i64 C]] w (E_ base S R w ⟨0,id,(h'.live:Int),(h'.bytes:Int),(h'.state:Int),(h'.pending.length:Int),h'.freed⟩ h'.forget s):=by
 have H8:=ah h8;have c5:=ah a9;clear h8 a9;have HX:=ah ((fO w kd A B C).keep (Keeps.of (aU (w.alloc (.cells #[.int .i64 kd,.int .i64 A,.int .i64 B,.int .i64 C] 39)) (.cells #[.int .i64 0,.int .i64 0,.int .i64 0,.int .i64 0,.int .i64 0,.int .i64 0,.slice none 0 0] 36)) (au _) (fun _=>False)) (fun y=>y));have HY:=ah (Ez (w.alloc (.cells #[.int .i64 kd,.int .i64 A,.int .i64 B,.int .i64 C] 39)));have HB:=ah (EP w (.cells #[.int .i64 kd,.int .i64 A,.int .i64 B,.int .i64 C] 39) (.cells #[.int .i64 0,.int .i64 0,.int .i64 0,.int .i64 0,.int .i64 0,.int .i64 0,.slice none 0 0] 36));have hZ:(w.alloc (.cells #[.int .i64 kd,.int .i64 A,.int .i64 B,.int .i64 C] 39)).heap.size=w.heap.size+1:=aG _;have b7:((w.alloc (.cells #[.int .i64 kd,.int .i64 A,.int .i64 B,.int .i64 C] 39)).alloc (.cells #[.int .i64 0,.int .i64 0,.int .i64 0,.int .i64 0,.int .i64 0,.int .i64 0,.slice none 0 0] 36)).heap.size=w.heap.size+2:=by rw [show ((w.alloc (.cells #[.int .i64 kd,.int .i64 A,.int .i64 B,.int .i64 C] 39)).alloc (.cells #[.int .i64 0,.int .i64 0,.int .i64 0,.int .i64 0,.int .i64 0,.int .i64 0,.slice none 0 0] 36)).heap.size=(w.alloc (.cells #[.int .i64 kd,.int .i64 A,.int .i64 B,.int .i64 C] 39)).heap.size+1 from aG _,hZ]
 have HR:=ah ((x.hole (aU w (.cells #[.int .i64 kd,.int .i64 A,.int .i64 B,.int .i64 C] 39)) (F:=w.heap.size) (au _) (by omega)).hole (aU (w.alloc (.cells #[.int .i64 kd,.int .i64 A,.int .i64 B,.int .i64 C] 39)) (.cells #[.int .i64 0,.int .i64 0,.int .i64 0,.int .i64 0,.int .i64 0,.int .i64 0,.slice none 0 0] 36)) (F:=w.heap.size+1) (by omega) (by omega));rw [hZ] at HY;have HC:=ah (hc _ _ HR.o);clear x hZ b7 hc;go_enter Tryz.func26,Tryz.ntmps26;go_upto_region 1 with (fail)
 change Code.wp _ _ _ _ ((w.alloc (.cells #[.int .i64 kd,.int .i64 A,.int .i64 B,.int .i64 C] 39)).alloc (.cells #[.int .i64 0,.int .i64 0,.int .i64 0,.int .i64 0,.int .i64 0,.int .i64 0,.slice none 0 0] 36));generalize (w.alloc (.cells #[.int .i64 kd,.int .i64 A,.int .i64 B,.int .i64 C] 39)).alloc (.cells #[.int .i64 0,.int .i64 0,.int .i64 0,.int .i64 0,.int .i64 0,.int .i64 0,.slice none 0 0] 36)=w1 at *;generalize hX:w.heap.size=X at *;have W:=ah hX;clear hX;have x0:w1.cell? ⟨X,0,none⟩=some (.int .i64 kd):=HX.o.c 0;have x1:w1.cell? ⟨X,1,none⟩=some (.int .i64 A):=HX.o.c 1;have x2:w1.cell? ⟨X,2,none⟩=some (.int .i64 B):=HX.o.c 2;have x3:w1.cell? ⟨X,3,none⟩=some (.int .i64 C):=HX.o.c 3;go_wp2_with fail;refine HC.o.mono ?_;rintro e2 T ⟨rfl,d,pv,b1,a8,a6,a7,U⟩;have b8:X≠R:=fun c=>HX.o.apart HR.o.r (by decide) c;have V:X+1≠R:=fun c=>HY.o.apart HR.o.r (by decide) c;have c1:=ah (HX.o.keep U (fun c=>by
  rcases c with c|c
  ·exact c.1.2 rfl
  ·exact b8 c))
 have b2:=ah (HY.o.keep U (fun c=>by
  rcases c with c|c
  ·exact c.2 rfl
  ·exact V c))
 have b3:=ah a8;have Y:=ah a6;have c3:=ah a7;have b4:=ah U;have HN:=ah HR.o.n;have b5:=ah b1;clear a8 a6 a7 U b1 x0 x1 x2 x3;have x0:T.cell? ⟨X,0,none⟩=some (.int .i64 kd):=c1.o.c 0;have r1:T.cell? ⟨R,1,none⟩=some pv:=Y.o.c 1;have z1:=Y.o.ME 1;by_cases a4:kd=8
 ·subst a4
  have b0:((8:Int) !=8)=false:=rfl;have l:Hq (PW base (fun b=>(S b/\b≠X)/\b≠X+1) h' d R s T):=ah ⟨b3.o,by rw [b5.o,H8.o rfl,<-c3.o rfl rfl];exact Y.o,HN.o⟩;have K3:=ah (Keeps.refl T (fun b=>b=R));have Q:=ah b2.o;go_upto_region 6 with (fail)
  clear x0 r1 z1;generalize T=w3 at *;have r0:w3.cell? ⟨R,0,none⟩=some (.pointer (some ⟨d.H,0,none⟩)):=l.o.r.c 0;have a2:=l.o.p;obtain ⟨px,py,G,E,rP⟩:=a2;obtain ⟨K,i,z,-,-⟩:=E.II (k:=16) (by simp [eF]);have s0:w3.cell? ⟨d.H,0,none⟩=some (.int .i64 (h'.state:Int)):=E.hp.c 0;have s3:w3.cell? ⟨d.H,3,none⟩=some (.int .i64 (h'.live:Int)):=E.hp.c 3;have s4:w3.cell? ⟨d.H,4,none⟩=some (.int .i64 (h'.bytes:Int)):=E.hp.c 4;have Z:w3.cell? ⟨d.H,16,none⟩=some (.slice K h'.pending.length i):=by rw [E.hp.c 16];exact congrArg some z
  have b9:=E.hp.lt;have P:X+1≠d.H:=fun c=>Q.o.apart E.hp (by decide) c;have c0:d.H≠X+1:=fun c=>P c.symm;clear E rP z;go_wp2_with fail
  go_region_held3 (fun w'=>w'.cell? ⟨d.H,0,none⟩=some (.int .i64 (h'.state:Int))/\w'.cell? ⟨d.H,3,none⟩=some (.int .i64 (h'.live:Int))/\w'.cell? ⟨d.H,4,none⟩=some (.int .i64 (h'.bytes:Int))/\w'.cell? ⟨d.H,16,none⟩=some (.slice K h'.pending.length i)) (go_keep)
   (first
     |(go_at_call 36
       refine (oF (l.o.low (aC (aT w3.heap.size w3) _)).p).mono ?_;rintro e4 w4 ⟨fv,rfl,J,N,M,m,q⟩;obtain ⟨D,u,a1⟩:=aF J;subst a1;have t0:w4.cell? ⟨d.H,0,none⟩=some (.int .i64 (h'.state:Int)):=by rw [q,Nz _ _ _ _ (by simp)];exact s0
       have t3:w4.cell? ⟨d.H,3,none⟩=some (.int .i64 (h'.live:Int)):=by rw [q,Nz _ _ _ _ (by simp)];exact s3
       have t4:w4.cell? ⟨d.H,4,none⟩=some (.int .i64 (h'.bytes:Int)):=by rw [q,Nz _ _ _ _ (by simp)];exact s4
       have b6:w4.cell? ⟨d.H,16,none⟩=some (.slice K h'.pending.length i):=by rw [q,Nz _ _ _ _ (by simp)];exact Z
       have a3:=Keeps.of (aC (aT w3.heap.size w3) 1) (au _) (fun b=>b=d.H);have H4:=ah (And.intro J (And.intro N (And.intro M (show Keeps w3 w4 (fun b=>b=d.H) from ⟨m.os,m.tape,m.output,m.size,m.block⟩))));have a:=ah (Q.o.keep H4.o.2.2.2 P);have y0:=a.o.c 0;have v0:=a.o.ME 0;have y1:=a.o.c 1;have v1:=a.o.ME 1;have y2:=a.o.c 2;have v2:=a.o.ME 2;have y3:=a.o.c 3;have v3:=a.o.ME 3;have y4:=a.o.c 4;have v4:=a.o.ME 4;have y5:=a.o.c 5;have v5:=a.o.ME 5;have y6:=a.o.c 6;have v6:=a.o.ME 6;clear J N M m q a3))
  go_wp2;have f:=ah (gX a.o (.int .i64 0) (.int .i64 id) (.int .i64 (h'.live:Int)) (.int .i64 (h'.bytes:Int)) (.int .i64 (h'.state:Int)) (.int .i64 (h'.pending.length:Int)) (.slice D h'.freed.length u));have t:=ah (fQ w4 (X+1) (.int .i64 0) (.int .i64 id) (.int .i64 (h'.live:Int)) (.int .i64 (h'.bytes:Int)) (.int .i64 (h'.state:Int)) (.int .i64 (h'.pending.length:Int)) (.slice D h'.freed.length u));unfold oV at f t;generalize ((((((w4.setCell ⟨X+1,0,none⟩ (.int .i64 0)).setCell ⟨X+1,1,none⟩ (.int .i64 id)).setCell ⟨X+1,2,none⟩ (.int .i64 (h'.live:Int))).setCell ⟨X+1,3,none⟩ (.int .i64 (h'.bytes:Int))).setCell ⟨X+1,4,none⟩ (.int .i64 (h'.state:Int))).setCell ⟨X+1,5,none⟩ (.int .i64 (h'.pending.length:Int))).setCell ⟨X+1,6,none⟩ (.slice D h'.freed.length u)=wo at *;have q0:wo.cell? ⟨X+1,0,none⟩=some (.int .i64 0):=f.o.c 0;have q1:wo.cell? ⟨X+1,1,none⟩=some (.int .i64 id):=f.o.c 1;have q2:wo.cell? ⟨X+1,2,none⟩=some (.int .i64 (h'.live:Int)):=f.o.c 2;have q3:wo.cell? ⟨X+1,3,none⟩=some (.int .i64 (h'.bytes:Int)):=f.o.c 3;have q4:wo.cell? ⟨X+1,4,none⟩=some (.int .i64 (h'.state:Int)):=f.o.c 4;have q5:wo.cell? ⟨X+1,5,none⟩=some (.int .i64 (h'.pending.length:Int)):=f.o.c 5;have q6:wo.cell? ⟨X+1,6,none⟩=some (.slice D h'.freed.length u):=f.o.c 6;refine bodyPost_ret (v:=.agg #[.int .i64 0,.int .i64 id,.int .i64 (h'.live:Int),.int .i64 (h'.bytes:Int),.int .i64 (h'.state:Int),.int .i64 (h'.pending.length:Int),.slice D h'.freed.length u]) ?_ rfl ?_
  ·simp [results,Tryz.results26,go_sem,q0,q1,q2,q3,q4,q5,q6]
  ·obtain ⟨f1,f2,⟨L4,f3,f4⟩,f5⟩:=H4.o
   have a0:∀ g,(Value.slice D h'.freed.length u).ownBlock=some g->¬ g=X+1:=fun g hg c=>(f2 g hg).2 c;refine ⟨.slice D h'.freed.length u,fun b=>((S b/\b≠X)/\b≠X+1)/\(Value.slice D h'.freed.length u).ownBlock≠some b,L4,rfl,aj f1 t.o a0,fun g hg=>⟨fun c=>c.2 hg,(f2 g hg).1.1⟩,fun b e=>e.1.1.1,⟨f4.out (t.o.mono (fun b e=>fun c=>c.1.2 e)),?_,fun e=>HN.o e.1⟩,?_⟩
   ·refine ((l.o.r.keep f5 (fun c=>by obtain ⟨_,_,_,aQ,_⟩:=l.o.p;exact l.o.r.apart aQ.hp (by decide) c)).keep t.o (fun c=>V c.symm)).congr (fun j hj=>?_)
    rw [f3.H,f3.tb]
   ·have hb:=Keeps.of HB.o (aO W.o) (fun b=>S b∨b=R)
    have a5:S d.H:=by obtain ⟨_,_,_,aQ,_⟩:=l.o.p;exact aQ.sH.1.1
    exact Keeps.into (((hb.trans (b4.o.mono (fun b e=>e.imp (fun c=>c.1.1) (fun c=>c)))).trans (K3.o.mono (fun b e=>Or.inr e))).trans (f5.mono (fun b e=>Or.inl (e ▸ a5)))) t.o (fun c e=>.inr (by have:=W.o;omega))
 ·have b0:(kd !=8)=true:=by simpa using a4
  have c2:=ah (Y.o.set (j:=1) (by omega) .nilIface);have K3:Hq (Keeps T (T.setCell ⟨R,1,none⟩ .nilIface) (fun b=>b=R)):=ah (Keeps.setCell (S:=fun b=>b=R) (Keeps.refl _ _) rfl _);have c4:=ah (b3.o.out (K3.o.mono (fun b e=>by rw [e];exact HN.o)));have Q:=ah (b2.o.keep K3.o V);have l:Hq (PW base (fun b=>(S b/\b≠X)/\b≠X+1) h' d R s (T.setCell ⟨R,1,none⟩ .nilIface)):=ah ⟨c4.o,c2.o.congr (fun j hj=>by
   have:j=0∨j=1:=by omega
   rcases this with rfl|rfl
   ·show Value.pointer (some ⟨L.H,0,none⟩)=Value.pointer (some ⟨d.H,0,none⟩)
    rw [b5.o]
   ·rw [c5.o a4];rfl),HN.o⟩
  go_upto_region 6 with (fail)
  clear x0 r1 z1;generalize T.setCell ⟨R,1,none⟩ .nilIface=w3 at *;have r0:w3.cell? ⟨R,0,none⟩=some (.pointer (some ⟨d.H,0,none⟩)):=l.o.r.c 0;have a2:=l.o.p;obtain ⟨px,py,G,E,rP⟩:=a2;obtain ⟨K,i,z,-,-⟩:=E.II (k:=16) (by simp [eF]);have s0:w3.cell? ⟨d.H,0,none⟩=some (.int .i64 (h'.state:Int)):=E.hp.c 0;have s3:w3.cell? ⟨d.H,3,none⟩=some (.int .i64 (h'.live:Int)):=E.hp.c 3;have s4:w3.cell? ⟨d.H,4,none⟩=some (.int .i64 (h'.bytes:Int)):=E.hp.c 4;have Z:w3.cell? ⟨d.H,16,none⟩=some (.slice K h'.pending.length i):=by rw [E.hp.c 16];exact congrArg some z
  have b9:=E.hp.lt;have P:X+1≠d.H:=fun c=>Q.o.apart E.hp (by decide) c;have c0:d.H≠X+1:=fun c=>P c.symm;clear E rP z;go_wp2_with fail
  go_region_held3 (fun w'=>w'.cell? ⟨d.H,0,none⟩=some (.int .i64 (h'.state:Int))/\w'.cell? ⟨d.H,3,none⟩=some (.int .i64 (h'.live:Int))/\w'.cell? ⟨d.H,4,none⟩=some (.int .i64 (h'.bytes:Int))/\w'.cell? ⟨d.H,16,none⟩=some (.slice K h'.pending.length i)) (go_keep)
   (first
     |(go_at_call 36
       refine (oF (l.o.low (aC (aT w3.heap.size w3) _)).p).mono ?_;rintro e4 w4 ⟨fv,rfl,J,N,M,m,q⟩;obtain ⟨D,u,a1⟩:=aF J;subst a1;have t0:w4.cell? ⟨d.H,0,none⟩=some (.int .i64 (h'.state:Int)):=by rw [q,Nz _ _ _ _ (by simp)];exact s0
       have t3:w4.cell? ⟨d.H,3,none⟩=some (.int .i64 (h'.live:Int)):=by rw [q,Nz _ _ _ _ (by simp)];exact s3
       have t4:w4.cell? ⟨d.H,4,none⟩=some (.int .i64 (h'.bytes:Int)):=by rw [q,Nz _ _ _ _ (by simp)];exact s4
       have b6:w4.cell? ⟨d.H,16,none⟩=some (.slice K h'.pending.length i):=by rw [q,Nz _ _ _ _ (by simp)];exact Z
       have a3:=Keeps.of (aC (aT w3.heap.size w3) 1) (au _) (fun b=>b=d.H);have H4:=ah (And.intro J (And.intro N (And.intro M (show Keeps w3 w4 (fun b=>b=d.H) from ⟨m.os,m.tape,m.output,m.size,m.block⟩))));have a:=ah (Q.o.keep H4.o.2.2.2 P);have y0:=a.o.c 0;have v0:=a.o.ME 0;have y1:=a.o.c 1;have v1:=a.o.ME 1;have y2:=a.o.c 2;have v2:=a.o.ME 2;have y3:=a.o.c 3;have v3:=a.o.ME 3;have y4:=a.o.c 4;have v4:=a.o.ME 4;have y5:=a.o.c 5;have v5:=a.o.ME 5;have y6:=a.o.c 6;have v6:=a.o.ME 6;clear J N M m q a3))
  go_wp2;have f:=ah (gX a.o (.int .i64 0) (.int .i64 id) (.int .i64 (h'.live:Int)) (.int .i64 (h'.bytes:Int)) (.int .i64 (h'.state:Int)) (.int .i64 (h'.pending.length:Int)) (.slice D h'.freed.length u));have t:=ah (fQ w4 (X+1) (.int .i64 0) (.int .i64 id) (.int .i64 (h'.live:Int)) (.int .i64 (h'.bytes:Int)) (.int .i64 (h'.state:Int)) (.int .i64 (h'.pending.length:Int)) (.slice D h'.freed.length u));unfold oV at f t;generalize ((((((w4.setCell ⟨X+1,0,none⟩ (.int .i64 0)).setCell ⟨X+1,1,none⟩ (.int .i64 id)).setCell ⟨X+1,2,none⟩ (.int .i64 (h'.live:Int))).setCell ⟨X+1,3,none⟩ (.int .i64 (h'.bytes:Int))).setCell ⟨X+1,4,none⟩ (.int .i64 (h'.state:Int))).setCell ⟨X+1,5,none⟩ (.int .i64 (h'.pending.length:Int))).setCell ⟨X+1,6,none⟩ (.slice D h'.freed.length u)=wo at *;have q0:wo.cell? ⟨X+1,0,none⟩=some (.int .i64 0):=f.o.c 0;have q1:wo.cell? ⟨X+1,1,none⟩=some (.int .i64 id):=f.o.c 1;have q2:wo.cell? ⟨X+1,2,none⟩=some (.int .i64 (h'.live:Int)):=f.o.c 2;have q3:wo.cell? ⟨X+1,3,none⟩=some (.int .i64 (h'.bytes:Int)):=f.o.c 3;have q4:wo.cell? ⟨X+1,4,none⟩=some (.int .i64 (h'.state:Int)):=f.o.c 4;have q5:wo.cell? ⟨X+1,5,none⟩=some (.int .i64 (h'.pending.length:Int)):=f.o.c 5;have q6:wo.cell? ⟨X+1,6,none⟩=some (.slice D h'.freed.length u):=f.o.c 6;refine bodyPost_ret (v:=.agg #[.int .i64 0,.int .i64 id,.int .i64 (h'.live:Int),.int .i64 (h'.bytes:Int),.int .i64 (h'.state:Int),.int .i64 (h'.pending.length:Int),.slice D h'.freed.length u]) ?_ rfl ?_
  ·simp [results,Tryz.results26,go_sem,q0,q1,q2,q3,q4,q5,q6]
  ·obtain ⟨f1,f2,⟨L4,f3,f4⟩,f5⟩:=H4.o
   have a0:∀ g,(Value.slice D h'.freed.length u).ownBlock=some g->¬ g=X+1:=fun g hg c=>(f2 g hg).2 c;refine ⟨.slice D h'.freed.length u,fun b=>((S b/\b≠X)/\b≠X+1)/\(Value.slice D h'.freed.length u).ownBlock≠some b,L4,rfl,aj f1 t.o a0,fun g hg=>⟨fun c=>c.2 hg,(f2 g hg).1.1⟩,fun b e=>e.1.1.1,⟨f4.out (t.o.mono (fun b e=>fun c=>c.1.2 e)),?_,fun e=>HN.o e.1⟩,?_⟩
   ·refine ((l.o.r.keep f5 (fun c=>by obtain ⟨_,_,_,aQ,_⟩:=l.o.p;exact l.o.r.apart aQ.hp (by decide) c)).keep t.o (fun c=>V c.symm)).congr (fun j hj=>?_)
    rw [f3.H,f3.tb]
   ·have hb:=Keeps.of HB.o (aO W.o) (fun b=>S b∨b=R)
    have a5:S d.H:=by obtain ⟨_,_,_,aQ,_⟩:=l.o.p;exact aQ.sH.1.1
    exact Keeps.into (((hb.trans (b4.o.mono (fun b e=>e.imp (fun c=>c.1.1) (fun c=>c)))).trans (K3.o.mono (fun b e=>Or.inr e))).trans (f5.mono (fun b e=>Or.inl (e ▸ a5)))) t.o (fun c e=>.inr (by have:=W.o;omega))
end Go.Proofs.YtbpcdfbmnklcjaaGreatDoor
