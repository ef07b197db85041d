import Derived.Test.YtbpcdfbmnklcjaaGreatDoorKIB
import Derived.Test.YtbpcdfbmnklcjaaGreatDoorKIO1
import Derived.Test.YtbpcdfbmnklcjaaGreatDoorKHXD
namespace Go.Proofs.YtbpcdfbmnklcjaaGreatDoor
open Go Go.RowKit
set_option maxHeartbeats 6400000
set_option maxRecDepth 100000
set_option linter.unusedVariables false
section
variable {L:PM} {R base hand:Nat} {S:Nat->Prop} {h:Hp} {w:World}
attribute [local go_sem] bW
def EX (base:Nat) (S:Nat->Prop) (R:Nat) (w:World) (a:An) (h':Hp) (hand':Nat) (e:Ending) (w':World):Prop:=
 ∃ fv S' L',e=.returned (.agg (mO a fv).toArray)/\w'.ownsRow base 3 1 fv a.freed.length (dZ a.freed)/\(∀ g,fv.ownBlock=some g->¬ S' g/\S g)/\(∀ b,S' b->S b)/\PW base S' h' L' R hand' w'/\Keeps w w' (fun b=>S b∨b=R)
theorem sZ (x:PW base S h L R hand w) (kd A B C code id:Int) (h':Hp) (hc:∀ (S1:Nat->Prop) (w1:World),PW base S1 h L R hand w1->Calls Tryz.prog 35 #[.pointer (some ⟨R,0,none⟩),.agg #[.int .i64 kd,.int .i64 A,.int .i64 B,.int .i64 C]] w1 (nS base S1 L.H R w1 kd code id h')) (m:code≠0):
 Calls Tryz.prog 26 #[.pointer (some ⟨R,0,none⟩),.agg #[.int .i64 kd,.int .i64 A,.int .i64 B,.int .i64 C]] w (EX base S R w (An.no code) h' 0):=by
 have s:=ah ((fK w kd A B C).keep (Keeps.of (aU (w.alloc (.cells #[.int .i64 kd,.int .i64 A,.int .i64 B,.int .i64 C] 39)) (.cells #[.int .i64 0,.int .i64 0,.int .i64 0,.int .i64 0,.int .i64 0,.int .i64 0,.slice none 0 0] 36)) (au _) (fun _=>False)) (fun y=>y));have HY:=ah (Ev (w.alloc (.cells #[.int .i64 kd,.int .i64 A,.int .i64 B,.int .i64 C] 39)));have HB:=ah (EL w (.cells #[.int .i64 kd,.int .i64 A,.int .i64 B,.int .i64 C] 39) (.cells #[.int .i64 0,.int .i64 0,.int .i64 0,.int .i64 0,.int .i64 0,.int .i64 0,.slice none 0 0] 36));have W:(w.alloc (.cells #[.int .i64 kd,.int .i64 A,.int .i64 B,.int .i64 C] 39)).heap.size=w.heap.size+1:=bM _;have V:((w.alloc (.cells #[.int .i64 kd,.int .i64 A,.int .i64 B,.int .i64 C] 39)).alloc (.cells #[.int .i64 0,.int .i64 0,.int .i64 0,.int .i64 0,.int .i64 0,.int .i64 0,.slice none 0 0] 36)).heap.size=w.heap.size+2:=by rw [show ((w.alloc (.cells #[.int .i64 kd,.int .i64 A,.int .i64 B,.int .i64 C] 39)).alloc (.cells #[.int .i64 0,.int .i64 0,.int .i64 0,.int .i64 0,.int .i64 0,.int .i64 0,.slice none 0 0] 36)).heap.size=(w.alloc (.cells #[.int .i64 kd,.int .i64 A,.int .i64 B,.int .i64 C] 39)).heap.size+1 from bM _,W]
 have K:=ah ((x.hole (aU w (.cells #[.int .i64 kd,.int .i64 A,.int .i64 B,.int .i64 C] 39)) (F:=w.heap.size) (au _) (by omega)).hole (aU (w.alloc (.cells #[.int .i64 kd,.int .i64 A,.int .i64 B,.int .i64 C] 39)) (.cells #[.int .i64 0,.int .i64 0,.int .i64 0,.int .i64 0,.int .i64 0,.int .i64 0,.slice none 0 0] 36)) (F:=w.heap.size+1) (by omega) (by omega));rw [W] at HY;have HC:=ah (hc _ _ K.o);clear x W V hc;go_enter Tryz.func26,Tryz.ntmps26;go_upto_region 1 with (fail)
 change Code.wp _ _ _ _ ((w.alloc (.cells #[.int .i64 kd,.int .i64 A,.int .i64 B,.int .i64 C] 39)).alloc (.cells #[.int .i64 0,.int .i64 0,.int .i64 0,.int .i64 0,.int .i64 0,.int .i64 0,.slice none 0 0] 36));generalize (w.alloc (.cells #[.int .i64 kd,.int .i64 A,.int .i64 B,.int .i64 C] 39)).alloc (.cells #[.int .i64 0,.int .i64 0,.int .i64 0,.int .i64 0,.int .i64 0,.int .i64 0,.slice none 0 0] 36)=w1 at *;generalize hX:w.heap.size=X at *;have J:=ah hX;clear hX;have x0:w1.cell? ⟨X,0,none⟩=some (.int .i64 kd):=s.o.c 0;have x1:w1.cell? ⟨X,1,none⟩=some (.int .i64 A):=s.o.c 1;have x2:w1.cell? ⟨X,2,none⟩=some (.int .i64 B):=s.o.c 2;have x3:w1.cell? ⟨X,3,none⟩=some (.int .i64 C):=s.o.c 3;go_wp2_with fail;refine HC.o.mono ?_;rintro e2 l ⟨rfl,L2,pv,G,z,t,u,i⟩;have Y:X≠R:=fun c=>s.o.apart K.o.r (by decide) c;have p:X+1≠R:=fun c=>HY.o.apart K.o.r (by decide) c;have a1:=ah (s.o.keep i (fun c=>by
  rcases c with c|c
  ·exact c.1.2 rfl
  ·exact Y c))
 have a0:=ah (HY.o.keep i (fun c=>by
  rcases c with c|c
  ·exact c.2 rfl
  ·exact p c))
 have a4:=ah z;have q:=ah t;have a8:=ah u;have a5:=ah i;have HN:=ah K.o.n;have a6:=ah G;clear z t u i G x0 x1 x2 x3;have x0:l.cell? ⟨X,0,none⟩=some (.int .i64 kd):=a1.o.c 0;have r1:l.cell? ⟨R,1,none⟩=some pv:=q.o.c 1;have z1:=q.o.Nq 1;have a2:=ah (q.o.set (j:=1) (by omega) .nilIface);have Z:Hq (Keeps l (l.setCell ⟨R,1,none⟩ .nilIface) (fun b=>b=R)):=ah (Keeps.setCell (S:=fun b=>b=R) (Keeps.refl _ _) rfl _);have a3:=ah (a4.o.out (Z.o.mono (fun b e=>by rw [e];exact HN.o)));have a:=ah (a0.o.keep Z.o p);have a7:(code !=0)=true:=by simpa using m
 have k:Hq (∀ wo,Keeps (l.setCell ⟨R,1,none⟩ .nilIface) wo (fun b=>b=X+1)->EX base S R w (An.no code) h' 0 (.returned (.agg (mO (An.no code) (.slice none 0 0)).toArray)) wo):=ah (fun wo ko=>by
  refine ⟨.slice none 0 0,fun b=>(S b/\b≠X)/\b≠X+1,L2,rfl,⟨rfl,.inl ⟨rfl,rfl⟩⟩,fun g hg=>by simp [Value.ownBlock] at hg,fun b e=>e.1.1,⟨a3.o.out (ko.mono (fun b e=>fun c=>c.2 e)),?_,HN.o⟩,?_⟩
  ·refine (a2.o.keep ko (fun c=>p c.symm)).congr (fun j hj=>?_)
   have:j=0∨j=1:=by omega
   rcases this with rfl|rfl
   ·show Value.pointer (some ⟨L.H,0,none⟩)=Value.pointer (some ⟨L2.H,0,none⟩)
    rw [a6.o]
   ·rfl
  ·have hb:=Keeps.of HB.o (aO J.o) (fun b=>S b∨b=R)
   refine Keeps.into ((hb.trans (a5.o.mono (fun b e=>e.imp (fun c=>c.1.1) (fun c=>c)))).trans (Z.o.mono (fun b e=>Or.inr e))) ko (fun c e=>.inr (by have:=J.o;omega)))
 by_cases E:kd=8
 ·subst E
  have D:((8:Int) !=8)=false:=rfl;go_upto_region 4 with (fail)
  generalize l.setCell ⟨R,1,none⟩ .nilIface=w3 at *;have y0:=a.o.c 0;have v0:=a.o.Nq 0;have y1:=a.o.c 1;have v1:=a.o.Nq 1;have y2:=a.o.c 2;have v2:=a.o.Nq 2;have y3:=a.o.c 3;have v3:=a.o.Nq 3;have y4:=a.o.c 4;have v4:=a.o.Nq 4;have y5:=a.o.c 5;have v5:=a.o.Nq 5;have y6:=a.o.c 6;have v6:=a.o.Nq 6;go_wp2;have d:=ah (gX a.o (.int .i64 code) (.int .i64 0) (.int .i64 0) (.int .i64 0) (.int .i64 0) (.int .i64 0) (.slice none 0 0));have f:=ah (fQ w3 (X+1) (.int .i64 code) (.int .i64 0) (.int .i64 0) (.int .i64 0) (.int .i64 0) (.int .i64 0) (.slice none 0 0));unfold o_ at d f;generalize ((((((w3.setCell ⟨X+1,0,none⟩ (.int .i64 code)).setCell ⟨X+1,1,none⟩ (.int .i64 0)).setCell ⟨X+1,2,none⟩ (.int .i64 0)).setCell ⟨X+1,3,none⟩ (.int .i64 0)).setCell ⟨X+1,4,none⟩ (.int .i64 0)).setCell ⟨X+1,5,none⟩ (.int .i64 0)).setCell ⟨X+1,6,none⟩ (.slice none 0 0)=wo at *;have U:wo.cell? ⟨X+1,0,none⟩=some (.int .i64 code):=d.o.c 0;have q1:wo.cell? ⟨X+1,1,none⟩=some (.int .i64 0):=d.o.c 1;have T:wo.cell? ⟨X+1,2,none⟩=some (.int .i64 0):=d.o.c 2;have Q:wo.cell? ⟨X+1,3,none⟩=some (.int .i64 0):=d.o.c 3;have P:wo.cell? ⟨X+1,4,none⟩=some (.int .i64 0):=d.o.c 4;have N:wo.cell? ⟨X+1,5,none⟩=some (.int .i64 0):=d.o.c 5;have M:wo.cell? ⟨X+1,6,none⟩=some (.slice none 0 0):=d.o.c 6;refine bodyPost_ret (v:=.agg #[.int .i64 code,.int .i64 0,.int .i64 0,.int .i64 0,.int .i64 0,.int .i64 0,.slice none 0 0]) ?_ rfl ?_
  ·simp [results,Tryz.results26,go_sem,U,q1,T,Q,P,N,M]
  ·exact k.o _ f.o
 ·have D:(kd !=8)=true:=by simpa using E
  go_upto_region 4 with (fail)
  generalize l.setCell ⟨R,1,none⟩ .nilIface=w3 at *;have y0:=a.o.c 0;have v0:=a.o.Nq 0;have y1:=a.o.c 1;have v1:=a.o.Nq 1;have y2:=a.o.c 2;have v2:=a.o.Nq 2;have y3:=a.o.c 3;have v3:=a.o.Nq 3;have y4:=a.o.c 4;have v4:=a.o.Nq 4;have y5:=a.o.c 5;have v5:=a.o.Nq 5;have y6:=a.o.c 6;have v6:=a.o.Nq 6;go_wp2;have d:=ah (gX a.o (.int .i64 code) (.int .i64 0) (.int .i64 0) (.int .i64 0) (.int .i64 0) (.int .i64 0) (.slice none 0 0));have f:=ah (fQ w3 (X+1) (.int .i64 code) (.int .i64 0) (.int .i64 0) (.int .i64 0) (.int .i64 0) (.int .i64 0) (.slice none 0 0));unfold o_ at d f;generalize ((((((w3.setCell ⟨X+1,0,none⟩ (.int .i64 code)).setCell ⟨X+1,1,none⟩ (.int .i64 0)).setCell ⟨X+1,2,none⟩ (.int .i64 0)).setCell ⟨X+1,3,none⟩ (.int .i64 0)).setCell ⟨X+1,4,none⟩ (.int .i64 0)).setCell ⟨X+1,5,none⟩ (.int .i64 0)).setCell ⟨X+1,6,none⟩ (.slice none 0 0)=wo at *;have U:wo.cell? ⟨X+1,0,none⟩=some (.int .i64 code):=d.o.c 0;have q1:wo.cell? ⟨X+1,1,none⟩=some (.int .i64 0):=d.o.c 1;have T:wo.cell? ⟨X+1,2,none⟩=some (.int .i64 0):=d.o.c 2;have Q:wo.cell? ⟨X+1,3,none⟩=some (.int .i64 0):=d.o.c 3;have P:wo.cell? ⟨X+1,4,none⟩=some (.int .i64 0):=d.o.c 4;have N:wo.cell? ⟨X+1,5,none⟩=some (.int .i64 0):=d.o.c 5;have M:wo.cell? ⟨X+1,6,none⟩=some (.slice none 0 0):=d.o.c 6;refine bodyPost_ret (v:=.agg #[.int .i64 code,.int .i64 0,.int .i64 0,.int .i64 0,.int .i64 0,.int .i64 0,.slice none 0 0]) ?_ rfl ?_
  ·simp [results,Tryz.results26,go_sem,U,q1,T,Q,P,N,M]
  ·exact k.o _ f.o
theorem ow (p:PS base S h L w):
 Calls Tryz.prog 36 #[.pointer (some ⟨L.H,0,none⟩)] w fun e w'=>∃ v,e=.returned v/\w'.ownsRow base 3 1 v h.freed.length (dZ h.freed)/\(∀ g,v.ownBlock=some g->S g)/\(∃ L',MS L L'/\PS base (fun b=>S b/\v.ownBlock≠some b) h.forget L' w')/\Keeps w w' (fun b=>b=L.H)/\w'=w.setCell ⟨L.H,18,none⟩ (.slice none 0 0):=by
 obtain ⟨x,y,G,a,r⟩:=p;have d:=a.li 18 (by simp [eF]);obtain ⟨A,m,l⟩:=aF d;have z:w.cell? ⟨L.H,18,none⟩=some (.slice A h.freed.length m):=by
  have:=a.hp.c 18;rw [this];exact congrArg some l
 have t:=a.hp.Nq 18;have i:=ah a;have B:=ah r;have HV:=ah l;clear a r l d;go_enter Tryz.func36,Tryz.ntmps36;go_wp2;go_ret;have q:Keeps w (w.setCell ⟨L.H,18,none⟩ (.slice none 0 0)) (fun b=>b=L.H):=Keeps.setCell (S:=fun b=>b=L.H) (Keeps.refl w _) rfl _;have d:=i.o.li 18 (by simp [eF]);obtain ⟨-,u,C⟩:=i.o.JV (h':=iM (h.wk x y) 18 []) (G':=G) (w1:=w) 18 (by simp [eF]) (Keeps.refl w _) (.slice none 0 0) ⟨rfl,.inl ⟨rfl,rfl⟩⟩ (fun g hg=>by simp [Value.ownBlock] at hg) (jE _ 18 _) (fun j hj hn=>jB (by simp [kG]) hj hn _) (kU (by simp [kG]) _ _);have l:L.li 18=.slice A h.freed.length m:=HV.out;rw [l] at d;refine ⟨_,rfl,aj d q (fun g hg c=>ak d i.o.hp (by decide) (c ▸ hg)),fun g hg=>i.o.sl 18 g (by simp [eF]) (by rw [l];exact hg),⟨_,?_,⟨x,y,G,u.less (.slice A h.freed.length m) (fun g hg=>?_),B.o.same rfl rfl rfl rfl rfl rfl (fun _=>Iff.rfl)⟩⟩,q,rfl⟩
 ·exact ⟨rfl,rfl,rfl,rfl⟩
 ·have f:=ay d hg
  refine ⟨aX f.lt q.size,fun c=>f.apart i.o.hp (by decide) c,fun n o e=>⟨fun c=>f.apart (i.o.ob n o e) (by decide) c,fun c=>ak (i.o.en n o e) f (by decide) c,(i.o.mp n o e).apart f⟩,fun k hk c=>?_⟩;by_cases s:k=18
  ·subst s
   simp [Value.ownBlock] at c
  ·simp only [if_neg s] at c
   exact s (i.o.lj k 18 g hk (by simp [eF]) c (by rw [l];exact hg))
theorem CY (x:PW base S h L R hand w) (kd A B C id:Int) (h':Hp) (s:Nat) (hc:∀ (S1:Nat->Prop) (w1:World),PW base S1 h L R hand w1->Calls Tryz.prog 35 #[.pointer (some ⟨R,0,none⟩),.agg #[.int .i64 kd,.int .i64 A,.int .i64 B,.int .i64 C]] w1 (nS base S1 L.H R w1 kd 0 id h')) (h8:kd=8->s=id.toNat) (b0:kd≠8->s=0):
 Calls Tryz.prog 26 #[.pointer (some ⟨R,0,none⟩),.agg #[.int .i64 kd,.int .i64 A,.int .i64 B,.int .i64 C]] w (EX base S R w ⟨0,id,(h'.live:Int),(h'.bytes:Int),(h'.state:Int),(h'.pending.length:Int),h'.freed⟩ h'.forget s):=by
 have H8:=ah h8;have c6:=ah b0;clear h8 b0;have HX:=ah ((fK w kd A B C).keep (Keeps.of (aU (w.alloc (.cells #[.int .i64 kd,.int .i64 A,.int .i64 B,.int .i64 C] 39)) (.cells #[.int .i64 0,.int .i64 0,.int .i64 0,.int .i64 0,.int .i64 0,.int .i64 0,.slice none 0 0] 36)) (au _) (fun _=>False)) (fun y=>y));have HY:=ah (Ev (w.alloc (.cells #[.int .i64 kd,.int .i64 A,.int .i64 B,.int .i64 C] 39)));have HB:=ah (EL w (.cells #[.int .i64 kd,.int .i64 A,.int .i64 B,.int .i64 C] 39) (.cells #[.int .i64 0,.int .i64 0,.int .i64 0,.int .i64 0,.int .i64 0,.int .i64 0,.slice none 0 0] 36));have hZ:(w.alloc (.cells #[.int .i64 kd,.int .i64 A,.int .i64 B,.int .i64 C] 39)).heap.size=w.heap.size+1:=bM _;have b8:((w.alloc (.cells #[.int .i64 kd,.int .i64 A,.int .i64 B,.int .i64 C] 39)).alloc (.cells #[.int .i64 0,.int .i64 0,.int .i64 0,.int .i64 0,.int .i64 0,.int .i64 0,.slice none 0 0] 36)).heap.size=w.heap.size+2:=by rw [show ((w.alloc (.cells #[.int .i64 kd,.int .i64 A,.int .i64 B,.int .i64 C] 39)).alloc (.cells #[.int .i64 0,.int .i64 0,.int .i64 0,.int .i64 0,.int .i64 0,.int .i64 0,.slice none 0 0] 36)).heap.size=(w.alloc (.cells #[.int .i64 kd,.int .i64 A,.int .i64 B,.int .i64 C] 39)).heap.size+1 from bM _,hZ]
 have HR:=ah ((x.hole (aU w (.cells #[.int .i64 kd,.int .i64 A,.int .i64 B,.int .i64 C] 39)) (F:=w.heap.size) (au _) (by omega)).hole (aU (w.alloc (.cells #[.int .i64 kd,.int .i64 A,.int .i64 B,.int .i64 C] 39)) (.cells #[.int .i64 0,.int .i64 0,.int .i64 0,.int .i64 0,.int .i64 0,.int .i64 0,.slice none 0 0] 36)) (F:=w.heap.size+1) (by omega) (by omega));rw [hZ] at HY;have HC:=ah (hc _ _ HR.o);clear x hZ b8 hc;go_enter Tryz.func26,Tryz.ntmps26;go_upto_region 1 with (fail)
 change Code.wp _ _ _ _ ((w.alloc (.cells #[.int .i64 kd,.int .i64 A,.int .i64 B,.int .i64 C] 39)).alloc (.cells #[.int .i64 0,.int .i64 0,.int .i64 0,.int .i64 0,.int .i64 0,.int .i64 0,.slice none 0 0] 36));generalize (w.alloc (.cells #[.int .i64 kd,.int .i64 A,.int .i64 B,.int .i64 C] 39)).alloc (.cells #[.int .i64 0,.int .i64 0,.int .i64 0,.int .i64 0,.int .i64 0,.int .i64 0,.slice none 0 0] 36)=w1 at *;generalize hX:w.heap.size=X at *;have Y:=ah hX;clear hX;have x0:w1.cell? ⟨X,0,none⟩=some (.int .i64 kd):=HX.o.c 0;have x1:w1.cell? ⟨X,1,none⟩=some (.int .i64 A):=HX.o.c 1;have x2:w1.cell? ⟨X,2,none⟩=some (.int .i64 B):=HX.o.c 2;have x3:w1.cell? ⟨X,3,none⟩=some (.int .i64 C):=HX.o.c 3;go_wp2_with fail;refine HC.o.mono ?_;rintro e2 U ⟨rfl,d,pv,b2,a9,a7,a8,V⟩;have b9:X≠R:=fun c=>HX.o.apart HR.o.r (by decide) c;have W:X+1≠R:=fun c=>HY.o.apart HR.o.r (by decide) c;have c2:=ah (HX.o.keep V (fun c=>by
  rcases c with c|c
  ·exact c.1.2 rfl
  ·exact b9 c))
 have b3:=ah (HY.o.keep V (fun c=>by
  rcases c with c|c
  ·exact c.2 rfl
  ·exact W c))
 have b4:=ah a9;have Z:=ah a7;have c4:=ah a8;have b5:=ah V;have HN:=ah HR.o.n;have b6:=ah b2;clear a9 a7 a8 V b2 x0 x1 x2 x3;have x0:U.cell? ⟨X,0,none⟩=some (.int .i64 kd):=c2.o.c 0;have r1:U.cell? ⟨R,1,none⟩=some pv:=Z.o.c 1;have z1:=Z.o.Nq 1;by_cases a5:kd=8
 ·subst a5
  have b1:((8:Int) !=8)=false:=rfl;have l:Hq (PW base (fun b=>(S b/\b≠X)/\b≠X+1) h' d R s U):=ah ⟨b4.o,by rw [b6.o,H8.o rfl,<-c4.o rfl rfl];exact Z.o,HN.o⟩;have K3:=ah (Keeps.refl U (fun b=>b=R));have Q:=ah b3.o;go_upto_region 6 with (fail)
  clear x0 r1 z1;generalize U=w3 at *;have r0:w3.cell? ⟨R,0,none⟩=some (.pointer (some ⟨d.H,0,none⟩)):=l.o.r.c 0;have a3:=l.o.p;obtain ⟨px,py,G,E,rP⟩:=a3;obtain ⟨K,i,z,-,-⟩:=E.IC (k:=16) (by simp [eF]);have s0:w3.cell? ⟨d.H,0,none⟩=some (.int .i64 (h'.state:Int)):=E.hp.c 0;have s3:w3.cell? ⟨d.H,3,none⟩=some (.int .i64 (h'.live:Int)):=E.hp.c 3;have s4:w3.cell? ⟨d.H,4,none⟩=some (.int .i64 (h'.bytes:Int)):=E.hp.c 4;have a0:w3.cell? ⟨d.H,16,none⟩=some (.slice K h'.pending.length i):=by rw [E.hp.c 16];exact congrArg some z
  have c0:=E.hp.lt;have P:X+1≠d.H:=fun c=>Q.o.apart E.hp (by decide) c;have c1:d.H≠X+1:=fun c=>P c.symm;clear E rP z;go_wp2_with fail
  go_region_held3 (fun w'=>w'.cell? ⟨d.H,0,none⟩=some (.int .i64 (h'.state:Int))/\w'.cell? ⟨d.H,3,none⟩=some (.int .i64 (h'.live:Int))/\w'.cell? ⟨d.H,4,none⟩=some (.int .i64 (h'.bytes:Int))/\w'.cell? ⟨d.H,16,none⟩=some (.slice K h'.pending.length i)) (go_keep)
   (first
     |(go_at_call 36
       refine (ow (l.o.low (aC (aG w3.heap.size w3) _)).p).mono ?_;rintro e4 w4 ⟨fv,rfl,J,N,M,m,q⟩;obtain ⟨D,u,a2⟩:=aF J;subst a2;have t0:w4.cell? ⟨d.H,0,none⟩=some (.int .i64 (h'.state:Int)):=by rw [q,jI _ _ _ _ (by simp)];exact s0
       have t3:w4.cell? ⟨d.H,3,none⟩=some (.int .i64 (h'.live:Int)):=by rw [q,jI _ _ _ _ (by simp)];exact s3
       have t4:w4.cell? ⟨d.H,4,none⟩=some (.int .i64 (h'.bytes:Int)):=by rw [q,jI _ _ _ _ (by simp)];exact s4
       have b7:w4.cell? ⟨d.H,16,none⟩=some (.slice K h'.pending.length i):=by rw [q,jI _ _ _ _ (by simp)];exact a0
       have a4:=Keeps.of (aC (aG w3.heap.size w3) 1) (au _) (fun b=>b=d.H);have H4:=ah (T.intro J (T.intro N (T.intro M (show Keeps w3 w4 (fun b=>b=d.H) from ⟨m.os,m.tape,m.output,m.size,m.block⟩))));have a:=ah (Q.o.keep H4.o.2.2.2 P);have y0:=a.o.c 0;have v0:=a.o.Nq 0;have y1:=a.o.c 1;have v1:=a.o.Nq 1;have y2:=a.o.c 2;have v2:=a.o.Nq 2;have y3:=a.o.c 3;have v3:=a.o.Nq 3;have y4:=a.o.c 4;have v4:=a.o.Nq 4;have y5:=a.o.c 5;have v5:=a.o.Nq 5;have y6:=a.o.c 6;have v6:=a.o.Nq 6;clear J N M m q a4))
  go_wp2;have f:=ah (gX a.o (.int .i64 0) (.int .i64 id) (.int .i64 (h'.live:Int)) (.int .i64 (h'.bytes:Int)) (.int .i64 (h'.state:Int)) (.int .i64 (h'.pending.length:Int)) (.slice D h'.freed.length u));have t:=ah (fQ w4 (X+1) (.int .i64 0) (.int .i64 id) (.int .i64 (h'.live:Int)) (.int .i64 (h'.bytes:Int)) (.int .i64 (h'.state:Int)) (.int .i64 (h'.pending.length:Int)) (.slice D h'.freed.length u));unfold o_ at f t;generalize ((((((w4.setCell ⟨X+1,0,none⟩ (.int .i64 0)).setCell ⟨X+1,1,none⟩ (.int .i64 id)).setCell ⟨X+1,2,none⟩ (.int .i64 (h'.live:Int))).setCell ⟨X+1,3,none⟩ (.int .i64 (h'.bytes:Int))).setCell ⟨X+1,4,none⟩ (.int .i64 (h'.state:Int))).setCell ⟨X+1,5,none⟩ (.int .i64 (h'.pending.length:Int))).setCell ⟨X+1,6,none⟩ (.slice D h'.freed.length u)=wo at *;have q0:wo.cell? ⟨X+1,0,none⟩=some (.int .i64 0):=f.o.c 0;have q1:wo.cell? ⟨X+1,1,none⟩=some (.int .i64 id):=f.o.c 1;have q2:wo.cell? ⟨X+1,2,none⟩=some (.int .i64 (h'.live:Int)):=f.o.c 2;have q3:wo.cell? ⟨X+1,3,none⟩=some (.int .i64 (h'.bytes:Int)):=f.o.c 3;have q4:wo.cell? ⟨X+1,4,none⟩=some (.int .i64 (h'.state:Int)):=f.o.c 4;have q5:wo.cell? ⟨X+1,5,none⟩=some (.int .i64 (h'.pending.length:Int)):=f.o.c 5;have q6:wo.cell? ⟨X+1,6,none⟩=some (.slice D h'.freed.length u):=f.o.c 6;refine bodyPost_ret (v:=.agg #[.int .i64 0,.int .i64 id,.int .i64 (h'.live:Int),.int .i64 (h'.bytes:Int),.int .i64 (h'.state:Int),.int .i64 (h'.pending.length:Int),.slice D h'.freed.length u]) ?_ rfl ?_
  ·simp [results,Tryz.results26,go_sem,q0,q1,q2,q3,q4,q5,q6]
  ·obtain ⟨f1,f2,⟨L4,f3,f4⟩,f5⟩:=H4.o
   have a1:∀ g,(Value.slice D h'.freed.length u).ownBlock=some g->¬ g=X+1:=fun g hg c=>(f2 g hg).2 c;refine ⟨.slice D h'.freed.length u,fun b=>((S b/\b≠X)/\b≠X+1)/\(Value.slice D h'.freed.length u).ownBlock≠some b,L4,rfl,aj f1 t.o a1,fun g hg=>⟨fun c=>c.2 hg,(f2 g hg).1.1⟩,fun b e=>e.1.1.1,⟨f4.out (t.o.mono (fun b e=>fun c=>c.1.2 e)),?_,fun e=>HN.o e.1⟩,?_⟩
   ·refine ((l.o.r.keep f5 (fun c=>by obtain ⟨_,_,_,aQ,_⟩:=l.o.p;exact l.o.r.apart aQ.hp (by decide) c)).keep t.o (fun c=>W c.symm)).congr (fun j hj=>?_)
    rw [f3.H,f3.tb]
   ·have hb:=Keeps.of HB.o (aO Y.o) (fun b=>S b∨b=R)
    have a6:S d.H:=by obtain ⟨_,_,_,aQ,_⟩:=l.o.p;exact aQ.sH.1.1
    exact Keeps.into (((hb.trans (b5.o.mono (fun b e=>e.imp (fun c=>c.1.1) (fun c=>c)))).trans (K3.o.mono (fun b e=>Or.inr e))).trans (f5.mono (fun b e=>Or.inl (e ▸ a6)))) t.o (fun c e=>.inr (by have:=Y.o;omega))
 ·have b1:(kd !=8)=true:=by simpa using a5
  have c3:=ah (Z.o.set (j:=1) (by omega) .nilIface);have K3:Hq (Keeps U (U.setCell ⟨R,1,none⟩ .nilIface) (fun b=>b=R)):=ah (Keeps.setCell (S:=fun b=>b=R) (Keeps.refl _ _) rfl _);have c5:=ah (b4.o.out (K3.o.mono (fun b e=>by rw [e];exact HN.o)));have Q:=ah (b3.o.keep K3.o W);have l:Hq (PW base (fun b=>(S b/\b≠X)/\b≠X+1) h' d R s (U.setCell ⟨R,1,none⟩ .nilIface)):=ah ⟨c5.o,c3.o.congr (fun j hj=>by
   have:j=0∨j=1:=by omega
   rcases this with rfl|rfl
   ·show Value.pointer (some ⟨L.H,0,none⟩)=Value.pointer (some ⟨d.H,0,none⟩)
    rw [b6.o]
   ·rw [c6.o a5];rfl),HN.o⟩
  go_upto_region 6 with (fail)
  clear x0 r1 z1;generalize U.setCell ⟨R,1,none⟩ .nilIface=w3 at *;have r0:w3.cell? ⟨R,0,none⟩=some (.pointer (some ⟨d.H,0,none⟩)):=l.o.r.c 0;have a3:=l.o.p;obtain ⟨px,py,G,E,rP⟩:=a3;obtain ⟨K,i,z,-,-⟩:=E.IC (k:=16) (by simp [eF]);have s0:w3.cell? ⟨d.H,0,none⟩=some (.int .i64 (h'.state:Int)):=E.hp.c 0;have s3:w3.cell? ⟨d.H,3,none⟩=some (.int .i64 (h'.live:Int)):=E.hp.c 3;have s4:w3.cell? ⟨d.H,4,none⟩=some (.int .i64 (h'.bytes:Int)):=E.hp.c 4;have a0:w3.cell? ⟨d.H,16,none⟩=some (.slice K h'.pending.length i):=by rw [E.hp.c 16];exact congrArg some z
  have c0:=E.hp.lt;have P:X+1≠d.H:=fun c=>Q.o.apart E.hp (by decide) c;have c1:d.H≠X+1:=fun c=>P c.symm;clear E rP z;go_wp2_with fail
  go_region_held3 (fun w'=>w'.cell? ⟨d.H,0,none⟩=some (.int .i64 (h'.state:Int))/\w'.cell? ⟨d.H,3,none⟩=some (.int .i64 (h'.live:Int))/\w'.cell? ⟨d.H,4,none⟩=some (.int .i64 (h'.bytes:Int))/\w'.cell? ⟨d.H,16,none⟩=some (.slice K h'.pending.length i)) (go_keep)
   (first
     |(go_at_call 36
       refine (ow (l.o.low (aC (aG w3.heap.size w3) _)).p).mono ?_;rintro e4 w4 ⟨fv,rfl,J,N,M,m,q⟩;obtain ⟨D,u,a2⟩:=aF J;subst a2;have t0:w4.cell? ⟨d.H,0,none⟩=some (.int .i64 (h'.state:Int)):=by rw [q,jI _ _ _ _ (by simp)];exact s0
       have t3:w4.cell? ⟨d.H,3,none⟩=some (.int .i64 (h'.live:Int)):=by rw [q,jI _ _ _ _ (by simp)];exact s3
       have t4:w4.cell? ⟨d.H,4,none⟩=some (.int .i64 (h'.bytes:Int)):=by rw [q,jI _ _ _ _ (by simp)];exact s4
       have b7:w4.cell? ⟨d.H,16,none⟩=some (.slice K h'.pending.length i):=by rw [q,jI _ _ _ _ (by simp)];exact a0
       have a4:=Keeps.of (aC (aG w3.heap.size w3) 1) (au _) (fun b=>b=d.H);have H4:=ah (T.intro J (T.intro N (T.intro M (show Keeps w3 w4 (fun b=>b=d.H) from ⟨m.os,m.tape,m.output,m.size,m.block⟩))));have a:=ah (Q.o.keep H4.o.2.2.2 P);have y0:=a.o.c 0;have v0:=a.o.Nq 0;have y1:=a.o.c 1;have v1:=a.o.Nq 1;have y2:=a.o.c 2;have v2:=a.o.Nq 2;have y3:=a.o.c 3;have v3:=a.o.Nq 3;have y4:=a.o.c 4;have v4:=a.o.Nq 4;have y5:=a.o.c 5;have v5:=a.o.Nq 5;have y6:=a.o.c 6;have v6:=a.o.Nq 6;clear J N M m q a4))
  go_wp2;have f:=ah (gX a.o (.int .i64 0) (.int .i64 id) (.int .i64 (h'.live:Int)) (.int .i64 (h'.bytes:Int)) (.int .i64 (h'.state:Int)) (.int .i64 (h'.pending.length:Int)) (.slice D h'.freed.length u));have t:=ah (fQ w4 (X+1) (.int .i64 0) (.int .i64 id) (.int .i64 (h'.live:Int)) (.int .i64 (h'.bytes:Int)) (.int .i64 (h'.state:Int)) (.int .i64 (h'.pending.length:Int)) (.slice D h'.freed.length u));unfold o_ at f t;generalize ((((((w4.setCell ⟨X+1,0,none⟩ (.int .i64 0)).setCell ⟨X+1,1,none⟩ (.int .i64 id)).setCell ⟨X+1,2,none⟩ (.int .i64 (h'.live:Int))).setCell ⟨X+1,3,none⟩ (.int .i64 (h'.bytes:Int))).setCell ⟨X+1,4,none⟩ (.int .i64 (h'.state:Int))).setCell ⟨X+1,5,none⟩ (.int .i64 (h'.pending.length:Int))).setCell ⟨X+1,6,none⟩ (.slice D h'.freed.length u)=wo at *;have q0:wo.cell? ⟨X+1,0,none⟩=some (.int .i64 0):=f.o.c 0;have q1:wo.cell? ⟨X+1,1,none⟩=some (.int .i64 id):=f.o.c 1;have q2:wo.cell? ⟨X+1,2,none⟩=some (.int .i64 (h'.live:Int)):=f.o.c 2;have q3:wo.cell? ⟨X+1,3,none⟩=some (.int .i64 (h'.bytes:Int)):=f.o.c 3;have q4:wo.cell? ⟨X+1,4,none⟩=some (.int .i64 (h'.state:Int)):=f.o.c 4;have q5:wo.cell? ⟨X+1,5,none⟩=some (.int .i64 (h'.pending.length:Int)):=f.o.c 5;have q6:wo.cell? ⟨X+1,6,none⟩=some (.slice D h'.freed.length u):=f.o.c 6;refine bodyPost_ret (v:=.agg #[.int .i64 0,.int .i64 id,.int .i64 (h'.live:Int),.int .i64 (h'.bytes:Int),.int .i64 (h'.state:Int),.int .i64 (h'.pending.length:Int),.slice D h'.freed.length u]) ?_ rfl ?_
  ·simp [results,Tryz.results26,go_sem,q0,q1,q2,q3,q4,q5,q6]
  ·obtain ⟨f1,f2,⟨L4,f3,f4⟩,f5⟩:=H4.o
   have a1:∀ g,(Value.slice D h'.freed.length u).ownBlock=some g->¬ g=X+1:=fun g hg c=>(f2 g hg).2 c;refine ⟨.slice D h'.freed.length u,fun b=>((S b/\b≠X)/\b≠X+1)/\(Value.slice D h'.freed.length u).ownBlock≠some b,L4,rfl,aj f1 t.o a1,fun g hg=>⟨fun c=>c.2 hg,(f2 g hg).1.1⟩,fun b e=>e.1.1.1,⟨f4.out (t.o.mono (fun b e=>fun c=>c.1.2 e)),?_,fun e=>HN.o e.1⟩,?_⟩
   ·refine ((l.o.r.keep f5 (fun c=>by obtain ⟨_,_,_,aQ,_⟩:=l.o.p;exact l.o.r.apart aQ.hp (by decide) c)).keep t.o (fun c=>W c.symm)).congr (fun j hj=>?_)
    rw [f3.H,f3.tb]
   ·have hb:=Keeps.of HB.o (aO Y.o) (fun b=>S b∨b=R)
    have a6:S d.H:=by obtain ⟨_,_,_,aQ,_⟩:=l.o.p;exact aQ.sH.1.1
    exact Keeps.into (((hb.trans (b5.o.mono (fun b e=>e.imp (fun c=>c.1.1) (fun c=>c)))).trans (K3.o.mono (fun b e=>Or.inr e))).trans (f5.mono (fun b e=>Or.inl (e ▸ a6)))) t.o (fun c e=>.inr (by have:=Y.o;omega))
end
section
variable {A C kd:Int} {L:PM} {R base k:Nat} {S:Nat->Prop} {h:Hp} {r:Rn} {root:List Bool} {w:World}
theorem yA {B:Int} (b:h.freed=[]) (a:(fH h root kd A B C).code≠0):(fH h root kd A B C).h.freed=[]:=by
 unfold fH at a ⊢;by_cases j:kd=1
 ·subst j
  rw [if_pos rfl] at a ⊢;split at a
  ·rw [if_pos ‹_›];exact b
  ·exact absurd rfl a
 rw [if_neg j] at a ⊢;by_cases i:kd=2
 ·subst i;rw [if_pos rfl] at a;exact absurd rfl a
 rw [if_neg i] at a ⊢;by_cases g:kd=3
 ·subst g;rw [if_pos rfl] at a;exact absurd rfl a
 rw [if_neg g] at a ⊢;by_cases f:kd=4
 ·subst f
  rw [if_pos rfl] at a ⊢;split at a
  ·rw [if_pos ‹_›];exact b
  ·exact absurd rfl a
 rw [if_neg f] at a ⊢;by_cases k5:kd=5
 ·subst k5
  rw [if_pos rfl] at a ⊢;split at a
  ·rw [if_pos ‹_›];exact b
  ·exact absurd rfl a
 rw [if_neg k5] at a ⊢;by_cases e:kd=6
 ·subst e
  rw [if_pos rfl] at a ⊢;split at a
  ·rw [if_pos ‹_›];exact b
  ·exact absurd rfl a
 rw [if_neg e] at a ⊢;by_cases d:kd=7
 ·subst d;rw [if_pos rfl] at a;exact absurd rfl a
 rw [if_neg d] at a ⊢;by_cases c:kd=8
 ·subst c;rw [if_pos rfl];exact b
 rw [if_neg c] at a ⊢;split<;>exact b
theorem yC (a:h.freed=[]):h.forget=h:=by
 cases h;simp only at a;subst a;rfl
theorem zP (x:PW base S r.h.forget L R r.hand w) (ok:r.Ok k) (hk:k+1<=5000) (b:MG r.h) (kd A B C:Int) (j: -9223372036854775808<=B/\B<=9223372036854775807):
 Calls Tryz.prog 26 #[.pointer (some ⟨R,0,none⟩),.agg #[.int .i64 kd,.int .i64 A,.int .i64 B,.int .i64 C]] w (EX base S R w (cK r kd A B C).1 (cK r kd A B C).2.h.forget (cK r kd A B C).2.hand):=by
 have c:Jl k r.h.forget r.root r.hand:=Jl.forget (show Jl k r.h r.root r.hand from ok) (by omega);have l:MG r.h.forget:=b.same (g:=r.h.forget) (fun _=>rfl) rfl;by_cases f:bG r.h r.hand kd A B C
 ·have a:=fun (S1:Nat->Prop) (w1:World) (y:PW base S1 r.h.forget L R r.hand w1)=>Eb y c hk rfl l kd A B C j (dO.2 f)
  have hm:cK r kd A B C=(let m:=fH r.h.forget r.root kd A B C
   if m.code≠0 then (An.no m.code,⟨m.h,m.root,0⟩)
   else (⟨0,m.id,(m.h.live:Int),(m.h.bytes:Int),(m.h.state:Int),(m.h.pending.length:Int),m.h.freed⟩,⟨m.h,m.root,if kd=8 then m.id.toNat else 0⟩)):=by unfold cK;rw [if_pos f]
  have i:=yA (h:=r.h.forget) (root:=r.root) (kd:=kd) (A:=A) (B:=B) (C:=C) rfl;generalize fH r.h.forget r.root kd A B C=m at *;by_cases d:m.code=0
  ·simp only [d,ne_eq,not_true_eq_false,if_false] at hm
   rw [hm];rw [d] at a;exact CY x kd A B C m.id m.h _ a (fun e=>if_pos e) (fun e=>if_neg e)
  ·simp only [ne_eq,d,not_false_eq_true,if_true] at hm
   rw [hm];have:=sZ x kd A B C m.code m.id m.h a d;show Calls _ _ _ _ (EX _ _ _ _ (An.no m.code) m.h.forget 0);rw [yC (i d)];exact this
 ·have hm:cK r kd A B C=(An.no 3,⟨r.h,r.root,0⟩):=by unfold cK;rw [if_neg f]
  rw [hm];exact sZ x kd A B C 3 0 r.h.forget (fun S1 w1 y=>(D7 y c hk l kd A B C j (fun e=>f (dO.1 e))).2) (by decide)
end
section
variable {H O R base:Nat} {L L':PM} {S S':Nat->Prop} {al:List An} {av fv v':Value} {fs:List Value} {r r':Rn} {w w' w0 w5 ws:World}
def mh:Array Value:=#[.int .i64 0,.int .i64 0,.int .i64 0,.int .i64 0,.int .i64 0,.int .i64 0,.int .i64 4096,.slice none 0 0,.int .i64 0,.int .i64 0,.slice none 0 0,.slice none 0 0,.slice none 0 0,.slice none 0 0,.slice none 0 0,.slice none 0 0,.slice none 0 0,.bool false,.slice none 0 0]
def EN (H:Nat):PM:=⟨H,fun _=>0,fun _=>.slice none 0 0,fun _=>.map none,fun _=>.slice none 0 0⟩
theorem D8 (h:aD w 77 H 19 (kI Hp.new ⟨[],0,0,[]⟩ (EN H))) (hb:base<=H) (d:S H) (c:∀ b,w.heap.size<=b->S b) (bs:base<=w.heap.size):PS base S Hp.new (EN H) w:=by
 refine ⟨[],[],⟨[],0,0,[]⟩,⟨h,fun n o e=>?_,fun n o e=>?_,fun n o e=>?_,fun k hk=>?_,fun n m o o' e=>?_,fun n m o o' g e=>?_,fun n m o o' g e=>?_,fun k k' g hk hk' e=>?_,hb,fun n o e=>?_,fun n o g e=>?_,bs,d,fun n o e=>?_,fun n o g e=>?_,fun n o g e=>?_,fun k g hk e=>?_,c⟩,⟨fun e=>?_,fun e=>?_,fun _=>⟨List.Pairwise.nil,fun n=>⟨fun e=>by simp at e,fun e=>?_⟩⟩,Nat.zero_le _⟩⟩
 all_goals first
  |(exfalso;have a:Hp.new.ob n=some o:=e;rw [mG] at a;cases a)
  |(exfalso;simp [EN,Value.ownBlock] at e)
  |(exfalso;obtain ⟨o,a⟩:=e;rw [mG] at a;cases a)
  |(exfalso;have a:(0:Nat)=1:=e;omega)
  |(exfalso;have a:(0:Nat)=2:=e;omega)
  |(rcases hk with rfl|rfl|rfl|rfl|rfl|rfl|rfl|rfl|rfl<;>exact ⟨rfl,.inl ⟨rfl,rfl⟩⟩)
theorem xw (w:World):Calls Tryz.prog 25 #[] w fun e w'=>e=.returned (.pointer (some ⟨w.heap.size,0,none⟩))/\w'=w.alloc (.cells mh 77):=by
 unfold mh;go_enter Tryz.func25,Tryz.ntmps25;go_wp2;go_ret;exact ⟨rfl,rfl⟩
def Ys (S:Nat->Prop) (R:Nat) (b:Nat):Prop:=S b∨b=R
theorem PW.keep {base:Nat} {S:Nat->Prop} {h:Hp} {L:PM} {R hand:Nat} {w w':World} {T:Nat->Prop} (x:PW base S h L R hand w) (k:Keeps w w' T) (a:∀ b,T b->¬ Ys S R b):PW base S h L R hand w':=
 ⟨x.p.out (k.mono (fun b e y=>a b e (.inl y))),x.r.keep k (fun e=>a R e (.inr rfl)),x.n⟩
theorem PW.less {base:Nat} {S:Nat->Prop} {h:Hp} {L:PM} {R hand:Nat} {w w':World} {T:Nat->Prop} (x:PW base S h L R hand w) (k:Keeps w w' T) (i:∀ b,T b->¬ Ys S R b) (v:Value) (f:∀ g,v.ownBlock=some g->g<w'.heap.size/\(¬ S g∨w.heap.size<=g)):PW base (fun b=>S b/\v.ownBlock≠some b) h L R hand w':=by
 obtain ⟨m,l,G,a,r⟩:=x.p;have key:∀ g,v.ownBlock=some g->∀ b,S b->b<w.heap.size->g≠b:=fun g hg b hb hl c=>by
  rcases (f g hg).2 with d|d
  ·exact d (c ▸ hb)
  ·omega
 refine ⟨⟨m,l,G,(a.out (k.mono (fun b e y=>i b e (.inl y)))).less v (fun g hg=>⟨(f g hg).1,key g hg _ a.sH a.hp.lt,fun n o e=>⟨key g hg _ (a.st n o e) (a.ob n o e).lt,fun c=>key g hg g (a.se n o g e c) (ay (a.en n o e) c).lt rfl,fun c=>key g hg g (a.sm n o g e c) ((a.mp n o e).lt c) rfl⟩,fun j hj c=>key g hg g (a.sl j g hj c) (ay (a.li j hj) c).lt rfl⟩),r⟩,(x.keep k i).r,fun e=>x.n e.1⟩
structure PI (w0:World) (R O:Nat) (al:List An) (fs:List Value) (r:Rn) (av:Value) (S:Nat->Prop) (L:PM) (ws:World):Prop where
 x:PW w0.heap.size S r.h.forget L R r.hand ws
 o:aD ws 27 O 2 (fun j=>if j=0 then .int .i64 0 else av)
 a:ws.ownsRow w0.heap.size 36 7 av al.length (tH al fs)
 fl:fs.length=al.length
 f:∀ (i:Nat) (b:An) (f:Value),al[i]?=some b->fs[i]?=some f->ws.ownsRow w0.heap.size 3 1 f b.freed.length (dZ b.freed)
 nO:¬ Ys S R O
 na:∀ g,av.ownBlock=some g->¬ Ys S R g
 nf:∀ f∈fs,∀ g,f.ownBlock=some g->¬ Ys S R g
 hb:Below w0.heap.size w0 ws
 bO:w0.heap.size<=O
 bR:w0.heap.size<=R
 bS:∀ b,S b->w0.heap.size<=b
 fd:fs.Pairwise (fun a b=>∀ g,a.ownBlock=some g->b.ownBlock≠some g)
theorem PI.ys (x:PI w0 R O al fs r av S L ws):∀ b,Ys S R b->w0.heap.size<=b:=by
 rintro b (e|e)
 ·exact x.bS b e
 ·rw [e];exact x.bR
theorem PI.low {w0:World} {R O:Nat} {al:List An} {fs:List Value} {r:Rn} {av:Value} {S:Nat->Prop} {L:PM} {ws ws':World} (x:PI w0 R O al fs r av S L ws) (b:Below ws.heap.size ws ws'):PI w0 R O al fs r av S L ws':=by
 have k:=Keeps.of b (au _) (fun _=>False);exact ⟨x.x.low b,x.o.keep k (fun y=>y),aj x.a k (fun _ _ y=>y),x.fl,fun i a f h1 h2=>aj (x.f i a f h1 h2) k (fun _ _ y=>y),x.nO,x.na,x.nf,x.hb.trans (b.mono x.hb.size),x.bO,x.bR,x.bS,x.fd⟩
theorem PI.hole {w0:World} {R O:Nat} {al:List An} {fs:List Value} {r:Rn} {av:Value} {S:Nat->Prop} {L:PM} {ws:World} (x:PI w0 R O al fs r av S L ws) (o:Obj):PI w0 R O al fs r av (fun b=>S b/\b≠ws.heap.size) L (ws.alloc o):=by
 have y:=x.low (aU ws o);have d:(ws.alloc o).heap.size=ws.heap.size+1:=bM _;have c:∀ b,Ys (fun b=>S b/\b≠ws.heap.size) R b->Ys S R b:=by
  rintro b (e|e)
  ·exact .inl e.1
  ·exact .inr e
 exact ⟨x.x.hole (aU ws o) (au _) (by omega),y.o,y.a,y.fl,y.f,fun e=>x.nO (c _ e),fun g hg e=>x.na g hg (c _ e),fun f hf g hg e=>x.nf f hf g hg (c _ e),y.hb,y.bO,y.bR,fun b e=>x.bS b e.1,x.fd⟩
theorem PI.one (x:PI w0 R O al fs r av S L ws) {a:An} 
 (c:w5.ownsRow w0.heap.size 3 1 fv a.freed.length (dZ a.freed)) (kk:Keeps ws w5 (fun b=>S b∨b=R)) (j:PW w0.heap.size S' r'.h.forget L' R r'.hand w5) (k:∀ b,S' b->S b) (l:∀ g,fv.ownBlock=some g->¬ S' g/\S g):
 PI w0 R O al fs r' av S' L' w5/\(∀ g,fv.ownBlock=some g->¬ Ys S' R g)/\∀ f∈fs,∀ g,f.ownBlock=some g->fv.ownBlock≠some g:=by
 have d:∀ b,Ys S' R b->Ys S R b:=by
  rintro b (e|e)
  ·exact .inl (k b e)
  ·exact .inr e
 refine ⟨⟨j,x.o.keep kk x.nO,aj x.a kk x.na,x.fl,fun i a f h1 h2=>aj (x.f i a f h1 h2) kk (x.nf f (aW h2)),fun e=>x.nO (d _ e),fun g hg e=>x.na g hg (d _ e),fun f c g hg e=>x.nf f c g hg (d _ e),x.hb.trans (kk.below x.hb.size x.ys),x.bO,x.bR,fun b e=>x.bS b (k b e),x.fd⟩,fun g hg e=>?_,fun f c g hg e=>x.nf f c g hg (.inl (l g e).2)⟩;rcases e with e|e
 ·exact (l g hg).1 e
 ·exact ak c j.r (by decide) (e ▸ hg)
theorem PI.app (x:PI w0 R O al fs r av S L w5) {a:An} (B:w5.ownsRow w0.heap.size 3 1 fv a.freed.length (dZ a.freed)) (u:∀ g,fv.ownBlock=some g->¬ Ys S R g) (v:∀ f∈fs,∀ g,f.ownBlock=some g->fv.ownBlock≠some g)
 (n:w'.ownsRow w0.heap.size 36 7 v' (al.length+1) (tH al fs++mO a fv)) (m:Keeps w5 w' (fun b=>av.ownBlock=some b)) (t:∀ g,v'.ownBlock=some g->av.ownBlock=some g∨w5.heap.size<=g):
 aD w' 27 O 2 (fun j=>if j=0 then .int .i64 0 else av)/\PI w0 R O (al++[a]) (fs++[fv]) r v' (fun b=>S b/\v'.ownBlock≠some b) L (w'.setCell ⟨O,1,none⟩ v'):=by
 have ho:aD w' 27 O 2 (fun j=>if j=0 then .int .i64 0 else av):=x.o.keep m (fun e=>ak x.a x.o (by decide) e);have A:Keeps w' (w'.setCell ⟨O,1,none⟩ v') (fun b=>b=O):=Keeps.setCell (S:=fun b=>b=O) (Keeps.refl w' _) rfl _;have q:Keeps w5 (w'.setCell ⟨O,1,none⟩ v') (fun b=>av.ownBlock=some b∨b=O):=(m.mono (fun b e=>Or.inl e)).trans (A.mono (fun b e=>Or.inr e));have d:(w'.setCell ⟨O,1,none⟩ v').ownsRow w0.heap.size 36 7 v' (al.length+1) (tH al fs++mO a fv):=aj n A (fun g hg e=>ak n ho (by decide) (e ▸ hg));have z:PW w0.heap.size (fun b=>S b/\v'.ownBlock≠some b) r.h.forget L R r.hand (w'.setCell ⟨O,1,none⟩ v'):=x.x.less q (fun b e=>by
  rcases e with e|e
  ·exact x.na b e
  ·rw [e];exact x.nO) v' (fun g hg=>⟨(ay d hg).lt,(t g hg).imp (fun y e=>x.na g y (.inl e)) (fun y=>y)⟩)
 have k:(al++[a]).length=al.length+1:=by simp
 have s:∀ b,Ys (fun b=>S b/\v'.ownBlock≠some b) R b->Ys S R b:=by
  rintro b (e|e)
  ·exact .inl e.1
  ·exact .inr e
 have p:∀ {f:Value} {l:List Nat},w5.ownsRow w0.heap.size 3 1 f l.length (dZ l)->(w'.setCell ⟨O,1,none⟩ v').ownsRow w0.heap.size 3 1 f l.length (dZ l):=fun h=>aj h q (fun g hg e=>by
  rcases e with e|e
  ·exact aV h x.a (by decide) e hg
  ·exact ak h x.o (by decide) (e ▸ hg))
 refine ⟨ho,z,?_,?_,by simp [x.fl],fun i b f h1 h2=>?_,fun e=>x.nO (s _ e),fun g hg e=>?_,fun f hf' g hg e=>?_,?_,x.bO,x.bR,fun b e=>x.bS b e.1,List.pairwise_append.2 ⟨x.fd,List.pairwise_singleton _ _,fun a ha b hb g hg=>by simp at hb;subst hb;exact v a ha g hg⟩⟩
 ·refine (ho.set (j:=1) (by omega) v').congr (fun j hj=>?_)
  have:j=0∨j=1:=by omega
  rcases this with rfl|rfl<;>rfl
 ·rw [k,uf x.fl]
  exact d
 ·by_cases c:i<al.length
  ·rw [dF c] at h1
   rw [dF (by rw [x.fl];exact c)] at h2;exact p (x.f i b f h1 h2)
  ·have hi:i=al.length:=by
    have:=(aJ.1 h1).1;rw [k] at this;omega
   subst hi;simp at h1;rw [<-x.fl] at h2;simp at h2;subst h1;subst h2;exact p B
 ·rcases e with e|e
  ·exact e.2 hg
  ·exact ak n (x.x.r.keep m (fun e=>ak x.a x.x.r (by decide) e)) (by decide) (e ▸ hg)
 ·rcases aY.1 hf' with y|y
  ·exact x.nf f y g hg (s _ e)
  ·simp at y
   subst y;exact u g hg (s _ e)
 ·refine x.hb.trans (q.below x.hb.size (fun b e=>?_))
  rcases e with e|e
  ·exact (x.a.lt b e).1
  ·rw [e];exact x.bO
theorem rM (l:List dA):∀ j,j<=l.length->j<=5000->MG (cZ (l.take j)).2.h
 |0,_,_=>by rw [List.take_zero];exact MG.new
 |j+1,h1,h2=>by
  have b:=rM l j (by omega) (by omega);have a:l[j]?=some l[j]:=aN (by omega);rw [fF a];exact yQ b (kr l j (by omega) (by omega)).1 h2 _ _ _ _
theorem zm {o:Oper} {a:Act} {K:Act->World->Prop} {Q:Exit->Act->World->Prop} (x y:Operand)
 (ho:o.op=.call { callee:=.value (.func 26),args:=#[x,y],argTypes:=#[63,39] }) (c b:Value) (hx:a.eval x=c) (d:a.eval y=b) {E:Ending->World->Prop} (i:Calls Tryz.prog 26 #[c,b] w E)
 (h:∀ e w',E e w'->∃ v,e=.returned v/\K (a.put o.dst v) w'):Oper.wp Tryz.prog o a w K Q:=by
 unfold Oper.wp;have f:a.eval (.func 26)=.func (.func 26) #[] #[]:=rfl;generalize a.eval=ev at hx d f ⊢;simp [execOp,ho,resolve,invoke,hx,d,f,go_sem];refine i.mono ?_;intro e w' g;obtain ⟨v,rfl,hk⟩:=h e w' g;exact hk
def Gf (ops:List dA) (w:World) (e:Ending) (w':World):Prop:=Below w.heap.size w w'/\∃ (c:Int) (av:Value) (al:List An) (fs:List Value),e=.returned (.agg #[.int .i64 c,av])/\c=(if 5000<ops.length then 5 else 0)/\al=(if 5000<ops.length then [] else (cZ ops).1)/\w'.ownsRow w.heap.size 36 7 av al.length (tH al fs)/\fs.length=al.length/\(∀ (i:Nat) (b:An) (f:Value),al[i]?=some b->fs[i]?=some f->w'.ownsRow w.heap.size 3 1 f b.freed.length (dZ b.freed))/\fs.Pairwise (fun a b=>∀ g,a.ownBlock=some g->b.ownBlock≠some g)
end
section
variable {R:Nat} {v:Value} {w w1 w3 w4:World}
theorem BJ {S0:Nat->Prop} (p:R=w1.heap.size+1) (a:w3=(w1.alloc (.cells mh 77)).alloc (.cells #[.pointer (some ⟨w1.heap.size,0,none⟩),.nilIface] 69)) (m:w4=w3.setCell ⟨w1.heap.size,17,none⟩ (.bool true)):
 PI w1 R (R+1) [] [] ⟨Hp.new,[false],0⟩ (.slice none 0 0) (fun b=>((w1.heap.size<=b/\b≠R)/\b≠R+1)) (EN w1.heap.size) (w4.alloc (.cells #[.int .i64 0,.slice none 0 0] 27)):=by
 have e1:(w1.alloc (.cells mh 77)).heap.size=w1.heap.size+1:=bM _;have r:w3.heap.size=w1.heap.size+2:=by rw [a,show ((w1.alloc (.cells mh 77)).alloc (.cells #[.pointer (some ⟨w1.heap.size,0,none⟩),.nilIface] 69)).heap.size=_ from bM _,e1]
 have n:Keeps w3 w4 (fun b=>b=w1.heap.size):=by rw [m];exact Keeps.setCell (S:=fun b=>b=w1.heap.size) (Keeps.refl w3 _) rfl _
 have q:w4.heap.size=w1.heap.size+2:=by rw [m];exact (World.size_setCell _ _ _).trans r
 have o:aD w3 77 w1.heap.size 19 (fun j=>mh.getD j (.bool false)):=by
  rw [a];exact aD.low (show aD _ _ _ 19 _ from aD.mk' w1 77 mh) (aU _ _) (by omega)
 have hr:aD w3 69 R 2 (EO w1.heap.size (aK (fun _=>0) (cO 0))):=by
  have:=aD.mk' (w1.alloc (.cells mh 77)) 69 #[.pointer (some ⟨w1.heap.size,0,none⟩),.nilIface];rw [e1,<-p,<-a] at this;refine aD.congr (show aD _ _ _ 2 _ from this) (fun j hj=>?_);have:j=0∨j=1:=by omega
  rcases this with rfl|rfl<;>rfl
 have hb:Below w1.heap.size w1 w4:=by
  have k:Below w1.heap.size w1 w3:=by rw [a];exact EL w1 _ _
  exact k.trans (n.below (by omega) (fun b e=>by omega))
 have b5:=aU w4 (.cells #[.int .i64 0,.slice none 0 0] 27);have d:aD w4 77 w1.heap.size 19 (kI Hp.new ⟨[],0,0,[]⟩ (EN w1.heap.size)):=by
  rw [m];refine (o.set (j:=17) (by omega) (.bool true)).congr (fun j hj=>?_)
  revert j
  exact bJ _ rfl rfl rfl rfl rfl rfl rfl rfl rfl rfl rfl rfl rfl rfl rfl rfl rfl rfl rfl
 have ho:=yK w4 0 none 0 0;have s:(w4.alloc (.cells #[.int .i64 0,.slice none 0 0] 27)).heap.size=w1.heap.size+3:=by rw [show (w4.alloc (.cells #[.int .i64 0,.slice none 0 0] 27)).heap.size=_ from bM _,q]
 have l:w4.heap.size=R+1:=by omega
 rw [l] at ho;refine ⟨⟨D8 (d.low b5 (by omega)) (au _) ⟨⟨au _,by omega⟩,by omega⟩ (fun b hb=>⟨⟨by omega,by omega⟩,by omega⟩) (by omega),(hr.keep n (fun c=>by omega)).low b5 (by omega),fun e=>e.1.2 rfl⟩,ho,⟨rfl,.inl ⟨rfl,rfl⟩⟩,rfl,fun i b f h=>by simp at h,?_,fun g hg=>by simp [Value.ownBlock] at hg,fun f hf=>by simp at hf,hb.trans (b5.mono (by omega)),by omega,by omega,fun b e=>e.1.1,List.Pairwise.nil⟩;rintro (e|e)
 ·exact e.2 rfl
 ·omega
theorem EK (w1:World):∃ (f g:Nat->Value),aD ((w1.alloc (.cells mh 77)).alloc (.cells #[.pointer (some ⟨w1.heap.size,0,none⟩),.nilIface] 69)) 77 w1.heap.size 19 f/\f 17=.bool false/\aD ((w1.alloc (.cells mh 77)).alloc (.cells #[.pointer (some ⟨w1.heap.size,0,none⟩),.nilIface] 69)) 69 (w1.heap.size+1) 2 g/\g 0=.pointer (some ⟨w1.heap.size,0,none⟩):=by
 have e1:(w1.alloc (.cells mh 77)).heap.size=w1.heap.size+1:=bM _;have:=aD.mk' (w1.alloc (.cells mh 77)) 69 #[.pointer (some ⟨w1.heap.size,0,none⟩),.nilIface];rw [e1] at this;exact ⟨_,_,aD.low (show aD _ _ _ 19 _ from aD.mk' w1 77 mh) (aU _ _) (by omega),rfl,this,rfl⟩
theorem C_ {ops:List dA} (hv:yw w v ops) (hn:ops.length<=1048576) (hB:∀ o∈ops,-9223372036854775808<=o.2.2.1/\o.2.2.1<=9223372036854775807):Calls Tryz.prog 8 #[v] w (Gf ops w):=by
 obtain ⟨A,d8,rfl,d6,r⟩:=hv;have HC:=ah r;have d5:=ah hB;clear r hB;have M:=ah (yK w 0 none 0 0);have N:=ah (aU w (.cells #[.int .i64 0,.slice none 0 0] 27));by_cases h5:5000<ops.length
 ·have c6:((ops.length:Int) > 5000):=by omega
  go_enter Tryz.func8,Tryz.ntmps8;go_upto_region 1 with (fail)
  generalize w.alloc (.cells #[.int .i64 0,.slice none 0 0] 27)=w1 at *;generalize U:w.heap.size=X at *;have x0:=M.o.c 0;have x1:=M.o.c 1;have z0:=M.o.Nq 0;have z1:=M.o.Nq 1;go_wp2;have HR:=ah (((M.o.set (j:=0) (by omega) (.int .i64 5)).set (j:=1) (by omega) (.slice none 0 0)));have HK:=ah (show Below X w _ from N.o.trans (((Keeps.setCell (S:=fun b=>b=X) (Keeps.refl w1 _) (g:=X) (j:=0) rfl (.int .i64 5)).setCell (g:=X) (j:=1) rfl (.slice none 0 0)).below (B:=X) (dh M.o.lt) (fun b e=>by omega)));generalize (w1.setCell ⟨X,0,none⟩ (.int .i64 5)).setCell ⟨X,1,none⟩ (.slice none 0 0)=w7 at *;have q0:w7.cell? ⟨X,0,none⟩=d (.int .i64 5):=HR.o.c 0;have q1:w7.cell? ⟨X,1,none⟩=d (.slice none 0 0):=HR.o.c 1;refine bodyPost_ret (v:=.agg #[.int .i64 5,.slice none 0 0]) ?_ rfl ?_
  ·simp [results,Tryz.results8,go_sem,q0,q1]
  ·exact ⟨by rw [U];exact HK.o,5,.slice none 0 0,[],[],rfl,by rw [if_pos h5],by rw [if_pos h5],⟨rfl,.inl ⟨rfl,rfl⟩⟩,rfl,fun i b f h=>by simp at h,List.Pairwise.nil⟩
 ·have c6:¬ ((ops.length:Int) > 5000):=by omega
  go_enter Tryz.func8,Tryz.ntmps8;go_upto_region 1 with (fail)
  have a7:=ah (xw (w.alloc (.cells #[.int .i64 0,.slice none 0 0] 27)));generalize w.alloc (.cells #[.int .i64 0,.slice none 0 0] 27)=w1 at *;generalize U:w.heap.size=X at *;go_wp2_with fail;refine a7.o.mono ?_;rintro e2 H ⟨rfl,W⟩;have G:=ah W;clear W a7;have a5:=ah (show H.heap.size=w1.heap.size+1 by rw [G.o];exact bM _);go_upto_region 4 with (fail)
  obtain ⟨ff,gg,F,a0,l,Z⟩:=EK w1;rw [<-G.o] at F l;rw [<-a5.o] at l;have b0:=ah (BJ (w1:=w1) (w3:=H.alloc (.cells #[.pointer (d ⟨w1.heap.size,0,none⟩),.nilIface] 69)) (w4:=(H.alloc (.cells #[.pointer (d ⟨w1.heap.size,0,none⟩),.nilIface] 69)).setCell ⟨w1.heap.size,17,none⟩ (.bool true)) (R:=H.heap.size) (S0:=fun _=>True) a5.o (by rw [G.o]) rfl);have h3:(H.alloc (.cells #[.pointer (d ⟨w1.heap.size,0,none⟩),.nilIface] 69)).heap.size=H.heap.size+1:=bM _;generalize H.alloc (.cells #[.pointer (d ⟨w1.heap.size,0,none⟩),.nilIface] 69)=w3 at *;generalize H.heap.size=R at *;have c0:=l.c 0;rw [Z] at c0;have a2:=F.c 17;rw [a0] at a2;have b4:=F.Nq 17;clear F a0 l Z G;go_upto_region 5 with (fail)
  have h4:(w3.setCell ⟨w1.heap.size,17,none⟩ (.bool true)).heap.size=R+1:=(World.size_setCell _ _ _).trans h3;generalize w3.setCell ⟨w1.heap.size,17,none⟩ (.bool true)=w4 at *;have c8:=ah h4;clear c0 a2 b4 h3 h4;go_upto_region 6 with (fail)
  rw [c8.o];have a9:Hq (PI w1 R (R+1) [] [] ⟨Hp.new,[false],0⟩ (.slice none 0 0) (fun b=>((w1.heap.size<=b/\b≠R)/\b≠R+1)) (EN w1.heap.size) (w4.alloc (.cells #[.int .i64 0,.slice none 0 0] 27))):=b0;clear b0;generalize w4.alloc (.cells #[.int .i64 0,.slice none 0 0] 27)=w5 at *;go_wp2;go_loopw [22] (fun jv ws=>∃ j:Nat,j<=ops.length/\jv=.int .i64 j/\Hq (∃ fs av S L,PI w1 R (R+1) (cZ (ops.take j)).1 fs (cZ (ops.take j)).2 av S L ws)) (fun jv _=>ops.length-bF jv)
  case atStart=>exact ⟨0,by omega,rfl,_,_,_,_,by rw [List.take_zero];exact a9.o⟩
  case round=>
   clear a9;obtain ⟨j,b9,rfl,HJ⟩:=hrel;obtain ⟨fs,av,S,L,hj⟩:=HJ.o;have k:=ah hj;clear hj HJ;have D:=(kr ops j b9 (by omega))
   have c4:(cZ (ops.take j)).1.length<=5000:=by rw [D.2];omega
   by_cases b7:j<ops.length
   ·obtain ⟨o,ho⟩:∃ o,ops[j]?=d o:=⟨_,aN b7⟩
    have d7:(j:Int)<(ops.length:Int):=by omega
    have a4:=ah (fF ho);obtain ⟨g,rfl,hg,d0,d1,d2,d3⟩:=HC.o j o ho;have l:g<w1.heap.size:=aX (U ▸ hg) (U ▸ N.o.size);have E:g<X:=U ▸ hg;have f0:wr.cell? ⟨g,j*4,none⟩=d (.int .i64 o.1):=(k.o.hb.cell (p:=⟨g,j*4,none⟩) l).trans ((N.o.cell (p:=⟨g,j*4,none⟩) E).trans d0);have f1:wr.cell? ⟨g,j*4+1,none⟩=d (.int .i64 o.2.1):=(k.o.hb.cell (p:=⟨g,j*4+1,none⟩) l).trans ((N.o.cell (p:=⟨g,j*4+1,none⟩) E).trans d1);have f2:wr.cell? ⟨g,j*4+2,none⟩=d (.int .i64 o.2.2.1):=(k.o.hb.cell (p:=⟨g,j*4+2,none⟩) l).trans ((N.o.cell (p:=⟨g,j*4+2,none⟩) E).trans d2);have f3:wr.cell? ⟨g,j*4+3,none⟩=d (.int .i64 o.2.2.2):=(k.o.hb.cell (p:=⟨g,j*4+3,none⟩) l).trans ((N.o.cell (p:=⟨g,j*4+3,none⟩) E).trans d3);have c7:=ah D.1;have c9:=ah (rM ops j (by omega) (by omega));have d4:=ah (d5.o o (aW ho));obtain ⟨kd,A,B,C⟩:=o;simp only at f0 f1 f2 f3;have HP:=ah (fK wr kd A B C);have HH:=ah (k.o.hole (.cells #[.int .i64 kd,.int .i64 A,.int .i64 B,.int .i64 C] 39));clear d0 d1 d2 d3 ho D;go_upto_region 9 with (fail)
    generalize wr.alloc (.cells #[.int .i64 kd,.int .i64 A,.int .i64 B,.int .i64 C] 39)=w5 at *;generalize wr.heap.size=P at *;clear f0 f1 f2 f3;generalize cZ (ops.take j)=q at *;obtain ⟨t,m,rfl⟩:∃ t m,av=.slice t q.1.length m:=aF HH.o.a;have c1:w5.cell? ⟨R+1,1,none⟩=d (.slice t q.1.length m):=HH.o.o.c 1;have p0:w5.cell? ⟨P,0,none⟩=d (.int .i64 kd):=HP.o.c 0;have p1:w5.cell? ⟨P,1,none⟩=d (.int .i64 A):=HP.o.c 1;have p2:w5.cell? ⟨P,2,none⟩=d (.int .i64 B):=HP.o.c 2;have p3:w5.cell? ⟨P,3,none⟩=d (.int .i64 C):=HP.o.c 3;have a6:=ah (fun (w9:World) (y:PW w1.heap.size (fun b=>S b/\b≠P) q.2.h.forget L R q.2.hand w9)=>zP y c7.o (by omega) c9.o kd A B C d4.o);have a3:Hq (cZ (ops.take (j+1))=(q.1++[(cK q.2 kd A B C).1],(cK q.2 kd A B C).2)):=a4;clear a4 k;generalize cK q.2 kd A B C=pp at *;have b3:=ah (HH.o.low (aC (aG _ _) 1));have d9:=ah (HP.o.keep (Keeps.of (aC (aG w5.heap.size w5) 1) (au _) (fun _=>False)) (fun y=>y));go_wp2_with fail
    go_region_law (first
     |(rw [if_pos (by rfl)]
       refine zm (.tmp 28) (.tmp 29) rfl _ _ rfl rfl (a6.o _ b3.o.x) ?_;rintro e6 z ⟨fv,S',L',rfl,hf,Y,hs,hw,kk⟩;obtain ⟨af,V,c2⟩:=aF hf;subst c2;refine ⟨_,rfl,?_⟩;have J:=b3.o.one hf kk hw hs Y;have HF:=ah hf;have Q:=ah J;have b1:z.cell? ⟨R+1,1,none⟩=d (.slice t q.1.length m):=Q.o.1.o.c 1;have c5:=Q.o.1.o.lt;have b2:=((aU z (.cells #[.int .i64 pp.1.code,.int .i64 pp.1.id,.int .i64 pp.1.live,.int .i64 pp.1.bytes,.int .i64 pp.1.state,.int .i64 pp.1.pend,.slice af pp.1.freed.length V] 36)).cell (p:=⟨R+1,1,none⟩) c5).trans b1;have e7:(mO pp.1 (.slice af pp.1.freed.length V)).toArray=#[.int .i64 pp.1.code,.int .i64 pp.1.id,.int .i64 pp.1.live,.int .i64 pp.1.bytes,.int .i64 pp.1.state,.int .i64 pp.1.pend,.slice af pp.1.freed.length V]:=rfl;rw [e7];clear J hf kk hw hs Y e7)
     |(rw [if_pos (by rfl)]
       refine nI (wr:=z.alloc (.cells #[.int .i64 pp.1.code,.int .i64 pp.1.id,.int .i64 pp.1.live,.int .i64 pp.1.bytes,.int .i64 pp.1.state,.int .i64 pp.1.pend,.slice af pp.1.freed.length V] 36)) (.tmp 27) (.tmp 31) rfl w1.heap.size (.slice t q.1.length m) q.1.length (tH q.1 fs) (mO pp.1 (.slice af pp.1.freed.length V)) (aj Q.o.1.a (Keeps.of (aU z _) (au _) (fun _=>False)) (fun _ _ y=>y)) rfl z.heap.size rfl rfl (wW _ _ _ _) (EZ z _ _ _ _ _ _ _ _ _) (by omega) (aI Q.o.1.hb.size (aU z _).size) ?_;intro v' w8 g1 g2 g3;obtain ⟨a8,k8,b5⟩:=aF g1;subst b5;have H8:=ah (Q.o.1.app (w':=w8) HF.o Q.o.2.1 Q.o.2.2 g1 ((Keeps.of (aU z _) (au _) _).trans g2) (fun g e=>(g3 g e).imp id (fun y=>aI (aU z _).size y)));have u1:=H8.o.1.c 1;have z1:=H8.o.1.Nq 1;clear g1 g2 g3))
    all_goals
     go_wp2_with fail;go_roundw
     case rel=>exact ⟨j+1,by omega,by simp,_,_,_,_,by rw [a3.o];exact H8.o.2⟩
     case measure=>simp [bF];omega
   ·have b8:j=ops.length:=by omega
    subst b8;rw [bf] at k;obtain ⟨t,m,rfl⟩:∃ t m,av=.slice t (cZ ops).1.length m:=aF k.o.a;have a1:X<w1.heap.size:=M.o.lt;have u:=ah (M.o.low k.o.hb a1);have c0:wr.cell? ⟨R+1,0,none⟩=d (.int .i64 0):=k.o.o.c 0;have c1:wr.cell? ⟨R+1,1,none⟩=d (.slice t (cZ ops).1.length m):=k.o.o.c 1;have x0:=u.o.c 0;have x1:=u.o.c 1;have z0:=u.o.Nq 0;have z1:=u.o.Nq 1;clear c4 D;go_wp2;have HR:=ah (((u.o.set (j:=0) (by omega) (.int .i64 0)).set (j:=1) (by omega) (.slice t (cZ ops).1.length m)));have HK:=ah ((Keeps.setCell (S:=fun b=>b=X) (Keeps.refl wr _) (g:=X) (j:=0) rfl (.int .i64 0)).setCell (g:=X) (j:=1) rfl (.slice t (cZ ops).1.length m));generalize (wr.setCell ⟨X,0,none⟩ (.int .i64 0)).setCell ⟨X,1,none⟩ (.slice t (cZ ops).1.length m)=w7 at *;have q0:w7.cell? ⟨X,0,none⟩=d (.int .i64 0):=HR.o.c 0;have q1:w7.cell? ⟨X,1,none⟩=d (.slice t (cZ ops).1.length m):=HR.o.c 1;refine bodyPost_ret (v:=.agg #[.int .i64 0,.slice t (cZ ops).1.length m]) ?_ rfl ?_
    ·simp [results,Tryz.results8,go_sem,q0,q1]
    ·have b6:w.heap.size<=w1.heap.size:=by omega
     have c3:Below X w wr:=N.o.trans (k.o.hb.mono (dh a1));have K:∀ {T s n:Nat} {v:Value} {xs:List Value},wr.ownsRow w1.heap.size T s v n xs->w7.ownsRow w.heap.size T s v n xs:=fun h=>iq (aj h HK.o (fun g hg e=>by have:=(h.lt g hg).1;omega)) b6;exact ⟨by rw [U];exact c3.trans (HK.o.below (B:=X) (dh u.o.lt) (fun b e=>by omega)),0,_,(cZ ops).1,fs,rfl,by rw [if_neg h5],by rw [if_neg h5],K k.o.a,k.o.fl,fun i b f h1 h2=>K (k.o.f i b f h1 h2),k.o.fd⟩
end
section
variable {B n:Nat} {v:Value} {w w':World} {x0 x1 x2 x3:Nat->Int}
def yN (w:World) (v:Value) (n:Nat) (x0:Nat->Int) (x1:Nat->Int) (x2:Nat->Int) (x3:Nat->Int):Prop:=
 (n=0/\∃ a cap,v=.slice a 0 cap)∨∃ b o cap,v=.slice (some ⟨b,o,none⟩) n cap/\b<w.heap.size/\n<=cap/\∀ i,i<n->w.cell? ⟨b,o+i*4,none⟩=some (.int .i64 (x0 i))/\w.cell? ⟨b,o+i*4+1,none⟩=some (.int .i64 (x1 i))/\w.cell? ⟨b,o+i*4+2,none⟩=some (.int .i64 (x2 i))/\w.cell? ⟨b,o+i*4+3,none⟩=some (.int .i64 (x3 i))
theorem yN.low (h:yN w v n x0 x1 x2 x3) (hb:Below B w w') (e:w.heap.size<=B):yN w' v n x0 x1 x2 x3:=by
 rcases h with h|⟨b,o,f,rfl,a,d,c⟩
 ·exact .inl h
 ·refine .inr ⟨b,o,f,rfl,aX a hb.size,d,fun i hi=>?_⟩
  have c:=c i hi;exact ⟨(hb.cell (p:=⟨b,o+i*4,none⟩) (aX a e)).trans c.1,(hb.cell (p:=⟨b,o+i*4+1,none⟩) (aX a e)).trans c.2.1,(hb.cell (p:=⟨b,o+i*4+2,none⟩) (aX a e)).trans c.2.2.1,(hb.cell (p:=⟨b,o+i*4+3,none⟩) (aX a e)).trans c.2.2.2⟩
theorem yN.val (h:yN w v n x0 x1 x2 x3):∃ a cap,v=.slice a n cap:=by
 rcases h with ⟨rfl,a,cap,rfl⟩|⟨b,o,cap,rfl,_⟩
 ·exact ⟨a,cap,rfl⟩
 ·exact ⟨_,cap,rfl⟩
def pq (w:World) (g n:Nat) (x0:Nat->Int) (x1:Nat->Int) (x2:Nat->Int) (x3:Nat->Int):Prop:=∃ f,aD w 39 g (n*4) f/\∀ i,i<n->f (i*4)=(.int .i64 (x0 i))/\f (i*4+1)=(.int .i64 (x1 i))/\f (i*4+2)=(.int .i64 (x2 i))/\f (i*4+3)=(.int .i64 (x3 i))
theorem pq.by {w:World} {g n:Nat} {x0:Nat->Int} {x1:Nat->Int} {x2:Nat->Int} {x3:Nat->Int} (h:pq w g n x0 x1 x2 x3):yN w (.slice (some ⟨g,0,none⟩) n n) n x0 x1 x2 x3:=by
 obtain ⟨f,b,a⟩:=h;refine .inr ⟨g,0,n,rfl,b.lt,au _,fun i hi=>?_⟩;have a:=a i hi;rw [Nat.zero_add,b.c (i*4),a.1,b.c (i*4+1),a.2.1,b.c (i*4+2),a.2.2.1,b.c (i*4+3),a.2.2.2];exact ⟨rfl,rfl,rfl,rfl⟩
theorem pq.low {w w':World} {g n B:Nat} {x0:Nat->Int} {x1:Nat->Int} {x2:Nat->Int} {x3:Nat->Int} (h:pq w g n x0 x1 x2 x3) (hb:Below B w w') (a:g<B):pq w' g n x0 x1 x2 x3:=by
 obtain ⟨f,c,b⟩:=h;exact ⟨f,c.low hb a,b⟩
theorem pq.other {w:World} {g g' j n:Nat} {x0:Nat->Int} {x1:Nat->Int} {x2:Nat->Int} {x3:Nat->Int} {x:Value} (h:pq w g n x0 x1 x2 x3) (a:g≠g'):pq (w.setCell ⟨g',j,none⟩ x) g n x0 x1 x2 x3:=by
 obtain ⟨f,c,b⟩:=h;exact ⟨f,c.other a,b⟩
theorem pq.lt {w:World} {g n:Nat} {x0:Nat->Int} {x1:Nat->Int} {x2:Nat->Int} {x3:Nat->Int} (h:pq w g n x0 x1 x2 x3):g<w.heap.size:=by
 obtain ⟨f,a,b⟩:=h;exact a.lt
end
section
variable {B n:Nat} {v:Value} {w w':World} {x0:Nat->Int}
def qB (w:World) (v:Value) (n:Nat) (x0:Nat->Int):Prop:=
 (n=0/\∃ a cap,v=.slice a 0 cap)∨∃ b o cap,v=.slice (some ⟨b,o,none⟩) n cap/\b<w.heap.size/\n<=cap/\∀ i,i<n->w.cell? ⟨b,o+i,none⟩=some (.int .i64 (x0 i))
theorem qB.low (h:qB w v n x0) (hb:Below B w w') (f:w.heap.size<=B):qB w' v n x0:=by
 rcases h with h|⟨b,o,e,rfl,c,a,d⟩
 ·exact .inl h
 ·refine .inr ⟨b,o,e,rfl,aX c hb.size,a,fun i hi=>?_⟩
  have d:=d i hi;exact (hb.cell (p:=⟨b,o+i,none⟩) (aX c f)).trans d
theorem qB.val (h:qB w v n x0):∃ a cap,v=.slice a n cap:=by
 rcases h with ⟨rfl,a,cap,rfl⟩|⟨b,o,cap,rfl,_⟩
 ·exact ⟨a,cap,rfl⟩
 ·exact ⟨_,cap,rfl⟩
def Gt (k j:Nat):Value:=if j%4=0 then .int .i64 ((k:Int)+(j:Int)) else if j%4=1 then .int .i64 ((k:Int)+(j:Int)) else if j%4=2 then .int .i64 ((k:Int)+(j:Int)) else .int .i64 ((k:Int)+(j:Int))
def AQ (k j:Nat):Value:=.int .i64 ((k:Int)+(j:Int))
end
end Go.Proofs.YtbpcdfbmnklcjaaGreatDoor
