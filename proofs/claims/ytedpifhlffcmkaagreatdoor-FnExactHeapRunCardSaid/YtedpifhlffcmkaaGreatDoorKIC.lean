import Derived.Test.YtedpifhlffcmkaaGreatDoorKIB
namespace Go.Proofs.YtedpifhlffcmkaaGreatDoor
open Go Go.RowKit
set_option maxHeartbeats 6400000
set_option maxRecDepth 100000
set_option linter.unusedVariables false
variable {L:PM} {R base hand:Nat} {S:Nat->Prop} {h:Hp} {w:World}
attribute [local go_sem] bD
def CP (base:Nat) (S:Nat->Prop) (R:Nat) (w:World) (a:An) (h':Hp) (hand':Nat) (e:Ending) (w':World):Prop:=
 ∃ fv S' L',e=.returned (.agg (kI a fv).toArray)/\w'.ownsRow base 3 1 fv a.freed.length (bU a.freed)/\(∀ g,fv.ownBlock=some g->¬ S' g/\S g)/\(∀ b,S' b->S b)/\PW base S' h' L' R hand' w'/\Keeps w w' (fun b=>S b∨b=R)
theorem pJ (x:PW base S h L R hand w) (kd A B C code id:Int) (h':Hp) (hc:∀ (S1:Nat->Prop) (w1:World),PW base S1 h L R hand w1->Calls Tryz.prog 35 #[.pointer (some ⟨R,0,none⟩),.agg #[.int .i64 kd,.int .i64 A,.int .i64 B,.int .i64 C]] w1 (kV base S1 L.H R w1 kd code id h')) (hcode:code≠0):
 Calls Tryz.prog 26 #[.pointer (some ⟨R,0,none⟩),.agg #[.int .i64 kd,.int .i64 A,.int .i64 B,.int .i64 C]] w (CP base S R w (An.no code) h' 0):=by
 have HX:=ah ((eT w kd A B C).keep (Keeps.of (aJ (w.alloc (.cells #[.int .i64 kd,.int .i64 A,.int .i64 B,.int .i64 C] 39)) (.cells #[.int .i64 0,.int .i64 0,.int .i64 0,.int .i64 0,.int .i64 0,.int .i64 0,.slice none 0 0] 36)) (Nat.le_refl _) (fun _=>False)) (fun y=>y))
 have HY:=ah (Bv (w.alloc (.cells #[.int .i64 kd,.int .i64 A,.int .i64 B,.int .i64 C] 39)))
 have HB:=ah (zO w (.cells #[.int .i64 kd,.int .i64 A,.int .i64 B,.int .i64 C] 39) (.cells #[.int .i64 0,.int .i64 0,.int .i64 0,.int .i64 0,.int .i64 0,.int .i64 0,.slice none 0 0] 36))
 have hZ:(w.alloc (.cells #[.int .i64 kd,.int .i64 A,.int .i64 B,.int .i64 C] 39)).heap.size=w.heap.size+1:=Array.size_push _
 have hZ2:((w.alloc (.cells #[.int .i64 kd,.int .i64 A,.int .i64 B,.int .i64 C] 39)).alloc (.cells #[.int .i64 0,.int .i64 0,.int .i64 0,.int .i64 0,.int .i64 0,.int .i64 0,.slice none 0 0] 36)).heap.size=w.heap.size+2:=by rw [show ((w.alloc (.cells #[.int .i64 kd,.int .i64 A,.int .i64 B,.int .i64 C] 39)).alloc (.cells #[.int .i64 0,.int .i64 0,.int .i64 0,.int .i64 0,.int .i64 0,.int .i64 0,.slice none 0 0] 36)).heap.size=(w.alloc (.cells #[.int .i64 kd,.int .i64 A,.int .i64 B,.int .i64 C] 39)).heap.size+1 from Array.size_push _,hZ]
 have HR:=ah ((x.hole (aJ w (.cells #[.int .i64 kd,.int .i64 A,.int .i64 B,.int .i64 C] 39)) (F:=w.heap.size) (Nat.le_refl _) (by omega)).hole (aJ (w.alloc (.cells #[.int .i64 kd,.int .i64 A,.int .i64 B,.int .i64 C] 39)) (.cells #[.int .i64 0,.int .i64 0,.int .i64 0,.int .i64 0,.int .i64 0,.int .i64 0,.slice none 0 0] 36)) (F:=w.heap.size+1) (by omega) (by omega))
 rw [hZ] at HY
 have HC:=ah (hc _ _ HR.o)
 clear x hZ hZ2 hc
 go_enter Tryz.func26,Tryz.ntmps26
 go_upto_region 1 with (fail)
 change Code.wp _ _ _ _ ((w.alloc (.cells #[.int .i64 kd,.int .i64 A,.int .i64 B,.int .i64 C] 39)).alloc (.cells #[.int .i64 0,.int .i64 0,.int .i64 0,.int .i64 0,.int .i64 0,.int .i64 0,.slice none 0 0] 36))
 generalize (w.alloc (.cells #[.int .i64 kd,.int .i64 A,.int .i64 B,.int .i64 C] 39)).alloc (.cells #[.int .i64 0,.int .i64 0,.int .i64 0,.int .i64 0,.int .i64 0,.int .i64 0,.slice none 0 0] 36)=w1 at *
 generalize hX:w.heap.size=X at *
 have HXE:=ah hX
 clear hX
 have x0:w1.cell? ⟨X,0,none⟩=some (.int .i64 kd):=HX.o.cell (j:=0) (by omega)
 have x1:w1.cell? ⟨X,1,none⟩=some (.int .i64 A):=HX.o.cell (j:=1) (by omega)
 have x2:w1.cell? ⟨X,2,none⟩=some (.int .i64 B):=HX.o.cell (j:=2) (by omega)
 have x3:w1.cell? ⟨X,3,none⟩=some (.int .i64 C):=HX.o.cell (j:=3) (by omega)
 go_wp2_with fail
 refine HC.o.mono ?_
 rintro e2 w2 ⟨rfl,L2,pv,hH2,hp2,hr2,hpv,hk2⟩
 have hXR:X≠R:=fun c=>HX.o.apart HR.o.r (by decide) c
 have hYR:X+1≠R:=fun c=>HY.o.apart HR.o.r (by decide) c
 have HX2:=ah (HX.o.keep hk2 (fun c=>by
  rcases c with c|c
  ·exact c.1.2 rfl
  ·exact hXR c))
 have HY2:=ah (HY.o.keep hk2 (fun c=>by
  rcases c with c|c
  ·exact c.2 rfl
  ·exact hYR c))
 have HP2:=ah hp2
 have HR2:=ah hr2
 have HPV:=ah hpv
 have HK2:=ah hk2
 have HN:=ah HR.o.n
 have HH2:=ah hH2
 clear hp2 hr2 hpv hk2 hH2 x0 x1 x2 x3
 have x0:w2.cell? ⟨X,0,none⟩=some (.int .i64 kd):=HX2.o.cell (j:=0) (by omega)
 have r1:w2.cell? ⟨R,1,none⟩=some pv:=HR2.o.cell (j:=1) (by omega)
 have z1:=HR2.o.Jv 1
 have HR3:=ah (HR2.o.set (j:=1) (by omega) .nilIface)
 have K3:Hq (Keeps w2 (w2.setCell ⟨R,1,none⟩ .nilIface) (fun b=>b=R)):=ah (Keeps.setCell (S:=fun b=>b=R) (Keeps.refl _ _) rfl _)
 have HP3:=ah (HP2.o.out (K3.o.mono (fun b e=>by rw [e];exact HN.o)))
 have HY3:=ah (HY2.o.keep K3.o hYR)
 have hcb:(code !=0)=true:=by simpa using hcode
 have HFIN:Hq (∀ wo,Keeps (w2.setCell ⟨R,1,none⟩ .nilIface) wo (fun b=>b=X+1)->CP base S R w (An.no code) h' 0 (.returned (.agg (kI (An.no code) (.slice none 0 0)).toArray)) wo):=ah (fun wo ko=>by
  refine ⟨.slice none 0 0,fun b=>(S b/\b≠X)/\b≠X+1,L2,rfl,⟨rfl,.inl ⟨rfl,rfl⟩⟩,fun g hg=>by simp [Value.ownBlock] at hg,fun b e=>e.1.1,⟨HP3.o.out (ko.mono (fun b e=>fun c=>c.2 e)),?_,HN.o⟩,?_⟩
  ·refine (HR3.o.keep ko (fun c=>hYR c.symm)).congr (fun j hj=>?_)
   have:j=0∨j=1:=by omega
   rcases this with rfl|rfl
   ·show Value.pointer (some ⟨L.H,0,none⟩)=Value.pointer (some ⟨L2.H,0,none⟩)
    rw [HH2.o]
   ·rfl
  ·have hb:=Keeps.of HB.o (Nat.le_of_eq HXE.o) (fun b=>S b∨b=R)
   refine Keeps.into ((hb.trans (HK2.o.mono (fun b e=>e.imp (fun c=>c.1.1) (fun c=>c)))).trans (K3.o.mono (fun b e=>Or.inr e))) ko (fun c e=>.inr (by have:=HXE.o;omega)))
 by_cases hk8:kd=8
 ·subst hk8
  have hk8b:((8:Int) !=8)=false:=rfl
  go_upto_region 4 with (fail)
  generalize w2.setCell ⟨R,1,none⟩ .nilIface=w3 at *
  have y0:=HY3.o.cell (j:=0) (by omega)
  have v0:=HY3.o.Jv 0
  have y1:=HY3.o.cell (j:=1) (by omega)
  have v1:=HY3.o.Jv 1
  have y2:=HY3.o.cell (j:=2) (by omega)
  have v2:=HY3.o.Jv 2
  have y3:=HY3.o.cell (j:=3) (by omega)
  have v3:=HY3.o.Jv 3
  have y4:=HY3.o.cell (j:=4) (by omega)
  have v4:=HY3.o.Jv 4
  have y5:=HY3.o.cell (j:=5) (by omega)
  have v5:=HY3.o.Jv 5
  have y6:=HY3.o.cell (j:=6) (by omega)
  have v6:=HY3.o.Jv 6
  go_wp2
  have HRO:=ah (eG HY3.o (.int .i64 code) (.int .i64 0) (.int .i64 0) (.int .i64 0) (.int .i64 0) (.int .i64 0) (.slice none 0 0))
  have HKO:=ah (dL w3 (X+1) (.int .i64 code) (.int .i64 0) (.int .i64 0) (.int .i64 0) (.int .i64 0) (.int .i64 0) (.slice none 0 0))
  unfold mI at HRO HKO
  generalize ((((((w3.setCell ⟨X+1,0,none⟩ (.int .i64 code)).setCell ⟨X+1,1,none⟩ (.int .i64 0)).setCell ⟨X+1,2,none⟩ (.int .i64 0)).setCell ⟨X+1,3,none⟩ (.int .i64 0)).setCell ⟨X+1,4,none⟩ (.int .i64 0)).setCell ⟨X+1,5,none⟩ (.int .i64 0)).setCell ⟨X+1,6,none⟩ (.slice none 0 0)=wo at *
  have q0:wo.cell? ⟨X+1,0,none⟩=some (.int .i64 code):=HRO.o.cell (j:=0) (by omega)
  have q1:wo.cell? ⟨X+1,1,none⟩=some (.int .i64 0):=HRO.o.cell (j:=1) (by omega)
  have q2:wo.cell? ⟨X+1,2,none⟩=some (.int .i64 0):=HRO.o.cell (j:=2) (by omega)
  have q3:wo.cell? ⟨X+1,3,none⟩=some (.int .i64 0):=HRO.o.cell (j:=3) (by omega)
  have q4:wo.cell? ⟨X+1,4,none⟩=some (.int .i64 0):=HRO.o.cell (j:=4) (by omega)
  have q5:wo.cell? ⟨X+1,5,none⟩=some (.int .i64 0):=HRO.o.cell (j:=5) (by omega)
  have q6:wo.cell? ⟨X+1,6,none⟩=some (.slice none 0 0):=HRO.o.cell (j:=6) (by omega)
  refine bodyPost_ret (v:=.agg #[.int .i64 code,.int .i64 0,.int .i64 0,.int .i64 0,.int .i64 0,.int .i64 0,.slice none 0 0]) ?_ rfl ?_
  ·simp [results,Tryz.results26,go_sem,q0,q1,q2,q3,q4,q5,q6]
  ·exact HFIN.o _ HKO.o
 ·have hk8b:(kd !=8)=true:=by simpa using hk8
  go_upto_region 4 with (fail)
  generalize w2.setCell ⟨R,1,none⟩ .nilIface=w3 at *
  have y0:=HY3.o.cell (j:=0) (by omega)
  have v0:=HY3.o.Jv 0
  have y1:=HY3.o.cell (j:=1) (by omega)
  have v1:=HY3.o.Jv 1
  have y2:=HY3.o.cell (j:=2) (by omega)
  have v2:=HY3.o.Jv 2
  have y3:=HY3.o.cell (j:=3) (by omega)
  have v3:=HY3.o.Jv 3
  have y4:=HY3.o.cell (j:=4) (by omega)
  have v4:=HY3.o.Jv 4
  have y5:=HY3.o.cell (j:=5) (by omega)
  have v5:=HY3.o.Jv 5
  have y6:=HY3.o.cell (j:=6) (by omega)
  have v6:=HY3.o.Jv 6
  go_wp2
  have HRO:=ah (eG HY3.o (.int .i64 code) (.int .i64 0) (.int .i64 0) (.int .i64 0) (.int .i64 0) (.int .i64 0) (.slice none 0 0))
  have HKO:=ah (dL w3 (X+1) (.int .i64 code) (.int .i64 0) (.int .i64 0) (.int .i64 0) (.int .i64 0) (.int .i64 0) (.slice none 0 0))
  unfold mI at HRO HKO
  generalize ((((((w3.setCell ⟨X+1,0,none⟩ (.int .i64 code)).setCell ⟨X+1,1,none⟩ (.int .i64 0)).setCell ⟨X+1,2,none⟩ (.int .i64 0)).setCell ⟨X+1,3,none⟩ (.int .i64 0)).setCell ⟨X+1,4,none⟩ (.int .i64 0)).setCell ⟨X+1,5,none⟩ (.int .i64 0)).setCell ⟨X+1,6,none⟩ (.slice none 0 0)=wo at *
  have q0:wo.cell? ⟨X+1,0,none⟩=some (.int .i64 code):=HRO.o.cell (j:=0) (by omega)
  have q1:wo.cell? ⟨X+1,1,none⟩=some (.int .i64 0):=HRO.o.cell (j:=1) (by omega)
  have q2:wo.cell? ⟨X+1,2,none⟩=some (.int .i64 0):=HRO.o.cell (j:=2) (by omega)
  have q3:wo.cell? ⟨X+1,3,none⟩=some (.int .i64 0):=HRO.o.cell (j:=3) (by omega)
  have q4:wo.cell? ⟨X+1,4,none⟩=some (.int .i64 0):=HRO.o.cell (j:=4) (by omega)
  have q5:wo.cell? ⟨X+1,5,none⟩=some (.int .i64 0):=HRO.o.cell (j:=5) (by omega)
  have q6:wo.cell? ⟨X+1,6,none⟩=some (.slice none 0 0):=HRO.o.cell (j:=6) (by omega)
  refine bodyPost_ret (v:=.agg #[.int .i64 code,.int .i64 0,.int .i64 0,.int .i64 0,.int .i64 0,.int .i64 0,.slice none 0 0]) ?_ rfl ?_
  ·simp [results,Tryz.results26,go_sem,q0,q1,q2,q3,q4,q5,q6]
  ·exact HFIN.o _ HKO.o
theorem lW (p:PS base S h L w):
 Calls Tryz.prog 36 #[.pointer (some ⟨L.H,0,none⟩)] w fun e w'=>∃ v,e=.returned v/\w'.ownsRow base 3 1 v h.freed.length (bU h.freed)/\(∀ g,v.ownBlock=some g->S g)/\(∃ L',JD L L'/\PS base (fun b=>S b/\v.ownBlock≠some b) h.forget L' w')/\Keeps w w' (fun b=>b=L.H)/\w'=w.setCell ⟨L.H,18,none⟩ (.slice none 0 0):=by
 obtain ⟨x,y,G,a,r⟩:=p
 have hli:=a.li 18 (by simp [b_])
 obtain ⟨A,cap,hv⟩:=aF hli
 have c18:w.cell? ⟨L.H,18,none⟩=some (.slice A h.freed.length cap):=by
  have:=a.hp.cell (j:=18) (by omega)
  rw [this]
  exact congrArg some hv
 have z18:=a.hp.Jv 18
 have HA:=ah a
 have HR:=ah r
 have HV:=ah hv
 clear a r hv hli
 go_enter Tryz.func36,Tryz.ntmps36
 go_wp2
 go_ret
 have kh:Keeps w (w.setCell ⟨L.H,18,none⟩ (.slice none 0 0)) (fun b=>b=L.H):=Keeps.setCell (S:=fun b=>b=L.H) (Keeps.refl w _) rfl _
 have hli:=HA.o.li 18 (by simp [b_])
 obtain ⟨-,p2,p3⟩:=HA.o.Gm (h':=fM (h.wk x y) 18 []) (G':=G) (w1:=w) 18 (by simp [b_]) (Keeps.refl w _) (.slice none 0 0) ⟨rfl,.inl ⟨rfl,rfl⟩⟩ (fun g hg=>by simp [Value.ownBlock] at hg) (gJ _ 18 _) (fun j hj hn=>gV (by simp [iZ]) hj hn _) (jf (by simp [iZ]) _ _)
 have hv:L.li 18=.slice A h.freed.length cap:=HV.out
 rw [hv] at hli
 refine ⟨_,rfl,aj hli kh (fun g hg c=>ak hli HA.o.hp (by decide) (c ▸ hg)),fun g hg=>HA.o.sl 18 g (by simp [b_]) (by rw [hv];exact hg),⟨_,?_,⟨x,y,G,p2.less (.slice A h.freed.length cap) (fun g hg=>?_),HR.o.same rfl rfl rfl rfl rfl rfl (fun _=>Iff.rfl)⟩⟩,kh,rfl⟩
 ·exact ⟨rfl,rfl,rfl,rfl⟩
 ·have hrg:=au hli hg
  refine ⟨Nat.lt_of_lt_of_le hrg.lt kh.size,fun c=>hrg.apart HA.o.hp (by decide) c,fun n o e=>⟨fun c=>hrg.apart (HA.o.ob n o e) (by decide) c,fun c=>ak (HA.o.en n o e) hrg (by decide) c,(HA.o.mp n o e).apart hrg⟩,fun k hk c=>?_⟩
  by_cases c8:k=18
  ·subst c8
   simp [Value.ownBlock] at c
  ·simp only [if_neg c8] at c
   exact c8 (HA.o.lj k 18 g hk (by simp [b_]) c (by rw [hv];exact hg))
theorem Ap (x:PW base S h L R hand w) (kd A B C id:Int) (h':Hp) (hand':Nat) (hc:∀ (S1:Nat->Prop) (w1:World),PW base S1 h L R hand w1->Calls Tryz.prog 35 #[.pointer (some ⟨R,0,none⟩),.agg #[.int .i64 kd,.int .i64 A,.int .i64 B,.int .i64 C]] w1 (kV base S1 L.H R w1 kd 0 id h')) (h8:kd=8->hand'=id.toNat) (hn8:kd≠8->hand'=0):
 Calls Tryz.prog 26 #[.pointer (some ⟨R,0,none⟩),.agg #[.int .i64 kd,.int .i64 A,.int .i64 B,.int .i64 C]] w (CP base S R w ⟨0,id,(h'.live:Int),(h'.bytes:Int),(h'.state:Int),(h'.pending.length:Int),h'.freed⟩ h'.forget hand'):=by
 have H8:=ah h8
 have HN8:=ah hn8
 clear h8 hn8
 have HX:=ah ((eT w kd A B C).keep (Keeps.of (aJ (w.alloc (.cells #[.int .i64 kd,.int .i64 A,.int .i64 B,.int .i64 C] 39)) (.cells #[.int .i64 0,.int .i64 0,.int .i64 0,.int .i64 0,.int .i64 0,.int .i64 0,.slice none 0 0] 36)) (Nat.le_refl _) (fun _=>False)) (fun y=>y))
 have HY:=ah (Bv (w.alloc (.cells #[.int .i64 kd,.int .i64 A,.int .i64 B,.int .i64 C] 39)))
 have HB:=ah (zO w (.cells #[.int .i64 kd,.int .i64 A,.int .i64 B,.int .i64 C] 39) (.cells #[.int .i64 0,.int .i64 0,.int .i64 0,.int .i64 0,.int .i64 0,.int .i64 0,.slice none 0 0] 36))
 have hZ:(w.alloc (.cells #[.int .i64 kd,.int .i64 A,.int .i64 B,.int .i64 C] 39)).heap.size=w.heap.size+1:=Array.size_push _
 have hZ2:((w.alloc (.cells #[.int .i64 kd,.int .i64 A,.int .i64 B,.int .i64 C] 39)).alloc (.cells #[.int .i64 0,.int .i64 0,.int .i64 0,.int .i64 0,.int .i64 0,.int .i64 0,.slice none 0 0] 36)).heap.size=w.heap.size+2:=by rw [show ((w.alloc (.cells #[.int .i64 kd,.int .i64 A,.int .i64 B,.int .i64 C] 39)).alloc (.cells #[.int .i64 0,.int .i64 0,.int .i64 0,.int .i64 0,.int .i64 0,.int .i64 0,.slice none 0 0] 36)).heap.size=(w.alloc (.cells #[.int .i64 kd,.int .i64 A,.int .i64 B,.int .i64 C] 39)).heap.size+1 from Array.size_push _,hZ]
 have HR:=ah ((x.hole (aJ w (.cells #[.int .i64 kd,.int .i64 A,.int .i64 B,.int .i64 C] 39)) (F:=w.heap.size) (Nat.le_refl _) (by omega)).hole (aJ (w.alloc (.cells #[.int .i64 kd,.int .i64 A,.int .i64 B,.int .i64 C] 39)) (.cells #[.int .i64 0,.int .i64 0,.int .i64 0,.int .i64 0,.int .i64 0,.int .i64 0,.slice none 0 0] 36)) (F:=w.heap.size+1) (by omega) (by omega))
 rw [hZ] at HY
 have HC:=ah (hc _ _ HR.o)
 clear x hZ hZ2 hc
 go_enter Tryz.func26,Tryz.ntmps26
 go_upto_region 1 with (fail)
 change Code.wp _ _ _ _ ((w.alloc (.cells #[.int .i64 kd,.int .i64 A,.int .i64 B,.int .i64 C] 39)).alloc (.cells #[.int .i64 0,.int .i64 0,.int .i64 0,.int .i64 0,.int .i64 0,.int .i64 0,.slice none 0 0] 36))
 generalize (w.alloc (.cells #[.int .i64 kd,.int .i64 A,.int .i64 B,.int .i64 C] 39)).alloc (.cells #[.int .i64 0,.int .i64 0,.int .i64 0,.int .i64 0,.int .i64 0,.int .i64 0,.slice none 0 0] 36)=w1 at *
 generalize hX:w.heap.size=X at *
 have HXE:=ah hX
 clear hX
 have x0:w1.cell? ⟨X,0,none⟩=some (.int .i64 kd):=HX.o.cell (j:=0) (by omega)
 have x1:w1.cell? ⟨X,1,none⟩=some (.int .i64 A):=HX.o.cell (j:=1) (by omega)
 have x2:w1.cell? ⟨X,2,none⟩=some (.int .i64 B):=HX.o.cell (j:=2) (by omega)
 have x3:w1.cell? ⟨X,3,none⟩=some (.int .i64 C):=HX.o.cell (j:=3) (by omega)
 go_wp2_with fail
 refine HC.o.mono ?_
 rintro e2 w2 ⟨rfl,L2,pv,hH2,hp2,hr2,hpv,hk2⟩
 have hXR:X≠R:=fun c=>HX.o.apart HR.o.r (by decide) c
 have hYR:X+1≠R:=fun c=>HY.o.apart HR.o.r (by decide) c
 have HX2:=ah (HX.o.keep hk2 (fun c=>by
  rcases c with c|c
  ·exact c.1.2 rfl
  ·exact hXR c))
 have HY2:=ah (HY.o.keep hk2 (fun c=>by
  rcases c with c|c
  ·exact c.2 rfl
  ·exact hYR c))
 have HP2:=ah hp2
 have HR2:=ah hr2
 have HPV:=ah hpv
 have HK2:=ah hk2
 have HN:=ah HR.o.n
 have HH2:=ah hH2
 clear hp2 hr2 hpv hk2 hH2 x0 x1 x2 x3
 have x0:w2.cell? ⟨X,0,none⟩=some (.int .i64 kd):=HX2.o.cell (j:=0) (by omega)
 have r1:w2.cell? ⟨R,1,none⟩=some pv:=HR2.o.cell (j:=1) (by omega)
 have z1:=HR2.o.Jv 1
 by_cases hk8:kd=8
 ·subst hk8
  have hk8b:((8:Int) !=8)=false:=rfl
  have HW3:Hq (PW base (fun b=>(S b/\b≠X)/\b≠X+1) h' L2 R hand' w2):=ah ⟨HP2.o,by rw [HH2.o,H8.o rfl,<-HPV.o rfl rfl];exact HR2.o,HN.o⟩
  have K3:=ah (Keeps.refl w2 (fun b=>b=R))
  have HY3:=ah HY2.o
  go_upto_region 6 with (fail)
  clear x0 r1 z1
  generalize w2=w3 at *
  have r0:w3.cell? ⟨R,0,none⟩=some (.pointer (some ⟨L2.H,0,none⟩)):=HW3.o.r.cell (j:=0) (by omega)
  have hp9:=HW3.o.p
  obtain ⟨px,py,G,aP,rP⟩:=hp9
  obtain ⟨A16,cap16,hv16,-,-⟩:=aP.EM (k:=16) (by simp [b_])
  have s0:w3.cell? ⟨L2.H,0,none⟩=some (.int .i64 (h'.state:Int)):=aP.hp.cell (j:=0) (by omega)
  have s3:w3.cell? ⟨L2.H,3,none⟩=some (.int .i64 (h'.live:Int)):=aP.hp.cell (j:=3) (by omega)
  have s4:w3.cell? ⟨L2.H,4,none⟩=some (.int .i64 (h'.bytes:Int)):=aP.hp.cell (j:=4) (by omega)
  have s16:w3.cell? ⟨L2.H,16,none⟩=some (.slice A16 h'.pending.length cap16):=by rw [aP.hp.cell (j:=16) (by omega)];exact congrArg some hv16
  have hHl:=aP.hp.lt
  have hYH:X+1≠L2.H:=fun c=>HY3.o.apart aP.hp (by decide) c
  have hHY:L2.H≠X+1:=fun c=>hYH c.symm
  clear aP rP hv16
  go_wp2_with fail
  go_region_held3 (fun w'=>w'.cell? ⟨L2.H,0,none⟩=some (.int .i64 (h'.state:Int))/\w'.cell? ⟨L2.H,3,none⟩=some (.int .i64 (h'.live:Int))/\w'.cell? ⟨L2.H,4,none⟩=some (.int .i64 (h'.bytes:Int))/\w'.cell? ⟨L2.H,16,none⟩=some (.slice A16 h'.pending.length cap16)) (go_keep)
   (first
     |(go_at_call 36
       refine (lW (HW3.o.low (ay (Below.refl w3.heap.size w3) _)).p).mono ?_
       rintro e4 w4 ⟨fv,rfl,hof,hfS,hp4,hk4,hw4⟩
       obtain ⟨af,kf,hvf⟩:=aF hof
       subst hvf
       have t0:w4.cell? ⟨L2.H,0,none⟩=some (.int .i64 (h'.state:Int)):=by rw [hw4,World.cell?_setCell_other _ _ _ _ (by simp)];exact s0
       have t3:w4.cell? ⟨L2.H,3,none⟩=some (.int .i64 (h'.live:Int)):=by rw [hw4,World.cell?_setCell_other _ _ _ _ (by simp)];exact s3
       have t4:w4.cell? ⟨L2.H,4,none⟩=some (.int .i64 (h'.bytes:Int)):=by rw [hw4,World.cell?_setCell_other _ _ _ _ (by simp)];exact s4
       have t16:w4.cell? ⟨L2.H,16,none⟩=some (.slice A16 h'.pending.length cap16):=by rw [hw4,World.cell?_setCell_other _ _ _ _ (by simp)];exact s16
       have hkd:=Keeps.of (ay (Below.refl w3.heap.size w3) 1) (Nat.le_refl _) (fun b=>b=L2.H)
       have H4:=ah (And.intro hof (And.intro hfS (And.intro hp4 (show Keeps w3 w4 (fun b=>b=L2.H) from ⟨hk4.os,hk4.tape,hk4.output,hk4.size,hk4.block⟩))))
       have HY4:=ah (HY3.o.keep H4.o.2.2.2 hYH)
       have y0:=HY4.o.cell (j:=0) (by omega)
       have v0:=HY4.o.Jv 0
       have y1:=HY4.o.cell (j:=1) (by omega)
       have v1:=HY4.o.Jv 1
       have y2:=HY4.o.cell (j:=2) (by omega)
       have v2:=HY4.o.Jv 2
       have y3:=HY4.o.cell (j:=3) (by omega)
       have v3:=HY4.o.Jv 3
       have y4:=HY4.o.cell (j:=4) (by omega)
       have v4:=HY4.o.Jv 4
       have y5:=HY4.o.cell (j:=5) (by omega)
       have v5:=HY4.o.Jv 5
       have y6:=HY4.o.cell (j:=6) (by omega)
       have v6:=HY4.o.Jv 6
       clear hof hfS hp4 hk4 hw4 hkd))
  go_wp2
  have HRO:=ah (eG HY4.o (.int .i64 0) (.int .i64 id) (.int .i64 (h'.live:Int)) (.int .i64 (h'.bytes:Int)) (.int .i64 (h'.state:Int)) (.int .i64 (h'.pending.length:Int)) (.slice af h'.freed.length kf))
  have HKO:=ah (dL w4 (X+1) (.int .i64 0) (.int .i64 id) (.int .i64 (h'.live:Int)) (.int .i64 (h'.bytes:Int)) (.int .i64 (h'.state:Int)) (.int .i64 (h'.pending.length:Int)) (.slice af h'.freed.length kf))
  unfold mI at HRO HKO
  generalize ((((((w4.setCell ⟨X+1,0,none⟩ (.int .i64 0)).setCell ⟨X+1,1,none⟩ (.int .i64 id)).setCell ⟨X+1,2,none⟩ (.int .i64 (h'.live:Int))).setCell ⟨X+1,3,none⟩ (.int .i64 (h'.bytes:Int))).setCell ⟨X+1,4,none⟩ (.int .i64 (h'.state:Int))).setCell ⟨X+1,5,none⟩ (.int .i64 (h'.pending.length:Int))).setCell ⟨X+1,6,none⟩ (.slice af h'.freed.length kf)=wo at *
  have q0:wo.cell? ⟨X+1,0,none⟩=some (.int .i64 0):=HRO.o.cell (j:=0) (by omega)
  have q1:wo.cell? ⟨X+1,1,none⟩=some (.int .i64 id):=HRO.o.cell (j:=1) (by omega)
  have q2:wo.cell? ⟨X+1,2,none⟩=some (.int .i64 (h'.live:Int)):=HRO.o.cell (j:=2) (by omega)
  have q3:wo.cell? ⟨X+1,3,none⟩=some (.int .i64 (h'.bytes:Int)):=HRO.o.cell (j:=3) (by omega)
  have q4:wo.cell? ⟨X+1,4,none⟩=some (.int .i64 (h'.state:Int)):=HRO.o.cell (j:=4) (by omega)
  have q5:wo.cell? ⟨X+1,5,none⟩=some (.int .i64 (h'.pending.length:Int)):=HRO.o.cell (j:=5) (by omega)
  have q6:wo.cell? ⟨X+1,6,none⟩=some (.slice af h'.freed.length kf):=HRO.o.cell (j:=6) (by omega)
  refine bodyPost_ret (v:=.agg #[.int .i64 0,.int .i64 id,.int .i64 (h'.live:Int),.int .i64 (h'.bytes:Int),.int .i64 (h'.state:Int),.int .i64 (h'.pending.length:Int),.slice af h'.freed.length kf]) ?_ rfl ?_
  ·simp [results,Tryz.results26,go_sem,q0,q1,q2,q3,q4,q5,q6]
  ·obtain ⟨f1,f2,⟨L4,f3,f4⟩,f5⟩:=H4.o
   have hyo:∀ g,(Value.slice af h'.freed.length kf).ownBlock=some g->¬ g=X+1:=fun g hg c=>(f2 g hg).2 c
   refine ⟨.slice af h'.freed.length kf,fun b=>((S b/\b≠X)/\b≠X+1)/\(Value.slice af h'.freed.length kf).ownBlock≠some b,L4,rfl,aj f1 HKO.o hyo,fun g hg=>⟨fun c=>c.2 hg,(f2 g hg).1.1⟩,fun b e=>e.1.1.1,⟨f4.out (HKO.o.mono (fun b e=>fun c=>c.1.2 e)),?_,fun e=>HN.o e.1⟩,?_⟩
   ·refine ((HW3.o.r.keep f5 (fun c=>by obtain ⟨_,_,_,aQ,_⟩:=HW3.o.p;exact HW3.o.r.apart aQ.hp (by decide) c)).keep HKO.o (fun c=>hYR c.symm)).congr (fun j hj=>?_)
    rw [f3.H,f3.tb]
   ·have hb:=Keeps.of HB.o (Nat.le_of_eq HXE.o) (fun b=>S b∨b=R)
    have hSH:S L2.H:=by obtain ⟨_,_,_,aQ,_⟩:=HW3.o.p;exact aQ.sH.1.1
    exact Keeps.into (((hb.trans (HK2.o.mono (fun b e=>e.imp (fun c=>c.1.1) (fun c=>c)))).trans (K3.o.mono (fun b e=>Or.inr e))).trans (f5.mono (fun b e=>Or.inl (e ▸ hSH)))) HKO.o (fun c e=>.inr (by have:=HXE.o;omega))
 ·have hk8b:(kd !=8)=true:=by simpa using hk8
  have HR3:=ah (HR2.o.set (j:=1) (by omega) .nilIface)
  have K3:Hq (Keeps w2 (w2.setCell ⟨R,1,none⟩ .nilIface) (fun b=>b=R)):=ah (Keeps.setCell (S:=fun b=>b=R) (Keeps.refl _ _) rfl _)
  have HP3:=ah (HP2.o.out (K3.o.mono (fun b e=>by rw [e];exact HN.o)))
  have HY3:=ah (HY2.o.keep K3.o hYR)
  have HW3:Hq (PW base (fun b=>(S b/\b≠X)/\b≠X+1) h' L2 R hand' (w2.setCell ⟨R,1,none⟩ .nilIface)):=ah ⟨HP3.o,HR3.o.congr (fun j hj=>by
   have:j=0∨j=1:=by omega
   rcases this with rfl|rfl
   ·show Value.pointer (some ⟨L.H,0,none⟩)=Value.pointer (some ⟨L2.H,0,none⟩)
    rw [HH2.o]
   ·rw [HN8.o hk8];rfl),HN.o⟩
  go_upto_region 6 with (fail)
  clear x0 r1 z1
  generalize w2.setCell ⟨R,1,none⟩ .nilIface=w3 at *
  have r0:w3.cell? ⟨R,0,none⟩=some (.pointer (some ⟨L2.H,0,none⟩)):=HW3.o.r.cell (j:=0) (by omega)
  have hp9:=HW3.o.p
  obtain ⟨px,py,G,aP,rP⟩:=hp9
  obtain ⟨A16,cap16,hv16,-,-⟩:=aP.EM (k:=16) (by simp [b_])
  have s0:w3.cell? ⟨L2.H,0,none⟩=some (.int .i64 (h'.state:Int)):=aP.hp.cell (j:=0) (by omega)
  have s3:w3.cell? ⟨L2.H,3,none⟩=some (.int .i64 (h'.live:Int)):=aP.hp.cell (j:=3) (by omega)
  have s4:w3.cell? ⟨L2.H,4,none⟩=some (.int .i64 (h'.bytes:Int)):=aP.hp.cell (j:=4) (by omega)
  have s16:w3.cell? ⟨L2.H,16,none⟩=some (.slice A16 h'.pending.length cap16):=by rw [aP.hp.cell (j:=16) (by omega)];exact congrArg some hv16
  have hHl:=aP.hp.lt
  have hYH:X+1≠L2.H:=fun c=>HY3.o.apart aP.hp (by decide) c
  have hHY:L2.H≠X+1:=fun c=>hYH c.symm
  clear aP rP hv16
  go_wp2_with fail
  go_region_held3 (fun w'=>w'.cell? ⟨L2.H,0,none⟩=some (.int .i64 (h'.state:Int))/\w'.cell? ⟨L2.H,3,none⟩=some (.int .i64 (h'.live:Int))/\w'.cell? ⟨L2.H,4,none⟩=some (.int .i64 (h'.bytes:Int))/\w'.cell? ⟨L2.H,16,none⟩=some (.slice A16 h'.pending.length cap16)) (go_keep)
   (first
     |(go_at_call 36
       refine (lW (HW3.o.low (ay (Below.refl w3.heap.size w3) _)).p).mono ?_
       rintro e4 w4 ⟨fv,rfl,hof,hfS,hp4,hk4,hw4⟩
       obtain ⟨af,kf,hvf⟩:=aF hof
       subst hvf
       have t0:w4.cell? ⟨L2.H,0,none⟩=some (.int .i64 (h'.state:Int)):=by rw [hw4,World.cell?_setCell_other _ _ _ _ (by simp)];exact s0
       have t3:w4.cell? ⟨L2.H,3,none⟩=some (.int .i64 (h'.live:Int)):=by rw [hw4,World.cell?_setCell_other _ _ _ _ (by simp)];exact s3
       have t4:w4.cell? ⟨L2.H,4,none⟩=some (.int .i64 (h'.bytes:Int)):=by rw [hw4,World.cell?_setCell_other _ _ _ _ (by simp)];exact s4
       have t16:w4.cell? ⟨L2.H,16,none⟩=some (.slice A16 h'.pending.length cap16):=by rw [hw4,World.cell?_setCell_other _ _ _ _ (by simp)];exact s16
       have hkd:=Keeps.of (ay (Below.refl w3.heap.size w3) 1) (Nat.le_refl _) (fun b=>b=L2.H)
       have H4:=ah (And.intro hof (And.intro hfS (And.intro hp4 (show Keeps w3 w4 (fun b=>b=L2.H) from ⟨hk4.os,hk4.tape,hk4.output,hk4.size,hk4.block⟩))))
       have HY4:=ah (HY3.o.keep H4.o.2.2.2 hYH)
       have y0:=HY4.o.cell (j:=0) (by omega)
       have v0:=HY4.o.Jv 0
       have y1:=HY4.o.cell (j:=1) (by omega)
       have v1:=HY4.o.Jv 1
       have y2:=HY4.o.cell (j:=2) (by omega)
       have v2:=HY4.o.Jv 2
       have y3:=HY4.o.cell (j:=3) (by omega)
       have v3:=HY4.o.Jv 3
       have y4:=HY4.o.cell (j:=4) (by omega)
       have v4:=HY4.o.Jv 4
       have y5:=HY4.o.cell (j:=5) (by omega)
       have v5:=HY4.o.Jv 5
       have y6:=HY4.o.cell (j:=6) (by omega)
       have v6:=HY4.o.Jv 6
       clear hof hfS hp4 hk4 hw4 hkd))
  go_wp2
  have HRO:=ah (eG HY4.o (.int .i64 0) (.int .i64 id) (.int .i64 (h'.live:Int)) (.int .i64 (h'.bytes:Int)) (.int .i64 (h'.state:Int)) (.int .i64 (h'.pending.length:Int)) (.slice af h'.freed.length kf))
  have HKO:=ah (dL w4 (X+1) (.int .i64 0) (.int .i64 id) (.int .i64 (h'.live:Int)) (.int .i64 (h'.bytes:Int)) (.int .i64 (h'.state:Int)) (.int .i64 (h'.pending.length:Int)) (.slice af h'.freed.length kf))
  unfold mI at HRO HKO
  generalize ((((((w4.setCell ⟨X+1,0,none⟩ (.int .i64 0)).setCell ⟨X+1,1,none⟩ (.int .i64 id)).setCell ⟨X+1,2,none⟩ (.int .i64 (h'.live:Int))).setCell ⟨X+1,3,none⟩ (.int .i64 (h'.bytes:Int))).setCell ⟨X+1,4,none⟩ (.int .i64 (h'.state:Int))).setCell ⟨X+1,5,none⟩ (.int .i64 (h'.pending.length:Int))).setCell ⟨X+1,6,none⟩ (.slice af h'.freed.length kf)=wo at *
  have q0:wo.cell? ⟨X+1,0,none⟩=some (.int .i64 0):=HRO.o.cell (j:=0) (by omega)
  have q1:wo.cell? ⟨X+1,1,none⟩=some (.int .i64 id):=HRO.o.cell (j:=1) (by omega)
  have q2:wo.cell? ⟨X+1,2,none⟩=some (.int .i64 (h'.live:Int)):=HRO.o.cell (j:=2) (by omega)
  have q3:wo.cell? ⟨X+1,3,none⟩=some (.int .i64 (h'.bytes:Int)):=HRO.o.cell (j:=3) (by omega)
  have q4:wo.cell? ⟨X+1,4,none⟩=some (.int .i64 (h'.state:Int)):=HRO.o.cell (j:=4) (by omega)
  have q5:wo.cell? ⟨X+1,5,none⟩=some (.int .i64 (h'.pending.length:Int)):=HRO.o.cell (j:=5) (by omega)
  have q6:wo.cell? ⟨X+1,6,none⟩=some (.slice af h'.freed.length kf):=HRO.o.cell (j:=6) (by omega)
  refine bodyPost_ret (v:=.agg #[.int .i64 0,.int .i64 id,.int .i64 (h'.live:Int),.int .i64 (h'.bytes:Int),.int .i64 (h'.state:Int),.int .i64 (h'.pending.length:Int),.slice af h'.freed.length kf]) ?_ rfl ?_
  ·simp [results,Tryz.results26,go_sem,q0,q1,q2,q3,q4,q5,q6]
  ·obtain ⟨f1,f2,⟨L4,f3,f4⟩,f5⟩:=H4.o
   have hyo:∀ g,(Value.slice af h'.freed.length kf).ownBlock=some g->¬ g=X+1:=fun g hg c=>(f2 g hg).2 c
   refine ⟨.slice af h'.freed.length kf,fun b=>((S b/\b≠X)/\b≠X+1)/\(Value.slice af h'.freed.length kf).ownBlock≠some b,L4,rfl,aj f1 HKO.o hyo,fun g hg=>⟨fun c=>c.2 hg,(f2 g hg).1.1⟩,fun b e=>e.1.1.1,⟨f4.out (HKO.o.mono (fun b e=>fun c=>c.1.2 e)),?_,fun e=>HN.o e.1⟩,?_⟩
   ·refine ((HW3.o.r.keep f5 (fun c=>by obtain ⟨_,_,_,aQ,_⟩:=HW3.o.p;exact HW3.o.r.apart aQ.hp (by decide) c)).keep HKO.o (fun c=>hYR c.symm)).congr (fun j hj=>?_)
    rw [f3.H,f3.tb]
   ·have hb:=Keeps.of HB.o (Nat.le_of_eq HXE.o) (fun b=>S b∨b=R)
    have hSH:S L2.H:=by obtain ⟨_,_,_,aQ,_⟩:=HW3.o.p;exact aQ.sH.1.1
    exact Keeps.into (((hb.trans (HK2.o.mono (fun b e=>e.imp (fun c=>c.1.1) (fun c=>c)))).trans (K3.o.mono (fun b e=>Or.inr e))).trans (f5.mono (fun b e=>Or.inl (e ▸ hSH)))) HKO.o (fun c e=>.inr (by have:=HXE.o;omega))
end Go.Proofs.YtedpifhlffcmkaaGreatDoor
