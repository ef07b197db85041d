import Derived.Test.YtedpifhlffcmkaaGreatDoorKIO1
namespace Go.Proofs.YtedpifhlffcmkaaGreatDoor
open Go Go.RowKit
set_option maxHeartbeats 6400000
set_option maxRecDepth 100000
set_option linter.unusedVariables false
variable {R Y base k:Nat} {S S1:Nat->Prop} {fv rv rv':Value} {r:Rn} {w w3 w4:World}
theorem kU {a:An} {L':SM} (hb:Keeps w w3 (Zs S R rv)) (x:RW base S1 r.h L' R r.hand rv' r.root w3) (hS1:∀ b,S1 b->S b) (hrv:∀ g,rv'.ownBlock=some g->rv.ownBlock=some g∨S g) (hY:¬ S1 Y) (hYR:Y≠R) (hYv:rv'.ownBlock≠some Y) (k4:Keeps w3 w4 (fun b=>b=Y)) (hYs:w.heap.size<=Y)
 (hf:w4.ownsRow w.heap.size 3 1 fv a.freed.length (bU a.freed)) (hfs:∀ g,fv.ownBlock=some g->¬ S1 g):Cv base S R rv w a r (.returned (.agg (kI a fv).toArray)) w4:=by
 refine ⟨fv,rfl,hf,?_,S1,L',rv',⟨⟨x.x.a.out (k4.mono (fun b e=>e ▸ hY)),x.x.r.keep k4 (fun e=>hYR e.symm),aj x.x.v k4 (fun g hg e=>hYv (e ▸ hg)),x.x.l,x.x.o⟩,x.nR,x.nb,x.r0⟩,hS1,hrv,hfs⟩
 refine ⟨k4.os.trans hb.os,k4.tape.trans hb.tape,k4.output.trans hb.output,Nat.le_trans hb.size k4.size,fun b hb' hn=>?_⟩
 exact (k4.block b (Nat.lt_of_lt_of_le hb' hb.size) (fun e=>by omega)).trans (hb.block b hb' hn)
theorem zK {L:SM} (x:RW base S r.h L R r.hand rv r.root w) (ok:r.Ok k) (hk:k+1<=5000) (kd A B C:Int):
 Calls Tryz.prog 24 #[.pointer (some ⟨R,0,none⟩),.agg #[.int .i64 kd,.int .i64 A,.int .i64 B,.int .i64 C]] w (Cv base S R rv w (dI r kd A B C).1 (dI r kd A B C).2):=by
 have HX:=ah ((eT w kd A B C).keep (Keeps.of (aJ (w.alloc (.cells #[.int .i64 kd,.int .i64 A,.int .i64 B,.int .i64 C] 39)) (.cells #[.int .i64 0,.int .i64 0,.int .i64 0,.int .i64 0,.int .i64 0,.int .i64 0,.slice none 0 0] 36)) (Nat.le_refl _) (fun _=>False)) (fun y=>y))
 have HY:=ah (Bv (w.alloc (.cells #[.int .i64 kd,.int .i64 A,.int .i64 B,.int .i64 C] 39)))
 have HB:=ah (zO w (.cells #[.int .i64 kd,.int .i64 A,.int .i64 B,.int .i64 C] 39) (.cells #[.int .i64 0,.int .i64 0,.int .i64 0,.int .i64 0,.int .i64 0,.int .i64 0,.slice none 0 0] 36))
 have HR:=ah ((x.hole (.cells #[.int .i64 kd,.int .i64 A,.int .i64 B,.int .i64 C] 39)).hole (.cells #[.int .i64 0,.int .i64 0,.int .i64 0,.int .i64 0,.int .i64 0,.int .i64 0,.slice none 0 0] 36))
 have hZ:(w.alloc (.cells #[.int .i64 kd,.int .i64 A,.int .i64 B,.int .i64 C] 39)).heap.size=w.heap.size+1:=Array.size_push _
 rw [hZ] at HY HR
 have HOK:=ah ok
 have HHN:=ah (fun (w9:World) (y:Ji base (fun b=>(S b/\b≠w.heap.size)/\b≠w.heap.size+1) r.h L R r.hand rv r.root w9)=>vJ y ok.g.i ok.g.s.len ok.g.s.es kd A B C)
 clear x hZ ok
 go_enter Tryz.func24,Tryz.ntmps24
 go_upto_region 1 with (fail)
 generalize (w.alloc (.cells #[.int .i64 kd,.int .i64 A,.int .i64 B,.int .i64 C] 39)).alloc (.cells #[.int .i64 0,.int .i64 0,.int .i64 0,.int .i64 0,.int .i64 0,.int .i64 0,.slice none 0 0] 36)=w1 at *
 generalize hX:w.heap.size=X at *
 have x0:w1.cell? ⟨X,0,none⟩=some (.int .i64 kd):=HX.o.cell (j:=0) (by omega)
 have x1:w1.cell? ⟨X,1,none⟩=some (.int .i64 A):=HX.o.cell (j:=1) (by omega)
 have x2:w1.cell? ⟨X,2,none⟩=some (.int .i64 B):=HX.o.cell (j:=2) (by omega)
 have x3:w1.cell? ⟨X,3,none⟩=some (.int .i64 C):=HX.o.cell (j:=3) (by omega)
 go_wp2_with fail
 refine (HHN.o _ HR.o.x).mono ?_
 rintro e2 w2 ⟨⟨bh,rfl,hbh⟩,hb2⟩
 have HBH:=ah hbh
 have kf:=Keeps.of hb2 (Nat.le_refl _) (fun _=>False)
 have HR2:=ah (HR.o.low hb2)
 have HX2:=ah (HX.o.keep kf (fun y=>y))
 have HY2:=ah (HY.o.keep kf (fun y=>y))
 have HB2:=ah (show Below X w w2 from HB.o.trans (hb2.mono (hX ▸ HB.o.size)))
 clear hbh hb2 kf x0 x1 x2 x3 HHN HX HY HR HB
 have c2:w2.cell? ⟨R,2,none⟩=some (.int .i64 (r.hand:Int)):=HR2.o.x.r.cell (j:=2) (by omega)
 have z2:=HR2.o.x.r.Jv 2
 have HS0:=ah (HR2.o.Hf 0)
 go_upto_region 3 with (fail)
 have HS:Hq (RW base (fun b=>(S b/\b≠X)/\b≠X+1) r.h L R 0 rv r.root (w2.setCell ⟨R,2,none⟩ (.int .i64 0))/\Keeps w2 (w2.setCell ⟨R,2,none⟩ (.int .i64 0)) (fun b=>b=R)):=HS0
 clear HS0 c2 z2
 generalize w2.setCell ⟨R,2,none⟩ (.int .i64 0)=w3 at *
 have hXR:X≠R:=fun e=>HX2.o.apart HR2.o.x.r (by decide) e
 have hYR:X+1≠R:=fun e=>HY2.o.apart HR2.o.x.r (by decide) e
 have HX3:=ah (HX2.o.keep HS.o.2 (fun e=>hXR e))
 have HY3:=ah (HY2.o.keep HS.o.2 (fun e=>hYR e))
 have HYV:=ah (show rv.ownBlock≠some (X+1) from fun e=>ak HS.o.1.x.v HY3.o (by decide) e)
 cases bh with
 |false=>
  have HM:=ah (show dI r kd A B C=(An.no 3,⟨r.h,r.root,0⟩) from by
   unfold dI
   rw [if_neg (fun y=>absurd (HBH.o.2 y) (by simp))])
  have HYQ:=HY3
  have y0:=HYQ.o.cell (j:=0) (by omega)
  have y1:=HYQ.o.cell (j:=1) (by omega)
  have y2:=HYQ.o.cell (j:=2) (by omega)
  have y3:=HYQ.o.cell (j:=3) (by omega)
  have y4:=HYQ.o.cell (j:=4) (by omega)
  have y5:=HYQ.o.cell (j:=5) (by omega)
  have y6:=HYQ.o.cell (j:=6) (by omega)
  have v0:=HYQ.o.Jv 0
  have v1:=HYQ.o.Jv 1
  have v2:=HYQ.o.Jv 2
  have v3:=HYQ.o.Jv 3
  have v4:=HYQ.o.Jv 4
  have v5:=HYQ.o.Jv 5
  have v6:=HYQ.o.Jv 6
  go_wp2
  have HRO:=ah (eG HYQ.o (.int .i64 3) (.int .i64 0) (.int .i64 0) (.int .i64 0) (.int .i64 0) (.int .i64 0) (.slice none 0 0))
  have HKO:=ah (dL w3 (X+1) (.int .i64 3) (.int .i64 0) (.int .i64 0) (.int .i64 0) (.int .i64 0) (.int .i64 0) (.slice none 0 0))
  unfold mI at HRO HKO
  generalize ((((((w3.setCell ⟨X+1,0,none⟩ (.int .i64 3)).setCell ⟨X+1,1,none⟩ (.int .i64 0)).setCell ⟨X+1,2,none⟩ (.int .i64 0)).setCell ⟨X+1,3,none⟩ (.int .i64 0)).setCell ⟨X+1,4,none⟩ (.int .i64 0)).setCell ⟨X+1,5,none⟩ (.int .i64 0)).setCell ⟨X+1,6,none⟩ (.slice none 0 0)=wo at *
  have q0:wo.cell? ⟨X+1,0,none⟩=some (.int .i64 3):=HRO.o.cell (j:=0) (by omega)
  have q1:wo.cell? ⟨X+1,1,none⟩=some (.int .i64 0):=HRO.o.cell (j:=1) (by omega)
  have q2:wo.cell? ⟨X+1,2,none⟩=some (.int .i64 0):=HRO.o.cell (j:=2) (by omega)
  have q3:wo.cell? ⟨X+1,3,none⟩=some (.int .i64 0):=HRO.o.cell (j:=3) (by omega)
  have q4:wo.cell? ⟨X+1,4,none⟩=some (.int .i64 0):=HRO.o.cell (j:=4) (by omega)
  have q5:wo.cell? ⟨X+1,5,none⟩=some (.int .i64 0):=HRO.o.cell (j:=5) (by omega)
  have q6:wo.cell? ⟨X+1,6,none⟩=some (.slice none 0 0):=HRO.o.cell (j:=6) (by omega)
  rw [HM.o]
  refine bodyPost_ret (v:=.agg #[.int .i64 3,.int .i64 0,.int .i64 0,.int .i64 0,.int .i64 0,.int .i64 0,.slice none 0 0]) ?_ rfl ?_
  ·simp [results,Tryz.results24,go_sem,q0,q1,q2,q3,q4,q5,q6]
  ·exact kU (a:=An.no 3) (r:=⟨r.h,r.root,0⟩) (fv:=.slice none 0 0) (Y:=X+1) ((Keeps.of HB2.o (Nat.le_of_eq hX) _).trans (HS.o.2.mono (fun b e=>.inr (.inl e)))) HS.o.1 (fun b e=>e.1.1) (fun g e=>.inl e) (fun e=>e.2 rfl) hYR (fun e=>HYV.o e) HKO.o (by omega) ⟨rfl,.inl ⟨rfl,rfl⟩⟩ (fun g e=>by simp [Value.ownBlock] at e)
 |true=>
  have HHD:=ah (HBH.o.1 rfl)
  have r0:w3.cell? ⟨R,0,none⟩=some (.pointer (some ⟨L.H,0,none⟩)):=HS.o.1.x.r.cell (j:=0) (by omega)
  have c15:=HS.o.1.x.a.hp.cell (j:=15) (by omega)
  have z15:=HS.o.1.x.a.hp.Jv 15
  obtain ⟨L4,hH4,hw4,hk4⟩:=HS.o.1.forget
  have HW4:=ah (And.intro hw4 hk4)
  have HH4:=ah hH4
  clear hw4 hk4 hH4
  go_upto_region 6 with (fail)
  generalize w3.setCell ⟨L.H,15,none⟩ (.slice none 0 0)=w4 at *
  clear r0 c15 z15
  have HX4:=ah (HX3.o.keep HW4.o.2 (fun e=>e.1.2 rfl))
  have HY4:=ah (HY3.o.keep HW4.o.2 (fun e=>e.2 rfl))
  have x0:w4.cell? ⟨X,0,none⟩=some (.int .i64 kd):=HX4.o.cell (j:=0) (by omega)
  have x1:w4.cell? ⟨X,1,none⟩=some (.int .i64 A):=HX4.o.cell (j:=1) (by omega)
  have x2:w4.cell? ⟨X,2,none⟩=some (.int .i64 B):=HX4.o.cell (j:=2) (by omega)
  have x3:w4.cell? ⟨X,3,none⟩=some (.int .i64 C):=HX4.o.cell (j:=3) (by omega)
  have hok4:=(show FK k r.h r.root r.hand from HOK.o).forget (by omega)
  have HAC:=ah (zw HW4.o.1 hok4 hk rfl kd A B C (cZ.2 HHD.o))
  have HAK:=ah (rJ hok4 hk rfl (cZ.2 HHD.o))
  have HMM:Hq (dI r kd A B C=(let m:=eD r.h.forget r.root kd A B C
   if m.code≠0 then (An.no m.code,⟨m.h,m.root,0⟩)
   else (⟨0,m.id,(m.h.live:Int),(m.h.bytes:Int),(m.h.state:Int),(m.h.pending.length:Int),m.h.freed⟩,⟨m.h,m.root,if kd=8 then m.id.toNat else 0⟩))):=ah (by unfold dI;rw [if_pos HHD.o])
  clear hok4
  generalize eD r.h.forget r.root kd A B C=m at *
  go_wp2_with fail
  refine HAC.o.mono ?_
  rintro e5 w5 ⟨rfl,hk5,S5,L5,rv5,hw5,hs5,hv5⟩
  have hXV:rv.ownBlock≠some X:=fun e=>ak HS.o.1.x.v HX3.o (by decide) e
  have HX5:=ah (HX4.o.keep hk5 (fun e=>by
   rcases e with e|e|e
   ·exact e.1.2 rfl
   ·exact hXR e
   ·exact hXV e))
  have HY5:=ah (HY4.o.keep hk5 (fun e=>by
   rcases e with e|e|e
   ·exact e.2 rfl
   ·exact hYR e
   ·exact HYV.o e))
  have H5:=ah hw5
  have HK5:=ah (show Keeps w w5 (Zs S R rv) from (((Keeps.of HB2.o (Nat.le_of_eq hX) _).trans (HS.o.2.mono (fun b e=>.inr (.inl e)))).trans (HW4.o.2.mono (fun b e=>.inl e.1.1))).trans (hk5.mono (fun b e=>by
   rcases e with e|e|e
   ·exact .inl e.1.1
   ·exact .inr (.inl e)
   ·exact .inr (.inr e))))
  have HSS:=ah (show (∀ b,S5 b->S b)/\(∀ g,rv5.ownBlock=some g->rv.ownBlock=some g∨S g)/\¬ S5 X/\¬ S5 (X+1) from ⟨fun b e=>(hs5 b e).1.1,fun g e=>(hv5 g e).imp id (fun y=>y.1.1),fun e=>(hs5 X e).1.2 rfl,fun e=>(hs5 (X+1) e).2 rfl⟩)
  have HYV5:=ah (show rv5.ownBlock≠some (X+1) from fun e=>ak hw5.x.v HY5.o (by decide) e)
  clear hk5 hw5 hs5 hv5 x0 x1 x2 x3 hXV
  by_cases hc:m.code≠0
  ·have hcb:(m.code !=0)=true:=by simpa using hc
   have HM:=ah (show dI r kd A B C=(An.no m.code,⟨m.h,m.root,0⟩) from by rw [HMM.o];exact if_pos hc)
   clear hc
   have HYQ:=HY5
   have y0:=HYQ.o.cell (j:=0) (by omega)
   have y1:=HYQ.o.cell (j:=1) (by omega)
   have y2:=HYQ.o.cell (j:=2) (by omega)
   have y3:=HYQ.o.cell (j:=3) (by omega)
   have y4:=HYQ.o.cell (j:=4) (by omega)
   have y5:=HYQ.o.cell (j:=5) (by omega)
   have y6:=HYQ.o.cell (j:=6) (by omega)
   have v0:=HYQ.o.Jv 0
   have v1:=HYQ.o.Jv 1
   have v2:=HYQ.o.Jv 2
   have v3:=HYQ.o.Jv 3
   have v4:=HYQ.o.Jv 4
   have v5:=HYQ.o.Jv 5
   have v6:=HYQ.o.Jv 6
   go_wp2
   have HRO:=ah (eG HYQ.o (.int .i64 m.code) (.int .i64 0) (.int .i64 0) (.int .i64 0) (.int .i64 0) (.int .i64 0) (.slice none 0 0))
   have HKO:=ah (dL w5 (X+1) (.int .i64 m.code) (.int .i64 0) (.int .i64 0) (.int .i64 0) (.int .i64 0) (.int .i64 0) (.slice none 0 0))
   unfold mI at HRO HKO
   generalize ((((((w5.setCell ⟨X+1,0,none⟩ (.int .i64 m.code)).setCell ⟨X+1,1,none⟩ (.int .i64 0)).setCell ⟨X+1,2,none⟩ (.int .i64 0)).setCell ⟨X+1,3,none⟩ (.int .i64 0)).setCell ⟨X+1,4,none⟩ (.int .i64 0)).setCell ⟨X+1,5,none⟩ (.int .i64 0)).setCell ⟨X+1,6,none⟩ (.slice none 0 0)=wo at *
   have q0:wo.cell? ⟨X+1,0,none⟩=some (.int .i64 m.code):=HRO.o.cell (j:=0) (by omega)
   have q1:wo.cell? ⟨X+1,1,none⟩=some (.int .i64 0):=HRO.o.cell (j:=1) (by omega)
   have q2:wo.cell? ⟨X+1,2,none⟩=some (.int .i64 0):=HRO.o.cell (j:=2) (by omega)
   have q3:wo.cell? ⟨X+1,3,none⟩=some (.int .i64 0):=HRO.o.cell (j:=3) (by omega)
   have q4:wo.cell? ⟨X+1,4,none⟩=some (.int .i64 0):=HRO.o.cell (j:=4) (by omega)
   have q5:wo.cell? ⟨X+1,5,none⟩=some (.int .i64 0):=HRO.o.cell (j:=5) (by omega)
   have q6:wo.cell? ⟨X+1,6,none⟩=some (.slice none 0 0):=HRO.o.cell (j:=6) (by omega)
   rw [HM.o]
   refine bodyPost_ret (v:=.agg #[.int .i64 m.code,.int .i64 0,.int .i64 0,.int .i64 0,.int .i64 0,.int .i64 0,.slice none 0 0]) ?_ rfl ?_
   ·simp [results,Tryz.results24,go_sem,q0,q1,q2,q3,q4,q5,q6]
   ·exact kU (a:=An.no m.code) (r:=⟨m.h,m.root,0⟩) (fv:=.slice none 0 0) (Y:=X+1) HK5.o H5.o HSS.o.1 HSS.o.2.1 HSS.o.2.2.2 hYR HYV5.o HKO.o (by omega) ⟨rfl,.inl ⟨rfl,rfl⟩⟩ (fun g e=>by simp [Value.ownBlock] at e)
  ·have hcb:(m.code !=0)=false:=by simpa using hc
   have HM:=ah (show dI r kd A B C=(⟨0,m.id,(m.h.live:Int),(m.h.bytes:Int),(m.h.state:Int),(m.h.pending.length:Int),m.h.freed⟩,⟨m.h,m.root,if kd=8 then m.id.toNat else 0⟩) from by rw [HMM.o];exact if_neg hc)
   have HC0:=ah (show m.code=0 by simpa using hc)
   clear hc
   have x0:w5.cell? ⟨X,0,none⟩=some (.int .i64 kd):=HX5.o.cell (j:=0) (by omega)
   by_cases k8:kd=8
   ·obtain ⟨n,hid,-⟩:=HAK.o.2 k8 HC0.o
    have c2:w5.cell? ⟨R,2,none⟩=some (.int .i64 ((0:Nat):Int)):=H5.o.x.r.cell (j:=2) (by omega)
    have z2:=H5.o.x.r.Jv 2
    have HSN:=ah (H5.o.Hf n)
    have HID:=ah hid
    subst k8
    go_upto_region 11 with (fail)
    generalize w5.setCell ⟨R,2,none⟩ (.int .i64 (n:Int))=w6 at *
    have HZ:=ah HSN.o.1
    have HKZ:=ah HSN.o.2
    have HYZ:=ah (HY5.o.keep HSN.o.2 (fun e=>hYR e))
    clear HSN c2 z2 x0
    have HM2:=ah (show dI r 8 A B C=(⟨0,(n:Int),(m.h.live:Int),(m.h.bytes:Int),(m.h.state:Int),(m.h.pending.length:Int),m.h.freed⟩,⟨m.h,m.root,n⟩) from by
     rw [HM.o,HID.o];simp)
    obtain ⟨a12,k12,hv12⟩:=aF (HZ.o.x.a.li 12 (by simp [cB]))
    obtain ⟨a15,k15,hv15⟩:=aF (HZ.o.x.a.li 15 (by simp [cB]))
    have s0:w6.cell? ⟨R,0,none⟩=some (.pointer (some ⟨L5.H,0,none⟩)):=HZ.o.x.r.cell (j:=0) (by omega)
    have s1:w6.cell? ⟨L5.H,1,none⟩=some (.int .i64 (m.h.bytes:Int)):=HZ.o.x.a.hp.cell (j:=1) (by omega)
    have s2:w6.cell? ⟨L5.H,2,none⟩=some (.int .i64 (m.h.live:Int)):=HZ.o.x.a.hp.cell (j:=2) (by omega)
    have s5:w6.cell? ⟨L5.H,5,none⟩=some (.int .i64 (m.h.state:Int)):=HZ.o.x.a.hp.cell (j:=5) (by omega)
    have s12:w6.cell? ⟨L5.H,12,none⟩=some (.slice a12 m.h.pending.length k12):=(HZ.o.x.a.hp.cell (j:=12) (by omega)).trans (congrArg some hv12)
    have s15:w6.cell? ⟨L5.H,15,none⟩=some (.slice a15 m.h.freed.length k15):=(HZ.o.x.a.hp.cell (j:=15) (by omega)).trans (congrArg some hv15)
    have hfl:m.h.freed.length<=20000:=by have:=HAK.o.1.g.s.fr;omega
    have HFV:=ah (fun (w':World) (hb:Below w6.heap.size w6 w')=>(show w'.ownsRow base 3 1 (.slice a15 m.h.freed.length k15) m.h.freed.length (bU m.h.freed) from by have:=(HZ.o.x.a.low hb).li 15 (by simp [cB]);rw [hv15] at this;exact this))
    have HB0:=ah (((Below.refl w6.heap.size w6).alloc (Nat.le_refl _) (.cells #[] 3)).drew)
    have HE0:Hq (World.ownsRow (w6.alloc (.cells #[] 3)).drew w6.heap.size 3 1 (.slice (some ⟨w6.heap.size,0,none⟩) 0 0) ([]:List Nat).length (bU [])):=ah ⟨rfl,.inr ⟨w6.heap.size,0,#[],rfl,Nat.le_refl _,heap_alloc_new w6 _,by decide,by decide,rfl,rfl⟩⟩
    have hRl:=HZ.o.x.r.lt
    have hHl:=HZ.o.x.a.hp.lt
    have hYH:X+1≠L5.H:=fun e=>HYZ.o.apart HZ.o.x.a.hp (by decide) e
    have hHY:L5.H≠X+1:=fun e=>hYH e.symm
    clear hv12 hv15
    go_wp2_with fail
    go_region_held3 (fun w'=>w'.cell? ⟨R,0,none⟩=some (.pointer (some ⟨L5.H,0,none⟩))/\w'.cell? ⟨L5.H,1,none⟩=some (.int .i64 (m.h.bytes:Int))/\w'.cell? ⟨L5.H,2,none⟩=some (.int .i64 (m.h.live:Int))/\w'.cell? ⟨L5.H,5,none⟩=some (.int .i64 (m.h.state:Int))/\w'.cell? ⟨L5.H,12,none⟩=some (.slice a12 m.h.pending.length k12)/\w'.cell? ⟨L5.H,15,none⟩=some (.slice a15 m.h.freed.length k15)) (go_keep)
     (first
       |(rw [if_pos (by rfl)]
         refine gM (.tmp 70) (.tmp 77) rfl w6.heap.size base (.slice (some ⟨w6.heap.size,0,none⟩) 0 0) (.slice a15 m.h.freed.length k15) [] m.h.freed rfl rfl HE0.o (HFV.o _ HB0.o) (by simp;omega) HB0.o.size ?_
         intro v1 w9 ho1 hb1
         have hb9:Below w6.heap.size w6 w9:=HB0.o.trans hb1
         have ho9:w9.ownsRow w6.heap.size 3 1 v1 m.h.freed.length (bU m.h.freed):=ho1
         obtain ⟨af,kf9,hvf⟩:=aF ho9
         subst hvf
         have t0:=(hb9.cell (p:=⟨R,0,none⟩) hRl).trans s0
         have t1:=(hb9.cell (p:=⟨L5.H,1,none⟩) hHl).trans s1
         have t2:=(hb9.cell (p:=⟨L5.H,2,none⟩) hHl).trans s2
         have t5:=(hb9.cell (p:=⟨L5.H,5,none⟩) hHl).trans s5
         have t12:=(hb9.cell (p:=⟨L5.H,12,none⟩) hHl).trans s12
         have t15:=(hb9.cell (p:=⟨L5.H,15,none⟩) hHl).trans s15
         have HY9:=ah (HYZ.o.keep (Keeps.of hb9 (Nat.le_refl _) (fun _=>False)) (fun y=>y))
         have y0:=HY9.o.cell (j:=0) (by omega)
         have y1:=HY9.o.cell (j:=1) (by omega)
         have y2:=HY9.o.cell (j:=2) (by omega)
         have y3:=HY9.o.cell (j:=3) (by omega)
         have y4:=HY9.o.cell (j:=4) (by omega)
         have y5:=HY9.o.cell (j:=5) (by omega)
         have y6:=HY9.o.cell (j:=6) (by omega)
         have v0:=HY9.o.Jv 0
         have v1':=HY9.o.Jv 1
         have v2:=HY9.o.Jv 2
         have v3:=HY9.o.Jv 3
         have v4:=HY9.o.Jv 4
         have v5:=HY9.o.Jv 5
         have v6:=HY9.o.Jv 6
         have H9:=ah (And.intro hb9 ho9)
         clear ho1 hb1 hb9 ho9))
    all_goals
     have HRO:=ah (eG HY9.o (.int .i64 0) (.int .i64 (n:Int)) (.int .i64 (m.h.live:Int)) (.int .i64 (m.h.bytes:Int)) (.int .i64 (m.h.state:Int)) (.int .i64 (m.h.pending.length:Int)) (.slice af m.h.freed.length kf9))
     have HKO:=ah (dL w9 (X+1) (.int .i64 0) (.int .i64 (n:Int)) (.int .i64 (m.h.live:Int)) (.int .i64 (m.h.bytes:Int)) (.int .i64 (m.h.state:Int)) (.int .i64 (m.h.pending.length:Int)) (.slice af m.h.freed.length kf9))
     unfold mI at HRO HKO
     generalize ((((((w9.setCell ⟨X+1,0,none⟩ (.int .i64 0)).setCell ⟨X+1,1,none⟩ (.int .i64 (n:Int))).setCell ⟨X+1,2,none⟩ (.int .i64 (m.h.live:Int))).setCell ⟨X+1,3,none⟩ (.int .i64 (m.h.bytes:Int))).setCell ⟨X+1,4,none⟩ (.int .i64 (m.h.state:Int))).setCell ⟨X+1,5,none⟩ (.int .i64 (m.h.pending.length:Int))).setCell ⟨X+1,6,none⟩ (.slice af m.h.freed.length kf9)=wo at *
     have q0:wo.cell? ⟨X+1,0,none⟩=some (.int .i64 0):=HRO.o.cell (j:=0) (by omega)
     have q1:wo.cell? ⟨X+1,1,none⟩=some (.int .i64 (n:Int)):=HRO.o.cell (j:=1) (by omega)
     have q2:wo.cell? ⟨X+1,2,none⟩=some (.int .i64 (m.h.live:Int)):=HRO.o.cell (j:=2) (by omega)
     have q3:wo.cell? ⟨X+1,3,none⟩=some (.int .i64 (m.h.bytes:Int)):=HRO.o.cell (j:=3) (by omega)
     have q4:wo.cell? ⟨X+1,4,none⟩=some (.int .i64 (m.h.state:Int)):=HRO.o.cell (j:=4) (by omega)
     have q5:wo.cell? ⟨X+1,5,none⟩=some (.int .i64 (m.h.pending.length:Int)):=HRO.o.cell (j:=5) (by omega)
     have q6:wo.cell? ⟨X+1,6,none⟩=some (.slice af m.h.freed.length kf9):=HRO.o.cell (j:=6) (by omega)
     clear y0 y1 y2 y3 y4 y5 y6 v0 v1' v2 v3 v4 v5 v6 t0 t1 t2 t5 t12 t15 s0 s1 s2 s5 s12 s15
     go_wp2
     rw [HM2.o]
     refine bodyPost_ret (v:=.agg #[.int .i64 0,.int .i64 (n:Int),.int .i64 (m.h.live:Int),.int .i64 (m.h.bytes:Int),.int .i64 (m.h.state:Int),.int .i64 (m.h.pending.length:Int),.slice af m.h.freed.length kf9]) ?_ rfl ?_
     ·simp [results,Tryz.results24,go_sem,q0,q1,q2,q3,q4,q5,q6]
     ·have hge:∀ g,(Value.slice af m.h.freed.length kf9).ownBlock=some g->w6.heap.size<=g:=fun g e=>(H9.o.2.lt g e).1
      have hws:w.heap.size<=w6.heap.size:=(HK5.o.trans (HKZ.o.mono (fun b e=>.inr (.inl e)))).size
      exact kU (a:=⟨0,(n:Int),(m.h.live:Int),(m.h.bytes:Int),(m.h.state:Int),(m.h.pending.length:Int),m.h.freed⟩) (r:=⟨m.h,m.root,n⟩) (fv:=.slice af m.h.freed.length kf9) (Y:=X+1) (w3:=w9)
       ((HK5.o.trans (HKZ.o.mono (fun b e=>.inr (.inl e)))).trans (Keeps.of H9.o.1 (Nat.le_refl _) _))
       ((HZ.o.low H9.o.1).less (.slice af m.h.freed.length kf9) (fun g e=>⟨HZ.o.x.a.past (hge g e),(au H9.o.2 e).lt⟩))
       (fun b e=>HSS.o.1 b e.1) HSS.o.2.1 (fun e=>HSS.o.2.2.2 e.1) hYR HYV5.o HKO.o (by omega)
       (fq (aj H9.o.2 HKO.o (fun g hg e=>ak H9.o.2 HY9.o (by decide) (e ▸ hg))) hws) (fun g e y=>y.2 e)
   ·skip
    have HM2:=ah (show dI r kd A B C=(⟨0,m.id,(m.h.live:Int),(m.h.bytes:Int),(m.h.state:Int),(m.h.pending.length:Int),m.h.freed⟩,⟨m.h,m.root,0⟩) from by
     rw [HM.o,if_neg k8])
    have k8e:(kd==8)=false:=by simpa using k8
    clear k8
    go_upto_region 11 with (fail)
    have HZ:=H5
    have HKZ:=ah (Keeps.refl w5 (fun b=>b=R))
    have HYZ:=HY5
    clear x0
    obtain ⟨a12,k12,hv12⟩:=aF (HZ.o.x.a.li 12 (by simp [cB]))
    obtain ⟨a15,k15,hv15⟩:=aF (HZ.o.x.a.li 15 (by simp [cB]))
    have s0:w5.cell? ⟨R,0,none⟩=some (.pointer (some ⟨L5.H,0,none⟩)):=HZ.o.x.r.cell (j:=0) (by omega)
    have s1:w5.cell? ⟨L5.H,1,none⟩=some (.int .i64 (m.h.bytes:Int)):=HZ.o.x.a.hp.cell (j:=1) (by omega)
    have s2:w5.cell? ⟨L5.H,2,none⟩=some (.int .i64 (m.h.live:Int)):=HZ.o.x.a.hp.cell (j:=2) (by omega)
    have s5:w5.cell? ⟨L5.H,5,none⟩=some (.int .i64 (m.h.state:Int)):=HZ.o.x.a.hp.cell (j:=5) (by omega)
    have s12:w5.cell? ⟨L5.H,12,none⟩=some (.slice a12 m.h.pending.length k12):=(HZ.o.x.a.hp.cell (j:=12) (by omega)).trans (congrArg some hv12)
    have s15:w5.cell? ⟨L5.H,15,none⟩=some (.slice a15 m.h.freed.length k15):=(HZ.o.x.a.hp.cell (j:=15) (by omega)).trans (congrArg some hv15)
    have hfl:m.h.freed.length<=20000:=by have:=HAK.o.1.g.s.fr;omega
    have HFV:=ah (fun (w':World) (hb:Below w5.heap.size w5 w')=>(show w'.ownsRow base 3 1 (.slice a15 m.h.freed.length k15) m.h.freed.length (bU m.h.freed) from by have:=(HZ.o.x.a.low hb).li 15 (by simp [cB]);rw [hv15] at this;exact this))
    have HB0:=ah (((Below.refl w5.heap.size w5).alloc (Nat.le_refl _) (.cells #[] 3)).drew)
    have HE0:Hq (World.ownsRow (w5.alloc (.cells #[] 3)).drew w5.heap.size 3 1 (.slice (some ⟨w5.heap.size,0,none⟩) 0 0) ([]:List Nat).length (bU [])):=ah ⟨rfl,.inr ⟨w5.heap.size,0,#[],rfl,Nat.le_refl _,heap_alloc_new w5 _,by decide,by decide,rfl,rfl⟩⟩
    have hRl:=HZ.o.x.r.lt
    have hHl:=HZ.o.x.a.hp.lt
    have hYH:X+1≠L5.H:=fun e=>HYZ.o.apart HZ.o.x.a.hp (by decide) e
    have hHY:L5.H≠X+1:=fun e=>hYH e.symm
    clear hv12 hv15
    go_wp2_with fail
    go_region_held3 (fun w'=>w'.cell? ⟨R,0,none⟩=some (.pointer (some ⟨L5.H,0,none⟩))/\w'.cell? ⟨L5.H,1,none⟩=some (.int .i64 (m.h.bytes:Int))/\w'.cell? ⟨L5.H,2,none⟩=some (.int .i64 (m.h.live:Int))/\w'.cell? ⟨L5.H,5,none⟩=some (.int .i64 (m.h.state:Int))/\w'.cell? ⟨L5.H,12,none⟩=some (.slice a12 m.h.pending.length k12)/\w'.cell? ⟨L5.H,15,none⟩=some (.slice a15 m.h.freed.length k15)) (go_keep)
     (first
       |(rw [if_pos (by rfl)]
         refine gM (.tmp 70) (.tmp 77) rfl w5.heap.size base (.slice (some ⟨w5.heap.size,0,none⟩) 0 0) (.slice a15 m.h.freed.length k15) [] m.h.freed rfl rfl HE0.o (HFV.o _ HB0.o) (by simp;omega) HB0.o.size ?_
         intro v1 w9 ho1 hb1
         have hb9:Below w5.heap.size w5 w9:=HB0.o.trans hb1
         have ho9:w9.ownsRow w5.heap.size 3 1 v1 m.h.freed.length (bU m.h.freed):=ho1
         obtain ⟨af,kf9,hvf⟩:=aF ho9
         subst hvf
         have t0:=(hb9.cell (p:=⟨R,0,none⟩) hRl).trans s0
         have t1:=(hb9.cell (p:=⟨L5.H,1,none⟩) hHl).trans s1
         have t2:=(hb9.cell (p:=⟨L5.H,2,none⟩) hHl).trans s2
         have t5:=(hb9.cell (p:=⟨L5.H,5,none⟩) hHl).trans s5
         have t12:=(hb9.cell (p:=⟨L5.H,12,none⟩) hHl).trans s12
         have t15:=(hb9.cell (p:=⟨L5.H,15,none⟩) hHl).trans s15
         have HY9:=ah (HYZ.o.keep (Keeps.of hb9 (Nat.le_refl _) (fun _=>False)) (fun y=>y))
         have y0:=HY9.o.cell (j:=0) (by omega)
         have y1:=HY9.o.cell (j:=1) (by omega)
         have y2:=HY9.o.cell (j:=2) (by omega)
         have y3:=HY9.o.cell (j:=3) (by omega)
         have y4:=HY9.o.cell (j:=4) (by omega)
         have y5:=HY9.o.cell (j:=5) (by omega)
         have y6:=HY9.o.cell (j:=6) (by omega)
         have v0:=HY9.o.Jv 0
         have v1':=HY9.o.Jv 1
         have v2:=HY9.o.Jv 2
         have v3:=HY9.o.Jv 3
         have v4:=HY9.o.Jv 4
         have v5:=HY9.o.Jv 5
         have v6:=HY9.o.Jv 6
         have H9:=ah (And.intro hb9 ho9)
         clear ho1 hb1 hb9 ho9))
    all_goals
     have HRO:=ah (eG HY9.o (.int .i64 0) (.int .i64 m.id) (.int .i64 (m.h.live:Int)) (.int .i64 (m.h.bytes:Int)) (.int .i64 (m.h.state:Int)) (.int .i64 (m.h.pending.length:Int)) (.slice af m.h.freed.length kf9))
     have HKO:=ah (dL w9 (X+1) (.int .i64 0) (.int .i64 m.id) (.int .i64 (m.h.live:Int)) (.int .i64 (m.h.bytes:Int)) (.int .i64 (m.h.state:Int)) (.int .i64 (m.h.pending.length:Int)) (.slice af m.h.freed.length kf9))
     unfold mI at HRO HKO
     generalize ((((((w9.setCell ⟨X+1,0,none⟩ (.int .i64 0)).setCell ⟨X+1,1,none⟩ (.int .i64 m.id)).setCell ⟨X+1,2,none⟩ (.int .i64 (m.h.live:Int))).setCell ⟨X+1,3,none⟩ (.int .i64 (m.h.bytes:Int))).setCell ⟨X+1,4,none⟩ (.int .i64 (m.h.state:Int))).setCell ⟨X+1,5,none⟩ (.int .i64 (m.h.pending.length:Int))).setCell ⟨X+1,6,none⟩ (.slice af m.h.freed.length kf9)=wo at *
     have q0:wo.cell? ⟨X+1,0,none⟩=some (.int .i64 0):=HRO.o.cell (j:=0) (by omega)
     have q1:wo.cell? ⟨X+1,1,none⟩=some (.int .i64 m.id):=HRO.o.cell (j:=1) (by omega)
     have q2:wo.cell? ⟨X+1,2,none⟩=some (.int .i64 (m.h.live:Int)):=HRO.o.cell (j:=2) (by omega)
     have q3:wo.cell? ⟨X+1,3,none⟩=some (.int .i64 (m.h.bytes:Int)):=HRO.o.cell (j:=3) (by omega)
     have q4:wo.cell? ⟨X+1,4,none⟩=some (.int .i64 (m.h.state:Int)):=HRO.o.cell (j:=4) (by omega)
     have q5:wo.cell? ⟨X+1,5,none⟩=some (.int .i64 (m.h.pending.length:Int)):=HRO.o.cell (j:=5) (by omega)
     have q6:wo.cell? ⟨X+1,6,none⟩=some (.slice af m.h.freed.length kf9):=HRO.o.cell (j:=6) (by omega)
     clear y0 y1 y2 y3 y4 y5 y6 v0 v1' v2 v3 v4 v5 v6 t0 t1 t2 t5 t12 t15 s0 s1 s2 s5 s12 s15
     go_wp2
     rw [HM2.o]
     refine bodyPost_ret (v:=.agg #[.int .i64 0,.int .i64 m.id,.int .i64 (m.h.live:Int),.int .i64 (m.h.bytes:Int),.int .i64 (m.h.state:Int),.int .i64 (m.h.pending.length:Int),.slice af m.h.freed.length kf9]) ?_ rfl ?_
     ·simp [results,Tryz.results24,go_sem,q0,q1,q2,q3,q4,q5,q6]
     ·have hge:∀ g,(Value.slice af m.h.freed.length kf9).ownBlock=some g->w5.heap.size<=g:=fun g e=>(H9.o.2.lt g e).1
      have hws:w.heap.size<=w5.heap.size:=(HK5.o.trans (HKZ.o.mono (fun b e=>.inr (.inl e)))).size
      exact kU (a:=⟨0,m.id,(m.h.live:Int),(m.h.bytes:Int),(m.h.state:Int),(m.h.pending.length:Int),m.h.freed⟩) (r:=⟨m.h,m.root,0⟩) (fv:=.slice af m.h.freed.length kf9) (Y:=X+1) (w3:=w9)
       ((HK5.o.trans (HKZ.o.mono (fun b e=>.inr (.inl e)))).trans (Keeps.of H9.o.1 (Nat.le_refl _) _))
       ((HZ.o.low H9.o.1).less (.slice af m.h.freed.length kf9) (fun g e=>⟨HZ.o.x.a.past (hge g e),(au H9.o.2 e).lt⟩))
       (fun b e=>HSS.o.1 b e.1) HSS.o.2.1 (fun e=>HSS.o.2.2.2 e.1) hYR HYV5.o HKO.o (by omega)
       (fq (aj H9.o.2 HKO.o (fun g hg e=>ak H9.o.2 HY9.o (by decide) (e ▸ hg))) hws) (fun g e y=>y.2 e)
end Go.Proofs.YtedpifhlffcmkaaGreatDoor
