import Derived.Test.YtedpifhlffcmkaaGreatDoorKHUD0
import Derived.Deep.RegionLaw
namespace Go.Proofs.YtedpifhlffcmkaaGreatDoor
open Go Go.RowKit
set_option maxHeartbeats 6400000
set_option maxRecDepth 100000
set_option linter.unusedVariables false
variable {R base hand n:Nat} {S:Nat->Prop} {h:Hp} {o:Ob} {root:List Bool} {rv:Value} {w:World}
theorem eO (h:Hp) (n:Nat):(h.EK n).objs.length=h.objs.length/\(h.EK n).roots=h.roots:=⟨h.El n _,rfl⟩
theorem CY {L:SM} (x:RW base S h L R hand rv root w) (g:Gd h) (ho:h.ob n=some o) (B C:Int):
 Calls Tryz.prog 34 #[.pointer (some ⟨R,0,none⟩),.agg #[.int .i64 5,.int .i64 (n:Int),.int .i64 B,.int .i64 C]] w (dS base S R hand rv w (if o.fin then 4 else 0) 0 (if o.fin then h else h.EK n) root):=by
 have HX:=ah (eT w 5 (n:Int) B C)
 have HB:=ah (aJ w (.cells #[.int .i64 5,.int .i64 (n:Int),.int .i64 B,.int .i64 C] 39))
 have HR:=ah (x.hole (.cells #[.int .i64 5,.int .i64 (n:Int),.int .i64 B,.int .i64 C] 39))
 clear x
 have hnl:=Hp.Es ho
 have hni:(n:Int)<(h.objs.length:Int):=by omega
 have hfl:h.finals.length<=5000:=by have:=g.s.fp;omega
 have hl9:=g.s.len
 have HO:=ah ho
 have hps:=g.i.ps
 clear ho
 cases hf:o.fin with
 |true=>
  rw [if_pos rfl,if_pos rfl]
  have HF:=ah hf
  clear hf
  go_enter Tryz.func34,Tryz.ntmps34
  go_upto_region 1 with (fail)
  generalize w.alloc (.cells #[.int .i64 5,.int .i64 (n:Int),.int .i64 B,.int .i64 C] 39)=w1 at *
  generalize hX:w.heap.size=X at *
  have x0:w1.cell? ⟨X,0,none⟩=some (.int .i64 5):=HX.o.cell (j:=0) (by omega)
  have x1:w1.cell? ⟨X,1,none⟩=some (.int .i64 (n:Int)):=HX.o.cell (j:=1) (by omega)
  have r0:w1.cell? ⟨R,0,none⟩=some (.pointer (some ⟨L.H,0,none⟩)):=HR.o.x.r.cell (j:=0) (by omega)
  obtain ⟨go,capo,hoS,hcapo,hcell⟩:=HR.o.x.a.slot hps
  have c0:w1.cell? ⟨L.H,0,none⟩=some (.slice (some ⟨go,0,none⟩) h.objs.length capo):=by rw [<-hoS];exact HR.o.x.a.hp.cell (j:=0) (by omega)
  have cn:=hcell n hnl
  obtain ⟨rr,hrr⟩:=HR.o.x.a.ob n o HO.o
  have c22:w1.cell? ⟨L.ob n,22,none⟩=some (.bool true):=by rw [<-HF.o];exact hrr.cell (j:=22) (by omega)
  clear hrr hcell hoS
  go_wp2_with fail
  go_quiet (fail)
  go_wp2_with fail
  have HB2:=ah (ay (Below.refl w1.heap.size w1) nq)
  generalize w1.drewN nq=w2 at *
  have HI2:=ah (HR.o.low HB2.o)
  have HX2:=ah (HX.o.keep (Keeps.of HB2.o (Nat.le_refl _) (fun _=>False)) (fun y=>y))
  clear x0 x1 r0 c0 cn c22
  go_wp2
  ((try simp only [Exit.inBlock,Exit.then]);refine bodyPost_ret (results_tmp2 rfl _ _ _) rfl ?_)
  exact dS.mk' (by rw [hX];exact HB.o) (fun b e=>e.1) (Keeps.of HB2.o (Nat.le_refl _) _) HI2.o
 |false=>
  rw [if_neg (by simp),if_neg (by simp)]
  have HF:=ah hf
  clear hf
  go_enter Tryz.func34,Tryz.ntmps34
  go_upto_region 1 with (fail)
  generalize w.alloc (.cells #[.int .i64 5,.int .i64 (n:Int),.int .i64 B,.int .i64 C] 39)=w1 at *
  generalize hX:w.heap.size=X at *
  have x0:w1.cell? ⟨X,0,none⟩=some (.int .i64 5):=HX.o.cell (j:=0) (by omega)
  have x1:w1.cell? ⟨X,1,none⟩=some (.int .i64 (n:Int)):=HX.o.cell (j:=1) (by omega)
  have r0:w1.cell? ⟨R,0,none⟩=some (.pointer (some ⟨L.H,0,none⟩)):=HR.o.x.r.cell (j:=0) (by omega)
  obtain ⟨go,capo,hoS,hcapo,hcell⟩:=HR.o.x.a.slot hps
  have c0:w1.cell? ⟨L.H,0,none⟩=some (.slice (some ⟨go,0,none⟩) h.objs.length capo):=by rw [<-hoS];exact HR.o.x.a.hp.cell (j:=0) (by omega)
  have cn:=hcell n hnl
  obtain ⟨rr,hrr⟩:=HR.o.x.a.ob n o HO.o
  have c22:w1.cell? ⟨L.ob n,22,none⟩=some (.bool false):=by rw [<-HF.o];exact hrr.cell (j:=22) (by omega)
  clear hrr hcell hoS
  go_wp2_with fail
  go_quiet (fail)
  go_wp2_with fail
  have HB2:=ah (ay (Below.refl w1.heap.size w1) nq)
  generalize w1.drewN nq=w2 at *
  have HI2:=ah (HR.o.low HB2.o)
  have HX2:=ah (HX.o.keep (Keeps.of HB2.o (Nat.le_refl _) (fun _=>False)) (fun y=>y))
  clear x0 x1 r0 c0 cn c22
  obtain ⟨go2,capo2,hoS2,hcapo2,hcell2⟩:=HI2.o.x.a.slot hps
  have d0:w2.cell? ⟨L.H,0,none⟩=some (.slice (some ⟨go2,0,none⟩) h.objs.length capo2):=by rw [<-hoS2];exact HI2.o.x.a.hp.cell (j:=0) (by omega)
  have dn:=hcell2 n hnl
  have d1:w2.cell? ⟨X,1,none⟩=some (.int .i64 (n:Int)):=HX2.o.cell (j:=1) (by omega)
  obtain ⟨rr2,hrr2⟩:=HI2.o.x.a.ob n o HO.o
  have d22:w2.cell? ⟨L.ob n,22,none⟩=some (.bool o.fin):=hrr2.cell (j:=22) (by omega)
  have z22:=hrr2.Jv 22
  have HW:=ah (HI2.o.x.a.JE n 22 (.bool true) (fun o=>{ o with fin:=true }) (by decide) HO.o ⟨rfl,rfl⟩ (fun r i=>by
   unfold jw
   by_cases x:i=22
   ·subst x;simp
   ·simp [x]))
  have hXo:X≠L.ob n:=fun e=>HX2.o.apart hrr2 (by decide) e
  have HX3:=ah (HX2.o.keep (Keeps.setCell (S:=fun b=>b=L.ob n) (Keeps.refl w2 _) (g:=L.ob n) (j:=22) rfl (.bool true)) (fun e=>hXo e))
  clear hrr2 hcell2 hoS2
  go_wp2_with fail
  go_cut [] (fun wc=>Hq (JU base (fun b=>S b/\b≠X) (h.upd n fun o=>{ o with fin:=true }) L wc/\Keeps w2 wc (fun b=>S b/\b≠X)/\aD wc 39 X 4 (fun j=>[Value.int .i64 5,.int .i64 (n:Int),.int .i64 B,.int .i64 C].getD j (.bool false))))
  case first=>
   go_region
   all_goals
    go_wp2_with fail
    go_meet
    exact ⟨HW.o.1.low (ay (Below.refl _ _) 1),HW.o.2.trans (Keeps.of (ay (Below.refl _ _) 1) (Nat.le_refl _) _),HX3.o.keep (Keeps.of (ay (Below.refl _ _) 1) (Nat.le_refl _) (fun _=>False)) (fun y=>y)⟩
  case rest=>
  have HC:=ah hcut.out
  clear hcut HW HX3 d0 dn d1 d22 z22
  rename World=>w3
  obtain ⟨af,cf,hfv⟩:=aF (HC.o.1.li 11 (by simp [cB]))
  have c11:w3.cell? ⟨L.H,11,none⟩=some (.slice af h.finals.length cf):=by
   have:=HC.o.1.hp.cell (j:=11) (by omega)
   rw [this]
   exact congrArg some hfv
  have e1:w3.cell? ⟨X,1,none⟩=some (.int .i64 (n:Int)):=HC.o.2.2.cell (j:=1) (by omega)
  have HFV:=ah hfv
  have hLl:=HC.o.1.hp.lt
  have hXl:=HC.o.2.2.lt
  clear hfv
  go_wp2_with fail
  go_region_law (
   refine je (wr:=w3) _ _ rfl base (.slice af h.finals.length cf) h.finals n (by have:=HC.o.1.li 11 (by simp [cB]);rw [HFV.o] at this;exact this) rfl rfl (by omega) HC.o.1.bs ?_
   intro v' w8 hv1 hv2 hv3
   obtain ⟨a8,k8,rfl⟩:=aF hv1
   have H8:=ah (HC.o.1.Gm (w1:=w8) 11 (by simp [cB]) (by rw [HFV.o];exact hv2) (.slice a8 (h.finals++[n]).length k8) (h.finals++[n]) hv1 (by rw [HFV.o];exact hv3))
   have g11:w8.cell? ⟨L.H,11,none⟩=some (.slice af h.finals.length cf):=by
    have:=H8.o.1.cell (j:=11) (by omega)
    rw [this]
    exact congrArg some HFV.o
   have f11:=H8.o.1.Jv 11
   clear hv1 hv2 hv3)
  all_goals
   have h9:=H8.o.2
   have e9:(h.finals++[n]).length=h.finals.length+1:=by simp
   rw [e9] at h9
   have H9:=ah h9
   clear h9 e9
   go_wp2
   ((try simp only [Exit.inBlock,Exit.then]);refine bodyPost_ret (results_tmp2 rfl _ _ _) rfl ?_)
   exact dS.mk' (by rw [hX];exact HB.o) (fun b e=>e.1) ((Keeps.of HB2.o (Nat.le_refl _) _).trans (HC.o.2.1.trans H9.o.2)) (HI2.o.heap (h':=h.EK n) H9.o.1 rfl (HC.o.2.1.trans H9.o.2) (eO h n).1 (eO h n).2)
end Go.Proofs.YtedpifhlffcmkaaGreatDoor
