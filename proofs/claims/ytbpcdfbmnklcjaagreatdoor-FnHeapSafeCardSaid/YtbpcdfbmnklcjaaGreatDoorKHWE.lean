import Derived.Test.YtbpcdfbmnklcjaaGreatDoorKHWA
import Derived.Deep.RegionLaw
namespace Go.Proofs.YtbpcdfbmnklcjaaGreatDoor
open Go Go.RowKit
set_option maxHeartbeats 6400000
set_option maxRecDepth 100000
set_option linter.unusedVariables false
variable {R base hand n:Nat} {S:Nat->Prop} {h:Hp} {o:Ob} {root:List Bool} {rv:Value} {w:World}
theorem fP (h:Hp) (n:Nat):(h.Iu n).objs.length=h.objs.length/\(h.Iu n).roots=h.roots:=⟨h.Hu n _,rfl⟩
theorem Fa {L:SM} (x:RW base S h L R hand rv root w) (g:Gd h) (ho:h.ob n=some o) (B C:Int):
 Calls Tryz.prog 34 #[.pointer (some ⟨R,0,none⟩),.agg #[.int .i64 5,.int .i64 (n:Int),.int .i64 B,.int .i64 C]] w (gF base S R hand rv w (if o.fin then 4 else 0) 0 (if o.fin then h else h.Iu n) root):=by
 have P:=ah (fK w 5 (n:Int) B C);have HB:=ah (aU w (.cells #[.int .i64 5,.int .i64 (n:Int),.int .i64 B,.int .i64 C] 39));have u:=ah (x.hole (.cells #[.int .i64 5,.int .i64 (n:Int),.int .i64 B,.int .i64 C] 39));clear x;have G:=Hp.Hy ho;have a3:(n:Int)<(h.objs.length:Int):=by omega
 have a5:h.finals.length<=5000:=by have:=g.s.fp;omega
 have a4:=g.s.len;have W:=ah ho;have F:=g.i.ps;clear ho;cases hf:o.fin with
 |true=>
  rw [if_pos rfl,if_pos rfl];have HF:=ah hf;clear hf;go_enter Tryz.func34,Tryz.ntmps34;go_upto_region 1 with (fail)
  generalize w.alloc (.cells #[.int .i64 5,.int .i64 (n:Int),.int .i64 B,.int .i64 C] 39)=w1 at *;generalize hX:w.heap.size=X at *;have x0:w1.cell? ⟨X,0,none⟩=some (.int .i64 5):=P.o.c 0;have x1:w1.cell? ⟨X,1,none⟩=some (.int .i64 (n:Int)):=P.o.c 1;have r0:w1.cell? ⟨R,0,none⟩=some (.pointer (some ⟨L.H,0,none⟩)):=u.o.x.r.c 0;obtain ⟨go,t,q,K,d⟩:=u.o.x.a.slot F;have c0:w1.cell? ⟨L.H,0,none⟩=some (.slice (some ⟨go,0,none⟩) h.objs.length t):=by rw [<-q];exact u.o.x.a.hp.c 0
  have cn:=d n G;obtain ⟨rr,p⟩:=u.o.x.a.ob n o W.o;have N:w1.cell? ⟨L.ob n,22,none⟩=some (.bool true):=by rw [<-HF.o];exact p.c 22
  clear p d q;go_wp2_with fail;go_quiet (fail);go_wp2_with fail;have k:=ah (aC (aG w1.heap.size w1) nq);generalize w1.drewN nq=w2 at *;have f:=ah (u.o.low k.o);have z:=ah (P.o.keep (Keeps.of k.o (au _) (fun _=>False)) (fun y=>y));clear x0 x1 r0 c0 cn N;go_wp2
  ((try simp only [Exit.inBlock,Exit.then]);refine bodyPost_ret (results_tmp2 rfl _ _ _) rfl ?_)
  exact gF.mk' (by rw [hX];exact HB.o) (fun b e=>e.1) (Keeps.of k.o (au _) _) f.o
 |false=>
  rw [if_neg (by simp),if_neg (by simp)];have HF:=ah hf;clear hf;go_enter Tryz.func34,Tryz.ntmps34;go_upto_region 1 with (fail)
  generalize w.alloc (.cells #[.int .i64 5,.int .i64 (n:Int),.int .i64 B,.int .i64 C] 39)=w1 at *;generalize hX:w.heap.size=X at *;have x0:w1.cell? ⟨X,0,none⟩=some (.int .i64 5):=P.o.c 0;have x1:w1.cell? ⟨X,1,none⟩=some (.int .i64 (n:Int)):=P.o.c 1;have r0:w1.cell? ⟨R,0,none⟩=some (.pointer (some ⟨L.H,0,none⟩)):=u.o.x.r.c 0;obtain ⟨go,t,q,K,d⟩:=u.o.x.a.slot F;have c0:w1.cell? ⟨L.H,0,none⟩=some (.slice (some ⟨go,0,none⟩) h.objs.length t):=by rw [<-q];exact u.o.x.a.hp.c 0
  have cn:=d n G;obtain ⟨rr,p⟩:=u.o.x.a.ob n o W.o;have N:w1.cell? ⟨L.ob n,22,none⟩=some (.bool false):=by rw [<-HF.o];exact p.c 22
  clear p d q;go_wp2_with fail;go_quiet (fail);go_wp2_with fail;have k:=ah (aC (aG w1.heap.size w1) nq);generalize w1.drewN nq=w2 at *;have f:=ah (u.o.low k.o);have z:=ah (P.o.keep (Keeps.of k.o (au _) (fun _=>False)) (fun y=>y));clear x0 x1 r0 c0 cn N;obtain ⟨a0,M,D,V,m⟩:=f.o.x.a.slot F;have d0:w2.cell? ⟨L.H,0,none⟩=some (.slice (some ⟨a0,0,none⟩) h.objs.length M):=by rw [<-D];exact f.o.x.a.hp.c 0
  have dn:=m n G;have d1:w2.cell? ⟨X,1,none⟩=some (.int .i64 (n:Int)):=z.o.c 1;obtain ⟨a2,l⟩:=f.o.x.a.ob n o W.o;have a1:w2.cell? ⟨L.ob n,22,none⟩=some (.bool o.fin):=l.c 22;have Y:=l.Nq 22;have HW:=ah (f.o.x.a.M0 n 22 (.bool true) (fun o=>{ o with fin:=true }) (by decide) W.o ⟨rfl,rfl⟩ (fun r i=>by
   unfold kY;by_cases x:i=22
   ·subst x;simp
   ·simp [x]))
  have Z:X≠L.ob n:=fun e=>z.o.apart l (by decide) e;have U:=ah (z.o.keep (Keeps.setCell (S:=fun b=>b=L.ob n) (Keeps.refl w2 _) (g:=L.ob n) (j:=22) rfl (.bool true)) (fun e=>Z e));clear l m D;go_wp2_with fail
  go_cut [] (fun wc=>Hq (MW base (fun b=>S b/\b≠X) (h.upd n fun o=>{ o with fin:=true }) L wc/\Keeps w2 wc (fun b=>S b/\b≠X)/\aD wc 39 X 4 (fun j=>[Value.int .i64 5,.int .i64 (n:Int),.int .i64 B,.int .i64 C].getD j (.bool false))))
  case first=>
   go_region
   all_goals
    go_wp2_with fail;go_meet;exact ⟨HW.o.1.low (aC (aG _ _) 1),HW.o.2.trans (Keeps.of (aC (aG _ _) 1) (au _) _),U.o.keep (Keeps.of (aC (aG _ _) 1) (au _) (fun _=>False)) (fun y=>y)⟩
  case rest=>
  have v:=ah hcut.out;clear hcut HW U d0 dn d1 a1 Y;rename World=>w3;obtain ⟨af,cf,J⟩:=aF (v.o.1.li 11 (by simp [eO]));have b1:w3.cell? ⟨L.H,11,none⟩=some (.slice af h.finals.length cf):=by
   have:=v.o.1.hp.c 11;rw [this];exact congrArg some J
  have e1:w3.cell? ⟨X,1,none⟩=some (.int .i64 (n:Int)):=v.o.2.2.c 1;have A:=ah J;have a7:=v.o.1.hp.lt;have a6:=v.o.2.2.lt;clear J;go_wp2_with fail
  go_region_law (
   refine kV (wr:=w3) _ _ rfl base (.slice af h.finals.length cf) h.finals n (by have:=v.o.1.li 11 (by simp [eO]);rw [A.o] at this;exact this) rfl rfl (by omega) v.o.1.bs ?_;intro v' w8 E T Q;obtain ⟨a8,k8,rfl⟩:=aF E;have H8:=ah (v.o.1.JV (w1:=w8) 11 (by simp [eO]) (by rw [A.o];exact T) (.slice a8 (h.finals++[n]).length k8) (h.finals++[n]) E (by rw [A.o];exact Q));have a9:w8.cell? ⟨L.H,11,none⟩=some (.slice af h.finals.length cf):=by
    have:=H8.o.1.c 11;rw [this];exact congrArg some A.o
   have b0:=H8.o.1.Nq 11;clear E T Q)
  all_goals
   have h9:=H8.o.2;have e9:(h.finals++[n]).length=h.finals.length+1:=by simp
   rw [e9] at h9;have H9:=ah h9;clear h9 e9;go_wp2
   ((try simp only [Exit.inBlock,Exit.then]);refine bodyPost_ret (results_tmp2 rfl _ _ _) rfl ?_)
   exact gF.mk' (by rw [hX];exact HB.o) (fun b e=>e.1) ((Keeps.of k.o (au _) _).trans (v.o.2.1.trans H9.o.2)) (f.o.heap (h':=h.Iu n) H9.o.1 rfl (v.o.2.1.trans H9.o.2) (fP h n).1 (fP h n).2)
end Go.Proofs.YtbpcdfbmnklcjaaGreatDoor
