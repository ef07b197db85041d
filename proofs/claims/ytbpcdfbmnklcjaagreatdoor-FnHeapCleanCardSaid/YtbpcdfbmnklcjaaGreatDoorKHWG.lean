import Derived.Test.YtbpcdfbmnklcjaaGreatDoorKHWA
import Derived.Test.YtbpcdfbmnklcjaaGreatDoorKHUD
import Derived.Deep.RegionLaw
namespace Go.Proofs.YtbpcdfbmnklcjaaGreatDoor
open Go Go.RowKit
set_option maxHeartbeats 6400000
set_option maxRecDepth 100000
set_option linter.unusedVariables false
section
variable {R base cap hand n:Nat} {S:Nat->Prop} {h:Hp} {root:List Bool} {rv:Value} {w:World}
theorem Cq (root:List Bool) (n:Nat) (b:Bool):(iQ root).set n (.bool b)=iQ (root.set n b):=by unfold iQ;rw [List.map_set]
theorem RW.mark {L:SM} (x:RW base S h L R hand rv root w) {g:Nat} (d:rv=.slice (some ⟨g,0,none⟩) root.length cap) (j:n<root.length) (b:Bool):
 MV base S h L (w.setCell ⟨g,n,none⟩ (.bool b))/\aD (w.setCell ⟨g,n,none⟩ (.bool b)) 61 R 3 (Es L.H rv hand)/\(w.setCell ⟨g,n,none⟩ (.bool b)).ownsRow base 4 1 rv (root.set n b).length (iQ (root.set n b))/\Keeps w (w.setCell ⟨g,n,none⟩ (.bool b)) (fun c=>c=g):=by
 have f:rv.ownBlock=some g:=by rw [d];simp [Value.ownBlock]
 have hr:=ay x.x.v f;have kk:Keeps w (w.setCell ⟨g,n,none⟩ (.bool b)) (fun c=>c=g):=Keeps.setCell (S:=fun c=>c=g) (Keeps.refl w _) rfl _;refine ⟨x.x.a.out (kk.mono (fun c e=>e ▸ x.nb g f)),x.x.r.keep kk (fun e=>x.x.r.apart hr (by decide) e),?_,kk⟩;have i:=x.x.v;rw [d] at i ⊢;rw [bX,<-Cq];exact aL i (by omega) _
theorem RW.KJ {L:SM} (x:RW base S h L R hand rv root w) (hp:1<=root.length):∃ g cap,rv=.slice (some ⟨g,0,none⟩) root.length cap/\root.length<=cap:=by
 obtain ⟨d,⟨_,f⟩|⟨g,cap,c,b,hb,e,a,hr⟩⟩:=x.x.v
 ·omega
 ·exact ⟨g,cap,b,a⟩
def dJ (root:List Bool) (n:Nat) (B:Int):List Bool:=root.set n (decide (B=1))
theorem Fq {L:SM} (x:RW base S h L R hand rv root w) (a5:h.objs.length<=5001) (a4:1<=n) (hn:n<h.objs.length) (B C:Int):
 Calls Tryz.prog 34 #[.pointer (some ⟨R,0,none⟩),.agg #[.int .i64 4,.int .i64 (n:Int),.int .i64 B,.int .i64 C]] w (gF base S R hand rv w (if B≠0/\B≠1 then 2 else 0) 0 (if B≠0/\B≠1 then h else h.Hf (dR 0 (dJ root n B))) (if B≠0/\B≠1 then root else dJ root n B)):=by
 have F:=ah (fO w 4 (n:Int) B C);have HB:=ah (aU w (.cells #[.int .i64 4,.int .i64 (n:Int),.int .i64 B,.int .i64 C] 39));have a:=ah (x.hole (.cells #[.int .i64 4,.int .i64 (n:Int),.int .i64 B,.int .i64 C] 39));have N:=x.x.l;have T:n<root.length:=by omega
 have a2:(n:Int)<(root.length:Int):=by omega
 have Q:root.length<=5001:=by omega
 have W:=ah N;clear x N;by_cases A:B≠0/\B≠1
 ·rw [if_pos A,if_pos A,if_pos A]
  have b0:(B !=0)=true:=by simpa using A.1
  have b1:(B !=1)=true:=by simpa using A.2
  clear A;go_enter Tryz.func34,Tryz.ntmps34;go_upto_region 1 with (fail)
  generalize w.alloc (.cells #[.int .i64 4,.int .i64 (n:Int),.int .i64 B,.int .i64 C] 39)=w1 at *;generalize U:w.heap.size=X at *;have x0:w1.cell? ⟨X,0,none⟩=some (.int .i64 4):=F.o.c 0;have Z:w1.cell? ⟨X,2,none⟩=some (.int .i64 B):=F.o.c 2;have r0:w1.cell? ⟨R,0,none⟩=some (.pointer (some ⟨L.H,0,none⟩)):=a.o.x.r.c 0;go_wp2
  ((try simp only [Exit.inBlock,Exit.then]);refine bodyPost_ret (results_tmp2 rfl _ _ _) rfl ?_)
  exact gF.mk' (by rw [U];exact HB.o) (fun b e=>e.1) (Keeps.refl _ _) a.o
 ·rw [if_neg A,if_neg A,if_neg A]
  have E:B=0∨B=1:=by omega
  clear A;obtain ⟨bb,m⟩:∃ bb:Bool,decide (B=1)=bb:=⟨_,rfl⟩
  have P:dJ root n B=root.set n bb:=by unfold dJ;rw [m]
  rw [P];have a6:(B==1)=bb:=by rw [<-m];rcases E with rfl|rfl<;>rfl
  have a3:(B !=0)=bb:=by rw [<-m];rcases E with rfl|rfl<;>rfl
  have a1:(B !=1)=!bb:=by rw [<-m];rcases E with rfl|rfl<;>rfl
  clear P m E;cases bb with
  |true=>
   go_enter Tryz.func34,Tryz.ntmps34;go_upto_region 1 with (fail)
   generalize w.alloc (.cells #[.int .i64 4,.int .i64 (n:Int),.int .i64 B,.int .i64 C] 39)=w1 at *;generalize U:w.heap.size=X at *;have x0:w1.cell? ⟨X,0,none⟩=some (.int .i64 4):=F.o.c 0;have x1:w1.cell? ⟨X,1,none⟩=some (.int .i64 (n:Int)):=F.o.c 1;have Z:w1.cell? ⟨X,2,none⟩=some (.int .i64 B):=F.o.c 2;have r0:w1.cell? ⟨R,0,none⟩=some (.pointer (some ⟨L.H,0,none⟩)):=a.o.x.r.c 0;obtain ⟨gr,cr,d,a0⟩:=a.o.KJ (by omega);have r1:w1.cell? ⟨R,1,none⟩=some (.slice (some ⟨gr,0,none⟩) root.length cr):=by rw [<-d];exact a.o.x.r.c 1
   have f:=ay a.o.x.v (g:=gr) (by rw [d];simp [Value.ownBlock]);have gn:=f.c n;have zn:=f.ME n;have z:=ah (a.o.mark d T true);have t:=ah d;clear f d;go_wp2_with fail
   go_cut [] (fun wc=>Hq (wc=(w1.setCell ⟨gr,n,none⟩ (.bool true)).drew))
   case first=>
    go_region
    all_goals
     go_wp2_with fail;go_meet;exact rfl
   case rest=>
   have Y:=ah hcut.out;clear hcut x0 x1 Z r0 r1 gn zn;rename World=>w3;have k:=ah (show Below (w1.setCell ⟨gr,n,none⟩ (.bool true)).heap.size (w1.setCell ⟨gr,n,none⟩ (.bool true)) w3 by rw [Y.o];exact aC (aT _ _) 1);have D:=Keeps.of k.o (au _) (fun _=>False);have M:=ah (z.o.1.low k.o);have u:=ah (z.o.2.1.keep D (fun y=>y));have s:=ah (aj z.o.2.2.1 D (fun _ _ y=>y));have K:=ah (z.o.2.2.2.trans (D.mono (fun b y=>y.elim)));clear D Y k z;have j:(root.set n true)[0]?=some false:=by
    rw [gD,if_neg (by omega)];exact a.o.r0
   have J:=ah j;have G:=ah (jy M.o u.o a.o.nR s.o a.o.nb (by rw [bX];omega) (by rw [bX];exact Q) j);clear j;go_wp2_with fail;refine G.o.mono ?_;rintro e4 w4 ⟨rfl,i,V,q,p⟩;have H4:=ah (show RW base (fun b=>S b/\b≠X) (h.Hf (dR 0 (root.set n true))) V R hand rv (root.set n true) w4 from
    ⟨⟨p,by rw [q];exact u.o.keep i a.o.nR,aj s.o i a.o.nb,by rw [bX];exact W.o,rfl⟩,a.o.nR,a.o.nb,J.o⟩)
   have K4:=ah i;clear p i q;go_wp2
   ((try simp only [Exit.inBlock,Exit.then]);refine bodyPost_ret (results_tmp2 rfl _ _ _) rfl ?_)
   refine ⟨rfl,?_,_,V,rv,H4.o,fun b e=>e.1,fun g e=>.inl e⟩;exact (Keeps.of HB.o (aO U) _).trans ((K.o.mono (fun b e=>Or.inr (Or.inr (by rw [e,t.o];simp [Value.ownBlock])))).trans (K4.o.mono (fun b e=>Or.inl e.1)))
  |false=>
   go_enter Tryz.func34,Tryz.ntmps34;go_upto_region 1 with (fail)
   generalize w.alloc (.cells #[.int .i64 4,.int .i64 (n:Int),.int .i64 B,.int .i64 C] 39)=w1 at *;generalize U:w.heap.size=X at *;have x0:w1.cell? ⟨X,0,none⟩=some (.int .i64 4):=F.o.c 0;have x1:w1.cell? ⟨X,1,none⟩=some (.int .i64 (n:Int)):=F.o.c 1;have Z:w1.cell? ⟨X,2,none⟩=some (.int .i64 B):=F.o.c 2;have r0:w1.cell? ⟨R,0,none⟩=some (.pointer (some ⟨L.H,0,none⟩)):=a.o.x.r.c 0;obtain ⟨gr,cr,d,a0⟩:=a.o.KJ (by omega);have r1:w1.cell? ⟨R,1,none⟩=some (.slice (some ⟨gr,0,none⟩) root.length cr):=by rw [<-d];exact a.o.x.r.c 1
   have f:=ay a.o.x.v (g:=gr) (by rw [d];simp [Value.ownBlock]);have gn:=f.c n;have zn:=f.ME n;have z:=ah (a.o.mark d T false);have t:=ah d;clear f d;go_wp2_with fail
   go_cut [] (fun wc=>Hq (wc=(w1.setCell ⟨gr,n,none⟩ (.bool false)).drew))
   case first=>
    go_region
    all_goals
     go_wp2_with fail;go_meet;exact rfl
   case rest=>
   have Y:=ah hcut.out;clear hcut x0 x1 Z r0 r1 gn zn;rename World=>w3;have k:=ah (show Below (w1.setCell ⟨gr,n,none⟩ (.bool false)).heap.size (w1.setCell ⟨gr,n,none⟩ (.bool false)) w3 by rw [Y.o];exact aC (aT _ _) 1);have D:=Keeps.of k.o (au _) (fun _=>False);have M:=ah (z.o.1.low k.o);have u:=ah (z.o.2.1.keep D (fun y=>y));have s:=ah (aj z.o.2.2.1 D (fun _ _ y=>y));have K:=ah (z.o.2.2.2.trans (D.mono (fun b y=>y.elim)));clear D Y k z;have j:(root.set n false)[0]?=some false:=by
    rw [gD,if_neg (by omega)];exact a.o.r0
   have J:=ah j;have G:=ah (jy M.o u.o a.o.nR s.o a.o.nb (by rw [bX];omega) (by rw [bX];exact Q) j);clear j;go_wp2_with fail;refine G.o.mono ?_;rintro e4 w4 ⟨rfl,i,V,q,p⟩;have H4:=ah (show RW base (fun b=>S b/\b≠X) (h.Hf (dR 0 (root.set n false))) V R hand rv (root.set n false) w4 from
    ⟨⟨p,by rw [q];exact u.o.keep i a.o.nR,aj s.o i a.o.nb,by rw [bX];exact W.o,rfl⟩,a.o.nR,a.o.nb,J.o⟩)
   have K4:=ah i;clear p i q;go_wp2
   ((try simp only [Exit.inBlock,Exit.then]);refine bodyPost_ret (results_tmp2 rfl _ _ _) rfl ?_)
   refine ⟨rfl,?_,_,V,rv,H4.o,fun b e=>e.1,fun g e=>.inl e⟩;exact (Keeps.of HB.o (aO U) _).trans ((K.o.mono (fun b e=>Or.inr (Or.inr (by rw [e,t.o];simp [Value.ownBlock])))).trans (K4.o.mono (fun b e=>Or.inl e.1)))
end
section
variable {R base hand n:Nat} {S:Nat->Prop} {h:Hp} {o:Ob} {root:List Bool} {rv:Value} {w:World}
theorem fP (h:Hp) (n:Nat):(h.IB n).objs.length=h.objs.length/\(h.IB n).roots=h.roots:=⟨h.Hz n _,rfl⟩
theorem FU {L:SM} (x:RW base S h L R hand rv root w) (g:Gd h) (ho:h.ob n=some o) (B C:Int):
 Calls Tryz.prog 34 #[.pointer (some ⟨R,0,none⟩),.agg #[.int .i64 5,.int .i64 (n:Int),.int .i64 B,.int .i64 C]] w (gF base S R hand rv w (if o.fin then 4 else 0) 0 (if o.fin then h else h.IB n) root):=by
 have P:=ah (fO w 5 (n:Int) B C);have HB:=ah (aU w (.cells #[.int .i64 5,.int .i64 (n:Int),.int .i64 B,.int .i64 C] 39));have u:=ah (x.hole (.cells #[.int .i64 5,.int .i64 (n:Int),.int .i64 B,.int .i64 C] 39));clear x;have G:=Hp.Ia ho;have a3:(n:Int)<(h.objs.length:Int):=by omega
 have a5:h.finals.length<=5000:=by have:=g.s.fp;omega
 have a4:=g.s.len;have W:=ah ho;have F:=g.i.ps;clear ho;cases hf:o.fin with
 |true=>
  rw [if_pos rfl,if_pos rfl];have HF:=ah hf;clear hf;go_enter Tryz.func34,Tryz.ntmps34;go_upto_region 1 with (fail)
  generalize w.alloc (.cells #[.int .i64 5,.int .i64 (n:Int),.int .i64 B,.int .i64 C] 39)=w1 at *;generalize hX:w.heap.size=X at *;have x0:w1.cell? ⟨X,0,none⟩=some (.int .i64 5):=P.o.c 0;have x1:w1.cell? ⟨X,1,none⟩=some (.int .i64 (n:Int)):=P.o.c 1;have r0:w1.cell? ⟨R,0,none⟩=some (.pointer (some ⟨L.H,0,none⟩)):=u.o.x.r.c 0;obtain ⟨go,t,q,K,d⟩:=u.o.x.a.slot F;have c0:w1.cell? ⟨L.H,0,none⟩=some (.slice (some ⟨go,0,none⟩) h.objs.length t):=by rw [<-q];exact u.o.x.a.hp.c 0
  have cn:=d n G;obtain ⟨rr,p⟩:=u.o.x.a.ob n o W.o;have N:w1.cell? ⟨L.ob n,22,none⟩=some (.bool true):=by rw [<-HF.o];exact p.c 22
  clear p d q;go_wp2_with fail;go_quiet (fail);go_wp2_with fail;have k:=ah (aC (aT w1.heap.size w1) nq);generalize w1.drewN nq=w2 at *;have f:=ah (u.o.low k.o);have z:=ah (P.o.keep (Keeps.of k.o (au _) (fun _=>False)) (fun y=>y));clear x0 x1 r0 c0 cn N;go_wp2
  ((try simp only [Exit.inBlock,Exit.then]);refine bodyPost_ret (results_tmp2 rfl _ _ _) rfl ?_)
  exact gF.mk' (by rw [hX];exact HB.o) (fun b e=>e.1) (Keeps.of k.o (au _) _) f.o
 |false=>
  rw [if_neg (by simp),if_neg (by simp)];have HF:=ah hf;clear hf;go_enter Tryz.func34,Tryz.ntmps34;go_upto_region 1 with (fail)
  generalize w.alloc (.cells #[.int .i64 5,.int .i64 (n:Int),.int .i64 B,.int .i64 C] 39)=w1 at *;generalize hX:w.heap.size=X at *;have x0:w1.cell? ⟨X,0,none⟩=some (.int .i64 5):=P.o.c 0;have x1:w1.cell? ⟨X,1,none⟩=some (.int .i64 (n:Int)):=P.o.c 1;have r0:w1.cell? ⟨R,0,none⟩=some (.pointer (some ⟨L.H,0,none⟩)):=u.o.x.r.c 0;obtain ⟨go,t,q,K,d⟩:=u.o.x.a.slot F;have c0:w1.cell? ⟨L.H,0,none⟩=some (.slice (some ⟨go,0,none⟩) h.objs.length t):=by rw [<-q];exact u.o.x.a.hp.c 0
  have cn:=d n G;obtain ⟨rr,p⟩:=u.o.x.a.ob n o W.o;have N:w1.cell? ⟨L.ob n,22,none⟩=some (.bool false):=by rw [<-HF.o];exact p.c 22
  clear p d q;go_wp2_with fail;go_quiet (fail);go_wp2_with fail;have k:=ah (aC (aT w1.heap.size w1) nq);generalize w1.drewN nq=w2 at *;have f:=ah (u.o.low k.o);have z:=ah (P.o.keep (Keeps.of k.o (au _) (fun _=>False)) (fun y=>y));clear x0 x1 r0 c0 cn N;obtain ⟨a0,M,D,V,m⟩:=f.o.x.a.slot F;have d0:w2.cell? ⟨L.H,0,none⟩=some (.slice (some ⟨a0,0,none⟩) h.objs.length M):=by rw [<-D];exact f.o.x.a.hp.c 0
  have dn:=m n G;have d1:w2.cell? ⟨X,1,none⟩=some (.int .i64 (n:Int)):=z.o.c 1;obtain ⟨a2,l⟩:=f.o.x.a.ob n o W.o;have a1:w2.cell? ⟨L.ob n,22,none⟩=some (.bool o.fin):=l.c 22;have Y:=l.ME 22;have HW:=ah (f.o.x.a.Mk n 22 (.bool true) (fun o=>{ o with fin:=true }) (by decide) W.o ⟨rfl,rfl⟩ (fun r i=>by
   unfold kY;by_cases x:i=22
   ·subst x;simp
   ·simp [x]))
  have Z:X≠L.ob n:=fun e=>z.o.apart l (by decide) e;have U:=ah (z.o.keep (Keeps.setCell (S:=fun b=>b=L.ob n) (Keeps.refl w2 _) (g:=L.ob n) (j:=22) rfl (.bool true)) (fun e=>Z e));clear l m D;go_wp2_with fail
  go_cut [] (fun wc=>Hq (MV base (fun b=>S b/\b≠X) (h.upd n fun o=>{ o with fin:=true }) L wc/\Keeps w2 wc (fun b=>S b/\b≠X)/\aD wc 39 X 4 (fun j=>[Value.int .i64 5,.int .i64 (n:Int),.int .i64 B,.int .i64 C].getD j (.bool false))))
  case first=>
   go_region
   all_goals
    go_wp2_with fail;go_meet;exact ⟨HW.o.1.low (aC (aT _ _) 1),HW.o.2.trans (Keeps.of (aC (aT _ _) 1) (au _) _),U.o.keep (Keeps.of (aC (aT _ _) 1) (au _) (fun _=>False)) (fun y=>y)⟩
  case rest=>
  have v:=ah hcut.out;clear hcut HW U d0 dn d1 a1 Y;rename World=>w3;obtain ⟨af,cf,J⟩:=aF (v.o.1.li 11 (by simp [eO]));have b1:w3.cell? ⟨L.H,11,none⟩=some (.slice af h.finals.length cf):=by
   have:=v.o.1.hp.c 11;rw [this];exact congrArg some J
  have e1:w3.cell? ⟨X,1,none⟩=some (.int .i64 (n:Int)):=v.o.2.2.c 1;have A:=ah J;have a7:=v.o.1.hp.lt;have a6:=v.o.2.2.lt;clear J;go_wp2_with fail
  go_region_law (
   refine kW (wr:=w3) _ _ rfl base (.slice af h.finals.length cf) h.finals n (by have:=v.o.1.li 11 (by simp [eO]);rw [A.o] at this;exact this) rfl rfl (by omega) v.o.1.bs ?_;intro v' w8 E T Q;obtain ⟨a8,k8,rfl⟩:=aF E;have H8:=ah (v.o.1.JW (w1:=w8) 11 (by simp [eO]) (by rw [A.o];exact T) (.slice a8 (h.finals++[n]).length k8) (h.finals++[n]) E (by rw [A.o];exact Q));have a9:w8.cell? ⟨L.H,11,none⟩=some (.slice af h.finals.length cf):=by
    have:=H8.o.1.c 11;rw [this];exact congrArg some A.o
   have b0:=H8.o.1.ME 11;clear E T Q)
  all_goals
   have h9:=H8.o.2;have e9:(h.finals++[n]).length=h.finals.length+1:=by simp
   rw [e9] at h9;have H9:=ah h9;clear h9 e9;go_wp2
   ((try simp only [Exit.inBlock,Exit.then]);refine bodyPost_ret (results_tmp2 rfl _ _ _) rfl ?_)
   exact gF.mk' (by rw [hX];exact HB.o) (fun b e=>e.1) ((Keeps.of k.o (au _) _).trans (v.o.2.1.trans H9.o.2)) (f.o.heap (h':=h.IB n) H9.o.1 rfl (v.o.2.1.trans H9.o.2) (fP h n).1 (fP h n).2)
end
section
variable {H R base cap cap' hand m n:Nat} {S S' S1:Nat->Prop} {a':Option Addr} {h h1:Hp} {root rt:List Bool} {rv:Value} {w w' w0 ws:World}
structure RP (base:Nat) (S1:Nat->Prop) (R hand:Nat) (rv:Value) (w0:World) (h1:Hp) (H:Nat) (rt:List Bool) (a:Option Addr) (cap:Nat) (S':Nat->Prop) (L':SM) (ws:World):Prop where
 eH:L'.H=H
 s:MV base S' h1 L' ws
 r:aD ws 61 R 3 (Es H (.slice a rt.length cap) hand)
 v:ws.ownsRow base 4 1 (.slice a rt.length cap) rt.length (iQ rt)
 nR:¬ S' R
 nb:∀ g,(Value.slice a rt.length cap).ownBlock=some g->¬ S' g
 sub:∀ b,S' b->S1 b
 old:∀ g,(Value.slice a rt.length cap).ownBlock=some g->rv.ownBlock=some g∨S1 g
 kk:Keeps w0 ws (Zs S1 R rv)
theorem RP.push {a:Option Addr} {L':SM} (x:RP base S1 R hand rv w0 h1 H rt a cap S' L' ws) 
 (o:w'.ownsRow base 4 1 (.slice a' (rt.length+1) cap') (rt.length+1) (iQ rt++[.bool false])) (i:Keeps ws w' (fun b=>(Value.slice a rt.length cap).ownBlock=some b)) (l:∀ g,(Value.slice a' (rt.length+1) cap').ownBlock=some g->(Value.slice a rt.length cap).ownBlock=some g∨ws.heap.size<=g):
 aD w' 61 R 3 (Es H (.slice a rt.length cap) hand)/\RP base S1 R hand rv w0 h1 H (rt++[false]) a' cap' (fun b=>S' b/\(Value.slice a' (rt.length+1) cap').ownBlock≠some b) L' (w'.setCell ⟨R,1,none⟩ (.slice a' (rt.length+1) cap')):=by
 have c:(rt++[false]).length=rt.length+1:=by simp
 have k:aD w' 61 R 3 (Es H (.slice a rt.length cap) hand):=x.r.keep i (fun e=>ak x.v x.r (by decide) e);have p:Keeps w' (w'.setCell ⟨R,1,none⟩ (.slice a' (rt.length+1) cap')) (fun b=>b=R):=Keeps.setCell (S:=fun b=>b=R) (Keeps.refl w' _) rfl _;have z:MV base S' h1 L' w':=x.s.out (i.mono (fun b e=>x.nb b e));have u:MV base S' h1 L' (w'.setCell ⟨R,1,none⟩ (.slice a' (rt.length+1) cap')):=z.out (p.mono (fun b e=>e ▸ x.nR));have d:(w'.setCell ⟨R,1,none⟩ (.slice a' (rt.length+1) cap')).ownsRow base 4 1 (.slice a' (rt.length+1) cap') (rt.length+1) (iQ rt++[.bool false]):=aj o p (fun g f e=>ak o k (by decide) (e ▸ f));have t:∀ g,(Value.slice a' (rt.length+1) cap').ownBlock=some g->Free h1 L' g/\g<(w'.setCell ⟨R,1,none⟩ (.slice a' (rt.length+1) cap')).heap.size:=by
  intro g f;refine ⟨?_,(ay d f).lt⟩;rcases l g f with y|y
  ·exact x.s.free (x.nb g y)
  ·exact x.s.past y
 refine ⟨k,x.eH,u.less _ t,?_,?_,fun e=>x.nR e.1,fun g f e=>?_,fun b e=>x.sub b e.1,fun g f=>?_,?_⟩
 ·rw [c]
  refine (k.set (j:=1) (by omega) _).congr (fun j hj=>?_);have:j=0∨j=1∨j=2:=by omega
  rcases this with rfl|rfl|rfl<;>rfl
 ·rw [c]
  have:iQ (rt++[false])=iQ rt++[.bool false]:=by simp [iQ]
  rw [this];exact d
 ·rw [c] at f
  exact e.2 f
 ·rw [c] at f
  rcases l g f with y|y
  ·exact x.old g y
  ·have q:=x.s.up g y
   exact .inr (x.sub g q)
 ·have A:Keeps ws w' (Zs S1 R rv):=i.mono (fun b e=>by
   rcases x.old b e with y|y
   ·exact .inr (.inr y)
   ·exact .inl y)
  exact x.kk.trans (A.trans (p.mono (fun b e=>.inr (.inl e))))
theorem RP.rw {base:Nat} {S1:Nat->Prop} {R hand:Nat} {rv:Value} {w0:World} {h1:Hp} {H:Nat} {rt:List Bool} {a:Option Addr} {cap:Nat} {S':Nat->Prop} {L':SM} {ws:World} (x:RP base S1 R hand rv w0 h1 H rt a cap S' L' ws) (b:rt.length=h1.objs.length) (ho:h1.roots=dR 0 rt) (c:rt[0]?=some false):RW base S' h1 L' R hand (.slice a rt.length cap) rt ws:=
 ⟨⟨x.s,by rw [x.eH];exact x.r,x.v,b,ho⟩,x.nR,x.nb,c⟩
def zF (R:Nat) (w:World):Nat:=match w.cell? ⟨R,1,none⟩ with
 |some v=>FY v
 |none=>0
theorem sF {a:Option Addr} (h:w.cell? ⟨R,1,none⟩=some (.slice a n cap)):zF R w=n:=by unfold zF;rw [h];rfl
theorem iB (i:Inv h) (hm:m<=3) (c:root.length=h.objs.length) (ho:h.roots=dR 0 root):∀ n∈dR 0 (root++[true]),(h.make m).Ok n:=by
 obtain ⟨hi,a⟩:=i.make hm;intro n b;rw [jQ] at b;rcases eT.1 b with y|y
 ·exact hi.ls n (.inl (by show n∈h.roots;rw [ho];exact y))
 ·simp at y
  rw [y,c];exact a
theorem A_ (root:List Bool) (n:Nat) (a:n=root.length):(root++[false]).set n true=root++[true]:=by
 subst a;rw [List.set_append_right _ _ (au _)];simp
theorem FR {L:SM} (x:RW base S h L R hand rv root w) (g:Gd h) {q:Nat} (b:Bd q h) (hq:q+1<=5000) (V:h.freed=[]) (A B C:Int) (m:Nat) (hm:¬ (A<0∨3<A)->A=(m:Int)):
 Calls Tryz.prog 34 #[.pointer (some ⟨R,0,none⟩),.agg #[.int .i64 1,.int .i64 A,.int .i64 B,.int .i64 C]] w (gF base S R hand rv w (if A<0∨3<A then 2 else 0) (if A<0∨3<A then 0 else (h.objs.length:Int)) (if A<0∨3<A then h else ((h.make m).Hf (dR 0 (root++[true]))).I6) (if A<0∨3<A then root else root++[true])):=by
 have HX:=ah (fO w 1 A B C);have HB:=ah (aU w (.cells #[.int .i64 1,.int .i64 A,.int .i64 B,.int .i64 C] 39));have p:=ah (x.hole (.cells #[.int .i64 1,.int .i64 A,.int .i64 B,.int .i64 C] 39));clear x;by_cases hA:A<0∨3<A
 ·rw [if_pos hA,if_pos hA,if_pos hA,if_pos hA]
  go_enter Tryz.func34,Tryz.ntmps34;go_upto_region 1 with (fail)
  generalize w.alloc (.cells #[.int .i64 1,.int .i64 A,.int .i64 B,.int .i64 C] 39)=w1 at *;generalize hX:w.heap.size=X at *;have x0:w1.cell? ⟨X,0,none⟩=some (.int .i64 1):=HX.o.c 0;have x1:w1.cell? ⟨X,1,none⟩=some (.int .i64 A):=HX.o.c 1;have r0:w1.cell? ⟨R,0,none⟩=some (.pointer (some ⟨L.H,0,none⟩)):=p.o.x.r.c 0;by_cases h1:A<0
  ·have Y:decide (A<0)=true:=by simpa using h1
   clear hA h1 hm;go_wp2
   ((try simp only [Exit.inBlock,Exit.then]);refine bodyPost_ret (results_tmp2 rfl _ _ _) rfl ?_)
   exact gF.mk' (by rw [hX];exact HB.o) (fun b e=>e.1) (Keeps.refl _ _) p.o
  ·have Y:decide (A<0)=false:=by simpa using h1
   have c6:decide (A > 3)=true:=by simp;omega
   clear hA h1 hm;go_wp2
   ((try simp only [Exit.inBlock,Exit.then]);refine bodyPost_ret (results_tmp2 rfl _ _ _) rfl ?_)
   exact gF.mk' (by rw [hX];exact HB.o) (fun b e=>e.1) (Keeps.refl _ _) p.o
 ·rw [if_neg hA,if_neg hA,if_neg hA,if_neg hA]
  obtain rfl:=hm hA;have a9:m<=3:=by omega
  clear hA hm;have P:=ah (g.make b hq V a9);have f2:=ah (iB g.i a9 p.o.x.l p.o.x.o);have e1:h.live<=10000:=by have:=g.s.fr;omega
  have b1:=g.s.len;have e5:h.bytes<=300000:=by have:=g.s.Nn;omega
  have e4:h.G6<=300000:=by have:=g.s.cr;omega
  have a0:=ah p.o.x.l;have d9:1<=root.length:=by rw [p.o.x.l];exact g.i.ps
  have f8:root.length<=5001:=by rw [p.o.x.l];exact b1
  have g0:h.objs.length<=root.length:=aO p.o.x.l.symm;have f9:root.length<=h.objs.length:=aO p.o.x.l;have f4:=ah V;have HQ:=ah hq;clear g b V hq;go_enter Tryz.func34,Tryz.ntmps34;go_upto_region 1 with (fail)
  generalize w.alloc (.cells #[.int .i64 1,.int .i64 (m:Int),.int .i64 B,.int .i64 C] 39)=w1 at *;generalize hX:w.heap.size=X at *;have x0:w1.cell? ⟨X,0,none⟩=some (.int .i64 1):=HX.o.c 0;have x1:w1.cell? ⟨X,1,none⟩=some (.int .i64 (m:Int)):=HX.o.c 1;have r0:w1.cell? ⟨R,0,none⟩=some (.pointer (some ⟨L.H,0,none⟩)):=p.o.x.r.c 0;have Y:decide ((m:Int)<0)=false:=by simp
  have c6:decide ((m:Int) > 3)=false:=by simp;omega
  go_upto_region 7 with (fail)
  clear Y c6 x0;have t:=aU w1 (.cells #[.int .i64 5,.int .i64 0,.bool false,.int .i64 0,.int .i64 (m:Int),.slice none 0 0,.slice none 0 0,.int .i64 0,.int .i64 0,.slice none 0 0,.pointer none,.int .i64 0,.int .i64 0,.int .u64 0,.string { data:=#[] },.int .i64 0,.int .i64 0,.int .i64 0,.int .i64 0,.pointer none,.pointer none,.int .i64 0,.bool false,.pointer none,.pointer none] 101);have c9:Hq (∃ rx,aD (w1.alloc (.cells #[.int .i64 5,.int .i64 0,.bool false,.int .i64 0,.int .i64 (m:Int),.slice none 0 0,.slice none 0 0,.int .i64 0,.int .i64 0,.slice none 0 0,.pointer none,.int .i64 0,.int .i64 0,.int .u64 0,.string { data:=#[] },.int .i64 0,.int .i64 0,.int .i64 0,.int .i64 0,.pointer none,.pointer none,.int .i64 0,.bool false,.pointer none,.pointer none] 101)) 101 w1.heap.size 25 (kY rx 5 0 false m (.slice none 0 0) false)):=ah (by
   have h9:=aD.mk' w1 101 #[.int .i64 5,.int .i64 0,.bool false,.int .i64 0,.int .i64 (m:Int),.slice none 0 0,.slice none 0 0,.int .i64 0,.int .i64 0,.slice none 0 0,.pointer none,.int .i64 0,.int .i64 0,.int .u64 0,.string { data:=#[] },.int .i64 0,.int .i64 0,.int .i64 0,.int .i64 0,.pointer none,.pointer none,.int .i64 0,.bool false,.pointer none,.pointer none];refine ⟨_,h9.congr (f':=kY (fun j=>(#[.int .i64 5,.int .i64 0,.bool false,.int .i64 0,.int .i64 (m:Int),.slice none 0 0,.slice none 0 0,.int .i64 0,.int .i64 0,.slice none 0 0,.pointer none,.int .i64 0,.int .i64 0,.int .u64 0,.string { data:=#[] },.int .i64 0,.int .i64 0,.int .i64 0,.int .i64 0,.pointer none,.pointer none,.int .i64 0,.bool false,.pointer none,.pointer none]:Array Value).getD j (.bool false)) 5 0 false m (.slice none 0 0) false) (fun j hj=>?_)⟩;unfold kY;by_cases c0:j=0
   ·subst c0;rfl
   by_cases c1:j=1
   ·subst c1;rfl
   by_cases c2:j=2
   ·subst c2;rfl
   by_cases c3:j=3
   ·subst c3;rfl
   by_cases c4:j=4
   ·subst c4;rfl
   by_cases c5:j=5
   ·subst c5;rfl
   by_cases c8:j=22
   ·subst c8;rfl
   simp [c0,c1,c2,c3,c4,c5,c8])
  have a1:=ah (p.o.low t);have f6:=ah t;have d4:=ah (p.o.x.a.past (g:=w1.heap.size) (au _));have b7:S w1.heap.size/\w1.heap.size≠X:=p.o.x.a.up w1.heap.size (au _);have e6:=p.o.x.a.bs;obtain ⟨rx,a6⟩:=c9.o;have d1:=ah (zo a1.o.x.a b1 e5 e4 e1 a6 d4.o b7 e6);clear t a6 c9 b7 d4;go_wp2_with fail;refine d1.o.mono ?_;rintro e3 w3 ⟨rfl,N,L3,b9,b6⟩;obtain ⟨gr,cr,G,f7⟩:=p.o.KJ d9;have HP:=ah (show RP base (fun b=>S b/\b≠X) R hand rv w1 (h.make m) L.H root (some ⟨gr,0,none⟩) cr (fun b=>S b/\b≠X) L3 w3 from
   ⟨b9,b6,by rw [<-G];exact a1.o.x.r.keep N p.o.nR,by rw [<-G];exact aj a1.o.x.v N p.o.nb,p.o.nR,by rw [<-G];exact p.o.nb,fun b e=>e,fun g e=>.inl (by rw [G];exact e),(Keeps.of f6.o (au _) _).trans (N.mono (fun b e=>.inl e))⟩)
  clear N b6 b9 G x1 r0 d1;go_wp2;go_loopw [] (fun ws=>∃ j:Nat,j<=1/\Hq (∃ a cap S' L',RP base (fun b=>S b/\b≠X) R hand rv w1 (h.make m) L.H (root++List.replicate j false) a cap S' L' ws)) (fun ws=>root.length+1-zF R ws)
  case atStart=>exact ⟨0,by omega,_,_,_,_,by simpa using HP.o⟩
  case round=>
   clear HP;obtain ⟨j,hj,HJ⟩:=hrel;obtain ⟨a4,E,S4,L4,a8⟩:=HJ.o;have f:=ah a8;clear a8 HJ;by_cases b2:j=0
   ·subst b2
    simp only [List.replicate_zero,List.append_nil] at f;have r1:wr.cell? ⟨R,1,none⟩=some (.slice a4 root.length E):=f.o.r.c 1;have z1:=f.o.r.ME 1;have b0:decide ((root.length:Int)<=(h.objs.length:Int))=true:=by simp;omega
    have f5:=ah (sF r1);go_wp2_with (first
     |(at_builtin
       refine fE rfl (.tmp 42) (.tmp 43) 31 4 1 1 (.bool false) rfl Tryz.underlying31 je rfl (by decide) base (.slice a4 root.length E) root.length (iQ root) [.bool false] f.o.v rfl rfl rfl (fun u hu=>by simp at hu;subst hu;rfl) (by omega) (by decide) f.o.s.bs ?_;intro v' w5 g1 g2 g3 T;obtain ⟨a5,D,d7⟩:∃ a5 D,v'=.slice a5 (root.length+1) D:=aF g1;subst d7;have t:=g2 base wr (aT _ _) (au _);have H5:=ah (f.o.push g1 ⟨t.os,t.tape,t.output,t.size,fun b hb hn=>g3 b hb hn⟩ (fun g e=>by
        by_cases c:(Value.slice a4 root.length E).ownBlock=some g
        ·exact .inl c
        ·right
         rcases Nat.lt_or_ge g wr.heap.size with d|d
         ·exact absurd e (T g d c)
         ·exact d))
       have p1:=H5.o.1.c 1;have q1:=H5.o.1.ME 1;clear g1 g2 g3 T t)
     |go_in)
    go_roundw
    case rel=>exact ⟨1,by omega,a5,D,_,L4,H5.o.2⟩
    case measure=>
     have h8:(w5.setCell ⟨R,1,none⟩ (.slice a5 (root.length+1) D)).cell? ⟨R,1,none⟩=some (.slice a5 (root++[false]).length D):=H5.o.2.r.c 1;rw [sF h8,f5.o];simp
   ·have e2:j=1:=by omega
    subst e2;have Q:root++List.replicate 1 false=root++[false]:=rfl;rw [Q] at f;clear Q hj b2;have k:(root++[false]).length=root.length+1:=by simp
    have r1:wr.cell? ⟨R,1,none⟩=some (.slice a4 (root.length+1) E):=by
     rw [<-k];exact f.o.r.c 1
    have b0:decide (((root.length+1:Nat):Int)<=(h.objs.length:Int))=false:=by simp;omega
    have c7:(root++[false])[0]?=some false:=by
     rw [dF (by omega)];exact p.o.r0
    have z:=ah (f.o.rw (by rw [k,a0.o];show _=(h.objs++[_]).length;simp) (by show h.roots=_;rw [jQ,p.o.x.o];simp) c7);obtain ⟨T,f0,a3,b3⟩:=z.o.KJ (by rw [k];omega);simp only [Value.slice.injEq,true_and] at a3;obtain ⟨rfl,rfl⟩:=a3;have J:=ay z.o.x.v (g:=T) (by simp [Value.ownBlock]);have gn:=J.cell (j:=h.objs.length) (by rw [k];omega);have zn:=J.ME h.objs.length;have HM:=ah (z.o.mark rfl (n:=h.objs.length) (by rw [k];omega) true);have e0:(h.objs.length:Int)<((root.length+1:Nat):Int):=by omega
    have f1:=ah f.o.kk;have d5:=ah f.o.eH;have F:=ah (And.intro f.o.sub f.o.old);clear J f c7 k b3;go_upto_region 11 with (fail)
    generalize wr.setCell ⟨T,h.objs.length,none⟩ (.bool true)=w6 at *;rw [A_ root h.objs.length a0.o.symm] at HM;have K:(root++[true]).length=root.length+1:=by simp
    have d8:root.length+1<=5001:=by
     have h8:=P.o.2.len;have h9:(h.make m).objs.length=h.objs.length+1:=by show (h.objs++[_]).length=_;simp
     have e9:=HQ.o;omega
    have Z:(root++[true])[0]?=some false:=by
     rw [dF (by omega)];exact p.o.r0
    have f3:=ah Z;have d0:=ah (jy HM.o.1 HM.o.2.1 z.o.nR HM.o.2.2.1 z.o.nb (by rw [K];omega) (by rw [K];exact d8) Z);have d3:=ah (P.o.1.Hf P.o.2 HQ.o f4.o f2.o (by
     have h8:=gU (root++[true]) 0;rw [K] at h8;have h9:=P.o.2.len;have e9:(h.make m).objs.length=h.objs.length+1:=by show (h.objs++[_]).length=_;simp
     omega)).1
    clear gn zn r1 b0 e0 Z;go_wp2_with fail;refine d0.o.mono ?_;rintro e7 w7 ⟨rfl,M,L7,W,b5⟩;have H7:=ah (show RW base S4 ((h.make m).Hf (dR 0 (root++[true]))) L7 R hand (.slice (some ⟨T,0,none⟩) (root++[false]).length E) (root++[true]) w7 from
     ⟨⟨b5,by rw [W];exact HM.o.2.1.keep M z.o.nR,aj HM.o.2.2.1 M z.o.nb,by rw [K,a0.o];show _=(h.objs++[_]).length;simp,rfl⟩,z.o.nR,z.o.nb,f3.o⟩)
    have K7:=ah M;have d2:=ah W;clear b5 M W d0;have a2:=ah (Bq H7.o.x.a d3.o);rw [d2.o,d5.o] at a2;have d6:=ah d3.o.J3;go_wp2_with fail;refine a2.o.mono ?_;rintro e8 w8 ⟨rfl,L8,b8,b4,U⟩;have H8:=ah (H7.o.heap b4 (b8.trans (d5.o.symm.trans d2.o.symm)) U d6.o.len d6.o.rt);have K8:=ah U;clear b4 U b8 a2;go_wp2
    ((try simp only [Exit.inBlock,Exit.then]);refine bodyPost_ret (results_tmp2 rfl _ _ _) rfl ?_)
    have kz:∀ b,Zs (fun b=>S b/\b≠X) R rv b->Zs S R rv b:=by
     rintro b (e|e|e)
     ·exact .inl e.1
     ·exact .inr (.inl e)
     ·exact .inr (.inr e)
    have a7:∀ b,b=T->Zs S R rv b:=by
     intro b e;rcases F.o.2 T (by simp [Value.ownBlock]) with y|y
     ·exact .inr (.inr (by rw [e];exact y))
     ·exact .inl (by rw [e];exact y.1)
    refine ⟨rfl,?_,S4,L8,_,H8.o,fun b e=>(F.o.1 b e).1,fun g e=>?_⟩
    ·exact (Keeps.of HB.o (aO hX) _).trans ((f1.o.mono kz).trans ((HM.o.2.2.2.mono a7).trans ((K7.o.trans K8.o).mono (fun b e=>.inl (F.o.1 b e).1))))
    ·rcases F.o.2 g e with y|y
     ·exact .inl y
     ·exact .inr y.1
end
end Go.Proofs.YtbpcdfbmnklcjaaGreatDoor
