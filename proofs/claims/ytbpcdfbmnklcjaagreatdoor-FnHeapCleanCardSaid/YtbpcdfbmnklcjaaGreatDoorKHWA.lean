import Derived.Test.YtbpcdfbmnklcjaaGreatDoorKHUA
import Derived.Test.YtbpcdfbmnklcjaaGreatDoorKHYM
import Derived.Test.YtbpcdfbmnklcjaaGreatDoorKHV
namespace Go.Proofs.YtbpcdfbmnklcjaaGreatDoor
open Go Go.RowKit
set_option maxHeartbeats 6400000
set_option maxRecDepth 100000
set_option linter.unusedVariables false
variable {R base hand:Nat} {S S1:Nat->Prop} {code id:Int} {h h':Hp} {root:List Bool} {rv:Value} {w w' w1:World}
structure RW (base:Nat) (S:Nat->Prop) (h:Hp) (L:SM) (R hand:Nat) (rv:Value) (root:List Bool) (w:World):Prop where
 x:Ni base S h L R hand rv root w
 nR:¬ S R
 nb:∀ g,rv.ownBlock=some g->¬ S g
 r0:root[0]?=some false
def Zs (S:Nat->Prop) (R:Nat) (rv:Value) (b:Nat):Prop:=S b∨b=R∨rv.ownBlock=some b
theorem RW.low {base:Nat} {S:Nat->Prop} {h:Hp} {L:SM} {R hand:Nat} {rv:Value} {root:List Bool} {w w':World} (x:RW base S h L R hand rv root w) (b:Below w.heap.size w w'):RW base S h L R hand rv root w':=⟨x.x.low b,x.nR,x.nb,x.r0⟩
theorem RW.heap {L L':SM} (x:RW base S h L R hand rv root w) (b:MV base S h' L' w') (hH:L'.H=L.H) (kk:Keeps w w' S) (a:h'.objs.length=h.objs.length) (hr:h'.roots=h.roots):RW base S h' L' R hand rv root w':=
 ⟨⟨b,by rw [hH];exact x.x.r.keep kk x.nR,aj x.x.v kk x.nb,x.x.l.trans a.symm,hr.trans x.x.o⟩,x.nR,x.nb,x.r0⟩
theorem RW.hole {base:Nat} {S:Nat->Prop} {h:Hp} {L:SM} {R hand:Nat} {rv:Value} {root:List Bool} {w:World} (x:RW base S h L R hand rv root w) (o:Obj):RW base (fun b=>S b/\b≠w.heap.size) h L R hand rv root (w.alloc o):=by
 have y:=x.x.low (aU w o);exact ⟨⟨x.x.a.hole o,y.r,y.v,y.l,y.o⟩,fun e=>x.nR e.1,fun g hg e=>x.nb g hg e.1,x.r0⟩
def gF (base:Nat) (S:Nat->Prop) (R hand:Nat) (rv:Value) (w:World) (code id:Int) (h':Hp) (root':List Bool) (e:Ending) (w':World):Prop:=
 e=.returned (.tuple #[.int .i64 code,.int .i64 id])/\Keeps w w' (Zs S R rv)/\∃ S' L' rv',RW base S' h' L' R hand rv' root' w'/\(∀ b,S' b->S b)/\(∀ g,rv'.ownBlock=some g->rv.ownBlock=some g∨S g)
theorem gF.mk' {L':SM} (hb:Below w.heap.size w w1) (a:∀ b,S1 b->S b) (kk:Keeps w1 w' S1) (x:RW base S1 h' L' R hand rv root w'):gF base S R hand rv w code id h' root (.returned (.tuple #[.int .i64 code,.int .i64 id])) w':=
 ⟨rfl,(Keeps.of hb (au _) _).trans (kk.mono (fun b e=>Or.inl (a b e))),S1,L',rv,x,a,fun g e=>.inl e⟩
theorem Et {L:SM} (x:RW base S h L R hand rv root w) (kd A B C:Int) (hk:kd<1∨9<kd):
 Calls Tryz.prog 34 #[.pointer (some ⟨R,0,none⟩),.agg #[.int .i64 kd,.int .i64 A,.int .i64 B,.int .i64 C]] w (gF base S R hand rv w 1 0 h root):=by
 have f:=ah (fO w kd A B C);have g:=ah (aU w (.cells #[.int .i64 kd,.int .i64 A,.int .i64 B,.int .i64 C] 39));have a:=ah (x.hole (.cells #[.int .i64 kd,.int .i64 A,.int .i64 B,.int .i64 C] 39));clear x;go_enter Tryz.func34,Tryz.ntmps34;go_upto_region 1 with (fail)
 generalize w.alloc (.cells #[.int .i64 kd,.int .i64 A,.int .i64 B,.int .i64 C] 39)=w1 at *;generalize d:w.heap.size=X at *;have x0:w1.cell? ⟨X,0,none⟩=some (.int .i64 kd):=f.o.c 0;have r0:w1.cell? ⟨R,0,none⟩=some (.pointer (some ⟨L.H,0,none⟩)):=a.o.x.r.c 0;have q:(kd==1)=false:=by simp;omega
 have p:(kd==2)=false:=by simp;omega
 have n:(kd==3)=false:=by simp;omega
 have m:(kd==4)=false:=by simp;omega
 have k5:(kd==5)=false:=by simp;omega
 have l:(kd==6)=false:=by simp;omega
 have k:(kd==7)=false:=by simp;omega
 have j:(kd==8)=false:=by simp;omega
 have i:(kd==9)=false:=by simp;omega
 go_wp2
 ((try simp only [Exit.inBlock,Exit.then]);refine bodyPost_ret (results_tmp2 rfl _ _ _) rfl ?_)
 exact gF.mk' (by rw [d];exact g.o) (fun b e=>e.1) (Keeps.refl _ _) a.o
theorem EZ {L:SM} (x:RW base S h L R hand rv root w) (A B C:Int):
 Calls Tryz.prog 34 #[.pointer (some ⟨R,0,none⟩),.agg #[.int .i64 9,.int .i64 A,.int .i64 B,.int .i64 C]] w (gF base S R hand rv w 0 0 h root):=by
 have f:=ah (fO w 9 A B C);have g:=ah (aU w (.cells #[.int .i64 9,.int .i64 A,.int .i64 B,.int .i64 C] 39));have a:=ah (x.hole (.cells #[.int .i64 9,.int .i64 A,.int .i64 B,.int .i64 C] 39));clear x;go_enter Tryz.func34,Tryz.ntmps34;go_upto_region 1 with (fail)
 generalize w.alloc (.cells #[.int .i64 9,.int .i64 A,.int .i64 B,.int .i64 C] 39)=w1 at *;generalize d:w.heap.size=X at *;have x0:w1.cell? ⟨X,0,none⟩=some (.int .i64 9):=f.o.c 0;have r0:w1.cell? ⟨R,0,none⟩=some (.pointer (some ⟨L.H,0,none⟩)):=a.o.x.r.c 0;go_wp2
 ((try simp only [Exit.inBlock,Exit.then]);refine bodyPost_ret (results_tmp2 rfl _ _ _) rfl ?_)
 exact gF.mk' (by rw [d];exact g.o) (fun b e=>e.1) (Keeps.refl _ _) a.o
theorem ET {L:SM} (x:RW base S h L R hand rv root w) (g:Gd h) (A B C:Int):
 Calls Tryz.prog 34 #[.pointer (some ⟨R,0,none⟩),.agg #[.int .i64 7,.int .i64 A,.int .i64 B,.int .i64 C]] w (gF base S R hand rv w 0 0 h.full root):=by
 have n:=ah (fO w 7 A B C);have q:=ah (aU w (.cells #[.int .i64 7,.int .i64 A,.int .i64 B,.int .i64 C] 39));have k:=ah (x.hole (.cells #[.int .i64 7,.int .i64 A,.int .i64 B,.int .i64 C] 39));clear x;have p:=ah (zY k.o.x.a g);have j:=ah g.KE;go_enter Tryz.func34,Tryz.ntmps34;go_upto_region 1 with (fail)
 generalize w.alloc (.cells #[.int .i64 7,.int .i64 A,.int .i64 B,.int .i64 C] 39)=w1 at *;generalize l:w.heap.size=X at *;have x0:w1.cell? ⟨X,0,none⟩=some (.int .i64 7):=n.o.c 0;have r0:w1.cell? ⟨R,0,none⟩=some (.pointer (some ⟨L.H,0,none⟩)):=k.o.x.r.c 0;go_wp2_with fail;refine p.o.mono ?_;rintro u t ⟨rfl,v,i,f,d⟩;have s:=ah (k.o.heap f i d j.o.len j.o.rt);have m:=ah d;clear f d i;go_wp2
 ((try simp only [Exit.inBlock,Exit.then]);refine bodyPost_ret (results_tmp2 rfl _ _ _) rfl ?_)
 exact gF.mk' (by rw [l];exact q.o) (fun b e=>e.1) m.o s.o
theorem FP {L:SM} (x:RW base S h L R hand rv root w) (g:Gd h) (A B C:Int):
 Calls Tryz.prog 34 #[.pointer (some ⟨R,0,none⟩),.agg #[.int .i64 6,.int .i64 A,.int .i64 B,.int .i64 C]] w (gF base S R hand rv w (if A<1∨1000000<A then 2 else 0) 0 (if A<1∨1000000<A then h else Hp.step A h) root):=by
 have p:=ah (fO w 6 A B C);have s:=ah (aU w (.cells #[.int .i64 6,.int .i64 A,.int .i64 B,.int .i64 C] 39));have f:=ah (x.hole (.cells #[.int .i64 6,.int .i64 A,.int .i64 B,.int .i64 C] 39));clear x;have l:=ah (g.JR (u:=A));by_cases hA:A<1∨1000000<A
 ·rw [if_pos hA,if_pos hA]
  go_enter Tryz.func34,Tryz.ntmps34;go_upto_region 1 with (fail)
  generalize w.alloc (.cells #[.int .i64 6,.int .i64 A,.int .i64 B,.int .i64 C] 39)=w1 at *;generalize m:w.heap.size=X at *;have x0:w1.cell? ⟨X,0,none⟩=some (.int .i64 6):=p.o.c 0;have x1:w1.cell? ⟨X,1,none⟩=some (.int .i64 A):=p.o.c 1;have r0:w1.cell? ⟨R,0,none⟩=some (.pointer (some ⟨L.H,0,none⟩)):=f.o.x.r.c 0;by_cases n:A<1
  ·have k:decide (A<1)=true:=by simpa using n
   clear hA n;go_wp2
   ((try simp only [Exit.inBlock,Exit.then]);refine bodyPost_ret (results_tmp2 rfl _ _ _) rfl ?_)
   exact gF.mk' (by rw [m];exact s.o) (fun b e=>e.1) (Keeps.refl _ _) f.o
  ·have k:decide (A<1)=false:=by simpa using n
   have q:decide (A > 1000000)=true:=by simp;omega
   clear hA n;go_wp2
   ((try simp only [Exit.inBlock,Exit.then]);refine bodyPost_ret (results_tmp2 rfl _ _ _) rfl ?_)
   exact gF.mk' (by rw [m];exact s.o) (fun b e=>e.1) (Keeps.refl _ _) f.o
 ·rw [if_neg hA,if_neg hA]
  have v:=ah (jS f.o.x.a g A (by omega));go_enter Tryz.func34,Tryz.ntmps34;go_upto_region 1 with (fail)
  generalize w.alloc (.cells #[.int .i64 6,.int .i64 A,.int .i64 B,.int .i64 C] 39)=w1 at *;generalize m:w.heap.size=X at *;have x0:w1.cell? ⟨X,0,none⟩=some (.int .i64 6):=p.o.c 0;have x1:w1.cell? ⟨X,1,none⟩=some (.int .i64 A):=p.o.c 1;have r0:w1.cell? ⟨R,0,none⟩=some (.pointer (some ⟨L.H,0,none⟩)):=f.o.x.r.c 0;have k:decide (A<1)=false:=by simp;omega
  have q:decide (A > 1000000)=false:=by simp;omega
  clear hA;go_wp2_with fail;refine v.o.mono ?_;rintro D z ⟨rfl,E,j,i,d⟩;have y:=ah (f.o.heap i j d l.o.len l.o.rt);have t:=ah d;clear i d j;go_wp2
  ((try simp only [Exit.inBlock,Exit.then]);refine bodyPost_ret (results_tmp2 rfl _ _ _) rfl ?_)
  exact gF.mk' (by rw [m];exact s.o) (fun b e=>e.1) t.o y.o
end Go.Proofs.YtbpcdfbmnklcjaaGreatDoor
