import Derived.Test.YtbpcdfbmnklcjaaGreatDoorKHWA
import Derived.Deep.RegionWith
namespace Go.Proofs.YtbpcdfbmnklcjaaGreatDoor
open Go Go.RowKit
set_option maxHeartbeats 6400000
set_option maxRecDepth 100000
set_option linter.unusedVariables false
variable {R base c hand n:Nat} {S:Nat->Prop} {h:Hp} {o:Ob} {root:List Bool} {rv:Value} {w:World}
theorem zQ {L:SM} (a:MV base S h L w) (g:Gd h) {q:Nat} (b:Bd q h) (ho:h.ob n=some o) (k v:HV):
 Calls Tryz.prog 44 #[.pointer (some ⟨L.H,0,none⟩),.int .i64 (n:Int),.agg #[.int .i64 (vk k),.int .i64 (vi k),.int .u64 0,.string ByteArray.empty,.int .i64 (vr k)],.agg #[.int .i64 (vk v),.int .i64 (vi v),.int .u64 0,.string ByteArray.empty,.int .i64 (vr v)]] w fun e w'=>e=.returned (.tuple #[])/\Keeps w w' S/\∃ L',L'.H=L.H/\MV base S (h.put n k v) L' w':=by
 have p:=g.s.nu;have m:=g.s.Nn;have l:=g.s.cr;refine (BI a g.i.ps g.s.len (by omega) ho (g.s.es n o ho) (b.kd n o ho) (by have:=g.n.es ho;omega) (by omega) (by omega) k v).mono ?_;rintro e w' ⟨rfl,j,L',f,-,d⟩;exact ⟨rfl,j,L',f,d⟩
theorem FJ {L:SM} (x:RW base S h L R hand rv root w) (g:Gd h) {q:Nat} (b:Bd q h) (ho:h.ob n=some o) (B:Int):
 Calls Tryz.prog 34 #[.pointer (some ⟨R,0,none⟩),.agg #[.int .i64 2,.int .i64 (n:Int),.int .i64 B,.int .i64 (c:Int)]] w (gF base S R hand rv w 0 0 (h.put n (some (.inl B)) (cO c)) root):=by
 have z:=ah (fO w 2 (n:Int) B (c:Int));have V:=ah (aU w (.cells #[.int .i64 2,.int .i64 (n:Int),.int .i64 B,.int .i64 (c:Int)] 39));have G:=ah (x.hole (.cells #[.int .i64 2,.int .i64 (n:Int),.int .i64 B,.int .i64 (c:Int)] 39));clear x;have U:=ah g;have J:=ah b;have T:=ah ho;obtain ⟨v,D⟩:∃ v:HV,cO c=v:=⟨_,rfl⟩
 rw [D];have E:=ah D;obtain ⟨k,hk⟩:∃ k:HV,k=some (.inl B):=⟨_,rfl⟩
 have m:vk k=2:=by rw [hk];rfl
 have s:vi k=B:=by rw [hk];rfl
 have l:vr k=0:=by rw [hk];rfl
 rw [<-hk];clear g b ho D hk;go_enter Tryz.func34,Tryz.ntmps34;go_upto_region 1 with (fail)
 generalize w.alloc (.cells #[.int .i64 2,.int .i64 (n:Int),.int .i64 B,.int .i64 (c:Int)] 39)=w1 at *;generalize P:w.heap.size=X at *;have x0:w1.cell? ⟨X,0,none⟩=some (.int .i64 2):=z.o.c 0;have x1:w1.cell? ⟨X,1,none⟩=some (.int .i64 (n:Int)):=z.o.c 1;have M:w1.cell? ⟨X,2,none⟩=some (.int .i64 B):=z.o.c 2;have x3:w1.cell? ⟨X,3,none⟩=some (.int .i64 (c:Int)):=z.o.c 3;have r0:w1.cell? ⟨R,0,none⟩=some (.pointer (some ⟨L.H,0,none⟩)):=G.o.x.r.c 0;have u:=z.o.lt;have F:=ah (fun (w9:World)=>ny w9 c v E.o);have A:=ah (fun (w9:World) (a9:MV base (fun b=>S b/\b≠X) h L w9)=>zQ a9 U.o J.o T.o k v);rw [m,s,l] at A;clear m s l;go_wp2_with fail
 go_region_with (first
  |(go_at_call 45
    refine (F.o _).mono ?_;rintro e5 N ⟨rfl,f⟩;have i:Below w1.heap.size w1 N:=⟨f.os,f.tape,f.output,f.size,f.block⟩
    have Z:=(i.cell (p:=⟨X,1,none⟩) u).trans x1;have Y:=(i.cell (p:=⟨X,2,none⟩) u).trans M;have C:=ah i;clear f i)
  |(go_at_call 44
    refine (A.o _ (G.o.x.a.low C.o)).mono ?_;rintro e6 w6 ⟨rfl,d,j⟩;have K:=ah (And.intro ((Keeps.of C.o (au _) (fun b=>S b/\b≠X)).trans d) j);clear d j))
 all_goals
  obtain ⟨d,L6,y,t⟩:=K.o;have W:=ah (G.o.heap t y d (iR h n k v).1 (iR h n k v).2);have Q:=ah d;clear d t y K;go_wp2
  ((try simp only [Exit.inBlock,Exit.then]);refine bodyPost_ret (results_tmp2 rfl _ _ _) rfl ?_)
  exact gF.mk' (by rw [P];exact V.o) (fun b e=>e.1) Q.o W.o
end Go.Proofs.YtbpcdfbmnklcjaaGreatDoor
