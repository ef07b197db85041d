import Derived.Test.YtbpcdfbmnklcjaaGreatDoorKHWA
import Derived.Deep.RegionWith
namespace Go.Proofs.YtbpcdfbmnklcjaaGreatDoor
open Go Go.RowKit
set_option maxHeartbeats 6400000
set_option maxRecDepth 100000
set_option linter.unusedVariables false
variable {R base c hand n q:Nat} {S:Nat->Prop} {h:Hp} {o:Ob} {root:List Bool} {rv:Value} {w:World}
theorem Ai {L:SM} (a:MW base S h L w) (g:Gd h) (b:Bd q h) (ho:h.ob n=some o) (k v:HV):
 Calls Tryz.prog 44 #[.pointer (some ⟨L.H,0,none⟩),.int .i64 (n:Int),.agg #[.int .i64 (vk k),.int .i64 (vi k),.int .u64 0,.string ByteArray.empty,.int .i64 (vr k)],.agg #[.int .i64 (vk v),.int .i64 (vi v),.int .u64 0,.string ByteArray.empty,.int .i64 (vr v)]] w fun e w'=>e=.returned (.tuple #[])/\Keeps w w' S/\∃ L',L'.H=L.H/\MW base S (h.put n k v) L' w':=by
 have p:=g.s.nu;have m:=g.s.Nh;have l:=g.s.cr;refine (CZ a g.i.ps g.s.len (by omega) ho (g.s.es n o ho) (b.kd n o ho) (by have:=g.n.es ho;omega) (by omega) (by omega) k v).mono ?_;rintro e w' ⟨rfl,j,L',f,-,d⟩;exact ⟨rfl,j,L',f,d⟩
theorem FI {L:SM} (x:RW base S h L R hand rv root w) (g:Gd h) (b:Bd q h) (ho:h.ob n=some o) (B:Int):
 Calls Tryz.prog 34 #[.pointer (some ⟨R,0,none⟩),.agg #[.int .i64 2,.int .i64 (n:Int),.int .i64 B,.int .i64 (c:Int)]] w (gF base S R hand rv w 0 0 (h.put n (some (.inl B)) (cO c)) root):=by
 have z:=ah (fK w 2 (n:Int) B (c:Int));have W:=ah (aU w (.cells #[.int .i64 2,.int .i64 (n:Int),.int .i64 B,.int .i64 (c:Int)] 39));have J:=ah (x.hole (.cells #[.int .i64 2,.int .i64 (n:Int),.int .i64 B,.int .i64 (c:Int)] 39));clear x;have V:=ah g;have K:=ah b;have U:=ah ho;obtain ⟨v,E⟩:∃ v:HV,cO c=v:=⟨_,rfl⟩
 rw [E];have F:=ah E;obtain ⟨k,hk⟩:∃ k:HV,k=some (.inl B):=⟨_,rfl⟩
 have m:vk k=2:=by rw [hk];rfl
 have s:vi k=B:=by rw [hk];rfl
 have l:vr k=0:=by rw [hk];rfl
 rw [<-hk];clear g b ho E hk;go_enter Tryz.func34,Tryz.ntmps34;go_upto_region 1 with (fail)
 generalize w.alloc (.cells #[.int .i64 2,.int .i64 (n:Int),.int .i64 B,.int .i64 (c:Int)] 39)=w1 at *;generalize Q:w.heap.size=X at *;have x0:w1.cell? ⟨X,0,none⟩=some (.int .i64 2):=z.o.c 0;have x1:w1.cell? ⟨X,1,none⟩=some (.int .i64 (n:Int)):=z.o.c 1;have N:w1.cell? ⟨X,2,none⟩=some (.int .i64 B):=z.o.c 2;have x3:w1.cell? ⟨X,3,none⟩=some (.int .i64 (c:Int)):=z.o.c 3;have r0:w1.cell? ⟨R,0,none⟩=some (.pointer (some ⟨L.H,0,none⟩)):=J.o.x.r.c 0;have u:=z.o.lt;have G:=ah (fun (w9:World)=>m_ w9 c v F.o);have A:=ah (fun (w9:World) (a9:MW base (fun b=>S b/\b≠X) h L w9)=>Ai a9 V.o K.o U.o k v);rw [m,s,l] at A;clear m s l;go_wp2_with fail
 go_region_with (first
  |(go_at_call 45
    refine (G.o _).mono ?_;rintro e5 P ⟨rfl,f⟩;have i:Below w1.heap.size w1 P:=⟨f.os,f.tape,f.output,f.size,f.block⟩
    have y1:=(i.cell (p:=⟨X,1,none⟩) u).trans x1;have Z:=(i.cell (p:=⟨X,2,none⟩) u).trans N;have C:=ah i;clear f i)
  |(go_at_call 44
    refine (A.o _ (J.o.x.a.low C.o)).mono ?_;rintro e6 w6 ⟨rfl,d,j⟩;have M:=ah (And.intro ((Keeps.of C.o (D _) (fun b=>S b/\b≠X)).trans d) j);clear d j))
 all_goals
  obtain ⟨d,L6,y,t⟩:=M.o;have Y:=ah (J.o.heap t y d (iQ h n k v).1 (iQ h n k v).2);have T:=ah d;clear d t y M;go_wp2
  ((try simp only [Exit.inBlock,Exit.then]);refine bodyPost_ret (results_tmp2 rfl _ _ _) rfl ?_)
  exact gF.mk' (by rw [Q];exact W.o) (fun b e=>e.1) T.o Y.o
end Go.Proofs.YtbpcdfbmnklcjaaGreatDoor
