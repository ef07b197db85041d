import Derived.Test.YtbpcdfbmnklcjaaGreatDoorKHWB
namespace Go.Proofs.YtbpcdfbmnklcjaaGreatDoor
open Go Go.RowKit
set_option maxHeartbeats 6400000
set_option maxRecDepth 100000
set_option linter.unusedVariables false
variable {R base c hand m n:Nat} {S:Nat->Prop} {h:Hp} {o:Ob} {root:List Bool} {rv:Value} {w:World}
theorem Fa {L:SM} (x:RW base S h L R hand rv root w) (g:Gd h) {q:Nat} (b:Bd q h) (ho:h.ob n=some o):
 Calls Tryz.prog 34 #[.pointer (some ⟨R,0,none⟩),.agg #[.int .i64 3,.int .i64 (n:Int),.int .i64 (m:Int),.int .i64 (c:Int)]] w (gF base S R hand rv w 0 0 (h.put n (cO m) (cO c)) root):=by
 have z:=ah (fO w 3 (n:Int) (m:Int) (c:Int));have Z:=ah (aU w (.cells #[.int .i64 3,.int .i64 (n:Int),.int .i64 (m:Int),.int .i64 (c:Int)] 39));have G:=ah (x.hole (.cells #[.int .i64 3,.int .i64 (n:Int),.int .i64 (m:Int),.int .i64 (c:Int)] 39));clear x;have Y:=ah g;have K:=ah b;have W:=ah ho;obtain ⟨v,B⟩:∃ v:HV,cO c=v:=⟨_,rfl⟩
 obtain ⟨k,hk⟩:∃ k:HV,cO m=k:=⟨_,rfl⟩
 rw [B,hk];have C:=ah B;have J:=ah hk;clear g b ho B hk;go_enter Tryz.func34,Tryz.ntmps34;go_upto_region 1 with (fail)
 generalize w.alloc (.cells #[.int .i64 3,.int .i64 (n:Int),.int .i64 (m:Int),.int .i64 (c:Int)] 39)=w1 at *;generalize U:w.heap.size=X at *;have x0:w1.cell? ⟨X,0,none⟩=some (.int .i64 3):=z.o.c 0;have x1:w1.cell? ⟨X,1,none⟩=some (.int .i64 (n:Int)):=z.o.c 1;have x2:w1.cell? ⟨X,2,none⟩=some (.int .i64 (m:Int)):=z.o.c 2;have P:w1.cell? ⟨X,3,none⟩=some (.int .i64 (c:Int)):=z.o.c 3;have r0:w1.cell? ⟨R,0,none⟩=some (.pointer (some ⟨L.H,0,none⟩)):=G.o.x.r.c 0;have s:=z.o.lt;have F:=ah (fun (w9:World)=>ny w9 c v C.o);have D:=ah (fun (w9:World) (a9:MV base (fun b=>S b/\b≠X) h L w9)=>zQ a9 Y.o K.o W.o k v);have E:=ah (fun (w9:World)=>ny w9 m k J.o);go_wp2_with fail
 go_region_with (first
  |(go_at_call 45
    refine (E.o _).mono ?_;rintro e5 T ⟨rfl,i⟩;have j:Below w1.heap.size w1 T:=⟨i.os,i.tape,i.output,i.size,i.block⟩
    have y1:=(j.cell (p:=⟨X,1,none⟩) s).trans x1;have y3:=(j.cell (p:=⟨X,3,none⟩) s).trans P;have M:=ah j;clear i j)
  |(go_at_call 45
    refine (F.o _).mono ?_;rintro e7 Q ⟨rfl,f⟩;have l:Below w1.heap.size w1 Q:=vZ M.o ⟨f.os,f.tape,f.output,f.size,f.block⟩;have z1:=(l.cell (p:=⟨X,1,none⟩) s).trans x1;have A:=ah l;clear f l)
  |(go_at_call 44
    refine (D.o _ (G.o.x.a.low A.o)).mono ?_;rintro e6 w6 ⟨rfl,d,t⟩;have N:=ah (And.intro ((Keeps.of A.o (au _) (fun b=>S b/\b≠X)).trans d) t);clear d t))
 all_goals
  obtain ⟨d,L6,y,u⟩:=N.o;have H7:=ah (G.o.heap u y d (iR h n k v).1 (iR h n k v).2);have V:=ah d;clear d u y N;go_wp2
  ((try simp only [Exit.inBlock,Exit.then]);refine bodyPost_ret (results_tmp2 rfl _ _ _) rfl ?_)
  exact gF.mk' (by rw [U];exact Z.o) (fun b e=>e.1) V.o H7.o
end Go.Proofs.YtbpcdfbmnklcjaaGreatDoor
