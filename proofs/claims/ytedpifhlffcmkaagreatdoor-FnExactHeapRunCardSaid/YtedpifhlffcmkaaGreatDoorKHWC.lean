import Derived.Test.YtedpifhlffcmkaaGreatDoorKHWB
namespace Go.Proofs.YtedpifhlffcmkaaGreatDoor
open Go Go.RowKit
set_option maxHeartbeats 6400000
set_option maxRecDepth 100000
set_option linter.unusedVariables false
variable {R base c hand m n q:Nat} {S:Nat->Prop} {h:Hp} {o:Ob} {root:List Bool} {rv:Value} {w:World}
theorem Dh {L:SM} (x:RW base S h L R hand rv root w) (g:Gd h) (b:Bd q h) (ho:h.ob n=some o):
 Calls Tryz.prog 34 #[.pointer (some ⟨R,0,none⟩),.agg #[.int .i64 3,.int .i64 (n:Int),.int .i64 (m:Int),.int .i64 (c:Int)]] w (dS base S R hand rv w 0 0 (h.put n (cu m) (cu c)) root):=by
 have HX:=ah (eT w 3 (n:Int) (m:Int) (c:Int))
 have HB:=ah (aJ w (.cells #[.int .i64 3,.int .i64 (n:Int),.int .i64 (m:Int),.int .i64 (c:Int)] 39))
 have HR:=ah (x.hole (.cells #[.int .i64 3,.int .i64 (n:Int),.int .i64 (m:Int),.int .i64 (c:Int)] 39))
 clear x
 have HG:=ah g
 have HBD:=ah b
 have HO:=ah ho
 obtain ⟨v,hv⟩:∃ v:HV,cu c=v:=⟨_,rfl⟩
 obtain ⟨k,hk⟩:∃ k:HV,cu m=k:=⟨_,rfl⟩
 rw [hv,hk]
 have HVV:=ah hv
 have HKK:=ah hk
 clear g b ho hv hk
 go_enter Tryz.func34,Tryz.ntmps34
 go_upto_region 1 with (fail)
 generalize w.alloc (.cells #[.int .i64 3,.int .i64 (n:Int),.int .i64 (m:Int),.int .i64 (c:Int)] 39)=w1 at *
 generalize hX:w.heap.size=X at *
 have x0:w1.cell? ⟨X,0,none⟩=some (.int .i64 3):=HX.o.cell (j:=0) (by omega)
 have x1:w1.cell? ⟨X,1,none⟩=some (.int .i64 (n:Int)):=HX.o.cell (j:=1) (by omega)
 have x2:w1.cell? ⟨X,2,none⟩=some (.int .i64 (m:Int)):=HX.o.cell (j:=2) (by omega)
 have x3:w1.cell? ⟨X,3,none⟩=some (.int .i64 (c:Int)):=HX.o.cell (j:=3) (by omega)
 have r0:w1.cell? ⟨R,0,none⟩=some (.pointer (some ⟨L.H,0,none⟩)):=HR.o.x.r.cell (j:=0) (by omega)
 have hXl:=HX.o.lt
 have HRF:=ah (fun (w9:World)=>kN w9 c v HVV.o)
 have HST:=ah (fun (w9:World) (a9:JU base (fun b=>S b/\b≠X) h L w9)=>vZ a9 HG.o HBD.o HO.o k v)
 have HRK:=ah (fun (w9:World)=>kN w9 m k HKK.o)
 go_wp2_with fail
 go_region_with (first
  |(go_at_call 45
    refine (HRK.o _).mono ?_
    rintro e5 w5 ⟨rfl,hb5⟩
    have hb6:Below w1.heap.size w1 w5:=⟨hb5.os,hb5.tape,hb5.output,hb5.size,hb5.block⟩
    have y1:=(hb6.cell (p:=⟨X,1,none⟩) hXl).trans x1
    have y3:=(hb6.cell (p:=⟨X,3,none⟩) hXl).trans x3
    have HB5:=ah hb6
    clear hb5 hb6)
  |(go_at_call 45
    refine (HRF.o _).mono ?_
    rintro e7 w7 ⟨rfl,hb7⟩
    have hb8:Below w1.heap.size w1 w7:=uf HB5.o ⟨hb7.os,hb7.tape,hb7.output,hb7.size,hb7.block⟩
    have z1:=(hb8.cell (p:=⟨X,1,none⟩) hXl).trans x1
    have HB7:=ah hb8
    clear hb7 hb8)
  |(go_at_call 44
    refine (HST.o _ (HR.o.x.a.low HB7.o)).mono ?_
    rintro e6 w6 ⟨rfl,hk6,hs6⟩
    have H6:=ah (And.intro ((Keeps.of HB7.o (Nat.le_refl _) (fun b=>S b/\b≠X)).trans hk6) hs6)
    clear hk6 hs6))
 all_goals
  obtain ⟨hk6,L6,hH6,ha6⟩:=H6.o
  have H7:=ah (HR.o.heap ha6 hH6 hk6 (gF h n k v).1 (gF h n k v).2)
  have K6:=ah hk6
  clear hk6 ha6 hH6 H6
  go_wp2
  ((try simp only [Exit.inBlock,Exit.then]);refine bodyPost_ret (results_tmp2 rfl _ _ _) rfl ?_)
  exact dS.mk' (by rw [hX];exact HB.o) (fun b e=>e.1) K6.o H7.o
end Go.Proofs.YtedpifhlffcmkaaGreatDoor
