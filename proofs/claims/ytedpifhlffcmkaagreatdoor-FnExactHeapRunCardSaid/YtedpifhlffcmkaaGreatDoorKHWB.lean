import Derived.Test.YtedpifhlffcmkaaGreatDoorKHUD0
import Derived.Deep.RegionWith
namespace Go.Proofs.YtedpifhlffcmkaaGreatDoor
open Go Go.RowKit
set_option maxHeartbeats 6400000
set_option maxRecDepth 100000
set_option linter.unusedVariables false
variable {R base c hand n q:Nat} {S:Nat->Prop} {h:Hp} {o:Ob} {root:List Bool} {rv:Value} {w:World}
theorem vZ {L:SM} (a:JU base S h L w) (g:Gd h) (b:Bd q h) (ho:h.ob n=some o) (k v:HV):
 Calls Tryz.prog 44 #[.pointer (some ⟨L.H,0,none⟩),.int .i64 (n:Int),.agg #[.int .i64 (vk k),.int .i64 (vi k),.int .u64 0,.string ByteArray.empty,.int .i64 (vr k)],.agg #[.int .i64 (vk v),.int .i64 (vi v),.int .u64 0,.string ByteArray.empty,.int .i64 (vr v)]] w fun e w'=>e=.returned (.tuple #[])/\Keeps w w' S/\∃ L',L'.H=L.H/\JU base S (h.put n k v) L' w':=by
 have h1:=g.s.nu
 have h2:=g.s.JQ
 have h3:=g.s.cr
 refine (yY a g.i.ps g.s.len (by omega) ho (g.s.es n o ho) (b.kd n o ho) (by have:=g.n.es ho;omega) (by omega) (by omega) k v).mono ?_
 rintro e w' ⟨rfl,h4,L',h5,-,h6⟩
 exact ⟨rfl,h4,L',h5,h6⟩
theorem Cx {L:SM} (x:RW base S h L R hand rv root w) (g:Gd h) (b:Bd q h) (ho:h.ob n=some o) (B:Int):
 Calls Tryz.prog 34 #[.pointer (some ⟨R,0,none⟩),.agg #[.int .i64 2,.int .i64 (n:Int),.int .i64 B,.int .i64 (c:Int)]] w (dS base S R hand rv w 0 0 (h.put n (some (.inl B)) (cu c)) root):=by
 have HX:=ah (eT w 2 (n:Int) B (c:Int))
 have HB:=ah (aJ w (.cells #[.int .i64 2,.int .i64 (n:Int),.int .i64 B,.int .i64 (c:Int)] 39))
 have HR:=ah (x.hole (.cells #[.int .i64 2,.int .i64 (n:Int),.int .i64 B,.int .i64 (c:Int)] 39))
 clear x
 have HG:=ah g
 have HBD:=ah b
 have HO:=ah ho
 obtain ⟨v,hv⟩:∃ v:HV,cu c=v:=⟨_,rfl⟩
 rw [hv]
 have HVV:=ah hv
 obtain ⟨k,hk⟩:∃ k:HV,k=some (.inl B):=⟨_,rfl⟩
 have hkk:vk k=2:=by rw [hk];rfl
 have hki:vi k=B:=by rw [hk];rfl
 have hkr:vr k=0:=by rw [hk];rfl
 rw [<-hk]
 clear g b ho hv hk
 go_enter Tryz.func34,Tryz.ntmps34
 go_upto_region 1 with (fail)
 generalize w.alloc (.cells #[.int .i64 2,.int .i64 (n:Int),.int .i64 B,.int .i64 (c:Int)] 39)=w1 at *
 generalize hX:w.heap.size=X at *
 have x0:w1.cell? ⟨X,0,none⟩=some (.int .i64 2):=HX.o.cell (j:=0) (by omega)
 have x1:w1.cell? ⟨X,1,none⟩=some (.int .i64 (n:Int)):=HX.o.cell (j:=1) (by omega)
 have x2:w1.cell? ⟨X,2,none⟩=some (.int .i64 B):=HX.o.cell (j:=2) (by omega)
 have x3:w1.cell? ⟨X,3,none⟩=some (.int .i64 (c:Int)):=HX.o.cell (j:=3) (by omega)
 have r0:w1.cell? ⟨R,0,none⟩=some (.pointer (some ⟨L.H,0,none⟩)):=HR.o.x.r.cell (j:=0) (by omega)
 have hXl:=HX.o.lt
 have HRF:=ah (fun (w9:World)=>kN w9 c v HVV.o)
 have HST:=ah (fun (w9:World) (a9:JU base (fun b=>S b/\b≠X) h L w9)=>vZ a9 HG.o HBD.o HO.o k v)
 rw [hkk,hki,hkr] at HST
 clear hkk hki hkr
 go_wp2_with fail
 go_region_with (first
  |(go_at_call 45
    refine (HRF.o _).mono ?_
    rintro e5 w5 ⟨rfl,hb5⟩
    have hb6:Below w1.heap.size w1 w5:=⟨hb5.os,hb5.tape,hb5.output,hb5.size,hb5.block⟩
    have y1:=(hb6.cell (p:=⟨X,1,none⟩) hXl).trans x1
    have y2:=(hb6.cell (p:=⟨X,2,none⟩) hXl).trans x2
    have HB5:=ah hb6
    clear hb5 hb6)
  |(go_at_call 44
    refine (HST.o _ (HR.o.x.a.low HB5.o)).mono ?_
    rintro e6 w6 ⟨rfl,hk6,hs6⟩
    have H6:=ah (And.intro ((Keeps.of HB5.o (Nat.le_refl _) (fun b=>S b/\b≠X)).trans hk6) hs6)
    clear hk6 hs6))
 all_goals
  obtain ⟨hk6,L6,hH6,ha6⟩:=H6.o
  have H7:=ah (HR.o.heap ha6 hH6 hk6 (gF h n k v).1 (gF h n k v).2)
  have K6:=ah hk6
  clear hk6 ha6 hH6 H6
  go_wp2
  ((try simp only [Exit.inBlock,Exit.then]);refine bodyPost_ret (results_tmp2 rfl _ _ _) rfl ?_)
  exact dS.mk' (by rw [hX];exact HB.o) (fun b e=>e.1) K6.o H7.o
end Go.Proofs.YtedpifhlffcmkaaGreatDoor
