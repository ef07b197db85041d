import Derived.Test.YtlgodacccilabaaGreatDoorQS
import Derived.Test.YtlgodacccilabaaGreatDoorJQL
namespace Go.Proofs.YtlgodacccilabaaGreatDoor
open Go Go.RowKit Go.Shelf
set_option linter.unusedVariables false
theorem esc_low {x:Int} (h:97≤x∧x≤122):escOk x=clsIs x∧(clsIs x=true→∀ c:Int,escIn x c=cls x c):=by
 have e:lowK x=x:=by unfold lowK;rw [if_neg (by omega)]
 have e2:isLow x=true:=by simp [isLow];omega
 refine ⟨by simp [escOk,e,e2],fun hc c=>?_⟩
 simp [escIn,e,hc]
theorem cls_not_up {x:Int} (h:x<97∨122<x):clsIs x=false:=by simp [clsIs];omega
theorem esc_up {x:Int} (h:65≤x∧x≤90):escOk x=clsIs (x+32)∧(clsIs (x+32)=true→∀ c:Int,escIn x c=!cls (x+32) c):=by
 have e:lowK x=x+32:=by unfold lowK;rw [if_pos h]
 have e2:isLow (x+32)=true:=by simp [isLow];omega
 refine ⟨by simp [escOk,e,e2],fun hc c=>?_⟩
 have e3:decide (x+32=x)=false:=by simp;omega
 simp only [escIn,e,hc,if_pos,e3]
 cases cls (x+32) c<;>rfl
theorem esc_else {x:Int} (h1:¬ (97≤x∧x≤122)) (h2:¬ (65≤x∧x≤90)):escOk x=!isDg x∧∀ c:Int,escIn x c=decide (c=x):=by
 have e:lowK x=x:=by unfold lowK;rw [if_neg h2]
 have e2:isLow x=false:=by simp [isLow];omega
 have e3:clsIs x=false:=cls_not_up (by omega)
 exact ⟨by simp [escOk,e,e2,e3],fun c=>by simp [escIn,e,e3]⟩
def ClR (e:Ending) (ok:Bool) (g:Nat→Bool):Prop:=∃ f,e=.returned (.tuple #[.agg (clC f),.bool ok])∧(ok=true→∀ c,c<256→f c=g c)
set_option maxHeartbeats 1600000 in
set_option maxRecDepth 100000 in
theorem escapedClass_any (x:Int) (w:World) (hx:0≤x∧x<256) (hl:LtT w) (h0:1<w.heap.size):
 Calls Tryz.prog 99 #[.int .u8 x] w fun e w'=>ClR e (escOk x) (fun c=>escIn x (c:Int))∧Below w.heap.size w w':=by
 have hz:=zero_cl
 obtain ⟨z,hze⟩:∃ z,clC (fun _=>false)=z:=⟨_,rfl⟩
 rw [hze] at hz
 have hA:=clC_row (f:=fun _=>false) (w:=w.alloc (.cells z 136)) (g:=w.heap.size) (by rw [hze];exact heap_alloc_new w _)
 have H0:=hide (And.intro hA (b_1 w (.cells z 136)))
 have HLt:=hide (hl.low (b_1 w (.cells z 136)) h0)
 have hzs:z.size=256:=by rw [←hze];exact clC_size _
 have HZ:=hide hze
 clear hze hA hl
 go_enter Tryz.func99,Tryz.ntmps99
 by_cases h1:97≤x
 ·by_cases h2:x≤122
  ·go_wp2_with fail
   refine (letterClass_any x _ hx HLt.out (by simp;omega)).mono ?_
   rintro e w1 ⟨rfl,hb1⟩
   obtain ⟨q,hqe⟩:∃ q,clC (fun c=>clsIs x&&cls x (c:Int))=q:=⟨_,rfl⟩
   have hcl:=H0.out.1.low hb1 H0.out.1.lt
   have hst:=sc_cl hcl hqe
   have hqs:q.size=256:=by rw [←hqe];exact clC_size _
   rw [hqe]
   have HE:=hide (And.intro hqe (And.intro hcl (H0.out.2.trans (hb1.mono (by simp)))))
   clear hqe hb1 hcl
   obtain ⟨e1,e2⟩:=esc_low (x:=x) ⟨h1,h2⟩
   have H9:=hide (And.intro e1 e2)
   clear e1 e2
   go_wp2_with fail
   refine bodyPost_ret (res_cl rfl _ _ (clsIs x) rfl rfl (f:=fun c=>clsIs x&&cls x (c:Int)) (by rw [←HE.out.1];exact cl_set HE.out.2.1 _)) rfl ⟨⟨_,by rw [H9.out.1],fun hk c hc=>?_⟩,below_setCells w.heap.size _ 0 _ (Nat.le_refl _) HE.out.2.2⟩
   rw [H9.out.1] at hk
   show _=escIn x (c:Int)
   rw [H9.out.2 hk,hk,Bool.true_and]
  ·go_wp2_with fail
   refine (between_any x.toNat x.toNat x x (by omega) (by omega) (by omega) (by omega) _).mono ?_
   rintro e w1 ⟨rfl,hb1⟩
   have HB1:=hide hb1
   clear hb1
   obtain ⟨q,hqe⟩:∃ q,clC (btw x.toNat x.toNat)=q:=⟨_,rfl⟩
   rw [hqe]
   go_wp2_with fail
   refine (isDigit_any x _).mono ?_
   rintro e w2 ⟨rfl,hw2⟩
   obtain rfl:=hw2.symm
   have hcl:=H0.out.1.low HB1.out H0.out.1.lt
   have hst:=sc_cl hcl hqe
   have hqs:q.size=256:=by rw [←hqe];exact clC_size _
   have HE:=hide (And.intro hqe (And.intro hcl (H0.out.2.trans (HB1.out.mono (by simp)))))
   clear hqe hcl
   obtain ⟨e1,e2⟩:=esc_else (x:=x) (by omega) (by omega)
   have H9:=hide (And.intro e1 e2)
   clear e1 e2
   go_wp2_with fail
   refine bodyPost_ret (res_cl rfl _ _ (!isDg x) rfl rfl (f:=btw x.toNat x.toNat) (by rw [←HE.out.1];exact cl_set HE.out.2.1 _)) rfl ⟨⟨_,by rw [H9.out.1],fun _ c hc=>?_⟩,below_setCells w.heap.size _ 0 _ (Nat.le_refl _) HE.out.2.2⟩
   show _=escIn x (c:Int)
   rw [H9.out.2]
   simp only [btw]
   rw [Bool.eq_iff_iff]
   simp
   omega
 ·by_cases h3:65≤x
  ·by_cases h4:x≤90
   ·have ha:x-65+97=x+32:=by omega
    go_wp2_with fail
    refine (letterClass_any (x+32) _ (by omega) HLt.out (by simp;omega)).mono ?_
    rintro e w1 ⟨rfl,hb1⟩
    obtain ⟨q,hqe⟩:∃ q,clC (fun c=>clsIs (x+32)&&cls (x+32) (c:Int))=q:=⟨_,rfl⟩
    have hcl:=H0.out.1.low hb1 H0.out.1.lt
    have hqs:q.size=256:=by rw [←hqe];exact clC_size _
    rw [hqe]
    have HE:=hide (And.intro hqe (And.intro hcl (H0.out.2.trans (hb1.mono (by simp)))))
    have hnc:=clC_row (f:=fun _=>false) (w:=w1.alloc (.cells z 136)) (g:=w1.heap.size) (by rw [HZ.out];exact heap_alloc_new w1 _)
    have hst:=sc_cl hnc hqe
    have hn2:=cl_set hnc (fun c=>clsIs (x+32)&&cls (x+32) (c:Int))
    rw [hqe] at hn2
    have hb2:Below w1.heap.size w1 ((w1.alloc (.cells z 136)).setCells w1.heap.size 0 q.toList):=below_setCells w1.heap.size _ 0 _ (Nat.le_refl _) (b_1 w1 _)
    have HN:=hide (And.intro hn2 hb2)
    clear hqe hb1 hcl hnc hn2 hb2
    go_wp2_with fail
    generalize (w1.alloc (.cells z 136)).setCells w1.heap.size 0 q.toList=w2 at HN ⊢
    rename_i K1 a1 K0 a0
    refine wp_load_mid 136 (.tmp 4) rfl w1.heap.size 0 rfl (clC (fun c=>clsIs (x+32)&&cls (x+32) (c:Int))).toList (.array 256 4) (cl_val HN.out.1) (by kernel_rfl) rfl (by rw [info_cl,Array.length_toList,clC_size]) ?_
    refine a0 _ _ ?_
    clear a0 hst
    rw [Array.toArray_toList,HE.out.1]
    go_wp2_with fail
    refine (turnedOver_any (fun c=>clsIs (x+32)&&cls (x+32) (c:Int)) q HE.out.1.symm w2).mono ?_
    rintro e w3 ⟨rfl,hb3⟩
    have hb4:=HN.out.2.trans (hb3.mono HN.out.2.size)
    have hcl:=HE.out.2.1.low hb4 HE.out.2.1.lt
    obtain ⟨p,hpe⟩:∃ p,clC (fun c=>!(clsIs (x+32)&&cls (x+32) (c:Int)))=p:=⟨_,rfl⟩
    rw [hpe]
    have hst:=sc_cl hcl hpe
    have hps:p.size=256:=by rw [←hpe];exact clC_size _
    have HF:=hide (And.intro hpe (And.intro hcl (HE.out.2.2.trans (hb4.mono (Nat.le_of_lt HE.out.2.1.lt)))))
    clear hpe hcl hb3 hb4
    obtain ⟨e1,e2⟩:=esc_up (x:=x) ⟨h3,h4⟩
    have H9:=hide (And.intro e1 e2)
    clear e1 e2
    go_wp2_with fail
    refine bodyPost_ret (res_cl rfl _ _ (clsIs (x+32)) rfl rfl (f:=fun c=>!(clsIs (x+32)&&cls (x+32) (c:Int))) (by rw [←HF.out.1];exact cl_set HF.out.2.1 _)) rfl ⟨⟨_,by rw [H9.out.1],fun hk c hc=>?_⟩,below_setCells w.heap.size _ 0 _ (Nat.le_refl _) HF.out.2.2⟩
    rw [H9.out.1] at hk
    show _=escIn x (c:Int)
    rw [H9.out.2 hk,hk,Bool.true_and]
   ·go_wp2_with fail
    refine (between_any x.toNat x.toNat x x (by omega) (by omega) (by omega) (by omega) _).mono ?_
    rintro e w1 ⟨rfl,hb1⟩
    have HB1:=hide hb1
    clear hb1
    obtain ⟨q,hqe⟩:∃ q,clC (btw x.toNat x.toNat)=q:=⟨_,rfl⟩
    rw [hqe]
    go_wp2_with fail
    refine (isDigit_any x _).mono ?_
    rintro e w2 ⟨rfl,hw2⟩
    obtain rfl:=hw2.symm
    have hcl:=H0.out.1.low HB1.out H0.out.1.lt
    have hst:=sc_cl hcl hqe
    have hqs:q.size=256:=by rw [←hqe];exact clC_size _
    have HE:=hide (And.intro hqe (And.intro hcl (H0.out.2.trans (HB1.out.mono (by simp)))))
    clear hqe hcl
    obtain ⟨e1,e2⟩:=esc_else (x:=x) (by omega) (by omega)
    have H9:=hide (And.intro e1 e2)
    clear e1 e2
    go_wp2_with fail
    refine bodyPost_ret (res_cl rfl _ _ (!isDg x) rfl rfl (f:=btw x.toNat x.toNat) (by rw [←HE.out.1];exact cl_set HE.out.2.1 _)) rfl ⟨⟨_,by rw [H9.out.1],fun _ c hc=>?_⟩,below_setCells w.heap.size _ 0 _ (Nat.le_refl _) HE.out.2.2⟩
    show _=escIn x (c:Int)
    rw [H9.out.2]
    simp only [btw]
    rw [Bool.eq_iff_iff]
    simp
    omega
  ·go_wp2_with fail
   refine (between_any x.toNat x.toNat x x (by omega) (by omega) (by omega) (by omega) _).mono ?_
   rintro e w1 ⟨rfl,hb1⟩
   have HB1:=hide hb1
   clear hb1
   obtain ⟨q,hqe⟩:∃ q,clC (btw x.toNat x.toNat)=q:=⟨_,rfl⟩
   rw [hqe]
   go_wp2_with fail
   refine (isDigit_any x _).mono ?_
   rintro e w2 ⟨rfl,hw2⟩
   obtain rfl:=hw2.symm
   have hcl:=H0.out.1.low HB1.out H0.out.1.lt
   have hst:=sc_cl hcl hqe
   have hqs:q.size=256:=by rw [←hqe];exact clC_size _
   have HE:=hide (And.intro hqe (And.intro hcl (H0.out.2.trans (HB1.out.mono (by simp)))))
   clear hqe hcl
   obtain ⟨e1,e2⟩:=esc_else (x:=x) (by omega) (by omega)
   have H9:=hide (And.intro e1 e2)
   clear e1 e2
   go_wp2_with fail
   refine bodyPost_ret (res_cl rfl _ _ (!isDg x) rfl rfl (f:=btw x.toNat x.toNat) (by rw [←HE.out.1];exact cl_set HE.out.2.1 _)) rfl ⟨⟨_,by rw [H9.out.1],fun _ c hc=>?_⟩,below_setCells w.heap.size _ 0 _ (Nat.le_refl _) HE.out.2.2⟩
   show _=escIn x (c:Int)
   rw [H9.out.2]
   simp only [btw]
   rw [Bool.eq_iff_iff]
   simp
   omega
end Go.Proofs.YtlgodacccilabaaGreatDoor
