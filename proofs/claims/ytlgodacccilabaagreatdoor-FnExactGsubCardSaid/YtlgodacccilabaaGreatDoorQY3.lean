import Derived.Test.YtlgodacccilabaaGreatDoorQY2
namespace Go.Proofs.YtlgodacccilabaaGreatDoor
open Go Go.RowKit Go.Shelf
set_option linter.unusedVariables false
set_option maxHeartbeats 3200000 in
set_option maxRecDepth 100000 in
theorem pborder_any (R:Nat) (p:ByteArray) (pos:Nat) (vi vo vc:Value) (w:World) (hps:p.size≤1000) (hl:LtT w) (hR:1<R) (h:PQ w R p pos vi vo vc):
 Calls Tryz.prog 55 #[.pointer (some ⟨R,0,none⟩)] w fun e w'=>ItO w w' R p vi vo vc e (bdM p pos)∧Keeps w w' (fun b=>b=R):=by
 have hRl:R<w.heap.size:=RowF.lt h.2
 have hz:=zero_cl
 obtain ⟨z,hze⟩:∃ z,clC (fun _=>false)=z:=⟨_,rfl⟩
 rw [hze] at hz
 have hzs:z.size=256:=by rw [←hze];exact clC_size _
 have HZ:=hide hze
 have H:=hide h
 have HL:=hide hl
 clear h hl hze
 go_enter Tryz.func55,Tryz.ntmps55
 go_wp2_with fail
 refine (takes_q R p pos [91] vi vo vc w hps (by simp) H.out).mono ?_
 rintro e w0 ⟨rfl,hq0,hk0⟩
 rw [st_one] at hq0
 rw [st_one]
 by_cases h91:pos<p.size∧hb p pos=91
 ·rw [decide_eq_true (show pos<p.size∧hb p pos=(((91:UInt8).toNat:Nat):Int) from h91)] at hq0 ⊢
  rw [if_pos rfl] at hq0
  have HK0:=hide hk0
  have HQ0:=hide hq0
  have HL0:=hide (HL.out.keep hk0 (by omega) (by omega))
  clear hq0 hk0
  go_wp2_with fail
  refine (pset_any R p (pos+1) vi vo vc w0 hps HL0.out hR HQ0.out).mono ?_
  rintro e w1 ⟨ho,hk1⟩
  have HK1:=hide hk1
  clear hk1
  cases hm:stM p (pos+1) with
  |none=>
   rw [hm] at ho
   obtain ⟨f,rfl⟩:=ho
   have HM:=hide hm
   obtain ⟨q,hqe⟩:∃ q,clC f=q:=⟨_,rfl⟩
   have hqs:q.size=256:=by rw [←hqe];exact clC_size _
   have hnc:=clC_row (f:=fun _=>false) (w:=w1.alloc (.cells z 136)) (g:=w1.heap.size) (by rw [HZ.out];exact heap_alloc_new w1 _)
   have hst:=sc_cl hnc hqe
   rw [hqe]
   have HK2:=hide (keeps_setCells (S:=fun b=>b=R) q.toList 0 w1.heap.size HK1.out.size (HK1.out.trans (Keeps.of (b_1 w1 (.cells z 136)) (Nat.le_refl _) _)))
   have hld:=cl_set hnc f
   rw [hqe] at hld
   have HQe:=hide hqe
   have H2:=hide hld
   have HB:=hide (show R<w1.heap.size from Nat.lt_of_lt_of_le hRl (Nat.le_trans HK0.out.size HK1.out.size))
   clear hm hqe hnc hld
   go_wp2_with fail
   generalize (w1.alloc (.cells z 136)).setCells w1.heap.size 0 q.toList=w2 at H2 HK2 ⊢
   clear hst
   rename_i K9 a9
   refine wp_load_mid 136 (.tmp 4) rfl w1.heap.size 0 rfl (clC f).toList (.array 256 4) (cl_val H2.out) (by kernel_rfl) rfl (by rw [info_cl,Array.length_toList,clC_size]) ?_
   refine a9 _ _ ?_
   clear a9
   simp only [Array.toArray_toList]
   rw [HQe.out]
   go_wp2_with fail
   refine (mk_border q w2).mono ?_
   rintro e w9 ⟨rfl,hw9⟩
   have HW:=hide hw9
   clear hw9
   go_wp2_with fail
   refine bodyPost_ret (v:=.tuple #[.func (.func 89) #[] #[.pointer (some ⟨w2.heap.size,0,none⟩)],.bool false]) ?_ rfl ⟨?_,?_⟩
   ·simp [results,Tryz.results55,go_sem]
   ·rw [bdM_yes h91,HM.out]
    exact ⟨_,rfl⟩
   ·rw [HW.out]
    exact (HK0.out.trans HK2.out).trans (Keeps.of (b_1 w2 _) (Nat.le_refl _) _)
  |some r=>
   obtain ⟨f,pos'⟩:=r
   rw [hm] at ho
   obtain ⟨rfl,hq1⟩:=ho
   have HM:=hide hm
   obtain ⟨q,hqe⟩:∃ q,clC f=q:=⟨_,rfl⟩
   have hqs:q.size=256:=by rw [←hqe];exact clC_size _
   have hnc:=clC_row (f:=fun _=>false) (w:=w1.alloc (.cells z 136)) (g:=w1.heap.size) (by rw [HZ.out];exact heap_alloc_new w1 _)
   have hst:=sc_cl hnc hqe
   have hn2:=cl_set hnc f
   rw [hqe] at hn2
   rw [hqe]
   have hk4:=keeps_setCells (S:=fun _=>False) q.toList 0 w1.heap.size (Nat.le_refl _) (Keeps.of (b_1 w1 (.cells z 136)) (Nat.le_refl _) _)
   have H2:=hide (And.intro hn2 (And.intro (hq1.keep hk4 (fun x=>x)) (HK1.out.trans (hk4.mono (fun _ x=>x.elim)))))
   have HQe:=hide hqe
   have HB:=hide (show R<w1.heap.size from Nat.lt_of_lt_of_le hRl (Nat.le_trans HK0.out.size HK1.out.size))
   clear hm hqe hnc hn2 hk4 hq1
   have HKs:=hide (HK0.out.trans H2.out.2.2)
   go_wp2_with fail
   generalize (w1.alloc (.cells z 136)).setCells w1.heap.size 0 q.toList=w2 at H2 HKs ⊢
   clear hst
   have HRk:=hide (show R<w2.heap.size from Nat.lt_of_lt_of_le hRl HKs.out.size)
   have HV:=hide (show bdM p pos=some (itEdge f,pos') by rw [bdM_yes h91,HM.out];rfl)
   generalize w1.heap.size=B4 at H2 HB ⊢
   rename_i K9 a9
   refine wp_load_mid 136 (.tmp 4) rfl B4 0 rfl (clC f).toList (.array 256 4) (cl_val H2.out.1) (by kernel_rfl) rfl (by rw [info_cl,Array.length_toList,clC_size]) ?_
   refine a9 _ _ ?_
   clear a9
   simp only [Array.toArray_toList]
   rw [HQe.out]
   go_wp2_with fail
   refine (mk_border q w2).mono ?_
   rintro e w9 ⟨rfl,hw9⟩
   have HW:=hide hw9
   clear hw9
   go_wp2_with fail
   refine bodyPost_ret (v:=.tuple #[.func (.func 89) #[] #[.pointer (some ⟨w2.heap.size,0,none⟩)],.bool true]) ?_ rfl ⟨?_,?_⟩
   ·simp [results,Tryz.results55,go_sem]
   ·rw [HV.out]
    refine ⟨_,_,rfl,by rw [HW.out];exact iv_edge w2 R f q HQe.out.symm (by have:=HRk.out;omega),fun b hb=>?_,?_⟩
    ·rw [HW.out]
     simp [ptrB] at hb
     have:=HKs.out.size
     simp
     omega
    ·rw [HW.out]
     exact PQ.keep H2.out.2.1 (Keeps.of (b_1 w2 _) (Nat.le_refl _) (fun _=>False)) (fun x=>x)
   ·rw [HW.out]
    exact HKs.out.trans (Keeps.of (b_1 w2 _) (Nat.le_refl _) _)
 ·rw [decide_eq_false (show ¬ (pos<p.size∧hb p pos=(((91:UInt8).toNat:Nat):Int)) from h91)] at hq0 ⊢
  have HK0:=hide hk0
  clear hq0 hk0
  go_wp2_with fail
  refine bodyPost_ret (v:=.tuple #[.nilFunc,.bool false]) ?_ rfl ⟨?_,HK0.out⟩
  ·simp [results,Tryz.results55,go_sem]
  ·unfold bdM
   rw [if_neg h91]
   exact ⟨_,rfl⟩
end Go.Proofs.YtlgodacccilabaaGreatDoor
