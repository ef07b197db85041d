import Derived.Test.YtlgodacccilabaaGreatDoorJQY1
namespace Go.Proofs.YtlgodacccilabaaGreatDoor
open Go Go.RowKit Go.Shelf
set_option linter.unusedVariables false
def sgM (p:ByteArray) (pos:Nat):Option (It × Nat):=(rdOne p pos).map (fun r=>if r.2<p.size∧isSign (hb p r.2)=true then (itOne r.1 (hb p r.2),r.2+1) else (itOne r.1 0,r.2))
theorem sg_yes {p:ByteArray} {pos pos':Nat} {f:Nat→Bool} (h:rdOne p pos=some (f,pos')) (h1:pos'<p.size) (h2:isSign (hb p pos')=true):sgM p pos=some (itOne f (hb p pos'),pos'+1):=by
 unfold sgM;rw [h];simp only [Option.map_some];rw [if_pos ⟨h1,h2⟩]
theorem sg_no {p:ByteArray} {pos pos':Nat} {f:Nat→Bool} (h:rdOne p pos=some (f,pos')) (h1:¬ (pos'<p.size∧isSign (hb p pos')=true)):sgM p pos=some (itOne f 0,pos'):=by
 unfold sgM;rw [h];simp only [Option.map_some];rw [if_neg h1]
theorem isSign_cases {q:Int} (h:isSign q=true):q=42∨q=43∨q=45∨q=63:=by
 simp [isSign] at h
 omega
def bdM (p:ByteArray) (pos:Nat):Option (It × Nat):=if pos<p.size∧hb p pos=91 then (stM p (pos+1)).map (fun r=>(itEdge r.1,r.2)) else none
theorem bdM_yes {p:ByteArray} {pos:Nat} (h:pos<p.size∧hb p pos=91):bdM p pos=(stM p (pos+1)).map (fun r=>(itEdge r.1,r.2)):=if_pos h
def ItO (w w':World) (R:Nat) (p:ByteArray) (vi vo vc:Value) (e:Ending):Option (It × Nat)→Prop
 |none=>∃ v,e=.returned (.tuple #[v,.bool false])
 |some (it,pos)=>∃ fi ci,e=.returned (.tuple #[.func (.func fi) #[] ci,.bool true])∧ItV w' R it fi ci∧(∀ b,ptrB b∈ci.toList→w.heap.size≤b∧b<w'.heap.size)∧PQ w' R p pos vi vo vc
set_option maxHeartbeats 3200000 in
set_option maxRecDepth 100000 in
theorem signed_any (R:Nat) (p:ByteArray) (pos:Nat) (vi vo vc:Value) (w:World) (hps:p.size≤1000) (hl:LtT w) (hR:1<R) (hs:pos<p.size) (h:PQ w R p pos vi vo vc):
 Calls Tryz.prog 56 #[.pointer (some ⟨R,0,none⟩)] w fun e w'=>ItO w w' R p vi vo vc e (sgM p pos)∧Keeps w w' (fun b=>b=R):=by
 have hRl:R<w.heap.size:=RowF.lt h.2
 have hz:=zero_cl
 obtain ⟨z,hze⟩:∃ z,clC (fun _=>false)=z:=⟨_,rfl⟩
 rw [hze] at hz
 have hzs:z.size=256:=by rw [←hze];exact clC_size _
 have HZ:=hide hze
 have H:=hide h
 have HL:=hide hl
 clear h hl hze
 go_enter Tryz.func56,Tryz.ntmps56
 go_wp2_with fail
 refine (psingle_any R p pos vi vo vc w hps HL.out hR hs H.out).mono ?_
 rintro e w1 ⟨ho,hk1⟩
 have HK1:=hide hk1
 clear hk1
 cases hm:rdOne p pos with
 |none=>
  rw [hm] at ho
  obtain ⟨f,rfl⟩:=ho
  have HM:=hide hm
  obtain ⟨q,hqe⟩:∃ q,clC f=q:=⟨_,rfl⟩
  have hqs:q.size=256:=by rw [←hqe];exact clC_size _
  have hnc:=clC_row (f:=fun _=>false) (w:=w1.alloc (.cells z 136)) (g:=w1.heap.size) (by rw [HZ.out];exact heap_alloc_new w1 _)
  have hst:=sc_cl hnc hqe
  rw [hqe]
  have HK2:=hide (keeps_setCells (S:=fun b=>b=R) q.toList 0 w1.heap.size HK1.out.size (HK1.out.trans (Keeps.of (b_1 w1 (.cells z 136)) (Nat.le_refl _) _)))
  clear hm hqe hnc
  go_wp2_with fail
  refine bodyPost_ret (v:=.tuple #[.nilFunc,.bool false]) ?_ rfl ⟨?_,HK2.out⟩
  ·simp [results,Tryz.results56,go_sem]
  ·unfold sgM
   rw [HM.out]
   exact ⟨_,rfl⟩
 |some r=>
  obtain ⟨f,pos'⟩:=r
  rw [hm] at ho
  obtain ⟨rfl,hq1⟩:=ho
  have HM:=hide hm
  obtain ⟨q,hqe⟩:∃ q,clC f=q:=⟨_,rfl⟩
  have hqs:q.size=256:=by rw [←hqe];exact clC_size _
  have hnc:=clC_row (f:=fun _=>false) (w:=w1.alloc (.cells z 136)) (g:=w1.heap.size) (by rw [HZ.out];exact heap_alloc_new w1 _)
  have hst:=sc_cl hnc hqe
  have hn2:=cl_set hnc f
  rw [hqe] at hn2
  rw [hqe]
  have hk4:=keeps_setCells (S:=fun _=>False) q.toList 0 w1.heap.size (Nat.le_refl _) (Keeps.of (b_1 w1 (.cells z 136)) (Nat.le_refl _) _)
  have H2:=hide (And.intro hn2 (And.intro (hq1.keep hk4 (fun x=>x)) (HK1.out.trans (hk4.mono (fun _ x=>x.elim)))))
  have HQe:=hide hqe
  have HB:=hide (show R<w1.heap.size from Nat.lt_of_lt_of_le hRl HK1.out.size)
  clear hm hqe hnc hn2 hk4 hq1
  go_wp2_with fail
  generalize (w1.alloc (.cells z 136)).setCells w1.heap.size 0 q.toList=w2 at H2 ⊢
  clear hst
  generalize w1.heap.size=B4 at H2 HB ⊢
  refine (takes_q R p pos' [42] vi vo vc w2 hps (by simp) H2.out.2.1).mono ?_
  rintro e w3 ⟨rfl,hq7,hk7⟩
  rw [st_one] at hq7
  rw [st_one]
  have H3k:=hide (And.intro (RowF.keep H2.out.1 hk7 (by have:=HB.out;omega)) (H2.out.2.2.trans hk7))
  by_cases h42:pos'<p.size∧hb p pos'=42
  ·rw [decide_eq_true (show pos'<p.size∧hb p pos'=(((42:UInt8).toNat:Nat):Int) from h42)] at hq7 ⊢
   rw [if_pos rfl] at hq7
   have HQ7:=hide hq7
   have HKs:=hide H3k.out.2
   have HRk:=hide (show R<w3.heap.size from Nat.lt_of_lt_of_le hRl HKs.out.size)
   have HV:=hide (sg_yes (show rdOne p pos=some (f,pos') from HM.out) h42.1 (show isSign (hb p pos')=true by rw [h42.2];decide))
   rw [h42.2] at HV
   clear hq7 hk7 h42
   go_wp2_with fail
   rename_i K9 a9
   refine wp_load_mid 136 (.tmp 4) rfl B4 0 rfl (clC f).toList (.array 256 4) (cl_val H3k.out.1) (by kernel_rfl) rfl (by rw [info_cl,Array.length_toList,clC_size]) ?_
   refine a9 _ _ ?_
   clear a9
   simp only [Array.toArray_toList]
   rw [HQe.out]
   go_wp2_with fail
   refine (mk_longest q 0 w3).mono ?_
   rintro e w9 ⟨rfl,hw9⟩
   have HW:=hide hw9
   clear hw9
   go_wp2_with fail
   refine bodyPost_ret (v:=.tuple #[.func (.func 92) #[] #[.pointer (some ⟨w3.heap.size,0,none⟩),.pointer (some ⟨w3.heap.size+1,0,none⟩)],.bool true]) ?_ rfl ⟨?_,?_⟩
   ·simp [results,Tryz.results56,go_sem]
   ·rw [HV.out]
    refine ⟨_,_,rfl,by rw [HW.out];exact iv_long w3 R 0 42 f q HQe.out.symm (.inl ⟨rfl,rfl⟩) (by have:=HRk.out;omega),fun b hb=>?_,?_⟩
    ·rw [HW.out]
     simp [ptrB] at hb
     have:=HKs.out.size
     simp
     omega
    ·rw [HW.out]
     exact PQ.keep HQ7.out (Keeps.of (b_2 w3 _ _) (Nat.le_refl _) (fun _=>False)) (fun x=>x)
   ·rw [HW.out]
    exact HKs.out.trans (Keeps.of (b_2 w3 _ _) (Nat.le_refl _) _)
  ·rw [decide_eq_false (show ¬ (pos'<p.size∧hb p pos'=(((42:UInt8).toNat:Nat):Int)) from h42)] at hq7 ⊢
   rw [if_neg (by simp)] at hq7
   have H3:=hide (And.intro H3k.out.1 (And.intro hq7 H3k.out.2))
   have HN42:=hide h42
   clear hq7 hk7 H3k h42
   go_wp2_with fail
   refine (takes_q R p pos' [43] vi vo vc w3 hps (by simp) H3.out.2.1).mono ?_
   rintro e w4 ⟨rfl,hq7,hk7⟩
   rw [st_one] at hq7
   rw [st_one]
   have H4k:=hide (And.intro (RowF.keep H3.out.1 hk7 (by have:=HB.out;omega)) (H3.out.2.2.trans hk7))
   by_cases h43:pos'<p.size∧hb p pos'=43
   ·rw [decide_eq_true (show pos'<p.size∧hb p pos'=(((43:UInt8).toNat:Nat):Int) from h43)] at hq7 ⊢
    rw [if_pos rfl] at hq7
    have HQ7:=hide hq7
    have HKs:=hide H4k.out.2
    have HRk:=hide (show R<w4.heap.size from Nat.lt_of_lt_of_le hRl HKs.out.size)
    have HV:=hide (sg_yes (show rdOne p pos=some (f,pos') from HM.out) h43.1 (show isSign (hb p pos')=true by rw [h43.2];decide))
    rw [h43.2] at HV
    clear hq7 hk7 h43
    go_wp2_with fail
    rename_i K9 a9
    refine wp_load_mid 136 (.tmp 4) rfl B4 0 rfl (clC f).toList (.array 256 4) (cl_val H4k.out.1) (by kernel_rfl) rfl (by rw [info_cl,Array.length_toList,clC_size]) ?_
    refine a9 _ _ ?_
    clear a9
    simp only [Array.toArray_toList]
    rw [HQe.out]
    go_wp2_with fail
    refine (mk_longest q 1 w4).mono ?_
    rintro e w9 ⟨rfl,hw9⟩
    have HW:=hide hw9
    clear hw9
    go_wp2_with fail
    refine bodyPost_ret (v:=.tuple #[.func (.func 92) #[] #[.pointer (some ⟨w4.heap.size,0,none⟩),.pointer (some ⟨w4.heap.size+1,0,none⟩)],.bool true]) ?_ rfl ⟨?_,?_⟩
    ·simp [results,Tryz.results56,go_sem]
    ·rw [HV.out]
     refine ⟨_,_,rfl,by rw [HW.out];exact iv_long w4 R 1 43 f q HQe.out.symm (.inr ⟨rfl,rfl⟩) (by have:=HRk.out;omega),fun b hb=>?_,?_⟩
     ·rw [HW.out]
      simp [ptrB] at hb
      have:=HKs.out.size
      simp
      omega
     ·rw [HW.out]
      exact PQ.keep HQ7.out (Keeps.of (b_2 w4 _ _) (Nat.le_refl _) (fun _=>False)) (fun x=>x)
    ·rw [HW.out]
     exact HKs.out.trans (Keeps.of (b_2 w4 _ _) (Nat.le_refl _) _)
   ·rw [decide_eq_false (show ¬ (pos'<p.size∧hb p pos'=(((43:UInt8).toNat:Nat):Int)) from h43)] at hq7 ⊢
    rw [if_neg (by simp)] at hq7
    have H4:=hide (And.intro H4k.out.1 (And.intro hq7 H4k.out.2))
    have HN43:=hide h43
    clear hq7 hk7 H4k h43
    go_wp2_with fail
    refine (takes_q R p pos' [45] vi vo vc w4 hps (by simp) H4.out.2.1).mono ?_
    rintro e w5 ⟨rfl,hq7,hk7⟩
    rw [st_one] at hq7
    rw [st_one]
    have H5k:=hide (And.intro (RowF.keep H4.out.1 hk7 (by have:=HB.out;omega)) (H4.out.2.2.trans hk7))
    by_cases h45:pos'<p.size∧hb p pos'=45
    ·rw [decide_eq_true (show pos'<p.size∧hb p pos'=(((45:UInt8).toNat:Nat):Int) from h45)] at hq7 ⊢
     rw [if_pos rfl] at hq7
     have HQ7:=hide hq7
     have HKs:=hide H5k.out.2
     have HRk:=hide (show R<w5.heap.size from Nat.lt_of_lt_of_le hRl HKs.out.size)
     have HV:=hide (sg_yes (show rdOne p pos=some (f,pos') from HM.out) h45.1 (show isSign (hb p pos')=true by rw [h45.2];decide))
     rw [h45.2] at HV
     clear hq7 hk7 h45
     go_wp2_with fail
     rename_i K9 a9
     refine wp_load_mid 136 (.tmp 4) rfl B4 0 rfl (clC f).toList (.array 256 4) (cl_val H5k.out.1) (by kernel_rfl) rfl (by rw [info_cl,Array.length_toList,clC_size]) ?_
     refine a9 _ _ ?_
     clear a9
     simp only [Array.toArray_toList]
     rw [HQe.out]
     go_wp2_with fail
     refine (mk_shortest q w5).mono ?_
     rintro e w9 ⟨rfl,hw9⟩
     have HW:=hide hw9
     clear hw9
     go_wp2_with fail
     refine bodyPost_ret (v:=.tuple #[.func (.func 94) #[] #[.pointer (some ⟨w5.heap.size,0,none⟩)],.bool true]) ?_ rfl ⟨?_,?_⟩
     ·simp [results,Tryz.results56,go_sem]
     ·rw [HV.out]
      refine ⟨_,_,rfl,by rw [HW.out];exact iv_short w5 R f q HQe.out.symm (by have:=HRk.out;omega),fun b hb=>?_,?_⟩
      ·rw [HW.out]
       simp [ptrB] at hb
       have:=HKs.out.size
       simp
       omega
      ·rw [HW.out]
       exact PQ.keep HQ7.out (Keeps.of (b_1 w5 _) (Nat.le_refl _) (fun _=>False)) (fun x=>x)
     ·rw [HW.out]
      exact HKs.out.trans (Keeps.of (b_1 w5 _) (Nat.le_refl _) _)
    ·rw [decide_eq_false (show ¬ (pos'<p.size∧hb p pos'=(((45:UInt8).toNat:Nat):Int)) from h45)] at hq7 ⊢
     rw [if_neg (by simp)] at hq7
     have H5:=hide (And.intro H5k.out.1 (And.intro hq7 H5k.out.2))
     have HN45:=hide h45
     clear hq7 hk7 H5k h45
     go_wp2_with fail
     refine (takes_q R p pos' [63] vi vo vc w5 hps (by simp) H5.out.2.1).mono ?_
     rintro e w6 ⟨rfl,hq7,hk7⟩
     rw [st_one] at hq7
     rw [st_one]
     have H6k:=hide (And.intro (RowF.keep H5.out.1 hk7 (by have:=HB.out;omega)) (H5.out.2.2.trans hk7))
     by_cases h63:pos'<p.size∧hb p pos'=63
     ·rw [decide_eq_true (show pos'<p.size∧hb p pos'=(((63:UInt8).toNat:Nat):Int) from h63)] at hq7 ⊢
      rw [if_pos rfl] at hq7
      have HQ7:=hide hq7
      have HKs:=hide H6k.out.2
      have HRk:=hide (show R<w6.heap.size from Nat.lt_of_lt_of_le hRl HKs.out.size)
      have HV:=hide (sg_yes (show rdOne p pos=some (f,pos') from HM.out) h63.1 (show isSign (hb p pos')=true by rw [h63.2];decide))
      rw [h63.2] at HV
      clear hq7 hk7 h63
      go_wp2_with fail
      rename_i K9 a9
      refine wp_load_mid 136 (.tmp 4) rfl B4 0 rfl (clC f).toList (.array 256 4) (cl_val H6k.out.1) (by kernel_rfl) rfl (by rw [info_cl,Array.length_toList,clC_size]) ?_
      refine a9 _ _ ?_
      clear a9
      simp only [Array.toArray_toList]
      rw [HQe.out]
      go_wp2_with fail
      refine (mk_singleOrNone q w6).mono ?_
      rintro e w9 ⟨rfl,hw9⟩
      have HW:=hide hw9
      clear hw9
      go_wp2_with fail
      refine bodyPost_ret (v:=.tuple #[.func (.func 95) #[] #[.pointer (some ⟨w6.heap.size,0,none⟩)],.bool true]) ?_ rfl ⟨?_,?_⟩
      ·simp [results,Tryz.results56,go_sem]
      ·rw [HV.out]
       refine ⟨_,_,rfl,by rw [HW.out];exact iv_opt w6 R f q HQe.out.symm (by have:=HRk.out;omega),fun b hb=>?_,?_⟩
       ·rw [HW.out]
        simp [ptrB] at hb
        have:=HKs.out.size
        simp
        omega
       ·rw [HW.out]
        exact PQ.keep HQ7.out (Keeps.of (b_1 w6 _) (Nat.le_refl _) (fun _=>False)) (fun x=>x)
      ·rw [HW.out]
       exact HKs.out.trans (Keeps.of (b_1 w6 _) (Nat.le_refl _) _)
     ·rw [decide_eq_false (show ¬ (pos'<p.size∧hb p pos'=(((63:UInt8).toNat:Nat):Int)) from h63)] at hq7 ⊢
      rw [if_neg (by simp)] at hq7
      have H6:=hide (And.intro H6k.out.1 (And.intro hq7 H6k.out.2))
      have HN63:=hide h63
      clear hq7 hk7 H6k h63
      have HKs:=hide H6.out.2.2
      have HRk:=hide (show R<w6.heap.size from Nat.lt_of_lt_of_le hRl HKs.out.size)
      have HV:=hide (sg_no (show rdOne p pos=some (f,pos') from HM.out) (fun x=>by
       have:=isSign_cases x.2
       rcases this with e|e|e|e
       ·exact HN42.out ⟨x.1,e⟩
       ·exact HN43.out ⟨x.1,e⟩
       ·exact HN45.out ⟨x.1,e⟩
       ·exact HN63.out ⟨x.1,e⟩))
      go_wp2_with fail
      rename_i K9 a9
      refine wp_load_mid 136 (.tmp 4) rfl B4 0 rfl (clC f).toList (.array 256 4) (cl_val H6.out.1) (by kernel_rfl) rfl (by rw [info_cl,Array.length_toList,clC_size]) ?_
      refine a9 _ _ ?_
      clear a9
      simp only [Array.toArray_toList]
      rw [HQe.out]
      go_wp2_with fail
      refine (mk_single q w6).mono ?_
      rintro e w9 ⟨rfl,hw9⟩
      have HW:=hide hw9
      clear hw9
      go_wp2_with fail
      refine bodyPost_ret (v:=.tuple #[.func (.func 96) #[] #[.pointer (some ⟨w6.heap.size,0,none⟩)],.bool true]) ?_ rfl ⟨?_,?_⟩
      ·simp [results,Tryz.results56,go_sem]
      ·rw [HV.out]
       refine ⟨_,_,rfl,by rw [HW.out];exact iv_single w6 R f q HQe.out.symm (by have:=HRk.out;omega),fun b hb=>?_,?_⟩
       ·rw [HW.out]
        simp [ptrB] at hb
        have:=HKs.out.size
        simp
        omega
       ·rw [HW.out]
        exact PQ.keep H6.out.2.1 (Keeps.of (b_1 w6 _) (Nat.le_refl _) (fun _=>False)) (fun x=>x)
      ·rw [HW.out]
       exact HKs.out.trans (Keeps.of (b_1 w6 _) (Nat.le_refl _) _)
end Go.Proofs.YtlgodacccilabaaGreatDoor
