import Derived.Test.YtlgodacccilabaaGreatDoorJQS0
namespace Go.Proofs.YtlgodacccilabaaGreatDoor
open Go Go.RowKit Go.Shelf
set_option linter.unusedVariables false
theorem res_cl {fn:Func} {p u R:Nat} (hf:fn.results=#[.cell p 136,.tmp u]) (tmps:Array Value) (w:World) (b:Bool) {f:Nat→Bool} (hp:tmps.getD p undef=.pointer (some ⟨R,0,none⟩)) (hb:tmps.getD u undef=.bool b) (h:ClF w R f):
 (results fn tmps).run Tryz.prog w=.ok (.tuple #[.agg (clC f),.bool b]) w:=by
 rw [results_cell_tmp hf,hp,hb]
 simp [asAddr,Result.andThen,ld_cl h]
theorem sc_cl {w:World} {g:Nat} {f:Nat→Bool} (h:ClF w g f) {q:Array Value} {f':Nat→Bool} (hq:clC f'=q):(storeCells ⟨g,0,none⟩ q.toList).run Tryz.prog w=.ok () (w.setCells g 0 q.toList):=by
 have hs:q.toList.length=256:=by rw [←hq,Array.length_toList];exact clC_size f'
 have ht:=row_there h
 have:=run_storeCells_cells (P:=Tryz.prog) g 0 q.toList 0 w (fun j hj=>by simpa using (ht j (by omega)).1) (fun j hj=>by simpa using (ht j (by omega)).2)
  (fun v hv=>(Array.all_eq_true_iff_forall_mem.1 (show q.all (·.oneCell')=true by rw [←hq];exact clC_one f')) v (by simpa using hv))
 simpa using this
set_option maxHeartbeats 3200000 in
set_option maxRecDepth 100000 in
theorem letterClass_any (x:Int) (w:World) (hx:0≤x∧x<256) (hl:LtT w) (h0:1<w.heap.size):
 Calls Tryz.prog 104 #[.int .u8 x] w fun e w'=>e=.returned (.tuple #[.agg (clC (fun c=>clsIs x&&cls x c)),.bool (clsIs x)])∧Below w.heap.size w w':=by
 have hz:=zero_cl
 obtain ⟨z,hze⟩:∃ z,clC (fun _=>false)=z:=⟨_,rfl⟩
 rw [hze] at hz
 have HZ:=hide hze
 have hzs:z.size=256:=by rw [←hze];exact clC_size _
 have hA:=clC_row (f:=fun _=>false) (w:=w.alloc (.cells z 136)) (g:=w.heap.size) (by rw [hze];exact heap_alloc_new w _)
 have H0:=hide (And.intro hA (b_1 w (.cells z 136)))
 have hrg:=hide (hl.low (b_1 w (.cells z 136)) h0)
 obtain ⟨L,hLe⟩:∃ L,ltL.toArray=L:=⟨_,rfl⟩
 have HX:=hide (fun (i:Nat) (h:i<9) (w:World)=>lt_index h w)
 rw [hLe] at HX
 clear hze hA hl
 go_enter Tryz.func104,Tryz.ntmps104
 go_upto_region 1 with fail
 refine wp_region_lit ?_
 refine wpList_load_mid rfl 165 (.global 1) rfl 1 0 rfl ltL (.array 9 164) hrg.out (by kernel_rfl) rfl (by rw [info_lt];rfl) ?_
 rw [hLe]
 clear hLe hrg
 go_wp2_with fail
 generalize w.alloc (.cells z 136)=w0 at H0 ⊢
 go_loopw [9] (fun iv wr=>∃ i:Nat,i≤9∧iv=.int .i64 i∧Hid (ClF wr w.heap.size (fun _=>false)∧Below w.heap.size w wr)∧Hid (∀ k,k<i→ltC k≠x)) (fun iv _=>match iv with | .int _ x=>10-x.toNat|_=>0)
 case atStart=>exact ⟨0,by omega,rfl,H0,hide (fun k hk=>absurd hk (by omega))⟩
 case round=>
  obtain ⟨i,hi,rfl,HR,HN⟩:=hrel
  by_cases hin:i<9
  ·have h1:(i:Int)<9:=by omega
   have hix:=HX.out i hin
   obtain ⟨lc,hlc⟩:∃ c,ltC i=c:=⟨_,rfl⟩
   obtain ⟨s,hs⟩:∃ s,ltS i=s:=⟨_,rfl⟩
   rw [hlc,hs] at hix
   have HLC:=hide (And.intro hlc hs)
   clear hlc hs
   by_cases hxc:lc=x
   ·subst hxc
    go_wp2_with fail
    obtain ⟨n,hn2,hn4⟩:=ltS_even hin
    rw [HLC.out.2] at hn2
    have HM:=hide hn2
    clear hn2
    have hrw:=RowF.mk' wr 164 #[.int .u8 lc,.string s]
    have hrw2:=hrw.low (b_1 _ (.cells z 136)) hrw.lt
    have hcl:ClF ((wr.alloc (.cells #[.int .u8 lc,.string s] 164)).alloc (.cells z 136)) (wr.heap.size+1) (ltP s 0):=
     RowF.congr (clC_row (f:=fun _=>false) (by rw [HZ.out];have:=heap_alloc_new (wr.alloc (.cells #[.int .u8 lc,.string s] 164)) (.cells z 136);simpa using this)) (fun j _=>by simp [ltP])
    have hrs:=HR.out.1.low (b_2 wr (.cells #[.int .u8 lc,.string s] 164) (.cells z 136)) HR.out.1.lt
    have hbl:=HR.out.2.trans ((b_2 wr (.cells #[.int .u8 lc,.string s] 164) (.cells z 136)).mono (Nat.le_of_lt HR.out.1.lt))
    have HLT:=hide HR.out.1.lt
    have H1:=hide (And.intro hrw2 (And.intro hcl (And.intro hrs hbl)))
    clear hrw hrw2 hcl hrs hbl HR hix
    generalize (wr.alloc (.cells #[.int .u8 lc,.string s] 164)).alloc (.cells z 136)=w1 at H1 ⊢
    generalize wr.heap.size=R1 at H1 HLT ⊢
    go_loopw [7] (fun jv wq=>∃ m j:Nat,j=2*m∧m≤n∧jv=.int .i64 (j:Int)∧Hid (RowF wq 164 R1 2 (fun j=>#[Value.int .u8 lc,.string s].getD j (.bool false))∧ClF wq (R1+1) (ltP s m)∧ClF wq w.heap.size (fun _=>false)∧Below w.heap.size w wq)) (fun jv _=>match jv with | .int _ x=>9-x.toNat|_=>0)
    case atStart=>exact ⟨0,0,rfl,by omega,rfl,hide ⟨H1.out.1,H1.out.2.1,H1.out.2.2.1,H1.out.2.2.2⟩⟩
    case round=>
     obtain ⟨m,j,hj,hm,rfl,HQ⟩:=hrel
     have HJ:=hide hj
     clear hj
     have hc1:wr.cell? ⟨R1,1,none⟩=some (.string s):=HQ.out.1.cell (j:=1) (by omega)
     have hr0:=hb_rng s j
     have hr1:=hb_rng s (j+1)
     by_cases hmn:m<n
     ·have hlt:(j:Int)<(s.size:Int):=by have:=HM.out;have:=HJ.out;omega
      have hj6:j≤6:=by have:=HJ.out;omega
      have hj1:j+1<s.size:=by have:=HM.out;have:=HJ.out;omega
      obtain ⟨ls,hls⟩:∃ ls,clC (fun c=>(ltP s m c||btw (hb s j).toNat (hb s (j+1)).toNat c))=ls.toArray:=⟨(clC (fun c=>(ltP s m c||btw (hb s j).toNat (hb s (j+1)).toNat c))).toList,by simp⟩
      have HLS:=hide hls
      clear hls
      go_wp2_with fail
      refine reg9 R1 j s (ltP s m) (clC (ltP s m)).toList ls _ _ _ _ _ _ _ _ _ _ _ _ _ _ _ _ _ _ _ _ _ _ _ _ _ _ _ _ _ _ _ _ _ _ _ _ _ hj6 hj1 (by simp) HLS.out hc1 HQ.out.1.lt HQ.out.2.1 (fun _ _ _ _ _ h=>h) ?_
      intro w2 hb2
      have hcl2:=cl_set (HQ.out.2.1.low hb2 HQ.out.2.1.lt) (fun c=>(ltP s m c||btw (hb s j).toNat (hb s (j+1)).toNat c))
      rw [HLS.out,List.toList_toArray] at hcl2
      have HE:=hide (And.intro (row_setCells_other (R1+1) (by omega) ls 0 _ (HQ.out.1.low hb2 HQ.out.1.lt)) (And.intro hcl2 (And.intro (row_setCells_other (R1+1) (by have:=HLT.out;omega) ls 0 _ (HQ.out.2.2.1.low hb2 HQ.out.2.2.1.lt)) (below_setCells w.heap.size ls 0 (R1+1) (by have:=HLT.out;omega) (HQ.out.2.2.2.trans (hb2.mono (Nat.le_of_lt HQ.out.2.2.1.lt)))))))
      clear hcl2
      go_wp2_with fail
      go_roundw
      case rel=>
       refine ⟨m+1,j+2,by have:=HJ.out;omega,by omega,by simp,hide ⟨HE.out.1,?_,HE.out.2.2.1,HE.out.2.2.2⟩⟩
       refine RowF.congr HE.out.2.1 (fun c _=>?_)
       rw [ltP_succ,show 2*m=j from HJ.out.symm]
      case measure=>simp;omega
     ·have hlt:¬ (j:Int)<(s.size:Int):=by have:=HM.out;have:=HJ.out;omega
      have hmn':m=n:=by omega
      have hfin:∀ c,c<256→ltP s m c=(clsIs lc&&cls lc (c:Int)):=fun c hc=>by
       have h3:=lt_cls hin c hc
       rw [HLC.out.1,HLC.out.2,HM.out,Nat.mul_div_cancel_left n (by omega),←hmn'] at h3
       rw [h3,←HLC.out.1,lt_yes hin,Bool.true_and]
      have HF:=hide hfin
      clear hfin hmn'
      go_wp2_with fail
      rename_i K1 a1 K0 a0
      refine wp_load_mid 136 (.tmp 6) rfl (R1+1) 0 rfl (clC (ltP s m)).toList (.array 256 4) (cl_val HQ.out.2.1) (by kernel_rfl) rfl (by rw [info_cl,Array.length_toList,clC_size]) ?_
      refine a0 _ _ ?_
      clear a0
      rw [Array.toArray_toList]
      obtain ⟨q,hqe⟩:∃ q,clC (ltP s m)=q:=⟨_,rfl⟩
      have hst:=sc_cl HQ.out.2.2.1 hqe
      have hqs:q.size=256:=by rw [←hqe];exact clC_size _
      rw [hqe]
      have HE:=hide hqe
      clear hqe
      go_wp2_with fail
      refine bodyPost_ret (res_cl rfl _ _ true rfl rfl (f:=fun c=>clsIs lc&&cls lc (c:Int)) (RowF.congr (f:=fun c=>Value.bool (ltP s m c)) (by rw [←HE.out];exact cl_set HQ.out.2.2.1 _) (fun c hc=>by rw [HF.out c hc]))) rfl ⟨?_,?_⟩
      ·rw [←HLC.out.1,lt_yes hin]
      ·exact below_setCells w.heap.size _ 0 _ (Nat.le_refl _) HQ.out.2.2.2
   ·go_wp2_with fail
    go_roundw
    case rel=>
     refine ⟨i+1,by omega,by simp,hide ⟨HR.out.1.low (b_1 wr _) HR.out.1.lt,HR.out.2.alloc (Nat.le_of_lt HR.out.1.lt) _⟩,hide (fun k hk=>?_)⟩
     rcases Nat.lt_or_ge k i with h|h
     ·exact HN.out k h
     ·obtain rfl:k=i:=by omega
      rw [HLC.out.1];exact hxc
    case measure=>simp;omega
  ·obtain rfl:i=9:=by omega
   have hst:=sc_cl HR.out.1 HZ.out
   have HNo:=hide (lt_is x HN.out)
   go_wp2_with fail
   refine bodyPost_ret (res_cl rfl _ _ false rfl rfl (by rw [←HZ.out];exact cl_set HR.out.1 _)) rfl ⟨?_,?_⟩
   ·rw [HNo.out];rfl
   ·exact below_setCells w.heap.size _ 0 _ (Nat.le_refl _) HR.out.2
end Go.Proofs.YtlgodacccilabaaGreatDoor
