import Derived.Test.YtlgodacccilabaaGreatDoorJQW
namespace Go.Proofs.YtlgodacccilabaaGreatDoor
open Go Go.RowKit Go.Shelf
set_option linter.unusedVariables false
theorem pcM_rng {p:ByteArray} {at_ at':Nat} {g:Nat→Bool} (h:pcM p at_=some (g,at')):at_<at'∧at'≤p.size∧at_<p.size:=by
 unfold pcM at h
 split at h
 ·cases h
 ·rename_i h1
  split at h
  ·unfold escM at h
   split at h
   ·cases h;omega
   ·cases h
  ·split at h
   ·cases h;omega
   ·cases h;omega
theorem setL_pc {p:ByteArray} {k at_:Nat} {f:Nat→Bool} {b:Bool} (hb':b=true∨¬ (at_<p.size∧hb p at_=93)):
 setL p (k+1) f at_ b=(pcM p at_).bind (fun r=>setL p k (fun c=>f c||r.1 c) r.2 false):=by
 rw [setL]
 unfold pcM
 by_cases h1:at_<p.size
 ·have h0:¬ (hb p at_=93∧b=false):=fun x=>by
   rcases hb' with e|e
   ·rw [e] at x;cases x.2
   ·exact e ⟨h1,x.1⟩
  rw [if_neg (show ¬ ¬ at_<p.size from fun x=>x h1),if_neg h0,if_neg (show ¬ ¬ at_<p.size from fun x=>x h1)]
  by_cases h2:hb p at_=37
  ·rw [if_pos h2,if_pos h2]
   unfold escM
   by_cases h3:at_+1<p.size∧escOk (hb p (at_+1))=true
   ·rw [if_pos h3,if_pos h3];rfl
   ·rw [if_neg h3,if_neg h3];rfl
  ·rw [if_neg h2,if_neg h2]
   by_cases h3:at_+2<p.size∧hb p (at_+1)=45∧hb p (at_+2)≠93∧hb p (at_+2)≠37
   ·rw [if_pos h3,if_pos h3];rfl
   ·rw [if_neg h3,if_neg h3];rfl
 ·rw [if_pos h1,if_pos h1];rfl
def stM (p:ByteArray) (pos:Nat):Option ((Nat→Bool) × Nat):=
 if hb p pos=94 then (setL p (p.size+1) (fun _=>false) (pos+1) true).map (fun r=>(fun c=>!r.1 c,r.2)) else setL p (p.size+1) (fun _=>false) pos true
theorem rdSet_st (p:ByteArray) (at_:Nat):rdSet p at_=stM p (at_+1):=rfl
structure StI (w wr:World) (R R0 C:Nat) (p:ByteArray) (vi vo vc:Value) (T:Option ((Nat→Bool) × Nat)) (f:Nat→Bool) (at_ k:Nat) (b:Bool):Prop where
 lt:LtT wr
 res:ClF wr R0 (fun _=>false)
 cls:ClF wr C f
 pq:PQ wr R p at_ vi vo vc
 kp:Keeps w wr (fun b=>b=R)
 fuel:p.size-at_<k
 fst:b=true∨¬ (at_<p.size∧hb p at_=93)
 val:setL p k f at_ b=T
theorem keeps_setC {w:World} {C:Nat}:∀ {w':World},Keeps w w' (fun b=>b=C)→∀ (vs:List Value) (o:Nat),Keeps w (w'.setCells C o vs) (fun b=>b=C)
 |_,h,[],_=>h
 |_,h,v::r,o=>by
  rw [World.setCells]
  exact keeps_setC (h.setCell rfl v) r (o+1)
def restSize (w:World) (R:Nat):Nat:=match w.cell? ⟨R,0,none⟩ with |some (.string s)=>s.size|_=>0
theorem restSize_pq {w:World} {R:Nat} {p:ByteArray} {pos:Nat} {vi vo vc:Value} (h:PQ w R p pos vi vo vc):restSize w R=p.size-pos:=by
 unfold restSize
 rw [show w.cell? ⟨R,0,none⟩=some (.string (p.extract pos p.size)) from RowF.cell h.2 (j:=0) (by omega)]
 exact ext_size
set_option maxHeartbeats 3200000 in
set_option maxRecDepth 100000 in
theorem pset_any (R:Nat) (p:ByteArray) (pos:Nat) (vi vo vc:Value) (w:World) (hps:p.size≤1000) (hl:LtT w) (hR:1<R) (h:PQ w R p pos vi vo vc):
 Calls Tryz.prog 72 #[.pointer (some ⟨R,0,none⟩)] w fun e w'=>ClO w' R p vi vo vc e (stM p pos)∧Keeps w w' (fun b=>b=R):=by
 have hRl:R<w.heap.size:=RowF.lt h.2
 have hz:=zero_cl
 obtain ⟨z,hze⟩:∃ z,clC (fun _=>false)=z:=⟨_,rfl⟩
 rw [hze] at hz
 have hA:=clC_row (f:=fun _=>false) (w:=w.alloc (.cells z 136)) (g:=w.heap.size) (by rw [hze];exact heap_alloc_new w _)
 have hk0:Keeps w (w.alloc (.cells z 136)) (fun b=>b=R):=Keeps.of (b_1 w _) (Nat.le_refl _) _
 have hq0:PQ (w.alloc (.cells z 136)) R p pos vi vo vc:=h.keep (Keeps.of (b_1 w (.cells z 136)) (Nat.le_refl _) (fun _=>False)) (fun x=>x)
 have hl0:=hl.low (b_1 w (.cells z 136)) (by omega)
 have hzs:z.size=256:=by rw [←hze];exact clC_size _
 have HZ:=hide hze
 have hsz:(w.alloc (.cells z 136)).heap.size=w.heap.size+1:=by simp
 have H0:=hide (And.intro hA (And.intro hk0 (And.intro hq0 (And.intro hl0 hsz))))
 clear h hl hA hk0 hq0 hl0 hze hsz
 go_enter Tryz.func72,Tryz.ntmps72
 go_upto_region 1 with fail
 generalize w.alloc (.cells z 136)=w0 at H0 ⊢
 go_wp2_with fail
 refine (takes_q R p pos [94] vi vo vc w0 hps (by simp) H0.out.2.2.1).mono ?_
 rintro e w1 ⟨rfl,hq1,hk1⟩
 have H1:=hide (And.intro hq1 (And.intro (H0.out.2.1.trans hk1) (And.intro (H0.out.2.2.2.1.keep hk1 (by rw [H0.out.2.2.2.2];omega) (by omega)) (RowF.keep H0.out.1 hk1 (by omega)))))
 clear hq1 hk1
 obtain ⟨b,hbe⟩:∃ b,stA p pos [94]=b:=⟨_,rfl⟩
 obtain ⟨pos1,hpe⟩:∃ q,(if stA p pos [94]=true then pos+[(94:UInt8)].length else pos)=q:=⟨_,rfl⟩
 rw [hpe] at H1
 rw [hbe] at hpe
 have HT:Hid (stM p pos=if b=true then (setL p (p.size+1) (fun _=>false) pos1 true).map (fun r=>(fun c=>!r.1 c,r.2)) else setL p (p.size+1) (fun _=>false) pos1 true):=by
  refine hide ?_
  rw [st_one] at hbe
  unfold stM
  by_cases h94:hb p pos=94
  ·have hlt:pos<p.size:=by
    rcases Nat.lt_or_ge pos p.size with x|x
    ·exact x
    ·rw [hb_out x] at h94;cases h94
   rw [decide_eq_true ⟨hlt,h94⟩] at hbe
   subst hbe
   subst hpe
   rw [if_pos h94]
   rfl
  ·rw [decide_eq_false (fun x=>h94 x.2)] at hbe
   subst hbe
   subst hpe
   rw [if_neg h94]
   rfl
 rw [hbe]
 clear hbe hpe
 obtain ⟨T,hTe⟩:∃ T,setL p (p.size+1) (fun _=>false) pos1 true=T:=⟨_,rfl⟩
 rw [hTe] at HT
 have hI:StI w (w1.alloc (.cells z 136)) R w.heap.size w1.heap.size p vi vo vc T (fun _=>false) pos1 (p.size+1) true:=
  ⟨H1.out.2.2.1.low (b_1 w1 _) (by have:=H1.out.2.1.size;omega),RowF.low H1.out.2.2.2 (b_1 w1 _) (RowF.lt H1.out.2.2.2),clC_row (by rw [HZ.out];exact heap_alloc_new w1 _),H1.out.1.keep (Keeps.of (b_1 w1 (.cells z 136)) (Nat.le_refl _) (fun _=>False)) (fun x=>x),
   H1.out.2.1.trans (Keeps.of (b_1 w1 _) (Nat.le_refl _) _),by omega,.inl rfl,hTe⟩
 have HI:=hide hI
 have HC:=hide (show w.heap.size<w1.heap.size from RowF.lt H1.out.2.2.2)
 clear hI hTe
 go_wp2_with fail
 generalize w1.alloc (.cells z 136)=w2 at HI ⊢
 generalize w1.heap.size=C at HI HC ⊢
 go_loopw [7] (fun _ wr=>∃ f at_ k b',Hid (StI w wr R w.heap.size C p vi vo vc T f at_ k b')) (fun _ wr=>restSize wr R)
 case atStart=>exact ⟨_,_,_,_,HI⟩
 case round=>
  obtain ⟨f,at_,k,b',HQ⟩:=hrel
  obtain ⟨k,rfl⟩:∃ k',k=k'+1:=⟨k-1,by have:=HQ.out.fuel;omega⟩
  have HV:=hide (setL_pc (k:=k) (f:=f) HQ.out.fst)
  go_wp2_with fail
  refine (piece_any R p at_ vi vo vc wr hps HQ.out.lt hR HQ.out.pq).mono ?_
  rintro e w3 ⟨ho,hk3⟩
  cases hm:pcM p at_ with
  |none=>
   rw [hm] at ho
   obtain ⟨g,rfl⟩:=ho
   have HN:=hide (show T=none by rw [←HQ.out.val,HV.out,hm];rfl)
   obtain ⟨q,hqe⟩:∃ q,clC g=q:=⟨_,rfl⟩
   have hqs:q.size=256:=by rw [←hqe];exact clC_size _
   have hnc:=clC_row (f:=fun _=>false) (w:=w3.alloc (.cells z 136)) (g:=w3.heap.size) (by rw [HZ.out];exact heap_alloc_new w3 _)
   have hst:=sc_cl hnc hqe
   have h3:=RowF.keep HQ.out.res hk3 (by omega)
   have h4:=row_setCells_other w3.heap.size (Nat.ne_of_lt h3.lt) q.toList 0 _ (h3.low (b_1 w3 (.cells z 136)) h3.lt)
   have hst2:=sc_cl h4 HZ.out
   have HK:=hide (And.intro (keeps_setCells (S:=fun b=>b=R) q.toList 0 w3.heap.size (Nat.le_trans HQ.out.kp.size hk3.size) ((HQ.out.kp.trans hk3).trans (Keeps.of (b_1 w3 (.cells z 136)) (Nat.le_refl _) _))) h4)
   rw [hqe]
   clear hm hqe hnc h3 h4 hk3
   go_wp2_with fail
   refine bodyPost_ret (cl_end rfl _ _ false rfl rfl HK.out.2 HZ.out) rfl ⟨?_,keeps_setCells _ 0 _ (Nat.le_refl _) HK.out.1⟩
   rw [HT.out,HN.out]
   cases b<;>exact ⟨_,rfl⟩
  |some r=>
   obtain ⟨g,at'⟩:=r
   rw [hm] at ho
   obtain ⟨rfl,hq3⟩:=ho
   have hrn:=pcM_rng hm
   have hval:setL p k (fun c=>f c||g c) at' false=T:=by rw [←HQ.out.val,HV.out,hm];rfl
   have hfu:p.size-at'<k:=by have:=HQ.out.fuel;omega
   obtain ⟨q,hqe⟩:∃ q,clC g=q:=⟨_,rfl⟩
   have hqs:q.size=256:=by rw [←hqe];exact clC_size _
   have hnc:=clC_row (f:=fun _=>false) (w:=w3.alloc (.cells z 136)) (g:=w3.heap.size) (by rw [HZ.out];exact heap_alloc_new w3 _)
   have hst:=sc_cl hnc hqe
   have h3:=RowF.keep HQ.out.res hk3 (by omega)
   have h4:=row_setCells_other w3.heap.size (Nat.ne_of_lt h3.lt) q.toList 0 _ (h3.low (b_1 w3 (.cells z 136)) h3.lt)
   have h5:=RowF.keep HQ.out.cls hk3 (by have:=HC.out;omega)
   have h6:=row_setCells_other w3.heap.size (Nat.ne_of_lt h5.lt) q.toList 0 _ (h5.low (b_1 w3 (.cells z 136)) h5.lt)
   have h7:=cl_set hnc g
   rw [hqe] at h7
   have hk4:=keeps_setCells (S:=fun _=>False) q.toList 0 w3.heap.size (Nat.le_refl _) (Keeps.of (b_1 w3 (.cells z 136)) (Nat.le_refl _) _)
   have hlt3:=HQ.out.lt.keep hk3 (by have:=HQ.out.kp.size;omega) (by omega)
   have HW:=hide (And.intro h4 (And.intro h6 (And.intro h7 (And.intro (hlt3.keep hk4 (by have:=HQ.out.kp.size;have:=hk3.size;omega) (fun x=>x)) (And.intro (hq3.keep hk4 (fun x=>x)) ((HQ.out.kp.trans hk3).trans (hk4.mono (fun _ x=>x.elim))))))))
   rw [hqe]
   have HX:=hide (And.intro hqe (And.intro hval (And.intro hfu hrn)))
   clear hm hqe hnc h3 h4 h5 h6 h7 hk3 hk4 hlt3 hval hfu hrn hq3
   go_wp2_with fail
   generalize (w3.alloc (.cells z 136)).setCells w3.heap.size 0 q.toList=w4 at HW ⊢
   clear hst
   rename_i K1 a1 K0 a0
   refine wp_load_mid 136 (.tmp 5) rfl C 0 rfl (clC f).toList (.array 256 4) (cl_val HW.out.2.1) (by kernel_rfl) rfl (by rw [info_cl,Array.length_toList,clC_size]) ?_
   refine a0 _ _ ?_
   clear a0
   go_wp2_with fail
   rename_i K2 a2
   refine wp_load_mid 136 (.tmp 6) rfl w3.heap.size 0 rfl (clC g).toList (.array 256 4) (cl_val HW.out.2.2.1) (by kernel_rfl) rfl (by rw [info_cl,Array.length_toList,clC_size]) ?_
   refine a2 _ _ ?_
   clear a2
   simp only [Array.toArray_toList]
   obtain ⟨qf,hfe⟩:∃ q,clC f=q:=⟨_,rfl⟩
   rw [hfe,HX.out.1]
   have HFe:=hide hfe
   clear hfe
   go_wp2_with fail
   refine (joined_any f g qf q HFe.out.symm HX.out.1.symm w4).mono ?_
   rintro e w5 ⟨rfl,hb5⟩
   obtain ⟨r,hre⟩:∃ r,clC (fun c=>(f c||g c))=r:=⟨_,rfl⟩
   rw [hre]
   have hrs:r.size=256:=by rw [←hre];exact clC_size _
   have h1:=HW.out.2.1.low hb5 HW.out.2.1.lt
   have hst:=sc_cl h1 hre
   have h2:=cl_set h1 (fun c=>(f c||g c))
   rw [hre] at h2
   have h3:=row_setCells_other C (by have:=HC.out;omega) r.toList 0 _ (HW.out.1.low hb5 HW.out.1.lt)
   have hlt5:=(HW.out.2.2.2.1.low hb5 (by have:=HW.out.1.lt;omega)).keep (keeps_setC (Keeps.refl w5 (fun b=>b=C)) r.toList 0) (by have:=hb5.size;have:=HW.out.1.lt;omega) (by have:=HC.out;omega)
   have hq5:=pq_setCells (HW.out.2.2.2.2.1.keep (Keeps.of hb5 (Nat.le_refl _) (fun _=>False)) (fun x=>x)) C (by have:=HC.out;omega) r.toList
   have hk5:=keeps_setCells (S:=fun b=>b=R) r.toList 0 C (Nat.le_of_lt HC.out) (HW.out.2.2.2.2.2.trans (Keeps.of hb5 (Nat.le_refl _) _))
   have HY:=hide (And.intro h2 (And.intro h3 (And.intro hlt5 (And.intro hq5 hk5))))
   clear hre h1 h2 h3 hlt5 hq5 hk5 hb5
   go_wp2_with fail
   generalize w5.setCells C 0 r.toList=w6 at HY ⊢
   clear hst
   refine (takes_q R p at' [93] vi vo vc w6 hps (by simp) HY.out.2.2.2.1).mono ?_
   rintro e w7 ⟨rfl,hq7,hk7⟩
   rw [st_one] at hq7
   rw [st_one]
   have h1:=RowF.keep HY.out.1 hk7 (by have:=HC.out;omega)
   have h2:=RowF.keep HY.out.2.1 hk7 (by omega)
   have hk8:=HY.out.2.2.2.2.trans hk7
   have hl8:=HY.out.2.2.1.keep hk7 (by have:=HY.out.2.1.lt;omega) (by omega)
   by_cases h93:at'<p.size∧hb p at'=93
   ·rw [decide_eq_true (show at'<p.size∧hb p at'=(((93:UInt8).toNat:Nat):Int) from h93)] at hq7 ⊢
    rw [if_pos rfl] at hq7
    have hT:T=some (fun c=>(f c||g c),at'+1):=by
     obtain ⟨k',rfl⟩:∃ k',k=k'+1:=⟨k-1,by have:=HX.out.2.2.1;omega⟩
     rw [←HX.out.2.1,setL,if_neg (fun x=>x h93.1),if_pos ⟨h93.2,rfl⟩]
    have HE:=hide (And.intro h1 (And.intro h2 (And.intro hk8 (And.intro hT hq7))))
    clear h1 h2 hk8 hl8 hT hq7 hk7 h93
    cases b with
    |false=>
     go_wp2_with fail
     rename_i K3 a3
     refine wp_load_mid 136 (.tmp 5) rfl C 0 rfl (clC (fun c=>(f c||g c))).toList (.array 256 4) (cl_val HE.out.1) (by kernel_rfl) rfl (by rw [info_cl,Array.length_toList,clC_size]) ?_
     refine a3 _ _ ?_
     clear a3
     simp only [Array.toArray_toList]
     obtain ⟨r',hre⟩:∃ r,clC (fun c=>(f c||g c))=r:=⟨_,rfl⟩
     rw [hre]
     have hst:=sc_cl HE.out.2.1 hre
     have hrs':r'.size=256:=by rw [←hre];exact clC_size _
     have HR:=hide hre
     clear hre
     go_wp2_with fail
     refine bodyPost_ret (cl_end rfl _ _ true rfl rfl HE.out.2.1 HR.out) rfl ⟨?_,keeps_setCells _ 0 _ (Nat.le_refl _) HE.out.2.2.1⟩
     rw [HT.out,if_neg (by simp),HE.out.2.2.2.1]
     exact ⟨rfl,pq_setCells HE.out.2.2.2.2 _ (by omega) _⟩
    |true=>
     go_wp2_with fail
     rename_i K3 a3
     refine wp_load_mid 136 (.tmp 5) rfl C 0 rfl (clC (fun c=>(f c||g c))).toList (.array 256 4) (cl_val HE.out.1) (by kernel_rfl) rfl (by rw [info_cl,Array.length_toList,clC_size]) ?_
     refine a3 _ _ ?_
     clear a3
     simp only [Array.toArray_toList]
     obtain ⟨r',hre⟩:∃ r,clC (fun c=>(f c||g c))=r:=⟨_,rfl⟩
     rw [hre]
     have HR:=hide hre
     clear hre
     go_wp2_with fail
     refine (turnedOver_any (fun c=>(f c||g c)) r' HR.out.symm w7).mono ?_
     rintro e w8 ⟨rfl,hb8⟩
     obtain ⟨t,hte⟩:∃ t,clC (fun c=>!(f c||g c))=t:=⟨_,rfl⟩
     rw [hte]
     have hts:t.size=256:=by rw [←hte];exact clC_size _
     have h1:=HE.out.1.low hb8 HE.out.1.lt
     have hst:=sc_cl h1 hte
     have h2:=cl_set h1 (fun c=>!(f c||g c))
     rw [hte] at h2
     have h3:=row_setCells_other C (by have:=HC.out;omega) t.toList 0 _ (HE.out.2.1.low hb8 HE.out.2.1.lt)
     have hq8:=pq_setCells (HE.out.2.2.2.2.keep (Keeps.of hb8 (Nat.le_refl _) (fun _=>False)) (fun x=>x)) C (by have:=HC.out;omega) t.toList
     have hk8:=keeps_setCells (S:=fun b=>b=R) t.toList 0 C (Nat.le_of_lt HC.out) (HE.out.2.2.1.trans (Keeps.of hb8 (Nat.le_refl _) _))
     have HG:=hide (And.intro h2 (And.intro h3 (And.intro hq8 hk8)))
     clear hte h1 h2 h3 hq8 hk8 hb8
     go_wp2_with fail
     generalize w8.setCells C 0 t.toList=w9 at HG ⊢
     clear hst
     rename_i K4 a4
     refine wp_load_mid 136 (.tmp 5) rfl C 0 rfl (clC (fun c=>!(f c||g c))).toList (.array 256 4) (cl_val HG.out.1) (by kernel_rfl) rfl (by rw [info_cl,Array.length_toList,clC_size]) ?_
     refine a4 _ _ ?_
     clear a4
     simp only [Array.toArray_toList]
     obtain ⟨t',hte⟩:∃ t,clC (fun c=>!(f c||g c))=t:=⟨_,rfl⟩
     rw [hte]
     have hst:=sc_cl HG.out.2.1 hte
     have hts':t'.size=256:=by rw [←hte];exact clC_size _
     have HR2:=hide hte
     clear hte
     go_wp2_with fail
     refine bodyPost_ret (cl_end rfl _ _ true rfl rfl HG.out.2.1 HR2.out) rfl ⟨?_,keeps_setCells _ 0 _ (Nat.le_refl _) HG.out.2.2.2⟩
     rw [HT.out,if_pos trivial,HE.out.2.2.2.1]
     exact ⟨rfl,pq_setCells HG.out.2.2.1 _ (by omega) _⟩
   ·rw [decide_eq_false (show ¬ (at'<p.size∧hb p at'=(((93:UInt8).toNat:Nat):Int)) from h93)] at hq7 ⊢
    rw [if_neg (by simp)] at hq7
    have HE:=hide (show StI w w7 R w.heap.size C p vi vo vc T (fun c=>(f c||g c)) at' k false from ⟨hl8,h2,h1,hq7,hk8,HX.out.2.2.1,.inr h93,HX.out.2.1⟩)
    clear h1 h2 hk8 hl8 hq7 hk7 h93
    go_wp2_with fail
    go_roundw
    case rel=>exact ⟨_,_,_,_,HE⟩
    case measure=>
     rw [restSize_pq HE.out.pq,restSize_pq HQ.out.pq]
     have:=HX.out.2.2.2
     omega
end Go.Proofs.YtlgodacccilabaaGreatDoor
