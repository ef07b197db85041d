import Derived.Test.YtedpifhlffcmkaaGreatDoorKHSP
namespace Go.Proofs.YtedpifhlffcmkaaGreatDoor
open Go Go.RowKit
set_option maxHeartbeats 6400000
set_option maxRecDepth 100000
set_option linter.unusedVariables false
variable {S:Nat->Prop} {base j n:Nat} {e:En} {es:List En} {h:Hp} {o:Ob} {w:World} {z:Int}
def Kd (es:List En):Prop:=∀ (i j:Nat) (x y:En),es[i]?=some x->es[j]?=some y->x.1.isSome=true->x.1=y.1->i=j
theorem zF (hd:Kd es) (he:es[j]?=some e) (hk:e.1=some (.inl z)):fD es (some (.inl z))=(j:Int):=by
 refine iP he hk (fun x hx hc=>?_)
 obtain ⟨i,hi,rfl⟩:=List.mem_take_iff_getElem.mp hx
 have:=hd i j _ e (List.getElem?_eq_getElem (by omega)) he (by rw [hc];rfl) (by rw [hc,hk])
 omega
theorem BP {v:HV} (hv:¬ v=some (.inl z)):vk v≠2∨(vk v=2/\vi v≠z):=by
 cases v with
 |none=>exact Or.inl (by simp [vk])
 |some x=>cases x with
  |inr m=>exact Or.inl (by simp [vk])
  |inl y=>exact Or.inr ⟨rfl,fun c=>hv (by simp only [vi] at c;rw [c])⟩
theorem yh {L:SM} (a:JU base S h L w) (ho:h.ob n=some o) (he9:o.es.length<=5000) (hkd:Kd o.es) (z:Int) (k:HV) (hk:k=some (.inl z)):
 Calls Tryz.prog 60 #[.pointer (some ⟨L.ob n,0,none⟩),.agg #[.int .i64 (vk k),.int .i64 (vi k),.int .u64 0,.string ByteArray.empty,.int .i64 (vr k)]] w fun e w'=>e=.returned (.int .i64 (fD o.es k))/\Below w.heap.size w w':=by
 obtain ⟨A,cap,hev,hcap,hent⟩:=a.ents ho
 obtain ⟨r0,hr0⟩:=a.ob n o ho
 have c5:w.cell? ⟨L.ob n,5,none⟩=some (.slice A o.es.length cap):=by rw [<-hev];exact hr0.cell (j:=5) (by omega)
 have hb1:=aJ w (.cells #[.int .i64 (vk k),.int .i64 (vi k),.int .u64 0,.string ByteArray.empty,.int .i64 (vr k)] 95)
 have hO:=hr0.lt
 have d5:=(hb1.cell (p:=⟨L.ob n,5,none⟩) hO).trans c5
 have HX:=ah (oz w k)
 have HK2:=ah (show vk k=2 by rw [hk];rfl)
 have HK1:=ah (show vi k=z by rw [hk];rfl)
 have HK0:=ah (show vr k=0 by rw [hk];rfl)
 have HK:=ah hk
 have HA:=ah a
 have HO:=ah ho
 have HEV:=ah hev
 have HB1:=ah hb1
 have HKD:=ah hkd
 have HEN:=ah hent
 clear a ho hev hent hr0 hb1 c5 hkd hk
 go_enter Tryz.func60,Tryz.ntmps60
 go_upto_region 1 with (fail)
 generalize w.alloc (.cells #[.int .i64 (vk k),.int .i64 (vi k),.int .u64 0,.string ByteArray.empty,.int .i64 (vr k)] 95)=w3 at *
 generalize hX:w.heap.size=X at *
 have x0:w3.cell? ⟨X,0,none⟩=some (.int .i64 2):=by have:=HX.o.cell (j:=0) (by omega);rw [this];show some (Value.int .i64 (vk k))=_;rw [HK2.o]
 have x1:w3.cell? ⟨X,1,none⟩=some (.int .i64 z):=by have:=HX.o.cell (j:=1) (by omega);rw [this];show some (Value.int .i64 (vi k))=_;rw [HK1.o]
 have x2:w3.cell? ⟨X,2,none⟩=some (.int .u64 0):=HX.o.cell (j:=2) (by omega)
 have x3:w3.cell? ⟨X,3,none⟩=some (.string ByteArray.empty):=HX.o.cell (j:=3) (by omega)
 have x4:w3.cell? ⟨X,4,none⟩=some (.int .i64 0):=by have:=HX.o.cell (j:=4) (by omega);rw [this];show some (Value.int .i64 (vr k))=_;rw [HK0.o];rfl
 by_cases hz1:1<=z
 ·by_cases hz2:z<=(o.es.length:Int)
  ·obtain ⟨i,rfl⟩:∃ i:Nat,z=(i:Int)+1:=⟨(z-1).toNat,by omega⟩
   obtain ⟨e,he⟩:∃ e,o.es[i]?=some e:=⟨_,List.getElem?_eq_getElem (by omega)⟩
   obtain ⟨g2,rfl,hg2,hcells⟩:=HEN.o i e he
   have HIN:=ah he
   have e0:=(HB1.o.cell (p:=⟨g2,i*10+0,none⟩) hg2).trans (hcells 0 _ rfl)
   have e1:=(HB1.o.cell (p:=⟨g2,i*10+1,none⟩) hg2).trans (hcells 1 _ rfl)
   have e2:=(HB1.o.cell (p:=⟨g2,i*10+2,none⟩) hg2).trans (hcells 2 _ rfl)
   have e3:=(HB1.o.cell (p:=⟨g2,i*10+3,none⟩) hg2).trans (hcells 3 _ rfl)
   have e4:=(HB1.o.cell (p:=⟨g2,i*10+4,none⟩) hg2).trans (hcells 4 _ rfl)
   simp only [Nat.add_zero] at e0
   have hz3:decide ((i:Int)+1 ≥ 1)=true:=by simpa using hz1
   have hz4:decide ((i:Int)+1<=(o.es.length:Int))=true:=by simpa using hz2
   clear HEN hcells he
   by_cases hke:e.1=some (.inl ((i:Int)+1))
   ·have HKE:=ah hke
    have f0:vk e.1=2:=by rw [hke];rfl
    have f1:vi e.1=(i:Int)+1:=by rw [hke];rfl
    have f4:vr e.1=0:=by rw [hke];rfl
    rw [f0] at e0
    rw [f1] at e1
    rw [f4] at e4
    clear hke f0 f1 f4
    go_wp2_with fail
    go_quiet (fail)
    have HB2:=ah (ay (Below.refl w3.heap.size w3) nq)
    have HXR:=ah (HX.o.keep (Keeps.of HB2.o (Nat.le_refl _) (fun _=>False)) (fun x=>x))
    have HW:=ah (show Below w.heap.size w (w3.drewN nq) from hX ▸ (HB1.o.trans (HB2.o.mono (hX ▸ HB1.o.size))))
    generalize w3.drewN nq=w4 at *
    have y1:w4.cell? ⟨X,1,none⟩=some (.int .i64 ((i:Int)+1)):=by have:=HXR.o.cell (j:=1) (by omega);rw [this];show some (Value.int .i64 (vi k))=_;rw [HK1.o]
    clear HX HB1 HB2 x0 x1 x2 x3 x4 e0 e1 e2 e3 e4 d5
    go_wp2
    go_ret
    have hf:fD o.es k=(i:Int):=by rw [HK.o];exact zF HKD.o HIN.o HKE.o
    exact ⟨by rw [hf];rfl,HW.o⟩
   ·rcases BP hke with f0|⟨f0,f1⟩
    ·have f2:(vk e.1==2)=false:=by simpa using f0
     clear hke f0
     go_wp2_with fail
     go_quiet (fail)
     clear e0 e1 e2 e3 e4 f2 hz3 hz4
     have HB2:=ah (ay (Below.refl w3.heap.size w3) nq)
     have HXR:=ah (HX.o.keep (Keeps.of HB2.o (Nat.le_refl _) (fun _=>False)) (fun x=>x))
     have d5':=(HB2.o.cell (p:=⟨L.ob n,5,none⟩) (Nat.lt_of_lt_of_le hO (hX ▸ HB1.o.size))).trans d5
     generalize w3.drewN nq=w4 at *
     have HW:=ah (show Below w.heap.size w w4 from hX ▸ (HB1.o.trans (HB2.o.mono (hX ▸ HB1.o.size))))
     have HA4:=ah ((HA.o.low (hX ▸ HB1.o)).low HB2.o)
     clear HA HX HB1 HB2 d5 x0 x1 x2 x3 x4 HKD HIN
     go_wp2
     go_loopw [47,5,6] (fun jv _ _ ws=>∃ j:Nat,j<=o.es.length/\jv=.int .i64 j/\Hq ((∀ e∈o.es.take j,e.1≠k)/\Below w4.heap.size w4 ws)) (fun jv _ _ _=>o.es.length-aU jv)
     case atStart=>exact ⟨0,by omega,rfl,by simp,Below.refl _ _⟩
     case round=>
      obtain ⟨j,hj9,rfl,HJ⟩:=hrel
      by_cases hjn:j<o.es.length
      ·obtain ⟨e,he⟩:∃ e,o.es[j]?=some e:=⟨_,List.getElem?_eq_getElem hjn⟩
       have HAR:=ah (HA4.o.low HJ.o.2)
       obtain ⟨A3,cap3,hev2,hcap2,hent2⟩:=HAR.o.ents HO.o
       have:A3=some ⟨g2,0,none⟩/\cap3=cap:=by
        have h9:=hev2.symm.trans HEV.o
        simp only [Value.slice.injEq] at h9
        exact ⟨h9.1,h9.2.2⟩
       obtain ⟨rfl,rfl⟩:=this
       obtain ⟨g3,hg3,hg4,hcells⟩:=hent2 j e he
       cases hg3
       have d0:=hcells 0 _ rfl
       have d1:=hcells 1 _ rfl
       have d2:=hcells 2 _ rfl
       have d3:=hcells 3 _ rfl
       have d4:=hcells 4 _ rfl
       have d5:=hcells 5 _ rfl
       have d6:=hcells 6 _ rfl
       have d7:=hcells 7 _ rfl
       have d8:=hcells 8 _ rfl
       have d9:=hcells 9 _ rfl
       simp only [Nat.add_zero] at d0
       have HXW:=ah (HXR.o.keep (Keeps.of HJ.o.2 (Nat.le_refl _) (fun _=>False)) (fun x=>x))
       have HKW:=ah (HXW.o.keep (Keeps.of (aJ wr (.cells #[.int .i64 (vk e.1),.int .i64 (vi e.1),.int .u64 0,.string ByteArray.empty,.int .i64 (vr e.1),.int .i64 (vk e.2),.int .i64 (vi e.2),.int .u64 0,.string ByteArray.empty,.int .i64 (vr e.2)] 122)) (Nat.le_refl _) (fun _=>False)) (fun x=>x))
       have HB5:=ah (HJ.o.2.trans ((aJ wr (.cells #[.int .i64 (vk e.1),.int .i64 (vi e.1),.int .u64 0,.string ByteArray.empty,.int .i64 (vr e.1),.int .i64 (vk e.2),.int .i64 (vi e.2),.int .u64 0,.string ByteArray.empty,.int .i64 (vr e.2)] 122)).mono HJ.o.2.size))
       have HX:=ah (jR wr e)
       have HEE:=ah he
       clear hev2 hent2 hcells he
       go_upto_region 6 with (fail)
       generalize wr.alloc (.cells #[.int .i64 (vk e.1),.int .i64 (vi e.1),.int .u64 0,.string ByteArray.empty,.int .i64 (vr e.1),.int .i64 (vk e.2),.int .i64 (vi e.2),.int .u64 0,.string ByteArray.empty,.int .i64 (vr e.2)] 122)=w5 at *
       generalize wr.heap.size=Y at *
       have x0:w5.cell? ⟨Y,0,none⟩=some (.int .i64 (vk e.1)):=HX.o.cell (j:=0) (by omega)
       have x1:w5.cell? ⟨Y,1,none⟩=some (.int .i64 (vi e.1)):=HX.o.cell (j:=1) (by omega)
       have x2:w5.cell? ⟨Y,2,none⟩=some (.int .u64 0):=HX.o.cell (j:=2) (by omega)
       have x3:w5.cell? ⟨Y,3,none⟩=some (.string ByteArray.empty):=HX.o.cell (j:=3) (by omega)
       have x4:w5.cell? ⟨Y,4,none⟩=some (.int .i64 (vr e.1)):=HX.o.cell (j:=4) (by omega)
       have y0:w5.cell? ⟨X,0,none⟩=some (.int .i64 (vk k)):=HKW.o.cell (j:=0) (by omega)
       have y1:w5.cell? ⟨X,1,none⟩=some (.int .i64 (vi k)):=HKW.o.cell (j:=1) (by omega)
       have y2:w5.cell? ⟨X,2,none⟩=some (.int .u64 0):=HKW.o.cell (j:=2) (by omega)
       have y3:w5.cell? ⟨X,3,none⟩=some (.string ByteArray.empty):=HKW.o.cell (j:=3) (by omega)
       have y4:w5.cell? ⟨X,4,none⟩=some (.int .i64 (vr k)):=HKW.o.cell (j:=4) (by omega)
       clear d0 d1 d2 d3 d4 d5 d6 d7 d8 d9
       by_cases hke:e.1=k
       ·rw [hke] at x0 x1 x4
        have HKE:=ah hke
        clear hke
        go_wp2
        go_ret
        have hf:fD o.es k=(j:Int):=iP HEE.o HKE.o HJ.o.1
        exact ⟨by rw [hf];rfl,HW.o.trans (HB5.o.mono HW.o.size)⟩
       ·have HKE:=ah hke
        clear hke
        go_wp2
        any_goals go_ret;exact absurd (lX (by simp_all [vk]) (by simp_all [vi]) (by simp_all [vr])) HKE.o
        all_goals
         refine ⟨⟨j+1,by omega,by simp,?_,HB5.o⟩,by simp [aU];omega⟩
         exact f_ HEE.o HJ.o.1 HKE.o
      ·clear HXR HA4
       have hje:j=o.es.length:=by omega
       subst hje
       go_wp2
       go_ret
       have hf:fD o.es k= -1:=jC (fun e he=>HJ.o.1 e (by rw [List.take_length];exact he))
       exact ⟨by rw [hf];rfl,HW.o.trans (HJ.o.2.mono HW.o.size)⟩
    ·rw [f0] at e0
     have f2:(vi e.1==(i:Int)+1)=false:=by simpa using f1
     clear hke f0 f1
     go_wp2_with fail
     go_quiet (fail)
     clear e0 e1 e2 e3 e4 f2 hz3 hz4
     have HB2:=ah (ay (Below.refl w3.heap.size w3) nq)
     have HXR:=ah (HX.o.keep (Keeps.of HB2.o (Nat.le_refl _) (fun _=>False)) (fun x=>x))
     have d5':=(HB2.o.cell (p:=⟨L.ob n,5,none⟩) (Nat.lt_of_lt_of_le hO (hX ▸ HB1.o.size))).trans d5
     generalize w3.drewN nq=w4 at *
     have HW:=ah (show Below w.heap.size w w4 from hX ▸ (HB1.o.trans (HB2.o.mono (hX ▸ HB1.o.size))))
     have HA4:=ah ((HA.o.low (hX ▸ HB1.o)).low HB2.o)
     clear HA HX HB1 HB2 d5 x0 x1 x2 x3 x4 HKD HIN
     go_wp2
     go_loopw [47,5,6] (fun jv _ _ ws=>∃ j:Nat,j<=o.es.length/\jv=.int .i64 j/\Hq ((∀ e∈o.es.take j,e.1≠k)/\Below w4.heap.size w4 ws)) (fun jv _ _ _=>o.es.length-aU jv)
     case atStart=>exact ⟨0,by omega,rfl,by simp,Below.refl _ _⟩
     case round=>
      obtain ⟨j,hj9,rfl,HJ⟩:=hrel
      by_cases hjn:j<o.es.length
      ·obtain ⟨e,he⟩:∃ e,o.es[j]?=some e:=⟨_,List.getElem?_eq_getElem hjn⟩
       have HAR:=ah (HA4.o.low HJ.o.2)
       obtain ⟨A3,cap3,hev2,hcap2,hent2⟩:=HAR.o.ents HO.o
       have:A3=some ⟨g2,0,none⟩/\cap3=cap:=by
        have h9:=hev2.symm.trans HEV.o
        simp only [Value.slice.injEq] at h9
        exact ⟨h9.1,h9.2.2⟩
       obtain ⟨rfl,rfl⟩:=this
       obtain ⟨g3,hg3,hg4,hcells⟩:=hent2 j e he
       cases hg3
       have d0:=hcells 0 _ rfl
       have d1:=hcells 1 _ rfl
       have d2:=hcells 2 _ rfl
       have d3:=hcells 3 _ rfl
       have d4:=hcells 4 _ rfl
       have d5:=hcells 5 _ rfl
       have d6:=hcells 6 _ rfl
       have d7:=hcells 7 _ rfl
       have d8:=hcells 8 _ rfl
       have d9:=hcells 9 _ rfl
       simp only [Nat.add_zero] at d0
       have HXW:=ah (HXR.o.keep (Keeps.of HJ.o.2 (Nat.le_refl _) (fun _=>False)) (fun x=>x))
       have HKW:=ah (HXW.o.keep (Keeps.of (aJ wr (.cells #[.int .i64 (vk e.1),.int .i64 (vi e.1),.int .u64 0,.string ByteArray.empty,.int .i64 (vr e.1),.int .i64 (vk e.2),.int .i64 (vi e.2),.int .u64 0,.string ByteArray.empty,.int .i64 (vr e.2)] 122)) (Nat.le_refl _) (fun _=>False)) (fun x=>x))
       have HB5:=ah (HJ.o.2.trans ((aJ wr (.cells #[.int .i64 (vk e.1),.int .i64 (vi e.1),.int .u64 0,.string ByteArray.empty,.int .i64 (vr e.1),.int .i64 (vk e.2),.int .i64 (vi e.2),.int .u64 0,.string ByteArray.empty,.int .i64 (vr e.2)] 122)).mono HJ.o.2.size))
       have HX:=ah (jR wr e)
       have HEE:=ah he
       clear hev2 hent2 hcells he
       go_upto_region 6 with (fail)
       generalize wr.alloc (.cells #[.int .i64 (vk e.1),.int .i64 (vi e.1),.int .u64 0,.string ByteArray.empty,.int .i64 (vr e.1),.int .i64 (vk e.2),.int .i64 (vi e.2),.int .u64 0,.string ByteArray.empty,.int .i64 (vr e.2)] 122)=w5 at *
       generalize wr.heap.size=Y at *
       have x0:w5.cell? ⟨Y,0,none⟩=some (.int .i64 (vk e.1)):=HX.o.cell (j:=0) (by omega)
       have x1:w5.cell? ⟨Y,1,none⟩=some (.int .i64 (vi e.1)):=HX.o.cell (j:=1) (by omega)
       have x2:w5.cell? ⟨Y,2,none⟩=some (.int .u64 0):=HX.o.cell (j:=2) (by omega)
       have x3:w5.cell? ⟨Y,3,none⟩=some (.string ByteArray.empty):=HX.o.cell (j:=3) (by omega)
       have x4:w5.cell? ⟨Y,4,none⟩=some (.int .i64 (vr e.1)):=HX.o.cell (j:=4) (by omega)
       have y0:w5.cell? ⟨X,0,none⟩=some (.int .i64 (vk k)):=HKW.o.cell (j:=0) (by omega)
       have y1:w5.cell? ⟨X,1,none⟩=some (.int .i64 (vi k)):=HKW.o.cell (j:=1) (by omega)
       have y2:w5.cell? ⟨X,2,none⟩=some (.int .u64 0):=HKW.o.cell (j:=2) (by omega)
       have y3:w5.cell? ⟨X,3,none⟩=some (.string ByteArray.empty):=HKW.o.cell (j:=3) (by omega)
       have y4:w5.cell? ⟨X,4,none⟩=some (.int .i64 (vr k)):=HKW.o.cell (j:=4) (by omega)
       clear d0 d1 d2 d3 d4 d5 d6 d7 d8 d9
       by_cases hke:e.1=k
       ·rw [hke] at x0 x1 x4
        have HKE:=ah hke
        clear hke
        go_wp2
        go_ret
        have hf:fD o.es k=(j:Int):=iP HEE.o HKE.o HJ.o.1
        exact ⟨by rw [hf];rfl,HW.o.trans (HB5.o.mono HW.o.size)⟩
       ·have HKE:=ah hke
        clear hke
        go_wp2
        any_goals go_ret;exact absurd (lX (by simp_all [vk]) (by simp_all [vi]) (by simp_all [vr])) HKE.o
        all_goals
         refine ⟨⟨j+1,by omega,by simp,?_,HB5.o⟩,by simp [aU];omega⟩
         exact f_ HEE.o HJ.o.1 HKE.o
      ·clear HXR HA4
       have hje:j=o.es.length:=by omega
       subst hje
       go_wp2
       go_ret
       have hf:fD o.es k= -1:=jC (fun e he=>HJ.o.1 e (by rw [List.take_length];exact he))
       exact ⟨by rw [hf];rfl,HW.o.trans (HJ.o.2.mono HW.o.size)⟩
  ·have hz3:decide (z ≥ 1)=true:=by simpa using hz1
   have hz4:decide (z<=(o.es.length:Int))=false:=by simpa using hz2
   have HIN:=ah True.intro
   clear HEN
   go_wp2_with fail
   go_quiet (fail)
   have HB2:=ah (ay (Below.refl w3.heap.size w3) nq)
   have HXR:=ah (HX.o.keep (Keeps.of HB2.o (Nat.le_refl _) (fun _=>False)) (fun x=>x))
   have d5':=(HB2.o.cell (p:=⟨L.ob n,5,none⟩) (Nat.lt_of_lt_of_le hO (hX ▸ HB1.o.size))).trans d5
   generalize w3.drewN nq=w4 at *
   have HW:=ah (show Below w.heap.size w w4 from hX ▸ (HB1.o.trans (HB2.o.mono (hX ▸ HB1.o.size))))
   have HA4:=ah ((HA.o.low (hX ▸ HB1.o)).low HB2.o)
   clear HA HX HB1 HB2 d5 x0 x1 x2 x3 x4 HKD HIN
   go_wp2
   go_loopw [47,5,6] (fun jv _ _ ws=>∃ j:Nat,j<=o.es.length/\jv=.int .i64 j/\Hq ((∀ e∈o.es.take j,e.1≠k)/\Below w4.heap.size w4 ws)) (fun jv _ _ _=>o.es.length-aU jv)
   case atStart=>exact ⟨0,by omega,rfl,by simp,Below.refl _ _⟩
   case round=>
    obtain ⟨j,hj9,rfl,HJ⟩:=hrel
    by_cases hjn:j<o.es.length
    ·obtain ⟨e,he⟩:∃ e,o.es[j]?=some e:=⟨_,List.getElem?_eq_getElem hjn⟩
     have HAR:=ah (HA4.o.low HJ.o.2)
     obtain ⟨A3,cap3,hev2,hcap2,hent2⟩:=HAR.o.ents HO.o
     have:A3=A/\cap3=cap:=by
      have h9:=hev2.symm.trans HEV.o
      simp only [Value.slice.injEq] at h9
      exact ⟨h9.1,h9.2.2⟩
     obtain ⟨rfl,rfl⟩:=this
     obtain ⟨g2,rfl,hg2,hcells⟩:=hent2 j e he
     have d0:=hcells 0 _ rfl
     have d1:=hcells 1 _ rfl
     have d2:=hcells 2 _ rfl
     have d3:=hcells 3 _ rfl
     have d4:=hcells 4 _ rfl
     have d5:=hcells 5 _ rfl
     have d6:=hcells 6 _ rfl
     have d7:=hcells 7 _ rfl
     have d8:=hcells 8 _ rfl
     have d9:=hcells 9 _ rfl
     simp only [Nat.add_zero] at d0
     have HXW:=ah (HXR.o.keep (Keeps.of HJ.o.2 (Nat.le_refl _) (fun _=>False)) (fun x=>x))
     have HKW:=ah (HXW.o.keep (Keeps.of (aJ wr (.cells #[.int .i64 (vk e.1),.int .i64 (vi e.1),.int .u64 0,.string ByteArray.empty,.int .i64 (vr e.1),.int .i64 (vk e.2),.int .i64 (vi e.2),.int .u64 0,.string ByteArray.empty,.int .i64 (vr e.2)] 122)) (Nat.le_refl _) (fun _=>False)) (fun x=>x))
     have HB5:=ah (HJ.o.2.trans ((aJ wr (.cells #[.int .i64 (vk e.1),.int .i64 (vi e.1),.int .u64 0,.string ByteArray.empty,.int .i64 (vr e.1),.int .i64 (vk e.2),.int .i64 (vi e.2),.int .u64 0,.string ByteArray.empty,.int .i64 (vr e.2)] 122)).mono HJ.o.2.size))
     have HX:=ah (jR wr e)
     have HEE:=ah he
     clear hev2 hent2 hcells he
     go_upto_region 6 with (fail)
     generalize wr.alloc (.cells #[.int .i64 (vk e.1),.int .i64 (vi e.1),.int .u64 0,.string ByteArray.empty,.int .i64 (vr e.1),.int .i64 (vk e.2),.int .i64 (vi e.2),.int .u64 0,.string ByteArray.empty,.int .i64 (vr e.2)] 122)=w5 at *
     generalize wr.heap.size=Y at *
     have x0:w5.cell? ⟨Y,0,none⟩=some (.int .i64 (vk e.1)):=HX.o.cell (j:=0) (by omega)
     have x1:w5.cell? ⟨Y,1,none⟩=some (.int .i64 (vi e.1)):=HX.o.cell (j:=1) (by omega)
     have x2:w5.cell? ⟨Y,2,none⟩=some (.int .u64 0):=HX.o.cell (j:=2) (by omega)
     have x3:w5.cell? ⟨Y,3,none⟩=some (.string ByteArray.empty):=HX.o.cell (j:=3) (by omega)
     have x4:w5.cell? ⟨Y,4,none⟩=some (.int .i64 (vr e.1)):=HX.o.cell (j:=4) (by omega)
     have y0:w5.cell? ⟨X,0,none⟩=some (.int .i64 (vk k)):=HKW.o.cell (j:=0) (by omega)
     have y1:w5.cell? ⟨X,1,none⟩=some (.int .i64 (vi k)):=HKW.o.cell (j:=1) (by omega)
     have y2:w5.cell? ⟨X,2,none⟩=some (.int .u64 0):=HKW.o.cell (j:=2) (by omega)
     have y3:w5.cell? ⟨X,3,none⟩=some (.string ByteArray.empty):=HKW.o.cell (j:=3) (by omega)
     have y4:w5.cell? ⟨X,4,none⟩=some (.int .i64 (vr k)):=HKW.o.cell (j:=4) (by omega)
     clear d0 d1 d2 d3 d4 d5 d6 d7 d8 d9
     by_cases hke:e.1=k
     ·rw [hke] at x0 x1 x4
      have HKE:=ah hke
      clear hke
      go_wp2
      go_ret
      have hf:fD o.es k=(j:Int):=iP HEE.o HKE.o HJ.o.1
      exact ⟨by rw [hf];rfl,HW.o.trans (HB5.o.mono HW.o.size)⟩
     ·have HKE:=ah hke
      clear hke
      go_wp2
      any_goals go_ret;exact absurd (lX (by simp_all [vk]) (by simp_all [vi]) (by simp_all [vr])) HKE.o
      all_goals
       refine ⟨⟨j+1,by omega,by simp,?_,HB5.o⟩,by simp [aU];omega⟩
       exact f_ HEE.o HJ.o.1 HKE.o
    ·clear HXR HA4
     have hje:j=o.es.length:=by omega
     subst hje
     go_wp2
     go_ret
     have hf:fD o.es k= -1:=jC (fun e he=>HJ.o.1 e (by rw [List.take_length];exact he))
     exact ⟨by rw [hf];rfl,HW.o.trans (HJ.o.2.mono HW.o.size)⟩
 ·have hz3:decide (z ≥ 1)=false:=by simpa using hz1
  have HIN:=ah True.intro
  clear HEN
  go_wp2_with fail
  go_quiet (fail)
  have HB2:=ah (ay (Below.refl w3.heap.size w3) nq)
  have HXR:=ah (HX.o.keep (Keeps.of HB2.o (Nat.le_refl _) (fun _=>False)) (fun x=>x))
  have d5':=(HB2.o.cell (p:=⟨L.ob n,5,none⟩) (Nat.lt_of_lt_of_le hO (hX ▸ HB1.o.size))).trans d5
  generalize w3.drewN nq=w4 at *
  have HW:=ah (show Below w.heap.size w w4 from hX ▸ (HB1.o.trans (HB2.o.mono (hX ▸ HB1.o.size))))
  have HA4:=ah ((HA.o.low (hX ▸ HB1.o)).low HB2.o)
  clear HA HX HB1 HB2 d5 x0 x1 x2 x3 x4 HKD HIN
  go_wp2
  go_loopw [47,5,6] (fun jv _ _ ws=>∃ j:Nat,j<=o.es.length/\jv=.int .i64 j/\Hq ((∀ e∈o.es.take j,e.1≠k)/\Below w4.heap.size w4 ws)) (fun jv _ _ _=>o.es.length-aU jv)
  case atStart=>exact ⟨0,by omega,rfl,by simp,Below.refl _ _⟩
  case round=>
   obtain ⟨j,hj9,rfl,HJ⟩:=hrel
   by_cases hjn:j<o.es.length
   ·obtain ⟨e,he⟩:∃ e,o.es[j]?=some e:=⟨_,List.getElem?_eq_getElem hjn⟩
    have HAR:=ah (HA4.o.low HJ.o.2)
    obtain ⟨A3,cap3,hev2,hcap2,hent2⟩:=HAR.o.ents HO.o
    have:A3=A/\cap3=cap:=by
     have h9:=hev2.symm.trans HEV.o
     simp only [Value.slice.injEq] at h9
     exact ⟨h9.1,h9.2.2⟩
    obtain ⟨rfl,rfl⟩:=this
    obtain ⟨g2,rfl,hg2,hcells⟩:=hent2 j e he
    have d0:=hcells 0 _ rfl
    have d1:=hcells 1 _ rfl
    have d2:=hcells 2 _ rfl
    have d3:=hcells 3 _ rfl
    have d4:=hcells 4 _ rfl
    have d5:=hcells 5 _ rfl
    have d6:=hcells 6 _ rfl
    have d7:=hcells 7 _ rfl
    have d8:=hcells 8 _ rfl
    have d9:=hcells 9 _ rfl
    simp only [Nat.add_zero] at d0
    have HXW:=ah (HXR.o.keep (Keeps.of HJ.o.2 (Nat.le_refl _) (fun _=>False)) (fun x=>x))
    have HKW:=ah (HXW.o.keep (Keeps.of (aJ wr (.cells #[.int .i64 (vk e.1),.int .i64 (vi e.1),.int .u64 0,.string ByteArray.empty,.int .i64 (vr e.1),.int .i64 (vk e.2),.int .i64 (vi e.2),.int .u64 0,.string ByteArray.empty,.int .i64 (vr e.2)] 122)) (Nat.le_refl _) (fun _=>False)) (fun x=>x))
    have HB5:=ah (HJ.o.2.trans ((aJ wr (.cells #[.int .i64 (vk e.1),.int .i64 (vi e.1),.int .u64 0,.string ByteArray.empty,.int .i64 (vr e.1),.int .i64 (vk e.2),.int .i64 (vi e.2),.int .u64 0,.string ByteArray.empty,.int .i64 (vr e.2)] 122)).mono HJ.o.2.size))
    have HX:=ah (jR wr e)
    have HEE:=ah he
    clear hev2 hent2 hcells he
    go_upto_region 6 with (fail)
    generalize wr.alloc (.cells #[.int .i64 (vk e.1),.int .i64 (vi e.1),.int .u64 0,.string ByteArray.empty,.int .i64 (vr e.1),.int .i64 (vk e.2),.int .i64 (vi e.2),.int .u64 0,.string ByteArray.empty,.int .i64 (vr e.2)] 122)=w5 at *
    generalize wr.heap.size=Y at *
    have x0:w5.cell? ⟨Y,0,none⟩=some (.int .i64 (vk e.1)):=HX.o.cell (j:=0) (by omega)
    have x1:w5.cell? ⟨Y,1,none⟩=some (.int .i64 (vi e.1)):=HX.o.cell (j:=1) (by omega)
    have x2:w5.cell? ⟨Y,2,none⟩=some (.int .u64 0):=HX.o.cell (j:=2) (by omega)
    have x3:w5.cell? ⟨Y,3,none⟩=some (.string ByteArray.empty):=HX.o.cell (j:=3) (by omega)
    have x4:w5.cell? ⟨Y,4,none⟩=some (.int .i64 (vr e.1)):=HX.o.cell (j:=4) (by omega)
    have y0:w5.cell? ⟨X,0,none⟩=some (.int .i64 (vk k)):=HKW.o.cell (j:=0) (by omega)
    have y1:w5.cell? ⟨X,1,none⟩=some (.int .i64 (vi k)):=HKW.o.cell (j:=1) (by omega)
    have y2:w5.cell? ⟨X,2,none⟩=some (.int .u64 0):=HKW.o.cell (j:=2) (by omega)
    have y3:w5.cell? ⟨X,3,none⟩=some (.string ByteArray.empty):=HKW.o.cell (j:=3) (by omega)
    have y4:w5.cell? ⟨X,4,none⟩=some (.int .i64 (vr k)):=HKW.o.cell (j:=4) (by omega)
    clear d0 d1 d2 d3 d4 d5 d6 d7 d8 d9
    by_cases hke:e.1=k
    ·rw [hke] at x0 x1 x4
     have HKE:=ah hke
     clear hke
     go_wp2
     go_ret
     have hf:fD o.es k=(j:Int):=iP HEE.o HKE.o HJ.o.1
     exact ⟨by rw [hf];rfl,HW.o.trans (HB5.o.mono HW.o.size)⟩
    ·have HKE:=ah hke
     clear hke
     go_wp2
     any_goals go_ret;exact absurd (lX (by simp_all [vk]) (by simp_all [vi]) (by simp_all [vr])) HKE.o
     all_goals
      refine ⟨⟨j+1,by omega,by simp,?_,HB5.o⟩,by simp [aU];omega⟩
      exact f_ HEE.o HJ.o.1 HKE.o
   ·clear HXR HA4
    have hje:j=o.es.length:=by omega
    subst hje
    go_wp2
    go_ret
    have hf:fD o.es k= -1:=jC (fun e he=>HJ.o.1 e (by rw [List.take_length];exact he))
    exact ⟨by rw [hf];rfl,HW.o.trans (HJ.o.2.mono HW.o.size)⟩
end Go.Proofs.YtedpifhlffcmkaaGreatDoor
