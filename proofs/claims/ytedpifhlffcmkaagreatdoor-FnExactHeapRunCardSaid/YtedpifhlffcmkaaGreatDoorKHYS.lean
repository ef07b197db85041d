import Derived.Test.YtedpifhlffcmkaaGreatDoorKHYP
namespace Go.Proofs.YtedpifhlffcmkaaGreatDoor
open Go Go.RowKit
set_option maxHeartbeats 6400000
set_option maxRecDepth 100000
set_option linter.unusedVariables false
section
variable {G:Gh} {L:PM} {S:Nat->Prop} {base n:Nat} {o:Ob} {w:World}
attribute [local go_sem] bD
theorem fO.ents {q:Hp} {v:HV} (h:fO q v) (n:Nat) (es:List En):fO (q.ents n es) v:=by
 intro m hm
 obtain ⟨o,ho⟩:=h m hm
 unfold Hp.ents
 rw [Hp.Ed]
 split
 ·rw [ho];exact ⟨_,rfl⟩
 ·exact ⟨o,ho⟩
theorem sV {q:Hp} (a:JR base S q G L w) (ho:q.ob n=some o) (hok:∀ e∈o.es,fO q e.1/\fO q e.2) (he9:o.es.length<=5000):
 Calls Tryz.prog 152 #[.pointer (some ⟨L.tb n,0,none⟩)] w fun e w'=>e=.returned (.tuple #[])/\JR base S (q.ents n (o.es.map (bq q))) G L w'/\Keeps w w' S:=by
 obtain ⟨A,cap,hev,hcap,-⟩:=a.ents ho
 have c7:w.cell? ⟨L.tb n,7,none⟩=some (.slice A o.es.length cap):=by rw [<-hev];exact (a.ob n o ho).cell (j:=7) (by omega)
 have HA:=ah a
 have HO:=ah ho
 have HE:=ah hev
 have HK:=ah hok
 clear a ho hev hok
 go_enter Tryz.func152,Tryz.ntmps152
 go_wp2
 go_loopw [9] (fun iv wr=>∃ i:Nat,i<=o.es.length/\iv=.int .i64 i/\Hq (JR base S (q.ents n (aL (bq q) i o.es)) G L wr/\Keeps w wr S)) (fun iv _=>o.es.length-aU iv)
 case atStart=>
  refine ⟨0,by omega,rfl,?_,Keeps.refl _ _⟩
  rw [dV,Hp.EA HO.o]
  exact HA.o
 case round=>
  obtain ⟨i,hi9,rfl,HI⟩:=hrel
  by_cases hin:i<o.es.length
  ·obtain ⟨e,he⟩:∃ e,o.es[i]?=some e:=⟨_,List.getElem?_eq_getElem hin⟩
   have hoq:=Hp.Eu HO.o (aL (bq q) i o.es)
   obtain ⟨A1,cap1,hev1,hcap1,hent1⟩:=HI.out.1.ents hoq
   simp only [bF] at hev1 hcap1
   obtain ⟨rfl,rfl⟩:A1=A/\cap1=cap:=by
    have h9:=hev1.symm.trans HE.o
    simp only [Value.slice.injEq] at h9
    exact ⟨h9.1,h9.2.2⟩
   obtain ⟨g,rfl,hglt,hcells⟩:=hent1 i e (bN _ he)
   have d0:=hcells 0 _ rfl
   have d1:=hcells 1 _ rfl
   have d2:=hcells 2 _ rfl
   have d3:=hcells 3 _ rfl
   have d4:=hcells 4 _ rfl
   have d5:=hcells 5 _ rfl
   have d6:=hcells 6 _ rfl
   have d7:=hcells 7 _ rfl
   have d8:=hcells 8 _ rfl
   have d9:=hcells 9 _ rfl
   simp only [Nat.add_zero] at d0
   have hvk:=HK.o e (List.mem_of_getElem? he)
   have HVK:=ah (And.intro (hvk.1.ents n (aL (bq q) i o.es)) (hvk.2.ents n (aL (bq q) i o.es)))
   have HVQ:=ah hvk
   have HAT:=ah (HI.out.1.low (aJ wr (.cells #[.int .i64 (vk e.1),.int .i64 (vi e.1),.int .u64 0,.string ByteArray.empty,aG L.tb e.1,.int .i64 (vk e.2),.int .i64 (vi e.2),.int .u64 0,.string ByteArray.empty,aG L.tb e.2] 167)))
   have HKP:=ah (HI.out.2.trans (Keeps.of (aJ wr (.cells #[.int .i64 (vk e.1),.int .i64 (vi e.1),.int .u64 0,.string ByteArray.empty,aG L.tb e.1,.int .i64 (vk e.2),.int .i64 (vi e.2),.int .u64 0,.string ByteArray.empty,aG L.tb e.2] 167)) (Nat.le_refl _) S))
   have HX:=ah (kF wr L.tb e)
   have HOQ:=ah hoq
   have HG:Hq ((aL (bq q) i o.es)[i]?=some e/\(aL (bq q) i o.es).length<=5000):=ah ⟨bN _ he,by rw [bF];exact he9⟩
   have HSU:=ah (dJ (bq q) he)
   have HSA:=ah (dK (bq q) he)
   clear hoq hev1 hent1 hcells hvk he
   go_upto_region 3 with (fail)
   generalize wr.alloc (.cells #[.int .i64 (vk e.1),.int .i64 (vi e.1),.int .u64 0,.string ByteArray.empty,aG L.tb e.1,.int .i64 (vk e.2),.int .i64 (vi e.2),.int .u64 0,.string ByteArray.empty,aG L.tb e.2] 167)=w3 at *
   generalize wr.heap.size=X at *
   clear d0 d1 d2 d3 d4 d5 d6 d7 d8 d9
   have y5:w3.cell? ⟨X,5,none⟩=some (.int .i64 (vk e.2)):=HX.o.cell (j:=5) (by omega)
   have y6:w3.cell? ⟨X,6,none⟩=some (.int .i64 (vi e.2)):=HX.o.cell (j:=6) (by omega)
   have y7:w3.cell? ⟨X,7,none⟩=some (.int .u64 0):=HX.o.cell (j:=7) (by omega)
   have y8:w3.cell? ⟨X,8,none⟩=some (.string ByteArray.empty):=HX.o.cell (j:=8) (by omega)
   have y9:w3.cell? ⟨X,9,none⟩=some (aG L.tb e.2):=HX.o.cell (j:=9) (by omega)
   have HWV:=ah (jQ HAT.o e.2 HVK.o.2)
   rw [Hp.E5] at HWV
   cases hb:q.JG e.2 with
   |false=>
    rw [hb] at HWV
    have HFE:Hq (bq q e=e):=ah (by unfold bq;rw [hb];rfl)
    clear hb
    go_wp2_with fail
    refine HWV.o.mono ?_
    rintro e9 w4 ⟨rfl,hb4⟩
    have HB4:=ah hb4
    clear hb4
    go_wp2
    go_roundw
    case rel=>exact ⟨i+1,by omega,by simp,by rw [HSA.o HFE.o];exact HAT.o.low HB4.o,HKP.o.trans (Keeps.of HB4.o (Nat.le_refl _) S)⟩
    case measure=>simp [aU];omega
   |true=>
    rw [hb] at HWV
    have HFE:Hq (bq q e=(e.1,none)):=ah (by unfold bq;rw [hb];rfl)
    clear hb
    go_wp2_with fail
    refine HWV.o.mono ?_
    rintro e9 w4 ⟨rfl,hb4⟩
    have HB4:=ah hb4
    have HA4:=ah (HAT.o.low hb4)
    have HP:=ah (lF HA4.o HOQ.o HG.o.1 none HG.o.2)
    clear hb4 y5 y6 y7 y8 y9
    go_wp2_with fail
    refine HP.o.mono ?_
    rintro e9 w5 ⟨rfl,ha5,hk5⟩
    have H5:=ah (And.intro ha5 hk5)
    clear ha5 hk5
    go_wp2
    go_roundw
    case rel=>
     refine ⟨i+1,by omega,by simp,?_,(HKP.o.trans (Keeps.of HB4.o (Nat.le_refl _) S)).trans H5.o.2⟩
     rw [HSU.o,HFE.o,<-Hp.EI q n (aL (bq q) i o.es)]
     exact H5.o.1
    case measure=>simp [aU];omega
  ·have hie:i=o.es.length:=by omega
   subst hie
   rw [fu] at HI
   go_wp2
   go_end0
   exact ⟨rfl,HI.out.1,HI.out.2⟩
theorem lq {q:Hp} (a:JR base S q G L w) (ho:q.ob n=some o) (hok:∀ e∈o.es,fO q e.1/\fO q e.2) (he9:o.es.length<=5000):
 Calls Tryz.prog 153 #[.pointer (some ⟨L.tb n,0,none⟩)] w fun e w'=>e=.returned (.tuple #[])/\JR base S (q.ents n (o.es.map (bE q))) G L w'/\Keeps w w' S:=by
 obtain ⟨A,cap,hev,hcap,-⟩:=a.ents ho
 have c7:w.cell? ⟨L.tb n,7,none⟩=some (.slice A o.es.length cap):=by rw [<-hev];exact (a.ob n o ho).cell (j:=7) (by omega)
 have HA:=ah a
 have HO:=ah ho
 have HE:=ah hev
 have HK:=ah hok
 clear a ho hev hok
 go_enter Tryz.func153,Tryz.ntmps153
 go_wp2
 go_loopw [9] (fun iv wr=>∃ i:Nat,i<=o.es.length/\iv=.int .i64 i/\Hq (JR base S (q.ents n (aL (bE q) i o.es)) G L wr/\Keeps w wr S)) (fun iv _=>o.es.length-aU iv)
 case atStart=>
  refine ⟨0,by omega,rfl,?_,Keeps.refl _ _⟩
  rw [dV,Hp.EA HO.o]
  exact HA.o
 case round=>
  obtain ⟨i,hi9,rfl,HI⟩:=hrel
  by_cases hin:i<o.es.length
  ·obtain ⟨e,he⟩:∃ e,o.es[i]?=some e:=⟨_,List.getElem?_eq_getElem hin⟩
   have hoq:=Hp.Eu HO.o (aL (bE q) i o.es)
   obtain ⟨A1,cap1,hev1,hcap1,hent1⟩:=HI.out.1.ents hoq
   simp only [bF] at hev1 hcap1
   obtain ⟨rfl,rfl⟩:A1=A/\cap1=cap:=by
    have h9:=hev1.symm.trans HE.o
    simp only [Value.slice.injEq] at h9
    exact ⟨h9.1,h9.2.2⟩
   obtain ⟨g,rfl,hglt,hcells⟩:=hent1 i e (bN _ he)
   have d0:=hcells 0 _ rfl
   have d1:=hcells 1 _ rfl
   have d2:=hcells 2 _ rfl
   have d3:=hcells 3 _ rfl
   have d4:=hcells 4 _ rfl
   have d5:=hcells 5 _ rfl
   have d6:=hcells 6 _ rfl
   have d7:=hcells 7 _ rfl
   have d8:=hcells 8 _ rfl
   have d9:=hcells 9 _ rfl
   simp only [Nat.add_zero] at d0
   have hvk:=HK.o e (List.mem_of_getElem? he)
   have HVK:=ah (And.intro (hvk.1.ents n (aL (bE q) i o.es)) (hvk.2.ents n (aL (bE q) i o.es)))
   have HVQ:=ah hvk
   have HAT:=ah (HI.out.1.low (aJ wr (.cells #[.int .i64 (vk e.1),.int .i64 (vi e.1),.int .u64 0,.string ByteArray.empty,aG L.tb e.1,.int .i64 (vk e.2),.int .i64 (vi e.2),.int .u64 0,.string ByteArray.empty,aG L.tb e.2] 167)))
   have HKP:=ah (HI.out.2.trans (Keeps.of (aJ wr (.cells #[.int .i64 (vk e.1),.int .i64 (vi e.1),.int .u64 0,.string ByteArray.empty,aG L.tb e.1,.int .i64 (vk e.2),.int .i64 (vi e.2),.int .u64 0,.string ByteArray.empty,aG L.tb e.2] 167)) (Nat.le_refl _) S))
   have HX:=ah (kF wr L.tb e)
   have HOQ:=ah hoq
   have HG:Hq ((aL (bE q) i o.es)[i]?=some e/\(aL (bE q) i o.es).length<=5000):=ah ⟨bN _ he,by rw [bF];exact he9⟩
   have HSU:=ah (dJ (bE q) he)
   have HSA:=ah (dK (bE q) he)
   clear hoq hev1 hent1 hcells hvk he
   go_upto_region 3 with (fail)
   generalize wr.alloc (.cells #[.int .i64 (vk e.1),.int .i64 (vi e.1),.int .u64 0,.string ByteArray.empty,aG L.tb e.1,.int .i64 (vk e.2),.int .i64 (vi e.2),.int .u64 0,.string ByteArray.empty,aG L.tb e.2] 167)=w3 at *
   generalize wr.heap.size=X at *
   clear d0 d1 d2 d3 d4 d5 d6 d7 d8 d9
   have x0:w3.cell? ⟨X,0,none⟩=some (.int .i64 (vk e.1)):=HX.o.cell (j:=0) (by omega)
   have x1:w3.cell? ⟨X,1,none⟩=some (.int .i64 (vi e.1)):=HX.o.cell (j:=1) (by omega)
   have x2:w3.cell? ⟨X,2,none⟩=some (.int .u64 0):=HX.o.cell (j:=2) (by omega)
   have x3:w3.cell? ⟨X,3,none⟩=some (.string ByteArray.empty):=HX.o.cell (j:=3) (by omega)
   have x4:w3.cell? ⟨X,4,none⟩=some (aG L.tb e.1):=HX.o.cell (j:=4) (by omega)
   have HWV:=ah (jQ HAT.o e.1 HVK.o.1)
   rw [Hp.E5] at HWV
   cases hb:q.JG e.1 with
   |false=>
    rw [hb] at HWV
    have HFE:Hq (bE q e=e):=ah (by unfold bE;rw [hb];rfl)
    clear hb
    go_wp2_with fail
    refine HWV.o.mono ?_
    rintro e9 w4 ⟨rfl,hb4⟩
    have HB4:=ah hb4
    clear hb4
    go_wp2
    go_roundw
    case rel=>exact ⟨i+1,by omega,by simp,by rw [HSA.o HFE.o];exact HAT.o.low HB4.o,HKP.o.trans (Keeps.of HB4.o (Nat.le_refl _) S)⟩
    case measure=>simp [aU];omega
   |true=>
    rw [hb] at HWV
    have HFE:Hq (bE q e=(none,none)):=ah (by unfold bE;rw [hb];rfl)
    clear hb
    go_wp2_with fail
    refine HWV.o.mono ?_
    rintro e9 w4 ⟨rfl,hb4⟩
    have HB4:=ah hb4
    have HA4:=ah (HAT.o.low hb4)
    have HP:=ah (lF HA4.o HOQ.o HG.o.1 none HG.o.2)
    clear hb4 x0 x1 x2 x3 x4
    go_wp2_with fail
    refine HP.o.mono ?_
    rintro e9 w5 ⟨rfl,ha5,hk5⟩
    rw [Hp.EI] at ha5
    have H5:=ah (And.intro ha5 hk5)
    have hil:i<(aL (bE q) i o.es).length:=by rw [bF];exact hin
    have HLK:=ah (uJ ha5 (Hp.Eu HO.o _) (i:=i) (e:=(e.1,none)) (List.getElem?_set_self hil) (by simp only [List.length_set];exact HG.o.2) (HVQ.o.1.ents n _))
    rw [Hp.EI,List.set_set] at HLK
    clear ha5 hk5 hil
    go_wp2_with fail
    refine HLK.o.mono ?_
    rintro e9 w6 ⟨rfl,ha6,hk6⟩
    have H6:=ah (And.intro ha6 hk6)
    clear ha6 hk6
    go_wp2
    go_roundw
    case rel=>
     refine ⟨i+1,by omega,by simp,?_,((HKP.o.trans (Keeps.of HB4.o (Nat.le_refl _) S)).trans H5.o.2).trans H6.o.2⟩
     rw [HSU.o,HFE.o]
     exact H6.o.1
    case measure=>simp [aU];omega
  ·have hie:i=o.es.length:=by omega
   subst hie
   rw [fu] at HI
   go_wp2
   go_end0
   exact ⟨rfl,HI.out.1,HI.out.2⟩
theorem r_ {q:Hp} (a:JR base S q G L w) (ho:q.ob n=some o) (hok:∀ e∈o.es,fO q e.1/\fO q e.2) (he9:o.es.length<=5000):
 Calls Tryz.prog 155 #[.pointer (some ⟨L.tb n,0,none⟩)] w fun e w'=>e=.returned (.tuple #[])/\JR base S (q.ents n (o.es.map (bP q))) G L w'/\Keeps w w' S:=by
 obtain ⟨A,cap,hev,hcap,-⟩:=a.ents ho
 have c7:w.cell? ⟨L.tb n,7,none⟩=some (.slice A o.es.length cap):=by rw [<-hev];exact (a.ob n o ho).cell (j:=7) (by omega)
 have HA:=ah a
 have HO:=ah ho
 have HE:=ah hev
 have HK:=ah hok
 clear a ho hev hok
 go_enter Tryz.func155,Tryz.ntmps155
 go_wp2
 go_loopw [9] (fun iv wr=>∃ i:Nat,i<=o.es.length/\iv=.int .i64 i/\Hq (JR base S (q.ents n (aL (bP q) i o.es)) G L wr/\Keeps w wr S)) (fun iv _=>o.es.length-aU iv)
 case atStart=>
  refine ⟨0,by omega,rfl,?_,Keeps.refl _ _⟩
  rw [dV,Hp.EA HO.o]
  exact HA.o
 case round=>
  obtain ⟨i,hi9,rfl,HI⟩:=hrel
  by_cases hin:i<o.es.length
  ·obtain ⟨e,he⟩:∃ e,o.es[i]?=some e:=⟨_,List.getElem?_eq_getElem hin⟩
   have hoq:=Hp.Eu HO.o (aL (bP q) i o.es)
   obtain ⟨A1,cap1,hev1,hcap1,hent1⟩:=HI.out.1.ents hoq
   simp only [bF] at hev1 hcap1
   obtain ⟨rfl,rfl⟩:A1=A/\cap1=cap:=by
    have h9:=hev1.symm.trans HE.o
    simp only [Value.slice.injEq] at h9
    exact ⟨h9.1,h9.2.2⟩
   obtain ⟨g,rfl,hglt,hcells⟩:=hent1 i e (bN _ he)
   have d0:=hcells 0 _ rfl
   have d1:=hcells 1 _ rfl
   have d2:=hcells 2 _ rfl
   have d3:=hcells 3 _ rfl
   have d4:=hcells 4 _ rfl
   have d5:=hcells 5 _ rfl
   have d6:=hcells 6 _ rfl
   have d7:=hcells 7 _ rfl
   have d8:=hcells 8 _ rfl
   have d9:=hcells 9 _ rfl
   simp only [Nat.add_zero] at d0
   have hvk:=HK.o e (List.mem_of_getElem? he)
   have HVK:=ah (And.intro (hvk.1.ents n (aL (bP q) i o.es)) (hvk.2.ents n (aL (bP q) i o.es)))
   have HVQ:=ah hvk
   have HAT:=ah (HI.out.1.low (aJ wr (.cells #[.int .i64 (vk e.1),.int .i64 (vi e.1),.int .u64 0,.string ByteArray.empty,aG L.tb e.1,.int .i64 (vk e.2),.int .i64 (vi e.2),.int .u64 0,.string ByteArray.empty,aG L.tb e.2] 167)))
   have HKP:=ah (HI.out.2.trans (Keeps.of (aJ wr (.cells #[.int .i64 (vk e.1),.int .i64 (vi e.1),.int .u64 0,.string ByteArray.empty,aG L.tb e.1,.int .i64 (vk e.2),.int .i64 (vi e.2),.int .u64 0,.string ByteArray.empty,aG L.tb e.2] 167)) (Nat.le_refl _) S))
   have HX:=ah (kF wr L.tb e)
   have HOQ:=ah hoq
   have HG:Hq ((aL (bP q) i o.es)[i]?=some e/\(aL (bP q) i o.es).length<=5000):=ah ⟨bN _ he,by rw [bF];exact he9⟩
   have HSU:=ah (dJ (bP q) he)
   have HSA:=ah (dK (bP q) he)
   clear hoq hev1 hent1 hcells hvk he
   go_upto_region 3 with (fail)
   generalize wr.alloc (.cells #[.int .i64 (vk e.1),.int .i64 (vi e.1),.int .u64 0,.string ByteArray.empty,aG L.tb e.1,.int .i64 (vk e.2),.int .i64 (vi e.2),.int .u64 0,.string ByteArray.empty,aG L.tb e.2] 167)=w3 at *
   generalize wr.heap.size=X at *
   clear d0 d1 d2 d3 d4 d5 d6 d7 d8 d9
   have y5:w3.cell? ⟨X,5,none⟩=some (.int .i64 (vk e.2)):=HX.o.cell (j:=5) (by omega)
   have y6:w3.cell? ⟨X,6,none⟩=some (.int .i64 (vi e.2)):=HX.o.cell (j:=6) (by omega)
   have y7:w3.cell? ⟨X,7,none⟩=some (.int .u64 0):=HX.o.cell (j:=7) (by omega)
   have y8:w3.cell? ⟨X,8,none⟩=some (.string ByteArray.empty):=HX.o.cell (j:=8) (by omega)
   have y9:w3.cell? ⟨X,9,none⟩=some (aG L.tb e.2):=HX.o.cell (j:=9) (by omega)
   have x0:w3.cell? ⟨X,0,none⟩=some (.int .i64 (vk e.1)):=HX.o.cell (j:=0) (by omega)
   have x1:w3.cell? ⟨X,1,none⟩=some (.int .i64 (vi e.1)):=HX.o.cell (j:=1) (by omega)
   have x2:w3.cell? ⟨X,2,none⟩=some (.int .u64 0):=HX.o.cell (j:=2) (by omega)
   have x3:w3.cell? ⟨X,3,none⟩=some (.string ByteArray.empty):=HX.o.cell (j:=3) (by omega)
   have x4:w3.cell? ⟨X,4,none⟩=some (aG L.tb e.1):=HX.o.cell (j:=4) (by omega)
   have HN:=ah (aZ w3 L.tb e.2)
   cases hn:e.2.isNone with
   |false=>
    rw [hn] at HN
    have HFE:Hq (bP q e=e):=ah (by unfold bP;rw [hn];rfl)
    clear hn
    go_wp2_with fail
    refine HN.o.mono ?_
    rintro e9 w4 ⟨rfl,hb4⟩
    have HB4:=ah hb4
    clear hb4
    go_wp2
    go_roundw
    case rel=>exact ⟨i+1,by omega,by simp,by rw [HSA.o HFE.o];exact HAT.o.low HB4.o,HKP.o.trans (Keeps.of HB4.o (Nat.le_refl _) S)⟩
    case measure=>simp [aU];omega
   |true=>
    rw [hn] at HN
    have HNN:=ah hn
    clear hn
    go_wp2_with fail
    refine HN.o.mono ?_
    rintro e9 w4 ⟨rfl,hb4⟩
    have HB4:=ah hb4
    have HA4:=ah (HAT.o.low hb4)
    have HX4:=ah (HX.o.keep (Keeps.of hb4 (Nat.le_refl _) (fun _=>False)) (fun y=>y))
    clear hb4 y5 y6 y7 y8 y9 x0 x1 x2 x3 x4
    have x0:w4.cell? ⟨X,0,none⟩=some (.int .i64 (vk e.1)):=HX4.o.cell (j:=0) (by omega)
    have x1:w4.cell? ⟨X,1,none⟩=some (.int .i64 (vi e.1)):=HX4.o.cell (j:=1) (by omega)
    have x2:w4.cell? ⟨X,2,none⟩=some (.int .u64 0):=HX4.o.cell (j:=2) (by omega)
    have x3:w4.cell? ⟨X,3,none⟩=some (.string ByteArray.empty):=HX4.o.cell (j:=3) (by omega)
    have x4:w4.cell? ⟨X,4,none⟩=some (aG L.tb e.1):=HX4.o.cell (j:=4) (by omega)
    have HWV:=ah (jQ HA4.o e.1 HVK.o.1)
    rw [Hp.E5] at HWV
    cases hb:q.JG e.1 with
    |false=>
     rw [hb] at HWV
     have HFE:Hq (bP q e=e):=ah (by unfold bP;rw [HNN.o,hb];rfl)
     clear hb
     go_wp2_with fail
     refine HWV.o.mono ?_
     rintro e9 w5 ⟨rfl,hb5⟩
     have HB5:=ah hb5
     clear hb5
     go_wp2
     go_roundw
     case rel=>exact ⟨i+1,by omega,by simp,by rw [HSA.o HFE.o];exact HA4.o.low HB5.o,(HKP.o.trans (Keeps.of HB4.o (Nat.le_refl _) S)).trans (Keeps.of HB5.o (Nat.le_refl _) S)⟩
     case measure=>simp [aU];omega
    |true=>
     rw [hb] at HWV
     have HFE:Hq (bP q e=(none,e.2)):=ah (by
      unfold bP
      rw [HNN.o,hb]
      have:e.2=none:=by simpa using HNN.o
      rw [this]
      rfl)
     clear hb
     go_wp2_with fail
     refine HWV.o.mono ?_
     rintro e9 w5 ⟨rfl,hb5⟩
     have HB5:=ah hb5
     have HA5:=ah (HA4.o.low hb5)
     have HLK:=ah (uJ HA5.o HOQ.o HG.o.1 HG.o.2 HVK.o.1)
     rw [Hp.EI] at HLK
     clear hb5 x0 x1 x2 x3 x4
     go_wp2_with fail
     refine HLK.o.mono ?_
     rintro e9 w6 ⟨rfl,ha6,hk6⟩
     have H6:=ah (And.intro ha6 hk6)
     clear ha6 hk6
     go_wp2
     go_roundw
     case rel=>
      refine ⟨i+1,by omega,by simp,?_,((HKP.o.trans (Keeps.of HB4.o (Nat.le_refl _) S)).trans (Keeps.of HB5.o (Nat.le_refl _) S)).trans H6.o.2⟩
      rw [HSU.o,HFE.o]
      exact H6.o.1
     case measure=>simp [aU];omega
  ·have hie:i=o.es.length:=by omega
   subst hie
   rw [fu] at HI
   go_wp2
   go_end0
   exact ⟨rfl,HI.out.1,HI.out.2⟩
end
section
variable {G:Gh} {L:PM} {S:Nat->Prop} {base:Nat} {h:Hp} {w:World}
attribute [local go_sem] bD
theorem l5 (c:Hp->En->En):∀ (l:List Nat) (h:Hp),l.foldl (Hp.J3 c) h={ h with objs:=(l.foldl (Hp.J3 c) h).objs }
 | [],h=>rfl
 |a::l,h=>by
  rw [List.foldl_cons,l5 c l]
  rfl
theorem yF (a b:List Nat) (h:Hp):(a++b).foldl Hp.JJ h=(b++a).foldl Hp.JJ h:=by
 rw [xk,l5 bE (a++b) h,l5 bE (b++a) h]
 have h1:=J2.fold bE dR (a++b) h
 have h2:=J2.fold bE dR (b++a) h
 rw [qD (h:=(b++a).foldl (Hp.J3 bE) h) (g:=(a++b).foldl (Hp.J3 bE) h) (by rw [h1.len,h2.len]) (fun n=>?_)]
 rw [<-xk,lN,lN]
 simp only [List.mem_append,Or.comm]
theorem qc (a:JR base S h G L w) (k:Wk h):
 Calls Tryz.prog 144 #[.pointer (some ⟨L.H,0,none⟩)] w fun e w'=>e=.returned (.tuple #[])/\JR base S (h.weak.foldl Hp.Jk h) G L w'/\Keeps w w' S:=by
 obtain ⟨A,cap,hv,hcap,-⟩:=a.EM (k:=13) (by simp [b_])
 have ck:w.cell? ⟨L.H,13,none⟩=some (.slice A h.weak.length cap):=by
  have:=a.hp.cell (j:=13) (by omega)
  rw [this]
  exact congrArg some hv
 have hwl:h.weak.length<=20000:=by
  have:=k.s.nu
  simp only [Hp.nu] at this
  omega
 have HA:=ah a
 have HK:=ah k
 have HV:Hq (L.li 13=.slice A h.weak.length cap):=ah hv
 clear a k hv
 go_enter Tryz.func144,Tryz.ntmps144
 go_wp2
 go_loopw [10] (fun iv wr=>∃ i:Nat,i<=h.weak.length/\iv=.int .i64 i/\Hq (JR base S ((h.weak.take i).foldl Hp.Jk h) G L wr/\Keeps w wr S)) (fun iv _=>h.weak.length-aU iv)
 case atStart=>exact ⟨0,by omega,rfl,HA.o,Keeps.refl _ _⟩
 case round=>
  obtain ⟨i,hi9,rfl,HI⟩:=hrel
  by_cases hin:i<h.weak.length
  ·obtain ⟨n,he⟩:∃ n,h.weak[i]?=some n:=⟨_,List.getElem?_eq_getElem hin⟩
   have hts:=aO he
   have hcn:J2 h ((h.weak.take i).foldl Hp.Jk h):=J2.fold bq bI (h.weak.take i) h
   have hkq:=HK.o.cnt hcn
   obtain ⟨q,hq⟩:∃ q,(h.weak.take i).foldl Hp.Jk h=q:=⟨_,rfl⟩
   rw [hq] at hcn HI hkq
   obtain ⟨A1,cap1,hv1,hcap1,hget⟩:=HI.out.1.EM (k:=13) (by simp [b_])
   have hpf:dh q G 13=h.weak:=hcn.weak
   rw [hpf] at hv1 hget
   obtain ⟨rfl,rfl⟩:A1=A/\cap1=cap:=by
    have h9:=hv1.symm.trans HV.out
    simp only [Value.slice.injEq] at h9
    exact ⟨h9.1,h9.2.2⟩
   obtain ⟨g,rfl,hglt,hgc⟩:=hget i n he
   have hgc':wr.cell? ⟨g,i,none⟩=some (.pointer (some ⟨L.tb n,0,none⟩)):=hgc
   obtain ⟨o,ho⟩:=(hcn.lv n).2 (HK.o.l n (.inr <| .inr <| .inl <| (List.mem_of_getElem? he)))
   have HP:=ah (sV HI.out.1 ho (fO.of hkq.c ho) (hkq.s.es n o ho))
   have HF:Hq ((h.weak.take (i+1)).foldl Hp.Jk h=q.ents n (o.es.map (bq q))):=ah (by rw [hts,aN,hq];exact iB bq ho)
   have HKP:=ah HI.out.2
   clear hq hcn hts hgc hget hv1 hpf ho HI he hkq
   go_wp2_with fail
   refine HP.o.mono ?_
   rintro e9 w6 ⟨rfl,ha6,hk6⟩
   have H6:=ah (And.intro ha6 hk6)
   clear ha6 hk6
   go_wp2
   go_roundw
   case rel=>exact ⟨i+1,by omega,by simp,by rw [HF.o];exact H6.o.1,HKP.o.trans H6.o.2⟩
   case measure=>simp [aU];omega
  ·have hie:i=h.weak.length:=by omega
   subst hie
   rw [List.take_length] at HI
   go_wp2
   go_end0
   exact ⟨rfl,HI.out.1,HI.out.2⟩
theorem yO (a:JR base S h G L w) (k:Wk h):
 Calls Tryz.prog 146 #[.pointer (some ⟨L.H,0,none⟩)] w fun e w'=>e=.returned (.tuple #[])/\JR base S h.at4 G L w'/\Keeps w w' S:=by
 obtain ⟨A,cap,hv,hcap,-⟩:=a.EM (k:=13) (by simp [b_])
 have ck:w.cell? ⟨L.H,13,none⟩=some (.slice A h.weak.length cap):=by
  have:=a.hp.cell (j:=13) (by omega)
  rw [this]
  exact congrArg some hv
 have hwl:h.weak.length<=20000:=by
  have:=k.s.nu
  simp only [Hp.nu] at this
  omega
 have HA:=ah a
 have HK:=ah k
 have HV:Hq (L.li 13=.slice A h.weak.length cap):=ah hv
 clear a k hv
 go_enter Tryz.func146,Tryz.ntmps146
 go_wp2
 go_loopw [12] (fun iv wr=>∃ i:Nat,i<=h.weak.length/\iv=.int .i64 i/\Hq (JR base S ((h.weak.take i).foldl Hp.JJ h) G L wr/\Keeps w wr S)) (fun iv _=>h.weak.length-aU iv)
 case atStart=>exact ⟨0,by omega,rfl,HA.o,Keeps.refl _ _⟩
 case round=>
  obtain ⟨i,hi9,rfl,HI⟩:=hrel
  by_cases hin:i<h.weak.length
  ·obtain ⟨n,he⟩:∃ n,h.weak[i]?=some n:=⟨_,List.getElem?_eq_getElem hin⟩
   have hts:=aO he
   have hcn:J2 h ((h.weak.take i).foldl Hp.JJ h):=J2.fold bE dR (h.weak.take i) h
   have hkq:=HK.o.cnt hcn
   obtain ⟨q,hq⟩:∃ q,(h.weak.take i).foldl Hp.JJ h=q:=⟨_,rfl⟩
   rw [hq] at hcn HI hkq
   obtain ⟨A1,cap1,hv1,hcap1,hget⟩:=HI.out.1.EM (k:=13) (by simp [b_])
   have hpf:dh q G 13=h.weak:=hcn.weak
   rw [hpf] at hv1 hget
   obtain ⟨rfl,rfl⟩:A1=A/\cap1=cap:=by
    have h9:=hv1.symm.trans HV.out
    simp only [Value.slice.injEq] at h9
    exact ⟨h9.1,h9.2.2⟩
   obtain ⟨g,rfl,hglt,hgc⟩:=hget i n he
   have hgc':wr.cell? ⟨g,i,none⟩=some (.pointer (some ⟨L.tb n,0,none⟩)):=hgc
   obtain ⟨o,ho⟩:=(hcn.lv n).2 (HK.o.l n (.inr <| .inr <| .inl <| (List.mem_of_getElem? he)))
   have HP:=ah (lq HI.out.1 ho (fO.of hkq.c ho) (hkq.s.es n o ho))
   have HF:Hq ((h.weak.take (i+1)).foldl Hp.JJ h=q.ents n (o.es.map (bE q))):=ah (by rw [hts,aN,hq];exact iB bE ho)
   have HKP:=ah HI.out.2
   clear hq hcn hts hgc hget hv1 hpf ho HI he hkq
   go_wp2_with fail
   refine HP.o.mono ?_
   rintro e9 w6 ⟨rfl,ha6,hk6⟩
   have H6:=ah (And.intro ha6 hk6)
   clear ha6 hk6
   go_wp2
   go_roundw
   case rel=>exact ⟨i+1,by omega,by simp,by rw [HF.o];exact H6.o.1,HKP.o.trans H6.o.2⟩
   case measure=>simp [aU];omega
  ·have hie:i=h.weak.length:=by omega
   subst hie
   rw [List.take_length] at HI
   have hcn:J2 h (h.weak.foldl Hp.JJ h):=J2.fold bE dR h.weak h
   have HK2:=ah (HK.o.cnt hcn)
   have HAT:Hq (h.at4=(h.weak.foldl Hp.JJ h).D8.foldl Hp.JJ (h.weak.foldl Hp.JJ h)):=ah (by
    rw [hcn.D8,<-List.foldl_append]
    exact yF h.D8 h.weak h)
   generalize h.weak.foldl Hp.JJ h=q2 at *
   obtain ⟨A2,cap2,hv2,hcap2,-⟩:=HI.out.1.EM (k:=14) (by simp [b_])
   have ck2:wr.cell? ⟨L.H,14,none⟩=some (.slice A2 q2.D8.length cap2):=by
    have:=HI.out.1.hp.cell (j:=14) (by omega)
    rw [this]
    exact congrArg some hv2
   have hwl2:q2.D8.length<=20000:=by
    have:=HK2.o.s.nu
    simp only [Hp.nu] at this
    omega
   have HV2:Hq (L.li 14=.slice A2 q2.D8.length cap2):=ah hv2
   have HA2:=ah HI.out
   clear hv2 hcn HI
   go_wp2
   go_loopw [25] (fun iv wr=>∃ i:Nat,i<=q2.D8.length/\iv=.int .i64 i/\Hq (JR base S ((q2.D8.take i).foldl Hp.JJ q2) G L wr/\Keeps w wr S)) (fun iv _=>q2.D8.length-aU iv)
   case atStart=>exact ⟨0,by omega,rfl,HA2.o.1,HA2.o.2⟩
   case round=>
    obtain ⟨i,hi9,rfl,HI⟩:=hrel
    by_cases hin:i<q2.D8.length
    ·obtain ⟨n,he⟩:∃ n,q2.D8[i]?=some n:=⟨_,List.getElem?_eq_getElem hin⟩
     have hts:=aO he
     have hcn:J2 q2 ((q2.D8.take i).foldl Hp.JJ q2):=J2.fold bE dR (q2.D8.take i) q2
     have hkq:=HK2.o.cnt hcn
     obtain ⟨q,hq⟩:∃ q,(q2.D8.take i).foldl Hp.JJ q2=q:=⟨_,rfl⟩
     rw [hq] at hcn HI hkq
     obtain ⟨A1,cap1,hv1,hcap1,hget⟩:=HI.out.1.EM (k:=14) (by simp [b_])
     have hpf:dh q G 14=q2.D8:=hcn.D8
     rw [hpf] at hv1 hget
     obtain ⟨rfl,rfl⟩:A1=A2/\cap1=cap2:=by
      have h9:=hv1.symm.trans HV2.o
      simp only [Value.slice.injEq] at h9
      exact ⟨h9.1,h9.2.2⟩
     obtain ⟨g,rfl,hglt,hgc⟩:=hget i n he
     have hgc':wr.cell? ⟨g,i,none⟩=some (.pointer (some ⟨L.tb n,0,none⟩)):=hgc
     obtain ⟨o,ho⟩:=(hcn.lv n).2 (HK2.o.l n (.inr <| .inr <| .inr <| (List.mem_of_getElem? he)))
     have HP:=ah (lq HI.out.1 ho (fO.of hkq.c ho) (hkq.s.es n o ho))
     have HF:Hq ((q2.D8.take (i+1)).foldl Hp.JJ q2=q.ents n (o.es.map (bE q))):=ah (by rw [hts,aN,hq];exact iB bE ho)
     have HKP:=ah HI.out.2
     clear hq hcn hts hgc hget hv1 hpf ho HI he hkq
     go_wp2_with fail
     refine HP.o.mono ?_
     rintro e9 w6 ⟨rfl,ha6,hk6⟩
     have H6:=ah (And.intro ha6 hk6)
     clear ha6 hk6
     go_wp2
     go_roundw
     case rel=>exact ⟨i+1,by omega,by simp,by rw [HF.o];exact H6.o.1,HKP.o.trans H6.o.2⟩
     case measure=>simp [aU];omega
    ·have hie:i=q2.D8.length:=by omega
     subst hie
     rw [List.take_length] at HI
     go_wp2
     go_end0
     exact ⟨rfl,by rw [HAT.o];exact HI.out.1,HI.out.2⟩
end
section
variable {G:Gh} {L:PM} {S:Nat->Prop} {base i k m n:Nat} {es:List En} {h:Hp} {o:Ob} {w:World}
structure JO (G:Gh) (h:Hp):Prop where
 up:G.Jt.Pairwise (·< ·)
 lv:∀ n,n∈G.Jt↔h.Lv n
theorem rD (v:Value) (w:World):(Instr.typeAssert (.iface 127 v) 67 127 true).run Tryz.prog w=.ok (.tuple #[v,.bool true]) w:=by kernel_rfl
theorem vD (h:aK es=0) (q:Hp):es.map (bP q)=es:=by
 unfold aK at h
 rw [List.length_eq_zero_iff,List.filter_eq_nil_iff] at h
 conv=>rhs;rw [<-List.map_id es]
 refine List.map_congr_left (fun e he=>?_)
 have:=h e he
 unfold bP
 cases hn:e.2.isNone with
 |false=>rfl
 |true=>exact absurd hn this
theorem jl {q:Hp} (hkm:k<=m) (h:∀ n,k<=n->n<m->¬ q.Lv n):aM m q=aM k q:=by
 induction m with
 |zero=>rw [show k=0 by omega]
 |succ m ih=>
  by_cases c:k=m+1
  ·rw [c]
  ·rw [fI (fun o e=>absurd ⟨o,e⟩ (h m (by omega) (by omega))),ih (by omega) (fun n a b=>h n a (by omega))]
theorem rQ {q:Hp} (h:∀ n,q.Lv n->n<k):aM k q=q.EB:=by
 rw [<-kY]
 rcases Nat.le_total k q.objs.length with c|c
 ·exact (jl c (fun n a _ l=>by have:=h n l;omega)).symm
 ·refine jl c (fun n a _ l=>?_)
  obtain ⟨o,ho⟩:=l
  have:=Hp.Es ho
  omega
theorem sD {q:Hp} (h:q.ob n=some o) (hn:i<=n):(aM i q).ob n=some o:=by
 rw [dX,if_neg (by omega),h]
theorem yx (a:JR base S h G L w) (k:Wk h) (gl:JO G h) (hol:G.Jt.length<=20000):
 Calls Tryz.prog 147 #[.pointer (some ⟨L.H,0,none⟩)] w fun e w'=>e=.returned (.tuple #[])/\JR base S h.EB G L w'/\Keeps w w' S:=by
 obtain ⟨A,cap,hv,hcap,-⟩:=a.EM (k:=7) (by simp [b_])
 have ck:w.cell? ⟨L.H,7,none⟩=some (.slice A G.Jt.length cap):=by
  have:=a.hp.cell (j:=7) (by omega)
  rw [this]
  exact congrArg some hv
 have HA:=ah a
 have HK:=ah k
 have HG:=ah gl
 have HV:Hq (L.li 7=.slice A G.Jt.length cap):=ah hv
 have hta:=rD
 clear a k gl hv
 go_enter Tryz.func147,Tryz.ntmps147
 go_wp2
 go_loopw [11] (fun iv wr=>∃ i:Nat,i<=G.Jt.length/\iv=.int .i64 i/\Hq (∃ m,JR base S (aM m h) G L wr/\Keeps w wr S/\(∀ j n,i<=j->G.Jt[j]?=some n->m<=n)/\∀ n,h.Lv n->n<m∨∃ j,i<=j/\G.Jt[j]?=some n)) (fun iv _=>G.Jt.length-aU iv)
 case atStart=>
  refine ⟨0,by omega,rfl,0,?_,Keeps.refl _ _,fun j n _ _=>Nat.zero_le _,fun n hn=>.inr ?_⟩
  ·rw [kG];exact HA.o
  ·obtain ⟨j,hj,e⟩:=List.getElem_of_mem ((HG.o.lv n).2 hn)
   exact ⟨j,Nat.zero_le _,by rw [List.getElem?_eq_getElem hj,e]⟩
 case round=>
  obtain ⟨i,hi9,rfl,HI⟩:=hrel
  obtain ⟨m,hat,hkp,hlo,hli⟩:=HI.out
  by_cases hin:i<G.Jt.length
  ·obtain ⟨n,he⟩:∃ n,G.Jt[i]?=some n:=⟨_,List.getElem?_eq_getElem hin⟩
   obtain ⟨o,ho⟩:=(HG.o.lv n).1 (List.mem_of_getElem? he)
   have hasc:∀ j n',i<j->G.Jt[j]?=some n'->n<n':=by
    intro j n' hij hj
    have hjl:=(List.getElem?_eq_some_iff.1 hj).1
    have e1:=(List.getElem?_eq_some_iff.1 hj).2
    have e2:=(List.getElem?_eq_some_iff.1 he).2
    have:=List.pairwise_iff_getElem.1 HG.o.up i j hin hjl hij
    rw [e1,e2] at this
    exact this
   have hmn:=hlo i n (Nat.le_refl _) he
   have hgap:aM n h=aM m h:=jl hmn (fun x h1 h2 hl=>by
    rcases hli x hl with c|⟨j,hj,c⟩
    ·omega
    ·rcases Nat.lt_or_ge i j with d|d
     ·have:=hasc j x d c;omega
     ·rw [show j=i by omega,he] at c;cases c;omega)
   rw [<-hgap] at hat
   have hoq:(aM n h).ob n=some o:=sD ho (Nat.le_refl _)
   have hkq:=HK.o.cnt (gW n h)
   have HNX:Hq ((∀ j n',i+1<=j->G.Jt[j]?=some n'->n+1<=n')/\∀ x,h.Lv x->x<n+1∨∃ j,i+1<=j/\G.Jt[j]?=some x):=ah ⟨fun j n' h1 h2=>hasc j n' h1 h2,fun x hl=>by
    rcases hli x hl with c|⟨j,hj,c⟩
    ·exact .inl (by omega)
    ·rcases Nat.lt_or_ge i j with d|d
     ·exact .inr ⟨j,d,c⟩
     ·rw [show j=i by omega,he] at c;cases c;exact .inl (by omega)⟩
   obtain ⟨A1,cap1,hv1,hcap1,hget⟩:=hat.EM (k:=7) (by simp [b_])
   have hpf:dh (aM n h) G 7=G.Jt:=rfl
   rw [hpf] at hv1 hget
   obtain ⟨rfl,rfl⟩:A1=A/\cap1=cap:=by
    have h9:=hv1.symm.trans HV.out
    simp only [Value.slice.injEq] at h9
    exact ⟨h9.1,h9.2.2⟩
   obtain ⟨g,rfl,hglt,hgc⟩:=hget i n he
   have hgc':wr.cell? ⟨g,i,none⟩=some (.iface 127 (.pointer (some ⟨L.tb n,0,none⟩))):=hgc
   have t0:wr.cell? ⟨L.tb n,0,none⟩=some (.int .i64 (o.col:Int)):=(hat.ob n o hoq).cell (j:=0) (by omega)
   have t9:wr.cell? ⟨L.tb n,9,none⟩=some (.int .i64 ((aK o.es:Nat):Int)):=(hat.ob n o hoq).cell (j:=9) (by omega)
   have HW:=ah (jy wr (L.tb n) o.col t0)
   have HB:=ah (r_ hat hoq (fO.of hkq.c hoq) (hkq.s.es n o hoq))
   have HAT:=ah (And.intro hat hkp)
   have HOO:=ah ho
   have HOQ:=ah hoq
   clear hat hkp hlo hli HI he ho hoq hasc hgap hkq hget hgc hv1 hpf hmn
   cases hw:eP o.col with
   |true=>
    rw [hw] at HW
    have HSK:Hq (aM (n+1) h=aM n h):=ah (fI (fun o' e=>by
     rw [HOO.o] at e
     cases e
     unfold Hp.drop1
     rw [if_pos hw]))
    clear hw
    go_wp2_with fail
    refine HW.o.mono ?_
    rintro e1 w1 ⟨rfl,rfl⟩
    go_wp2
    go_roundw
    case rel=>exact ⟨i+1,by omega,by simp,n+1,by rw [HSK.o];exact HAT.o.1,HAT.o.2,HNX.o⟩
    case measure=>simp [aU];omega
   |false=>
    rw [hw] at HW
    have HDO:Hq (aM (n+1) h=(aM n h).ents n (o.es.map (bP (aM n h)))):=ah (nH HOO.o hw)
    clear hw
    by_cases hb:aK o.es=0
    ·have hb1:¬ (((aK o.es:Nat):Int) > 0):=by omega
     have HSK:Hq (aM (n+1) h=aM n h):=ah (by rw [HDO.o,vD hb,Hp.EA HOQ.o])
     clear hb
     go_wp2_with fail
     refine HW.o.mono ?_
     rintro e1 w1 ⟨rfl,rfl⟩
     go_wp2
     go_roundw
     case rel=>exact ⟨i+1,by omega,by simp,n+1,by rw [HSK.o];exact HAT.o.1,HAT.o.2,HNX.o⟩
     case measure=>simp [aU];omega
    ·have hb1:((aK o.es:Nat):Int) > 0:=by omega
     clear hb
     go_wp2_with fail
     refine HW.o.mono ?_
     rintro e1 w1 ⟨rfl,rfl⟩
     go_wp2_with fail
     refine HB.o.mono ?_
     rintro e9 w6 ⟨rfl,ha6,hk6⟩
     have H6:=ah (And.intro ha6 hk6)
     clear ha6 hk6
     go_wp2
     go_roundw
     case rel=>exact ⟨i+1,by omega,by simp,n+1,by rw [HDO.o];exact H6.o.1,HAT.o.2.trans H6.o.2,HNX.o⟩
     case measure=>simp [aU];omega
  ·have hie:i=G.Jt.length:=by omega
   subst hie
   have HD:Hq (aM m h=h.EB):=ah (rQ (fun n hn=>by
    rcases hli n hn with c|⟨j,hj,c⟩
    ·exact c
    ·have:=(List.getElem?_eq_some_iff.1 c).1;omega))
   have HAT:=ah (And.intro hat hkp)
   clear hat hkp hlo hli HI
   go_wp2
   go_end0
   exact ⟨rfl,by rw [<-HD.o];exact HAT.o.1,HAT.o.2⟩
end
end Go.Proofs.YtedpifhlffcmkaaGreatDoor
