import Derived.Test.YtedpifhlffcmkaaGreatDoorKHYE
namespace Go.Proofs.YtedpifhlffcmkaaGreatDoor
open Go Go.RowKit
set_option maxHeartbeats 6400000
set_option maxRecDepth 100000
set_option linter.unusedVariables false
section
variable {G:Gh} {L:PM} {S:Nat->Prop} {base n:Nat} {h:Hp} {o:Ob} {w:World}
attribute [local go_sem] bD
theorem iq (h:Hp) (v:HV):(h.Eo v).nu=h.nu:=by
 unfold Hp.Eo
 split
 ·exact h.EC _
 ·rfl
theorem rX (h:Hp) (e:En):(h.key1 e).nu=h.nu:=by
 unfold Hp.key1
 split
 ·exact iq h _
 ·rfl
theorem zA (h:Hp) (e:En):(h.Em e).nu=h.nu:=(iq _ _).trans (rX h e)
structure JD (L L':PM):Prop where
 H:L'.H=L.H
 tb:L'.tb=L.tb
 es:L'.es=L.es
 mp:L'.mp=L.mp
theorem Du (a:JR base S h G L w) (ho:h.ob n=some o) (hok:∀ e∈o.es,fO h e.1/\fO h e.2) (he9:o.es.length<=5000) (hnu:h.nu<=20000) (hmd:o.mode=0):
 Calls Tryz.prog 182 #[.pointer (some ⟨L.tb n,0,none⟩),.pointer (some ⟨L.H,0,none⟩)] w fun e w'=>e=.returned (.int .i64 (o.es.length:Int))/\∃ L',JD L L'/\JR base S (o.es.foldl Hp.Em h) G L' w'/\Keeps w w' S:=by
 obtain ⟨A,cap,hev,hcap,-⟩:=a.ents ho
 have hr:=a.ob n o ho
 have c7:w.cell? ⟨L.tb n,7,none⟩=some (.slice A o.es.length cap):=by rw [<-hev];exact hr.cell (j:=7) (by omega)
 have c6:w.cell? ⟨L.tb n,6,none⟩=some (.pointer none):=hr.cell (j:=6) (by omega)
 have c5:w.cell? ⟨L.tb n,5,none⟩=some (.int .i64 0):=by
  rw [hr.cell (j:=5) (by omega)]
  show some (Value.int .i64 (o.mode:Int))=_
  rw [hmd]
  rfl
 have HA:=ah a
 have HO:=ah ho
 have HE:=ah hev
 have HK:=ah hok
 clear a ho hev hok hr
 go_enter Tryz.func182,Tryz.ntmps182
 go_wp2
 go_loopw [32] (fun iv wr=>∃ i:Nat,i<=o.es.length/\iv=.int .i64 i/\Hq (∃ li',JR base S ((o.es.take i).foldl Hp.Em h) G ⟨L.H,L.tb,L.es,L.mp,li'⟩ wr/\Keeps w wr S)) (fun iv _=>o.es.length-aU iv)
 case atStart=>exact ⟨0,by omega,rfl,L.li,HA.o,Keeps.refl _ _⟩
 case round=>
  obtain ⟨i,hi9,rfl,HI⟩:=hrel
  by_cases hin:i<o.es.length
  ·obtain ⟨e,he⟩:∃ e,o.es[i]?=some e:=⟨_,List.getElem?_eq_getElem hin⟩
   have hts:=aO he
   obtain ⟨li1,hat,hkp⟩:=HI.out
   have hmk:=JM.fold Hp.Em (fun h x=>JM.Em h x) (o.es.take i) h
   have hnq:((o.es.take i).foldl Hp.Em h).nu<=20000:=Nat.le_trans (Nat.le_of_eq (bQ Hp.Em zA _ _)) hnu
   obtain ⟨q,hq⟩:∃ q,(o.es.take i).foldl Hp.Em h=q:=⟨_,rfl⟩
   rw [hq] at hat hmk hnq
   obtain ⟨o1,ho1,hes1⟩:∃ o1,q.ob n=some o1/\o1.es=o.es:=by
    have:=hmk.cont n
    rw [HO.o] at this
    cases e9:q.ob n with
    |none=>rw [e9] at this;simp at this
    |some o1=>rw [e9] at this;simp [Ob.cont] at this;exact ⟨o1,rfl,this.2.1⟩
   obtain ⟨A1,cap1,hev1,hcap1,hent1⟩:=hat.ents ho1
   rw [hes1] at hev1 hent1
   have:A1=A/\cap1=cap:=by
    have h9:=hev1.symm.trans HE.o
    simp at h9
    exact h9
   obtain ⟨rfl,rfl⟩:=this
   obtain ⟨g,rfl,hglt,hcells⟩:=hent1 i e he
   have d0:=hcells 0 _ rfl
   have d1:=hcells 1 _ rfl
   have d2:=hcells 2 _ rfl
   have d3:=hcells 3 _ rfl
   have d4:=hcells 4 _ rfl
   have d5:=hcells 5 _ rfl
   have d6:=hcells 6 _ rfl
   have d7:=hcells 7 _ rfl
   have d8:=hcells 8 _ rfl
   have d9:=hcells 9 _ rfl
   simp only [Nat.add_zero] at d0
   have hvk:=HK.o e (List.mem_of_getElem? he)
   have HQ:=ah hq
   have HTS:=ah hts
   have HAT:=ah (hat.hole (.cells #[.int .i64 (vk e.1),.int .i64 (vi e.1),.int .u64 0,.string ByteArray.empty,aG L.tb e.1,.int .i64 (vk e.2),.int .i64 (vi e.2),.int .u64 0,.string ByteArray.empty,aG L.tb e.2] 167))
   have HKP:=ah (hkp.trans (Keeps.of (aJ wr (.cells #[.int .i64 (vk e.1),.int .i64 (vi e.1),.int .u64 0,.string ByteArray.empty,aG L.tb e.1,.int .i64 (vk e.2),.int .i64 (vi e.2),.int .u64 0,.string ByteArray.empty,aG L.tb e.2] 167)) (Nat.le_refl _) S))
   have HVK:=ah (And.intro (hvk.1.JF hmk) (hvk.2.JF hmk))
   have HNQ:=ah hnq
   have hgl:q.grey.length<=1000000:=Nat.le_trans (gT q) (by omega)
   clear hq hmk hts hat hkp ho1 hes1 hev1 hent1 hcells HI hnq he hvk
   have HX:=ah (kF wr L.tb e)
   go_upto_region 8 with (fail)
   generalize wr.alloc (.cells #[.int .i64 (vk e.1),.int .i64 (vi e.1),.int .u64 0,.string ByteArray.empty,aG L.tb e.1,.int .i64 (vk e.2),.int .i64 (vi e.2),.int .u64 0,.string ByteArray.empty,aG L.tb e.2] 167)=w3 at *
   generalize wr.heap.size=X at *
   have x5:w3.cell? ⟨X,5,none⟩=some (.int .i64 (vk e.2)):=HX.o.cell (j:=5) (by omega)
   have x6:w3.cell? ⟨X,6,none⟩=some (.int .i64 (vi e.2)):=HX.o.cell (j:=6) (by omega)
   have x7:w3.cell? ⟨X,7,none⟩=some (.int .u64 0):=HX.o.cell (j:=7) (by omega)
   have x8:w3.cell? ⟨X,8,none⟩=some (.string ByteArray.empty):=HX.o.cell (j:=8) (by omega)
   have x9:w3.cell? ⟨X,9,none⟩=some (aG L.tb e.2):=HX.o.cell (j:=9) (by omega)
   have HNO:=ah (aZ w3 L.tb e.2)
   have HF:Hq ((o.es.take (i+1)).foldl Hp.Em h=Hp.Em q e):=ah (by rw [HTS.o,aN,HQ.o])
   clear d0 d1 d2 d3 d4 d5 d6 d7 d8 d9
   go_wp2_with fail
   refine HNO.o.mono ?_
   rintro e9 w4 ⟨rfl,hb4⟩
   have HB4:=ah hb4
   have HX4:=ah (HX.o.keep (Keeps.of hb4 (Nat.le_refl _) (fun _=>False)) (fun y=>y))
   have HA4:=ah (HAT.o.low hb4)
   clear hb4 x5 x6 x7 x8 x9
   cases hno:e.2.isNone with
   |true=>
    have HNN:=ah (show Hp.Em q e=q from by
     have h2:e.2=none:=by cases h9:e.2 with |none=>rfl|some y=>rw [h9] at hno;cases hno
     unfold Hp.Em Hp.key1;rw [h2];rfl)
    clear hno
    go_wp2
    go_roundw
    case rel=>
     refine ⟨i+1,by omega,by simp,li1,?_,HKP.o.trans (Keeps.of HB4.o (Nat.le_refl _) S)⟩
     rw [HF.o,HNN.o]
     exact HA4.o.mono (fun b e=>e.1)
    case measure=>simp [aU];omega
   |false=>
    have HSM:=ah (show e.2.isSome=true from by cases h9:e.2 with |none=>rw [h9] at hno;cases hno|some y=>rfl)
    clear hno
    have y0:w4.cell? ⟨X,0,none⟩=some (.int .i64 (vk e.1)):=HX4.o.cell (j:=0) (by omega)
    have y1:w4.cell? ⟨X,1,none⟩=some (.int .i64 (vi e.1)):=HX4.o.cell (j:=1) (by omega)
    have y2:w4.cell? ⟨X,2,none⟩=some (.int .u64 0):=HX4.o.cell (j:=2) (by omega)
    have y3:w4.cell? ⟨X,3,none⟩=some (.string ByteArray.empty):=HX4.o.cell (j:=3) (by omega)
    have y4:w4.cell? ⟨X,4,none⟩=some (aG L.tb e.1):=HX4.o.cell (j:=4) (by omega)
    have HMV:=ah (jg HA4.o e.1 HVK.o.1 hgl)
    go_wp2_with fail
    refine HMV.o.mono ?_
    rintro e9 w5 ⟨rfl,⟨H6,tb6,es6,mp6,li6⟩,hl6,ha6,hk6⟩
    obtain rfl:H6=L.H:=hl6.H
    obtain rfl:tb6=L.tb:=hl6.tb
    obtain rfl:es6=L.es:=hl6.es
    obtain rfl:mp6=L.mp:=hl6.mp
    have H6:=ah (And.intro ha6 hk6)
    have HX5:=ah (HX4.o.keep hk6 (fun e=>e.2 rfl))
    clear hl6 ha6 hk6 y0 y1 y2 y3 y4
    have z5:w5.cell? ⟨X,5,none⟩=some (.int .i64 (vk e.2)):=HX5.o.cell (j:=5) (by omega)
    have z6:w5.cell? ⟨X,6,none⟩=some (.int .i64 (vi e.2)):=HX5.o.cell (j:=6) (by omega)
    have z7:w5.cell? ⟨X,7,none⟩=some (.int .u64 0):=HX5.o.cell (j:=7) (by omega)
    have z8:w5.cell? ⟨X,8,none⟩=some (.string ByteArray.empty):=HX5.o.cell (j:=8) (by omega)
    have z9:w5.cell? ⟨X,9,none⟩=some (aG L.tb e.2):=HX5.o.cell (j:=9) (by omega)
    have HMW:=ah (jg H6.o.1 e.2 (HVK.o.2.JF (JM.Eo q e.1)) (Nat.le_trans (gT _) (by rw [iq];have:=HNQ.o;omega)))
    go_wp2_with fail
    refine HMW.o.mono ?_
    rintro e9 w7 ⟨rfl,⟨H8,tb8,es8,mp8,li8⟩,hl8,ha8,hk8⟩
    obtain rfl:H8=L.H:=hl8.H
    obtain rfl:tb8=L.tb:=hl8.tb
    obtain rfl:es8=L.es:=hl8.es
    obtain rfl:mp8=L.mp:=hl8.mp
    have H8:=ah (And.intro ha8 hk8)
    clear hl8 ha8 hk8
    go_wp2
    go_roundw
    case rel=>
     refine ⟨i+1,by omega,by simp,li8,?_,((HKP.o.trans (Keeps.of HB4.o (Nat.le_refl _) S)).trans (H6.o.2.mono (fun b e=>e.1))).trans (H8.o.2.mono (fun b e=>e.1))⟩
     rw [HF.o]
     have h9:Hp.Em q e=(q.Eo e.1).Eo e.2:=by unfold Hp.Em Hp.key1;rw [if_pos HSM.o]
     rw [h9]
     exact H8.o.1.mono (fun b e=>e.1)
    case measure=>simp [aU];omega
  ·have hie:i=o.es.length:=by omega
   subst hie
   rw [List.take_length] at HI
   obtain ⟨li1,hat,hkp⟩:=HI.out
   have HZ:=ah (And.intro hat hkp)
   obtain ⟨o1,ho1,hes1⟩:∃ o1,(o.es.foldl Hp.Em h).ob n=some o1/\o1.es=o.es:=by
    have:=(JM.fold Hp.Em (fun h x=>JM.Em h x) o.es h).cont n
    rw [HO.o] at this
    cases e9:(o.es.foldl Hp.Em h).ob n with
    |none=>rw [e9] at this;simp at this
    |some o1=>rw [e9] at this;simp [Ob.cont] at this;exact ⟨o1,rfl,this.2.1⟩
   have f7:wr.cell? ⟨L.tb n,7,none⟩=some (.slice A o.es.length cap):=by
    rw [(hat.ob n o1 ho1).cell (j:=7) (by omega)]
    exact congrArg some HE.o
   clear hat hkp HI ho1 hes1 o1
   go_wp2
   go_ret
   exact ⟨rfl,⟨L.H,L.tb,L.es,L.mp,li1⟩,⟨rfl,rfl,rfl,rfl⟩,HZ.o.1,HZ.o.2⟩
end
section
variable {G:Gh} {L:PM} {S:Nat->Prop} {base n:Nat} {h:Hp} {o:Ob} {w:World}
attribute [local go_sem] bD
theorem ou (h:Hp):h.D8.length<=h.nu/\h.weak.length<=h.nu:=by
 have:h.nu=h.wn+h.grey.length+h.D8.length+h.weak.length:=rfl
 omega
theorem DN (a:JR base S h G L w) (ho:h.ob n=some o) (hok:∀ e∈o.es,fO h e.1/\fO h e.2) (he9:o.es.length<=5000) (hnu:h.nu+1<=20000) (hmd:o.mode=1):
 Calls Tryz.prog 182 #[.pointer (some ⟨L.tb n,0,none⟩),.pointer (some ⟨L.H,0,none⟩)] w fun e w'=>e=.returned (.int .i64 (o.es.length:Int))/\∃ L',JD L L'/\JR base S ((Hp.spread { h with D8:=h.D8++[n] } o.es).1) G L' w'/\Keeps w w' S:=by
 obtain ⟨A,cap,hev,hcap,-⟩:=a.ents ho
 have hr:=a.ob n o ho
 have c7:w.cell? ⟨L.tb n,7,none⟩=some (.slice A o.es.length cap):=by rw [<-hev];exact hr.cell (j:=7) (by omega)
 have c6:w.cell? ⟨L.tb n,6,none⟩=some (.pointer none):=hr.cell (j:=6) (by omega)
 have c5:w.cell? ⟨L.tb n,5,none⟩=some (.int .i64 1):=by
  rw [hr.cell (j:=5) (by omega)]
  show some (Value.int .i64 (o.mode:Int))=_
  rw [hmd]
  rfl
 have HA:=ah a
 have HO:=ah ho
 have HE:=ah hev
 have HK:=ah hok
 clear a ho hev hok hr
 go_enter Tryz.func182,Tryz.ntmps182
 go_upto_region 13 with (fail)
 have hli:=HA.o.li 14 (by simp [b_])
 have hlen:((dh h G 14).map (cO L.tb 14)).length=(dh h G 14).length:=by simp
 have HAD:=ah (lu w base L.H 14 (L.li 14) ((dh h G 14).map (cO L.tb 14)) (L.tb n) (HA.o.hp.cell (j:=14) (by omega)) (HA.o.hp.Jv 14) (by rw [hlen];exact hli) (fun e=>ak hli HA.o.hp (by decide) e) (by rw [hlen];have:=ou h;show (Hp.D8 h).length<=1000000;omega) HA.o.bs)
 clear hli hlen
 go_wp2_with fail
 refine HAD.o.mono ?_
 intro e4 w4 hr4
 obtain ⟨rfl,⟨H6,tb6,es6,mp6,li6⟩,hl6,ha6,hk6⟩:=HA.o.add (k:=14) (by simp [iZ]) (n:=n) hr4
 obtain rfl:H6=L.H:=hl6.H
 obtain rfl:tb6=L.tb:=hl6.tb
 obtain rfl:es6=L.es:=hl6.es
 obtain rfl:mp6=L.mp:=hl6.mp
 have H6:=ah (And.intro ha6 hk6)
 have HSP:=ah (kr ha6 (n:=n) (o:=o) HO.o HK.o he9 (by show h.wn+h.grey.length+(h.D8++[n]).length+h.weak.length<=20000;have:h.nu=h.wn+h.grey.length+h.D8.length+h.weak.length:=rfl;simp;omega))
 have HG1:Hq (fM h 14 (dh h G 14++[n])={ h with D8:=h.D8++[n] }):=ah rfl
 clear hr4 hl6 ha6 hk6 c5 c6 c7
 go_wp2_with fail
 refine HSP.o.mono ?_
 rintro e7 w7 ⟨rfl,⟨H8,tb8,es8,mp8,li8⟩,hl8,ha8,hk8⟩
 obtain rfl:H8=L.H:=hl8.H
 obtain rfl:tb8=L.tb:=hl8.tb
 obtain rfl:es8=L.es:=hl8.es
 obtain rfl:mp8=L.mp:=hl8.mp
 rw [HG1.o] at ha8
 have H8:=ah (And.intro ha8 hk8)
 obtain ⟨o1,ho1⟩:∃ o1,(Hp.spread { h with D8:=h.D8++[n] } o.es).1.ob n=some o1:=((JM.spread { h with D8:=h.D8++[n] } o.es).lv n).2 ⟨o,HO.o⟩
 have f7:w7.cell? ⟨L.tb n,7,none⟩=some (.slice A o.es.length cap):=by
  rw [(ha8.ob n o1 ho1).cell (j:=7) (by omega)]
  exact congrArg some HE.o
 clear hl8 ha8 hk8 ho1
 go_wp2
 go_ret
 exact ⟨rfl,⟨L.H,L.tb,L.es,L.mp,li8⟩,⟨rfl,rfl,rfl,rfl⟩,H8.o.1,H6.o.2.trans H8.o.2⟩
theorem Dw (a:JR base S h G L w) (ho:h.ob n=some o) (hok:∀ e∈o.es,fO h e.1/\fO h e.2) (he9:o.es.length<=5000) (hnu:h.nu<=20000) (hmd:o.mode=3):
 Calls Tryz.prog 182 #[.pointer (some ⟨L.tb n,0,none⟩),.pointer (some ⟨L.H,0,none⟩)] w fun e w'=>e=.returned (.int .i64 (o.es.length:Int))/\∃ L',JD L L'/\JR base S ({ h with weak:=h.weak++[n] }) G L' w'/\Keeps w w' S:=by
 obtain ⟨A,cap,hev,hcap,-⟩:=a.ents ho
 have hr:=a.ob n o ho
 have c7:w.cell? ⟨L.tb n,7,none⟩=some (.slice A o.es.length cap):=by rw [<-hev];exact hr.cell (j:=7) (by omega)
 have c6:w.cell? ⟨L.tb n,6,none⟩=some (.pointer none):=hr.cell (j:=6) (by omega)
 have c5:w.cell? ⟨L.tb n,5,none⟩=some (.int .i64 3):=by
  rw [hr.cell (j:=5) (by omega)]
  show some (Value.int .i64 (o.mode:Int))=_
  rw [hmd]
  rfl
 have HA:=ah a
 have HO:=ah ho
 have HE:=ah hev
 have HK:=ah hok
 clear a ho hev hok hr
 go_enter Tryz.func182,Tryz.ntmps182
 go_upto_region 24 with (fail)
 have hli:=HA.o.li 13 (by simp [b_])
 have hlen:((dh h G 13).map (cO L.tb 13)).length=(dh h G 13).length:=by simp
 have HAD:=ah (lu w base L.H 13 (L.li 13) ((dh h G 13).map (cO L.tb 13)) (L.tb n) (HA.o.hp.cell (j:=13) (by omega)) (HA.o.hp.Jv 13) (by rw [hlen];exact hli) (fun e=>ak hli HA.o.hp (by decide) e) (by rw [hlen];have:=ou h;show (Hp.weak h).length<=1000000;omega) HA.o.bs)
 clear hli hlen
 go_wp2_with fail
 refine HAD.o.mono ?_
 intro e4 w4 hr4
 obtain ⟨rfl,⟨H6,tb6,es6,mp6,li6⟩,hl6,ha6,hk6⟩:=HA.o.add (k:=13) (by simp [iZ]) (n:=n) hr4
 obtain rfl:H6=L.H:=hl6.H
 obtain rfl:tb6=L.tb:=hl6.tb
 obtain rfl:es6=L.es:=hl6.es
 obtain rfl:mp6=L.mp:=hl6.mp
 have H6:=ah (And.intro ha6 hk6)
 have f7:w4.cell? ⟨L.tb n,7,none⟩=some (.slice A o.es.length cap):=by
  rw [(ha6.ob n o HO.o).cell (j:=7) (by omega)]
  exact congrArg some HE.o
 clear hr4 hl6 ha6 hk6 c5 c6 c7
 go_wp2
 go_ret
 exact ⟨rfl,⟨L.H,L.tb,L.es,L.mp,li6⟩,⟨rfl,rfl,rfl,rfl⟩,H6.o.1,H6.o.2⟩
theorem DC (a:JR base S h G L w) (ho:h.ob n=some o) (hok:∀ e∈o.es,fO h e.1/\fO h e.2) (he9:o.es.length<=5000) (hnu:h.nu<=20000) (hmd:o.mode=2):
 Calls Tryz.prog 182 #[.pointer (some ⟨L.tb n,0,none⟩),.pointer (some ⟨L.H,0,none⟩)] w fun e w'=>e=.returned (.int .i64 (o.es.length:Int))/\∃ L',JD L L'/\JR base S ({ o.es.foldl Hp.key1 h with weak:=(o.es.foldl Hp.key1 h).weak++[n] }) G L' w'/\Keeps w w' S:=by
 obtain ⟨A,cap,hev,hcap,-⟩:=a.ents ho
 have hr:=a.ob n o ho
 have c7:w.cell? ⟨L.tb n,7,none⟩=some (.slice A o.es.length cap):=by rw [<-hev];exact hr.cell (j:=7) (by omega)
 have c6:w.cell? ⟨L.tb n,6,none⟩=some (.pointer none):=hr.cell (j:=6) (by omega)
 have c5:w.cell? ⟨L.tb n,5,none⟩=some (.int .i64 2):=by
  rw [hr.cell (j:=5) (by omega)]
  show some (Value.int .i64 (o.mode:Int))=_
  rw [hmd]
  rfl
 have HA:=ah a
 have HO:=ah ho
 have HE:=ah hev
 have HK:=ah hok
 clear a ho hev hok hr
 go_enter Tryz.func182,Tryz.ntmps182
 go_wp2
 go_loopw [66] (fun iv wr=>∃ i:Nat,i<=o.es.length/\iv=.int .i64 i/\Hq (∃ li',JR base S ((o.es.take i).foldl Hp.key1 h) G ⟨L.H,L.tb,L.es,L.mp,li'⟩ wr/\Keeps w wr S)) (fun iv _=>o.es.length-aU iv)
 case atStart=>exact ⟨0,by omega,rfl,L.li,HA.o,Keeps.refl _ _⟩
 case round=>
  obtain ⟨i,hi9,rfl,HI⟩:=hrel
  by_cases hin:i<o.es.length
  ·obtain ⟨e,he⟩:∃ e,o.es[i]?=some e:=⟨_,List.getElem?_eq_getElem hin⟩
   have hts:=aO he
   obtain ⟨li1,hat,hkp⟩:=HI.out
   have hmk:=JM.fold Hp.key1 (fun h x=>JM.key1 h x) (o.es.take i) h
   have hnq:((o.es.take i).foldl Hp.key1 h).nu<=20000:=Nat.le_trans (Nat.le_of_eq (bQ Hp.key1 rX _ _)) hnu
   obtain ⟨q,hq⟩:∃ q,(o.es.take i).foldl Hp.key1 h=q:=⟨_,rfl⟩
   rw [hq] at hat hmk hnq
   obtain ⟨o1,ho1,hes1⟩:∃ o1,q.ob n=some o1/\o1.es=o.es:=by
    have:=hmk.cont n
    rw [HO.o] at this
    cases e9:q.ob n with
    |none=>rw [e9] at this;simp at this
    |some o1=>rw [e9] at this;simp [Ob.cont] at this;exact ⟨o1,rfl,this.2.1⟩
   obtain ⟨A1,cap1,hev1,hcap1,hent1⟩:=hat.ents ho1
   rw [hes1] at hev1 hent1
   have:A1=A/\cap1=cap:=by
    have h9:=hev1.symm.trans HE.o
    simp at h9
    exact h9
   obtain ⟨rfl,rfl⟩:=this
   obtain ⟨g,rfl,hglt,hcells⟩:=hent1 i e he
   have d0:=hcells 0 _ rfl
   have d1:=hcells 1 _ rfl
   have d2:=hcells 2 _ rfl
   have d3:=hcells 3 _ rfl
   have d4:=hcells 4 _ rfl
   have d5:=hcells 5 _ rfl
   have d6:=hcells 6 _ rfl
   have d7:=hcells 7 _ rfl
   have d8:=hcells 8 _ rfl
   have d9:=hcells 9 _ rfl
   simp only [Nat.add_zero] at d0
   have hvk:=HK.o e (List.mem_of_getElem? he)
   have HQ:=ah hq
   have HTS:=ah hts
   have HAT:=ah (hat.hole (.cells #[.int .i64 (vk e.1),.int .i64 (vi e.1),.int .u64 0,.string ByteArray.empty,aG L.tb e.1,.int .i64 (vk e.2),.int .i64 (vi e.2),.int .u64 0,.string ByteArray.empty,aG L.tb e.2] 167))
   have HKP:=ah (hkp.trans (Keeps.of (aJ wr (.cells #[.int .i64 (vk e.1),.int .i64 (vi e.1),.int .u64 0,.string ByteArray.empty,aG L.tb e.1,.int .i64 (vk e.2),.int .i64 (vi e.2),.int .u64 0,.string ByteArray.empty,aG L.tb e.2] 167)) (Nat.le_refl _) S))
   have HVK:=ah (And.intro (hvk.1.JF hmk) (hvk.2.JF hmk))
   have HNQ:=ah hnq
   have hgl:q.grey.length<=1000000:=Nat.le_trans (gT q) (by omega)
   clear hq hmk hts hat hkp ho1 hes1 hev1 hent1 hcells HI hnq he hvk
   have HX:=ah (kF wr L.tb e)
   go_upto_region 19 with (fail)
   generalize wr.alloc (.cells #[.int .i64 (vk e.1),.int .i64 (vi e.1),.int .u64 0,.string ByteArray.empty,aG L.tb e.1,.int .i64 (vk e.2),.int .i64 (vi e.2),.int .u64 0,.string ByteArray.empty,aG L.tb e.2] 167)=w3 at *
   generalize wr.heap.size=X at *
   have x5:w3.cell? ⟨X,5,none⟩=some (.int .i64 (vk e.2)):=HX.o.cell (j:=5) (by omega)
   have x6:w3.cell? ⟨X,6,none⟩=some (.int .i64 (vi e.2)):=HX.o.cell (j:=6) (by omega)
   have x7:w3.cell? ⟨X,7,none⟩=some (.int .u64 0):=HX.o.cell (j:=7) (by omega)
   have x8:w3.cell? ⟨X,8,none⟩=some (.string ByteArray.empty):=HX.o.cell (j:=8) (by omega)
   have x9:w3.cell? ⟨X,9,none⟩=some (aG L.tb e.2):=HX.o.cell (j:=9) (by omega)
   have HNO:=ah (aZ w3 L.tb e.2)
   have HF:Hq ((o.es.take (i+1)).foldl Hp.key1 h=Hp.key1 q e):=ah (by rw [HTS.o,aN,HQ.o])
   clear d0 d1 d2 d3 d4 d5 d6 d7 d8 d9
   go_wp2_with fail
   refine HNO.o.mono ?_
   rintro e9 w4 ⟨rfl,hb4⟩
   have HB4:=ah hb4
   have HX4:=ah (HX.o.keep (Keeps.of hb4 (Nat.le_refl _) (fun _=>False)) (fun y=>y))
   have HA4:=ah (HAT.o.low hb4)
   clear hb4 x5 x6 x7 x8 x9
   cases hno:e.2.isNone with
   |true=>
    have HNN:=ah (show Hp.key1 q e=q from by
     have h2:e.2=none:=by cases h9:e.2 with |none=>rfl|some y=>rw [h9] at hno;cases hno
     unfold Hp.key1;rw [h2];rfl)
    clear hno
    go_wp2
    go_roundw
    case rel=>
     refine ⟨i+1,by omega,by simp,li1,?_,HKP.o.trans (Keeps.of HB4.o (Nat.le_refl _) S)⟩
     rw [HF.o,HNN.o]
     exact HA4.o.mono (fun b e=>e.1)
    case measure=>simp [aU];omega
   |false=>
    have HSM:=ah (show e.2.isSome=true from by cases h9:e.2 with |none=>rw [h9] at hno;cases hno|some y=>rfl)
    clear hno
    have y0:w4.cell? ⟨X,0,none⟩=some (.int .i64 (vk e.1)):=HX4.o.cell (j:=0) (by omega)
    have y1:w4.cell? ⟨X,1,none⟩=some (.int .i64 (vi e.1)):=HX4.o.cell (j:=1) (by omega)
    have y2:w4.cell? ⟨X,2,none⟩=some (.int .u64 0):=HX4.o.cell (j:=2) (by omega)
    have y3:w4.cell? ⟨X,3,none⟩=some (.string ByteArray.empty):=HX4.o.cell (j:=3) (by omega)
    have y4:w4.cell? ⟨X,4,none⟩=some (aG L.tb e.1):=HX4.o.cell (j:=4) (by omega)
    have HMV:=ah (jg HA4.o e.1 HVK.o.1 hgl)
    go_wp2_with fail
    refine HMV.o.mono ?_
    rintro e9 w5 ⟨rfl,⟨H6,tb6,es6,mp6,li6⟩,hl6,ha6,hk6⟩
    obtain rfl:H6=L.H:=hl6.H
    obtain rfl:tb6=L.tb:=hl6.tb
    obtain rfl:es6=L.es:=hl6.es
    obtain rfl:mp6=L.mp:=hl6.mp
    have H6:=ah (And.intro ha6 hk6)
    have HX5:=ah (HX4.o.keep hk6 (fun e=>e.2 rfl))
    clear hl6 ha6 hk6 y0 y1 y2 y3 y4
    go_wp2
    go_roundw
    case rel=>
     refine ⟨i+1,by omega,by simp,li6,?_,(HKP.o.trans (Keeps.of HB4.o (Nat.le_refl _) S)).trans (H6.o.2.mono (fun b e=>e.1))⟩
     rw [HF.o]
     have h9:Hp.key1 q e=q.Eo e.1:=by unfold Hp.key1;rw [if_pos HSM.o]
     rw [h9]
     exact H6.o.1.mono (fun b e=>e.1)
    case measure=>simp [aU];omega
  ·have hie:i=o.es.length:=by omega
   subst hie
   rw [List.take_length] at HI
   obtain ⟨li1,hat,hkp⟩:=HI.out
   have HZ:=ah (And.intro hat hkp)
   have hmk:=JM.fold Hp.key1 (fun h x=>JM.key1 h x) o.es h
   obtain ⟨o1,ho1⟩:∃ o1,(o.es.foldl Hp.key1 h).ob n=some o1:=(hmk.lv n).2 ⟨o,HO.o⟩
   have hnq:(o.es.foldl Hp.key1 h).nu<=20000:=Nat.le_trans (Nat.le_of_eq (bQ Hp.key1 rX _ _)) hnu
   have HO1:=ah ho1
   clear hat hkp HI ho1 hmk
   generalize hq:o.es.foldl Hp.key1 h=q at *
   have HQ:=ah hq
   clear hq
   go_upto_region 22 with (fail)
   have hli:=HZ.o.1.li 13 (by simp [b_])
   have hlen:((dh q G 13).map (cO L.tb 13)).length=(dh q G 13).length:=by simp
   have HAD:=ah (lu wr base L.H 13 (li1 13) ((dh q G 13).map (cO L.tb 13)) (L.tb n) (HZ.o.1.hp.cell (j:=13) (by omega)) (HZ.o.1.hp.Jv 13) (by rw [hlen];exact hli) (fun e=>ak hli HZ.o.1.hp (by decide) e) (by rw [hlen];have:=ou q;show (Hp.weak q).length<=1000000;omega) HZ.o.1.bs)
   clear hli hlen
   go_wp2_with fail
   refine HAD.o.mono ?_
   intro e4 w4 hr4
   obtain ⟨rfl,⟨H6,tb6,es6,mp6,li6⟩,hl6,ha6,hk6⟩:=HZ.o.1.add (k:=13) (by simp [iZ]) (n:=n) hr4
   obtain rfl:H6=L.H:=hl6.H
   obtain rfl:tb6=L.tb:=hl6.tb
   obtain rfl:es6=L.es:=hl6.es
   obtain rfl:mp6=L.mp:=hl6.mp
   have H6:=ah (And.intro ha6 hk6)
   have f7:w4.cell? ⟨L.tb n,7,none⟩=some (.slice A o.es.length cap):=by
    rw [(ha6.ob n o1 HO1.o).cell (j:=7) (by omega)]
    exact congrArg some HE.o
   clear hr4 hl6 ha6 hk6
   go_wp2
   go_ret
   exact ⟨rfl,⟨L.H,L.tb,L.es,L.mp,li6⟩,⟨rfl,rfl,rfl,rfl⟩,(by rw [HQ.o];exact H6.o.1),HZ.o.2.trans H6.o.2⟩
theorem Ai (a:JR base S h G L w) (ho:h.ob n=some o) (hok:∀ e∈o.es,fO h e.1/\fO h e.2) (he9:o.es.length<=5000) (hnu:h.nu+1<=20000) (hmd:o.mode<=3):
 Calls Tryz.prog 182 #[.pointer (some ⟨L.tb n,0,none⟩),.pointer (some ⟨L.H,0,none⟩)] w fun e w'=>e=.returned (.int .i64 (o.es.length:Int))/\∃ L',JD L L'/\JR base S (h.Ey n o) G L' w'/\Keeps w w' S:=by
 unfold Hp.Ey
 by_cases m0:o.mode=0
 ·rw [if_pos m0];exact Du a ho hok he9 (by omega) m0
 rw [if_neg m0]
 by_cases m1:o.mode=1
 ·rw [if_pos m1];exact DN a ho hok he9 hnu m1
 rw [if_neg m1]
 by_cases m2:o.mode=2
 ·rw [if_pos m2];exact DC a ho hok he9 (by omega) m2
 rw [if_neg m2]
 exact Dw a ho hok he9 (by omega) (by omega)
end
section
variable {G:Gh} {L L':PM} {S:Nat->Prop} {base k n:Nat} {gs:List Nat} {h:Hp} {o:Ob} {w:World}
theorem JD.refl (L:PM):JD L L:=⟨rfl,rfl,rfl,rfl⟩
theorem JD.trans {L L' L'':PM} (a:JD L L') (b:JD L' L''):JD L L'':=⟨b.H.trans a.H,b.tb.trans a.tb,b.es.trans a.es,b.mp.trans a.mp⟩
theorem JC.x (a:JC k L L'):JD L L':=⟨a.H,a.tb,a.es,a.mp⟩
theorem JR.EM (a:JR base S h G L w) (hk:b_ k):∃ A cap,L.li k=.slice A (dh h G k).length cap/\(dh h G k).length<=cap/\∀ i n,(dh h G k)[i]?=some n->∃ g,A=some ⟨g,0,none⟩/\g<w.heap.size/\w.cell? ⟨g,i,none⟩=some (cO L.tb k n):=by
 have ha:=a.li k hk
 rcases ha.2 with ⟨h1,h2⟩|⟨g,cap,cur,hv,_,_,hc,_⟩
 ·exact ⟨none,0,by rw [h1,h2],by omega,fun i n hi=>by have:=(List.getElem?_eq_some_iff.1 hi).1;omega⟩
 ·refine ⟨_,cap,hv,hc,fun i n hi=>⟨g,rfl,?_⟩⟩
  have hr:=au ha (g:=g) (by rw [hv];simp [Value.ownBlock])
  refine ⟨hr.lt,?_⟩
  have hil:=(List.getElem?_eq_some_iff.1 hi).1
  rw [hr.cell (j:=i) (by omega)]
  simp [List.getD_eq_getElem?_getD,hi]
theorem JR.pop (a:JR base S h G L w) (hk:iZ k) (hg:dh h G k=gs++[n]):∃ g cap,L.li k=.slice (some ⟨g,0,none⟩) (gs.length+1) cap/\gs.length+1<=cap/\w.cell? ⟨g,gs.length,none⟩=some (cO L.tb k n)/\
 JR base S (fM h k gs) G { L with li:=fun j=>if j=k then .slice (some ⟨g,0,none⟩) gs.length cap else L.li j } (w.setCell ⟨L.H,k,none⟩ (.slice (some ⟨g,0,none⟩) gs.length cap))/\Keeps w (w.setCell ⟨L.H,k,none⟩ (.slice (some ⟨g,0,none⟩) gs.length cap)) S:=by
 have ha:=a.li k hk.p
 rw [hg] at ha
 obtain ⟨x,cap,hv⟩:=aF ha
 have hlen:(gs++[n]).length=gs.length+1:=by simp
 rw [hlen] at ha hv
 rw [hv] at ha
 rcases ha.2 with ⟨_,h9⟩|⟨g,cap',cur,hv2,hb,hh,hnc,hr⟩
 ·omega
 ·simp at hv2
  obtain ⟨rfl,rfl⟩:=hv2
  have hrow:=au ha (g:=g) (by simp [Value.ownBlock])
  have hpre:=jB ha (m:=gs.length) (by omega)
  have hpre':w.ownsRow base (uV k) 1 (.slice (some ⟨g,0,none⟩) gs.length cap) gs.length (gs.map (cO L.tb k)):=by
   have:((gs++[n]).map (cO L.tb k)).take (gs.length*1)=gs.map (cO L.tb k):=by
    rw [List.map_append,Nat.mul_one]
    rw [List.take_append_of_le_length (by simp),List.take_of_length_le (by simp)]
   rw [this] at hpre
   exact hpre
  obtain ⟨p1,p2,p3⟩:=a.Gm (h':=fM h k gs) (G':=G) (w1:=w) k hk.p (Keeps.refl w _) (.slice (some ⟨g,0,none⟩) gs.length cap) (by rw [jO hk];exact hpre') (fun g' e=>.inl (by rw [hv];simpa [Value.ownBlock] using e)) (gJ h k _) (fun j hj hn=>gV hk hj hn _) (jf hk _ _)
  refine ⟨g,cap,hv,hnc,?_,p2,p3⟩
  rw [hrow.cell (j:=gs.length) (by omega)]
  simp [List.getD_eq_getElem?_getD]
theorem dF (w:World) (b off:Nat) (A:Option Addr) (n cap:Nat) (hc:w.cell? ⟨b,off,none⟩=some (.slice A n cap)):Calls Tryz.prog 84 #[.pointer (some ⟨b,off,none⟩)] w fun e w'=>e=.returned (.bool ((n:Int)==0))/\w'=w:=by
 go_enter Tryz.func84,Tryz.ntmps84
 go_wp2
 go_ret
 exact ⟨rfl,rfl⟩
theorem iR (w:World) (b off g n cap t:Nat) (hc:w.cell? ⟨b,off,none⟩=some (.slice (some ⟨g,0,none⟩) (n+1) cap)) (hz:w.frozen? ⟨b,off,none⟩=false) (hx:w.cell? ⟨g,n,none⟩=some (.iface 127 (.pointer (some ⟨t,0,none⟩)))) (hn:n<=1000000) (hcap:n+1<=cap):Calls Tryz.prog 85 #[.pointer (some ⟨b,off,none⟩)] w fun e w'=>e=.returned (.iface 127 (.pointer (some ⟨t,0,none⟩)))/\w'=w.setCell ⟨b,off,none⟩ (.slice (some ⟨g,0,none⟩) n cap):=by
 have hcap2:(n:Int)<=cap:=by omega
 go_enter Tryz.func85,Tryz.ntmps85
 go_wp2
 go_ret
 exact ⟨rfl,rfl⟩
theorem fO.of (c:h.Closed) (ho:h.ob n=some o):∀ e∈o.es,fO h e.1/\fO h e.2:=by
 intro e he
 refine ⟨fun m hm=>c n o ho e he m ?_,fun m hm=>c n o ho e he m ?_⟩
 ·simp [bM,bn,hm]
 ·simp [bM,bn,hm]
end
section
variable {G:Gh} {L:PM} {S:Nat->Prop} {base:Nat} {h:Hp} {w:World}
theorem zx (v:Value) (w:World):(Instr.typeAssert (.iface 127 v) 67 208 true).run Tryz.prog w=.ok (.tuple #[.iface 127 v,.bool true]) w:=by kernel_rfl
theorem nP (a:JR base S h G L w) (k:Wk h) (hn9:h.nu+h.again.length+1<=20000) (n:Nat) (hl:h.Lv n):
 Calls Tryz.prog 131 #[.pointer (some ⟨L.H,0,none⟩),.iface 127 (.pointer (some ⟨L.tb n,0,none⟩))] w fun e w'=>e=.returned (.int .i64 ((h.scan n).2:Int))/\∃ L',JD L L'/\JR base S (h.scan n).1 G L' w'/\Keeps w w' S:=by
 obtain ⟨o,ho⟩:=hl
 have hmk:=JM.col h n 3 rfl
 have he9:=k.s.es n o ho
 have z0:=(a.ob n o ho).Jv 0
 have t0:w.cell? ⟨L.tb n,0,none⟩=some (.int .i64 (o.col:Int)):=(a.ob n o ho).cell (j:=0) (by omega)
 have HCL:=ah (a.JE n 0 (.int .i64 3) (fun o=>{ o with col:=3 }) (by decide) ho ⟨rfl,rfl⟩ (bK _ rfl rfl rfl rfl rfl rfl rfl rfl rfl rfl rfl rfl rfl))
 have hm2:=fK (L.tb n)
 have hm3:=Cb (L.tb n)
 have hta:=zx
 have HHD:=ah (d_ w (L.tb n))
 have HO:Hq ((h.upd n fun o=>{ o with col:=3 }).ob n=some { o with col:=3 }):=ah (by rw [Hp.Ed,if_pos rfl,ho];rfl)
 have HSC:Hq (h.scan n=((h.upd n fun o=>{ o with col:=3 }).Ey n { o with col:=3 },1+o.es.length)):=ah (by unfold Hp.scan;rw [ho];rfl)
 have HMH:=ah (Ai HCL.o.1 HO.o (fO.of (hmk.closed k.c) HO.o) he9 (by have:=nZ h n;omega) (k.m n o ho))
 clear hmk a k ho
 go_enter Tryz.func131,Tryz.ntmps131
 go_wp2_with fail
 refine HHD.o.mono ?_
 rintro e2 w2 ⟨rfl,rfl⟩
 go_upto_region 2 with (fail)
 generalize w2.setCell ⟨L.tb n,0,none⟩ (.int .i64 3)=w3 at *
 clear t0 z0
 go_wp2_with fail
 refine HMH.o.mono ?_
 rintro e9 w7 ⟨rfl,L7,hl7,ha7,hk7⟩
 have H7:=ah (And.intro hl7 (And.intro ha7 hk7))
 clear hl7 ha7 hk7
 go_wp2
 go_ret
 refine ⟨by rw [HSC.o];simp,L7,H7.o.1,by rw [HSC.o];exact H7.o.2.1,HCL.o.2.trans H7.o.2.2⟩
theorem jh (a:JR base S h G L w) (k:Wk h) (t:Jl h No):
 Calls Tryz.prog 141 #[.pointer (some ⟨L.H,0,none⟩)] w fun e w'=>e=.returned (.tuple #[])/\∃ L',JD L L'/\JR base S h.drain G L' w'/\Keeps w w' S:=by
 have HI0:Hq (Wk h/\Jl h No/\JD L L/\JR base S h G L w/\Keeps w w S):=ah ⟨k,t,JD.refl L,a,Keeps.refl _ _⟩
 clear a k t
 go_enter Tryz.func141,Tryz.ntmps141
 go_wp2
 go_loopg [] h.mu (fun m wr=>∃ (q:Hp) (L':PM),Hq (q.mu=m/\q.drain=h.drain/\Wk q/\Jl q No/\JD L L'/\JR base S q G L' wr/\Keeps w wr S))
 case atStart=>exact ⟨h,L,rfl,rfl,HI0.o⟩
 case round=>
  obtain ⟨q,L1,HI⟩:=hrel
  clear HI0
  obtain ⟨H1,tb1,es1,mp1,li1⟩:=L1
  obtain rfl:H1=L.H:=HI.out.2.2.2.2.1.H
  obtain rfl:tb1=L.tb:=HI.out.2.2.2.2.1.tb
  by_cases hg:q.grey=[]
  ·have hat:=HI.out.2.2.2.2.2.1
   obtain ⟨A,cap,hv,-⟩:=hat.EM (k:=11) (by simp [b_])
   rw [show dh q G 11=[] from hg] at hv
   have c7:wr.cell? ⟨L.H,11,none⟩=some (.slice A 0 cap):=by
    have:=hat.hp.cell (j:=11) (by omega)
    rw [this]
    exact congrArg some hv
   have HE:=ah (dF wr L.H 11 A 0 cap c7)
   rw [show (((0:Nat):Int)==0)=true from rfl] at HE
   have HD:=ah (q.Gr hg)
   clear hat hv hg c7
   go_wp2_with fail
   refine HE.o.mono ?_
   rintro e2 w2 ⟨rfl,rfl⟩
   go_wp2
   go_end0
   exact ⟨rfl,_,HI.out.2.2.2.2.1,by rw [<-HI.out.2.1,HD.o];exact HI.out.2.2.2.2.2.1,HI.out.2.2.2.2.2.2⟩
  ·obtain ⟨gs,n,hgs⟩:∃ gs n,q.grey=gs++[n]:=⟨_,_,(List.dropLast_concat_getLast hg).symm⟩
   have hat:=HI.out.2.2.2.2.2.1
   obtain ⟨g,cap,hv,hcap,hcn,hpat,hpk⟩:=hat.pop (k:=11) (by simp [iZ]) hgs
   have c7:wr.cell? ⟨L.H,11,none⟩=some (.slice (some ⟨g,0,none⟩) (gs.length+1) cap):=by
    have:=hat.hp.cell (j:=11) (by omega)
    rw [this]
    exact congrArg some hv
   have hgl:gs.length<=20000:=by
    have:=HI.out.2.2.1.s.nu
    simp only [Hp.nu,Hp.mu,hgs,List.length_append,List.length_singleton] at this
    omega
   have HE:=ah (dF wr L.H 11 (some ⟨g,0,none⟩) (gs.length+1) cap c7)
   rw [show (((gs.length+1:Nat):Int)==0)=false by simp;omega] at HE
   have HT:=ah (iR wr L.H 11 g gs.length cap (L.tb n) c7 (hat.hp.Jv 11) hcn (by omega) hcap)
   have HSC:=ah (nP hpat (HI.out.2.2.1.pop hgs).1 (HI.out.2.2.1.pop hgs).2.1 n (HI.out.2.2.1.pop hgs).2.2)
   rw [show fM q 11 gs={ q with grey:=gs } from rfl,<-Hp.F3 hgs] at HSC
   have HPT:=ah hpk
   have HG:=ah hg
   have HGS:=ah hgs
   clear hv hpat hpk hg hgs hcn c7 hat
   go_wp2_with fail
   refine HE.o.mono ?_
   rintro e2 w2 ⟨rfl,rfl⟩
   go_wp2_with fail
   refine HT.o.mono ?_
   rintro e3 w3 ⟨rfl,rfl⟩
   generalize w2.setCell ⟨L.H,11,none⟩ (.slice (some ⟨g,0,none⟩) gs.length cap)=w4 at *
   go_wp2_with fail
   refine HSC.o.mono ?_
   rintro e9 w5 ⟨rfl,L5,hl5,ha5,hk5⟩
   have H5:=ah (And.intro hl5 (And.intro ha5 hk5))
   clear hl5 ha5 hk5 HSC
   go_wp2
   go_roundg q.take.1.mu
   case rel=>
    refine ⟨q.take.1,L5,rfl,?_,HI.out.2.2.1.take HI.out.2.2.2.1 HG.o,HI.out.2.2.2.1.take,?_,H5.o.2.1,?_⟩
    ·rw [<-q.Fy HG.o];exact HI.out.2.1
    ·exact HI.out.2.2.2.2.1.trans ⟨H5.o.1.H,H5.o.1.tb,H5.o.1.es,H5.o.1.mp⟩
    ·exact (HI.out.2.2.2.2.2.2.trans HPT.o).trans H5.o.2.2
   case measure=>
    have:=q.ER HG.o
    have:=HI.out.1
    omega
end
end Go.Proofs.YtedpifhlffcmkaaGreatDoor
