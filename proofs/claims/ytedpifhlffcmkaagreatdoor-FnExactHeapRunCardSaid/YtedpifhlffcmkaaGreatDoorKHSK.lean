import Derived.Test.YtedpifhlffcmkaaGreatDoorKHSJ2
namespace Go.Proofs.YtedpifhlffcmkaaGreatDoor
open Go Go.RowKit
set_option maxHeartbeats 6400000
set_option maxRecDepth 100000
set_option linter.unusedVariables false
variable {S:Nat->Prop} {base:Nat} {h:Hp} {w:World}
theorem Sm.skipped {h:Hp} (s:Sm h):Sm h.skipped:=⟨s.len,s.nu,s.fp,s.fr,s.JQ,s.cr,s.lim,s.rt,s.es⟩
theorem og {L:SM} (a:JU base S h L w) (s:Sm h) (nm:jY h) (hp:1<=h.objs.length) (hsw:h.D7<=h.objs.length) (hwh:h.white<=1):
 Calls Tryz.prog 64 #[.pointer (some ⟨L.H,0,none⟩)] w fun e w'=>e=.returned (.tuple #[])/\∃ L',L'.H=L.H/\JU base S h.Ec L' w'/\Keeps w w' S:=by
 have hl9:=s.len
 have HS1:=ah (pE a s.len hp (by omega))
 have HSM:=ah s.skipped
 have HNM:Hq (jY h.skipped):=ah nm
 have hnl:h.skipped.D7<=h.skipped.objs.length:=h.FC _ hsw
 have hol:h.skipped.objs.length<=5001:=hl9
 have hop:1<=h.skipped.objs.length:=hp
 have HWH:Hq (h.skipped.white<=1):=ah hwh
 have HE:Hq (¬ (h.skipped.D7<h.skipped.objs.length/\h.skipped.ob h.skipped.D7=none)):=ah (h.Fj h.D7)
 have HD:Hq (h.Ec=h.skipped.D9.skipped.close):=ah rfl
 clear a s nm hl9 hp hsw hwh
 go_enter Tryz.func64,Tryz.ntmps64
 go_wp2_with fail
 refine HS1.o.mono ?_
 rintro e9 w1 ⟨rfl,ha1,hk1⟩
 have HA1:=ah ha1
 have HK1:=ah hk1
 clear ha1 hk1 HS1
 generalize h.skipped=q at *
 obtain ⟨go,capo,hoS,hcapo,-⟩:=HA1.o.slot hop
 have c0:w1.cell? ⟨L.H,0,none⟩=some (.slice (some ⟨go,0,none⟩) q.objs.length capo):=by
  have:=HA1.o.hp.cell (j:=0) (by omega)
  rw [this]
  exact congrArg some hoS
 have c14:w1.cell? ⟨L.H,14,none⟩=some (.int .i64 (q.D7:Int)):=HA1.o.hp.cell (j:=14) (by omega)
 have HOS:=ah hoS
 clear hoS
 go_wp2_with fail
 go_quiet (fail)
 have HB2:=ah (ay (Below.refl w1.heap.size w1) nq)
 have HA2:=ah (HA1.o.low HB2.o)
 have HK2:=ah (HK1.o.trans (Keeps.of HB2.o (Nat.le_refl _) S))
 generalize w1.drewN nq=w2 at *
 clear c0 c14 HA1 HK1 HB2
 go_upto_if 14 with (fail)
 go_cut [] (fun wc=>∃ L2,L2.H=L.H/\Hq (JU base S q.D9 L2 wc/\Keeps w wc S))
 case first=>
  by_cases hlt:q.D7<q.objs.length
  ·have hdec:decide ((q.D7:Int)<(q.objs.length:Int))=true:=by simp;omega
   obtain ⟨o,ho⟩:∃ o,q.ob q.D7=some o:=by
    cases e:q.ob q.D7 with
    |none=>exact absurd ⟨hlt,e⟩ HE.o
    |some o=>exact ⟨o,rfl⟩
   have hni:(q.D7:Int)<(q.objs.length:Int):=by omega
   have c0:w2.cell? ⟨L.H,0,none⟩=some (.slice (some ⟨go,0,none⟩) q.objs.length capo):=by
    have:=HA2.o.hp.cell (j:=0) (by omega)
    rw [this]
    exact congrArg some HOS.o
   have c14:w2.cell? ⟨L.H,14,none⟩=some (.int .i64 (q.D7:Int)):=HA2.o.hp.cell (j:=14) (by omega)
   obtain ⟨g1,cap1,hoS1,-,hcell⟩:=HA2.o.slot hop
   have hg1:g1=go:=by
    have h9:=hoS1.symm.trans HOS.o
    simp only [Value.slice.injEq,Option.some.injEq,Addr.mk.injEq] at h9
    exact h9.1.1
   subst hg1
   have hcn:=hcell q.D7 hlt
   have HO:=ah ho
   have HSW:Hq (q.D9=if eP o.col&&o.col !=q.white then { q with objs:=q.objs.set q.D7 none,live:=q.live-1,bytes:=q.bytes-o.size,freed:=q.freed++[q.D7],D7:=q.D7+1 } else { q.upd q.D7 (fun o=>{ o with col:=q.white }) with D7:=q.D7+1 }):=ah (by unfold Hp.D9;rw [ho])
   clear hoS1 hcell ho
   go_wp2_with fail
   go_quiet (fail)
   have HB3:=ah (ay (Below.refl w2.heap.size w2) nq)
   have HA3:=ah (HA2.o.low HB3.o)
   have HK3:=ah (HK2.o.trans (Keeps.of HB3.o (Nat.le_refl _) S))
   generalize w2.drewN nq=w3 at *
   clear c0 c14 hcn HB3 hdec
   obtain ⟨r3,hr3⟩:=HA3.o.ob q.D7 o HO.o
   have d1:w3.cell? ⟨L.ob q.D7,1,none⟩=some (.int .i64 (o.col:Int)):=hr3.cell (j:=1) (by omega)
   have d6:w3.cell? ⟨L.H,6,none⟩=some (.int .i64 (q.white:Int)):=HA3.o.hp.cell (j:=6) (by omega)
   have HIW:=ah (fun (w9:World) h=>eF w9 (L.ob q.D7) o.col h)
   clear hr3
   by_cases hdm:(eP o.col&&o.col !=q.white)=true
   ·simp only [Bool.and_eq_true] at hdm
    have hw1:eP o.col=true:=hdm.1
    have hne:((o.col:Int) !=(q.white:Int))=true:=by
     have:=hdm.2
     simp at this ⊢
     omega
    have HDM:=ah (show (eP o.col&&o.col !=q.white)=true by simp [hdm])
    rw [hw1] at HIW
    clear hdm hw1
    go_wp2_with fail
    go_quiet ((go_at_call 91;exact Calls.quiet_of_same (HIW.o _ (by assumption))))
    have HB4:=ah (ay (Below.refl w3.heap.size w3) nq)
    have HA4:=ah (HA3.o.low HB4.o)
    have HK4:=ah (HK3.o.trans (Keeps.of HB4.o (Nat.le_refl _) S))
    generalize w3.drewN nq=w4 at *
    clear d1 d6 HB4 HIW HA3 HK3
    obtain ⟨r4,hr4⟩:=HA4.o.ob q.D7 o HO.o
    obtain ⟨E,cape,hev,hcape,-⟩:=HA4.o.ents HO.o
    have he9:=HSM.o.es q.D7 o HO.o
    have hfree:=HNM.o.free HO.o
    have hby:=HSM.o.JQ
    have hfl:q.freed.length<=10000:=by have:=HSM.o.fr;omega
    have HF0:Hq (FB base q L q.D7 g1 w4 (qZ q L) (jw r4 5 o.col false o.mode (L.es q.D7) o.fin) L.ob (L.li 15) q.freed w4):=ah ⟨HA4.o.hp,hr4,HA4.o.oo,HA4.o.li 15 (by simp [cB]),Keeps.refl _ _,fun g e=>.inl e,HA4.o.bs⟩
    have HEV:=ah hev
    have HFR:=ah hfree
    clear hr4 hev hfree
    have f2:w4.cell? ⟨L.ob q.D7,2,none⟩=some (.bool false):=HF0.o.hO.cell (j:=2) (by omega)
    have y2:=HF0.o.hO.Jv 2
    have HF1:=ah (HF0.o.IX 2 (by decide) (.bool true))
    go_upto_region 5 with (fail)
    generalize w4.setCell ⟨L.ob q.D7,2,none⟩ (.bool true)=w5 at *
    clear f2 y2 HF0
    have f2:w5.cell? ⟨L.H,2,none⟩=some (.int .i64 (q.live:Int)):=HF1.o.hH.cell (j:=2) (by omega)
    have y2:=HF1.o.hH.Jv 2
    have hlv:q.live<=10000:=by have:=HSM.o.fr;omega
    have HF2:=ah (HF1.o.setH 2 (by decide) (.int .i64 ((q.live:Int)-1)))
    go_upto_region 6 with (fail)
    generalize w5.setCell ⟨L.H,2,none⟩ (.int .i64 ((q.live:Int)-1))=w6 at *
    clear f2 y2 HF1
    have f1:w6.cell? ⟨L.H,1,none⟩=some (.int .i64 (q.bytes:Int)):=HF2.o.hH.cell (j:=1) (by omega)
    have y1:=HF2.o.hH.Jv 1
    have k0:w6.cell? ⟨L.ob q.D7,0,none⟩=some (.int .i64 5):=HF2.o.hO.cell (j:=0) (by omega)
    have k5:w6.cell? ⟨L.ob q.D7,5,none⟩=some (.slice E o.es.length cape):=by
     rw [<-HEV.o]
     exact HF2.o.hO.cell (j:=5) (by omega)
    have HSZ:=ah (pF w6.drew (L.ob q.D7) E o.es.length cape he9 k0 k5)
    have hwr:IntKind.i64.wrap ((q.bytes:Int)-(40+40*(o.es.length:Int)))=(q.bytes:Int)-(40+40*(o.es.length:Int)):=IntWalk.i64_in _ (by omega)
    have HF3:=ah ((HF2.o.setH 1 (by decide) (.int .i64 ((q.bytes:Int)-(40+40*(o.es.length:Int))))).low (Below.drew (Below.refl _ _)))
    go_wp2_with fail
    go_cut [] (fun wc=>wc=(w6.setCell ⟨L.H,1,none⟩ (.int .i64 ((q.bytes:Int)-(40+40*(o.es.length:Int))))).drew)
    case first=>
     go_region_with (go_at_call 58;refine HSZ.o.mono ?_;rintro e9 w9 ⟨rfl,hw9⟩;obtain rfl:=hw9.symm)
     all_goals
      go_wp2_with fail
      go_meet
      rfl
    case rest=>
    obtain rfl:=hcut
    generalize (w6.setCell ⟨L.H,1,none⟩ (.int .i64 ((q.bytes:Int)-(40+40*(o.es.length:Int))))).drew=w7 at *
    clear f1 y1 k0 k5 HSZ HF2 hwr
    obtain ⟨af,cf,hfv⟩:=aF HF3.o.li
    have e15:w7.cell? ⟨L.H,15,none⟩=some (.slice af q.freed.length cf):=by
     have:=HF3.o.hH.cell (j:=15) (by omega)
     rw [this]
     exact congrArg some hfv
    have y15:=HF3.o.hH.Jv 15
    have e14:w7.cell? ⟨L.H,14,none⟩=some (.int .i64 (q.D7:Int)):=HF3.o.hH.cell (j:=14) (by omega)
    have hH7:=HF3.o.hH.lt
    have HFV:=ah hfv
    clear hfv
    go_wp2_with fail
    go_cut [] (fun wc=>∃ v',Hq (FB base q L q.D7 g1 w4 (fun i=>if i=15 then v' else (fun i=>if i=1 then .int .i64 ((q.bytes:Int)-(40+40*(o.es.length:Int))) else (fun i=>if i=2 then .int .i64 ((q.live:Int)-1) else qZ q L i) i) i) (fun i=>if i=2 then .bool true else jw r4 5 o.col false o.mode (L.es q.D7) o.fin i) L.ob v' (q.freed++[q.D7]) wc))
    case first=>
     go_region_law (
      refine je (wr:=w7) _ _ rfl base (.slice af q.freed.length cf) q.freed q.D7 (by have:=HF3.o.li;rw [HFV.o] at this;exact this) rfl rfl (by omega) HF3.o.bs ?_
      intro v' w8 hv1 hv2 hv3
      obtain ⟨a8,k8,rfl⟩:=aF hv1
      have H8:=ah (HF3.o.I9 (by rw [HFV.o];exact hv2) hv1 (by rw [HFV.o];exact hv3) HF3.o.kk.size)
      have e15':w8.cell? ⟨L.H,15,none⟩=some (.slice af q.freed.length cf):=by
       have:=H8.o.hH.cell (j:=15) (by omega)
       rw [this]
       exact congrArg some HFV.o
      have y15':=H8.o.hH.Jv 15
      clear hv1 hv2 hv3)
     all_goals
      go_wp2_with fail
      go_meet
      exact ⟨.slice a8 (q.freed.length+1) k8,(by
       have h9:=H8.o.setH 15 (by decide) (.slice a8 (q.freed++[q.D7]).length k8)
       have e9:(q.freed++[q.D7]).length=q.freed.length+1:=by simp
       rw [e9] at h9
       exact h9)⟩
    case rest=>
    obtain ⟨v',HF4⟩:=hcut
    rename World=>w8
    clear e15 y15 e14 HF3 HFV hH7
    have e0:w8.cell? ⟨L.H,0,none⟩=some (.slice (some ⟨g1,0,none⟩) q.objs.length capo):=by
     have:=HF4.o.hH.cell (j:=0) (by omega)
     rw [this]
     exact congrArg some HOS.o
    have e14:w8.cell? ⟨L.H,14,none⟩=some (.int .i64 (q.D7:Int)):=HF4.o.hH.cell (j:=14) (by omega)
    have e6:w8.cell? ⟨L.H,6,none⟩=some (.int .i64 (q.white:Int)):=HF4.o.hH.cell (j:=6) (by omega)
    have hgo8:L.oS.ownBlock=some g1:=by rw [HOS.o];simp [Value.ownBlock]
    have hrw:=au HF4.o.oo hgo8
    have eg:=hrw.cell (j:=q.D7) (by omega)
    have yg:=hrw.Jv q.D7
    have hH8:=HF4.o.hH.lt
    have hg8:=hrw.lt
    clear hrw hgo8
    go_wp2_with fail
    go_region
    have hsz:(w8.setCell ⟨g1,q.D7,none⟩ (.pointer (some ⟨w8.heap.size,0,none⟩))).heap.size=w8.heap.size:=by simp
    have HF5:=ah ((HF4.o.I7 HOS.o hlt w8.heap.size).low ((aJ _ (.cells #[.int .i64 0,.int .i64 (q.white:Int),.bool true,.int .i64 0,.int .i64 0,.slice none 0 0,.slice none 0 0,.int .i64 0,.int .i64 0,.slice none 0 0,.pointer none,.int .i64 0,.int .i64 0,.int .u64 0,.string { data:=#[] },.int .i64 0,.int .i64 0,.int .i64 0,.int .i64 0,.pointer none,.pointer none,.int .i64 0,.bool false,.pointer none,.pointer none] 101)).drew))
    have HX5:Hq (∃ rx,aD ((w8.setCell ⟨g1,q.D7,none⟩ (.pointer (some ⟨w8.heap.size,0,none⟩))).alloc (.cells #[.int .i64 0,.int .i64 (q.white:Int),.bool true,.int .i64 0,.int .i64 0,.slice none 0 0,.slice none 0 0,.int .i64 0,.int .i64 0,.slice none 0 0,.pointer none,.int .i64 0,.int .i64 0,.int .u64 0,.string { data:=#[] },.int .i64 0,.int .i64 0,.int .i64 0,.int .i64 0,.pointer none,.pointer none,.int .i64 0,.bool false,.pointer none,.pointer none] 101)).drew 101 w8.heap.size 25 (jw rx 0 q.white true 0 (.slice none 0 0) false)):=ah (by
     have h9:=aD.mk' (w8.setCell ⟨g1,q.D7,none⟩ (.pointer (some ⟨w8.heap.size,0,none⟩))) 101 #[.int .i64 0,.int .i64 (q.white:Int),.bool true,.int .i64 0,.int .i64 0,.slice none 0 0,.slice none 0 0,.int .i64 0,.int .i64 0,.slice none 0 0,.pointer none,.int .i64 0,.int .i64 0,.int .u64 0,.string { data:=#[] },.int .i64 0,.int .i64 0,.int .i64 0,.int .i64 0,.pointer none,.pointer none,.int .i64 0,.bool false,.pointer none,.pointer none]
     rw [hsz] at h9
     refine ⟨fun j=>(#[.int .i64 0,.int .i64 (q.white:Int),.bool true,.int .i64 0,.int .i64 0,.slice none 0 0,.slice none 0 0,.int .i64 0,.int .i64 0,.slice none 0 0,.pointer none,.int .i64 0,.int .i64 0,.int .u64 0,.string { data:=#[] },.int .i64 0,.int .i64 0,.int .i64 0,.int .i64 0,.pointer none,.pointer none,.int .i64 0,.bool false,.pointer none,.pointer none]:Array Value).getD j (.bool false),aD.congr (show aD _ _ _ 25 _ from h9) (fun j hj=>?_)⟩
     have:j=0∨j=1∨j=2∨j=3∨j=4∨j=5∨j=22∨(j≠0/\j≠1/\j≠2/\j≠3/\j≠4/\j≠5/\j≠22):=by omega
     rcases this with rfl|rfl|rfl|rfl|rfl|rfl|rfl|⟨t0,t1,t2,t3,t4,t5,t22⟩
     ·rfl
     ·rfl
     ·rfl
     ·rfl
     ·rfl
     ·rfl
     ·rfl
     ·simp [jw,t0,t1,t2,t3,t4,t5,t22])
    have HK5:Hq (w4.heap.size<=w8.heap.size):=ah HF4.o.kk.size
    generalize ((w8.setCell ⟨g1,q.D7,none⟩ (.pointer (some ⟨w8.heap.size,0,none⟩))).alloc (.cells #[.int .i64 0,.int .i64 (q.white:Int),.bool true,.int .i64 0,.int .i64 0,.slice none 0 0,.slice none 0 0,.int .i64 0,.int .i64 0,.slice none 0 0,.pointer none,.int .i64 0,.int .i64 0,.int .u64 0,.string { data:=#[] },.int .i64 0,.int .i64 0,.int .i64 0,.int .i64 0,.pointer none,.pointer none,.int .i64 0,.bool false,.pointer none,.pointer none] 101)).drew=w9 at *
    clear e0 e14 e6 eg yg hH8 hg8 HF4 hsz
    generalize w8.heap.size=X at *
    have e14:w9.cell? ⟨L.H,14,none⟩=some (.int .i64 (q.D7:Int)):=HF5.o.hH.cell (j:=14) (by omega)
    have y14:=HF5.o.hH.Jv 14
    obtain ⟨rx,hrx⟩:=HX5.o
    have HF6:=ah (HF5.o.setH 14 (by decide) (.int .i64 ((q.D7:Int)+1)))
    have HRX:Hq (aD (w9.setCell ⟨L.H,14,none⟩ (.int .i64 ((q.D7:Int)+1))) 101 X 25 (jw rx 0 q.white true 0 (.slice none 0 0) false)):=ah (hrx.other (fun e=>hrx.apart HF5.o.hH (by decide) e))
    have HE1:Hq ((q.bytes:Int)-(40+40*(o.es.length:Int))=((q.bytes-o.size:Nat):Int)):=ah (by have:=HFR.o.1;unfold Ob.size at this ⊢;omega)
    have HE2:Hq ((q.live:Int)-1=((q.live-1:Nat):Int)):=ah (by have:=HFR.o.2.1;omega)
    have HFX:=ah (HA4.o.freed (h':={ q with objs:=q.objs.set q.D7 none,live:=q.live-1,bytes:=q.bytes-o.size,freed:=q.freed++[q.D7],D7:=q.D7+1 }) HO.o (v':=v') (X:=X) (c:=q.white) (rx:=rx) HOS.o HF6.o.kk rfl
     (fun k hk h15=>by rcases hk with rfl|rfl|rfl|rfl|rfl|rfl|rfl<;>first |rfl|exact absurd rfl h15) rfl rfl
     (HF6.o.hH.congr (bg _ rfl (congrArg (Value.int .i64) HE1.o) (congrArg (Value.int .i64) HE2.o) rfl rfl rfl rfl rfl rfl rfl rfl rfl rfl rfl rfl rfl rfl rfl))
     HF6.o.oo HRX.o (by have:=HWH.o;rcases (by omega:q.white=0∨q.white=1) with z|z<;>rw [z]<;>rfl) HK5.o HF6.o.li HF6.o.vv)
    clear hrx HX5 HF5
    go_wp2_with fail
    go_meet
    exact ⟨{ L with ob:=fun m=>if m=q.D7 then X else L.ob m,li:=fun j=>if j=15 then v' else L.li j },rfl,by rw [HSW.o,if_pos HDM.o];exact HFX.o.1,HK4.o.trans HFX.o.2⟩
   ·have HDM:=ah hdm
    rcases nM o.col with ⟨hw1,_⟩|⟨hw1,_,_⟩
    ·have hne:((o.col:Int) !=(q.white:Int))=false:=by
      rw [hw1] at hdm
      simp at hdm ⊢
      omega
     rw [hw1] at HIW
     clear hdm hw1
     go_wp2_with fail
     go_quiet ((go_at_call 91;exact Calls.quiet_of_same (HIW.o _ (by assumption))))
     have HB4:=ah (ay (Below.refl w3.heap.size w3) nq)
     have HA4:=ah (HA3.o.low HB4.o)
     have HK4:=ah (HK3.o.trans (Keeps.of HB4.o (Nat.le_refl _) S))
     generalize w3.drewN nq=w4 at *
     clear d1 d6 HB4 HIW
     obtain ⟨r4,hr4⟩:=HA4.o.ob q.D7 o HO.o
     have f1:w4.cell? ⟨L.ob q.D7,1,none⟩=some (.int .i64 (o.col:Int)):=hr4.cell (j:=1) (by omega)
     have y1:=hr4.Jv 1
     have f6:w4.cell? ⟨L.H,6,none⟩=some (.int .i64 (q.white:Int)):=HA4.o.hp.cell (j:=6) (by omega)
     have HB5:=ah (HA4.o.JE q.D7 1 (.int .i64 (q.white:Int)) (fun o=>{ o with col:=q.white }) (by decide) HO.o ⟨rfl,rfl⟩ (fun r i=>by
      unfold jw
      by_cases x:i=1
      ·subst x;simp
      ·simp [x]))
     clear hr4
     go_upto_region 10 with (fail)
     generalize w4.setCell ⟨L.ob q.D7,1,none⟩ (.int .i64 (q.white:Int))=w5 at *
     have e14:w5.cell? ⟨L.H,14,none⟩=some (.int .i64 (q.D7:Int)):=HB5.o.1.hp.cell (j:=14) (by omega)
     have z14:=HB5.o.1.hp.Jv 14
     have HB6:=ah (HB5.o.1.num (h':={ q.upd q.D7 (fun o=>{ o with col:=q.white }) with D7:=q.D7+1 }) 14 (.int .i64 ((q.D7:Int)+1)) (by decide) rfl ⟨rfl,rfl,rfl,rfl,rfl,rfl,rfl⟩ rfl (bg _ rfl rfl rfl rfl rfl rfl rfl rfl rfl rfl rfl rfl rfl rfl rfl rfl rfl rfl))
     clear f1 y1 f6
     go_wp2_with fail
     go_meet
     exact ⟨L,rfl,by rw [HSW.o,if_neg HDM.o];exact HB6.o.1,(HK4.o.trans HB5.o.2).trans HB6.o.2⟩
    ·rw [hw1] at HIW
     clear hdm hw1
     go_wp2_with fail
     go_quiet ((go_at_call 91;exact Calls.quiet_of_same (HIW.o _ (by assumption))))
     have HB4:=ah (ay (Below.refl w3.heap.size w3) nq)
     have HA4:=ah (HA3.o.low HB4.o)
     have HK4:=ah (HK3.o.trans (Keeps.of HB4.o (Nat.le_refl _) S))
     generalize w3.drewN nq=w4 at *
     clear d1 d6 HB4 HIW
     obtain ⟨r4,hr4⟩:=HA4.o.ob q.D7 o HO.o
     have f1:w4.cell? ⟨L.ob q.D7,1,none⟩=some (.int .i64 (o.col:Int)):=hr4.cell (j:=1) (by omega)
     have y1:=hr4.Jv 1
     have f6:w4.cell? ⟨L.H,6,none⟩=some (.int .i64 (q.white:Int)):=HA4.o.hp.cell (j:=6) (by omega)
     have HB5:=ah (HA4.o.JE q.D7 1 (.int .i64 (q.white:Int)) (fun o=>{ o with col:=q.white }) (by decide) HO.o ⟨rfl,rfl⟩ (fun r i=>by
      unfold jw
      by_cases x:i=1
      ·subst x;simp
      ·simp [x]))
     clear hr4
     go_upto_region 10 with (fail)
     generalize w4.setCell ⟨L.ob q.D7,1,none⟩ (.int .i64 (q.white:Int))=w5 at *
     have e14:w5.cell? ⟨L.H,14,none⟩=some (.int .i64 (q.D7:Int)):=HB5.o.1.hp.cell (j:=14) (by omega)
     have z14:=HB5.o.1.hp.Jv 14
     have HB6:=ah (HB5.o.1.num (h':={ q.upd q.D7 (fun o=>{ o with col:=q.white }) with D7:=q.D7+1 }) 14 (.int .i64 ((q.D7:Int)+1)) (by decide) rfl ⟨rfl,rfl,rfl,rfl,rfl,rfl,rfl⟩ rfl (bg _ rfl rfl rfl rfl rfl rfl rfl rfl rfl rfl rfl rfl rfl rfl rfl rfl rfl rfl))
     clear f1 y1 f6
     go_wp2_with fail
     go_meet
     exact ⟨L,rfl,by rw [HSW.o,if_neg HDM.o];exact HB6.o.1,(HK4.o.trans HB5.o.2).trans HB6.o.2⟩
  ·have hdec:decide ((q.D7:Int)<(q.objs.length:Int))=false:=by simp;omega
   have HSW:Hq (q.D9=q):=ah (by
    unfold Hp.D9
    have:q.ob q.D7=none:=by
     cases e:q.ob q.D7 with
     |none=>rfl
     |some o=>exact absurd (Hp.Es e) hlt
    rw [this])
   go_wp2_with fail
   go_meet
   exact ⟨L,rfl,by rw [HSW.o];exact HA2.o,HK2.o⟩
 case rest=>
 obtain ⟨L2,hL2,H2⟩:=hcut
 obtain ⟨H2x,oS2,ob2,es2,li2,rS2⟩:=L2
 obtain rfl:H2x=L.H:=hL2
 have hlen2:q.D9.objs.length=q.objs.length:=by
  unfold Hp.D9
  split
  ·split
   ·simp
   ·simp [Hp.upd]
  ·rfl
 have hsw2:q.D9.D7<=10000:=by
  unfold Hp.D9
  split
  ·split
   ·show q.D7+1<=10000
    omega
   ·show q.D7+1<=10000
    omega
  ·omega
 have hby2:q.D9.bytes<=200000:=Nat.le_trans HNM.o.D9.2.2 HSM.o.JQ
 have HSK2:=ah (pE H2.o.1 (by omega) (by omega) hsw2)
 clear HSM HNM HWH HE HOS HA2 HK2 hcapo
 rename World=>wc
 generalize q.D9=r at *
 go_wp2_with fail
 refine HSK2.o.mono ?_
 rintro e9 w3 ⟨rfl,ha3,hk3⟩
 have HA3:=ah ha3
 have HK3:=ah (H2.o.2.trans hk3)
 clear ha3 hk3 HSK2 H2
 have hlen3:r.skipped.objs.length=q.objs.length:=hlen2
 have hby3:r.skipped.bytes<=200000:=hby2
 have hsw3:r.skipped.D7<=30000:=by
  rcases Nat.lt_or_ge r.objs.length r.D7 with d|d
  ·have:r.skip r.D7=r.D7:=Hp.FR (fun x=>by omega)
   show r.skip r.D7<=_
   omega
  ·have:=r.FC r.D7 d
   show r.skip r.D7<=_
   omega
 generalize r.skipped=t at *
 obtain ⟨go2,capo2,hoS2,hcapo2,-⟩:=HA3.o.slot (by omega)
 have c0:w3.cell? ⟨L.H,0,none⟩=some (.slice (some ⟨go2,0,none⟩) t.objs.length capo2):=by
  have:=HA3.o.hp.cell (j:=0) (by omega)
  rw [this]
  exact congrArg some hoS2
 have c14:w3.cell? ⟨L.H,14,none⟩=some (.int .i64 (t.D7:Int)):=HA3.o.hp.cell (j:=14) (by omega)
 clear hoS2
 go_wp2_with fail
 go_quiet (fail)
 have HB4:=ah (ay (Below.refl w3.heap.size w3) nq)
 have HA4:=ah (HA3.o.low HB4.o)
 have HK4:=ah (HK3.o.trans (Keeps.of HB4.o (Nat.le_refl _) S))
 generalize w3.drewN nq=w4 at *
 clear c0 c14 HA3 HK3 HB4
 by_cases hlt:t.D7<t.objs.length
 ·have hdec:decide ((t.D7:Int) ≥ (t.objs.length:Int))=false:=by simp;omega
  have HCL:Hq (t.close=t):=ah (by unfold Hp.close;rw [if_pos hlt])
  go_wp2
  go_end0
  exact ⟨rfl,⟨L.H,oS2,ob2,es2,li2,rS2⟩,rfl,by rw [HD.o,HCL.o];exact HA4.o,HK4.o⟩
 ·have hdec:decide ((t.D7:Int) ≥ (t.objs.length:Int))=true:=by simp;omega
  have HCL:Hq (t.close={ t with state:=0,limit:=max (2*t.bytes) 4096,D6:=0 }):=ah (by unfold Hp.close;rw [if_neg hlt])
  have c5:=HA4.o.hp.cell (j:=5) (by omega)
  have z5:=HA4.o.hp.Jv 5
  have HA5:=ah (HA4.o.num (h':={ t with state:=0 }) 5 (.int .i64 0) (by decide) rfl ⟨rfl,rfl,rfl,rfl,rfl,rfl,rfl⟩ rfl (bg _ rfl rfl rfl rfl rfl rfl rfl rfl rfl rfl rfl rfl rfl rfl rfl rfl rfl rfl))
  go_upto_region 14 with (fail)
  generalize w4.setCell ⟨L.H,5,none⟩ (.int .i64 0)=w5 at *
  clear c5 z5
  have c1:w5.cell? ⟨L.H,1,none⟩=some (.int .i64 (t.bytes:Int)):=HA5.o.1.hp.cell (j:=1) (by omega)
  have c3:=HA5.o.1.hp.cell (j:=3) (by omega)
  have z3:=HA5.o.1.hp.Jv 3
  have HA6:=ah (HA5.o.1.num (h':={ t with state:=0,limit:=2*t.bytes }) 3 (.int .i64 (2*(t.bytes:Int))) (by decide) rfl ⟨rfl,rfl,rfl,rfl,rfl,rfl,rfl⟩ rfl (bg _ rfl rfl rfl (congrArg (Value.int .i64) (by show (2*(t.bytes:Int))=((2*t.bytes:Nat):Int);omega)) rfl rfl rfl rfl rfl rfl rfl rfl rfl rfl rfl rfl rfl rfl))
  go_upto_region 15 with (fail)
  generalize w5.setCell ⟨L.H,3,none⟩ (.int .i64 (2*(t.bytes:Int)))=w6 at *
  clear c1 c3 z3
  have c3:w6.cell? ⟨L.H,3,none⟩=some (.int .i64 (2*(t.bytes:Int))):=by
   have:=HA6.o.1.hp.cell (j:=3) (by omega)
   rw [this]
   exact congrArg some (congrArg (Value.int .i64) (by show ((2*t.bytes:Nat):Int)=_;omega))
  have z3:=HA6.o.1.hp.Jv 3
  by_cases hlm:2*t.bytes<4096
  ·have hli:(2*(t.bytes:Int))<4096:=by omega
   have HA7:=ah (HA6.o.1.num (h':={ t with state:=0,limit:=4096 }) 3 (.int .i64 4096) (by decide) rfl ⟨rfl,rfl,rfl,rfl,rfl,rfl,rfl⟩ rfl (bg _ rfl rfl rfl rfl rfl rfl rfl rfl rfl rfl rfl rfl rfl rfl rfl rfl rfl rfl))
   go_upto_region 17 with (fail)
   generalize w6.setCell ⟨L.H,3,none⟩ (.int .i64 4096)=w7 at *
   clear c3 z3
   have c4:=HA7.o.1.hp.cell (j:=4) (by omega)
   have z4:=HA7.o.1.hp.Jv 4
   have HA8:=ah (HA7.o.1.num (h':={ t with state:=0,limit:=4096,D6:=0 }) 4 (.int .i64 0) (by decide) rfl ⟨rfl,rfl,rfl,rfl,rfl,rfl,rfl⟩ rfl (bg _ rfl rfl rfl rfl rfl rfl rfl rfl rfl rfl rfl rfl rfl rfl rfl rfl rfl rfl))
   go_wp2
   go_end0
   exact ⟨rfl,⟨L.H,oS2,ob2,es2,li2,rS2⟩,rfl,by rw [HD.o,HCL.o,show max (2*t.bytes) 4096=4096 by omega];exact HA8.o.1,(((HK4.o.trans HA5.o.2).trans HA6.o.2).trans HA7.o.2).trans HA8.o.2⟩
  ·have hli:¬ (2*(t.bytes:Int))<4096:=by omega
   go_upto_region 17 with (fail)
   clear c3 z3
   have c4:=HA6.o.1.hp.cell (j:=4) (by omega)
   have z4:=HA6.o.1.hp.Jv 4
   have HA8:=ah (HA6.o.1.num (h':={ t with state:=0,limit:=2*t.bytes,D6:=0 }) 4 (.int .i64 0) (by decide) rfl ⟨rfl,rfl,rfl,rfl,rfl,rfl,rfl⟩ rfl (bg _ rfl rfl rfl rfl rfl rfl rfl rfl rfl rfl rfl rfl rfl rfl rfl rfl rfl rfl))
   go_wp2
   go_end0
   exact ⟨rfl,⟨L.H,oS2,ob2,es2,li2,rS2⟩,rfl,by rw [HD.o,HCL.o,show max (2*t.bytes) 4096=2*t.bytes by omega];exact HA8.o.1,((HK4.o.trans HA5.o.2).trans HA6.o.2).trans HA8.o.2⟩
end Go.Proofs.YtedpifhlffcmkaaGreatDoor
