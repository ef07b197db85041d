import Derived.Test.YtedpifhlffcmkaaGreatDoorKHUD0
namespace Go.Proofs.YtedpifhlffcmkaaGreatDoor
open Go Go.RowKit
set_option maxHeartbeats 6400000
set_option maxRecDepth 100000
set_option linter.unusedVariables false
variable {R base hand:Nat} {S:Nat->Prop} {h:Hp} {root:List Bool} {rv:Value} {w:World}
theorem gQ {L:SM} (a:JU base S h L w) (hR:aD w 61 R 3 (BH L.H rv hand)) (hnR:¬ S R) (hrv:w.ownsRow base 4 1 rv root.length (qP root)) (hnb:∀ g,rv.ownBlock=some g->¬ S g) (hr1:1<=root.length) (hr9:root.length<=5001) (hr0:root[0]?=some false):
 Calls Tryz.prog 42 #[.pointer (some ⟨R,0,none⟩)] w fun e w'=>e=.returned (.tuple #[])/\Keeps w w' S/\∃ L',L'.H=L.H/\JU base S (h.Eb (bV 0 root)) L' w':=by
 have r0:w.cell? ⟨R,0,none⟩=some (.pointer (some ⟨L.H,0,none⟩)):=hR.cell (j:=0) (by omega)
 have c13:w.cell? ⟨L.H,13,none⟩=some L.rS:=a.hp.cell (j:=13) (by omega)
 have z13:=a.hp.Jv 13
 obtain ⟨ar,cr,hrvv⟩:=aF hrv
 have HRV:=ah hrv
 rw [hrvv] at hrv
 obtain ⟨gr,rfl,hgr,hcr,hrc⟩:=qh hrv hr1
 have hgS:¬ S gr:=hnb gr (by rw [hrvv];simp [Value.ownBlock])
 have r1:w.cell? ⟨R,1,none⟩=some (.slice (some ⟨gr,0,none⟩) root.length cr):=by rw [<-hrvv];exact hR.cell (j:=1) (by omega)
 have HN:=ah (a.IK (w1:=w) (Keeps.refl w _) (.slice none 0 0) [] ⟨rfl,.inl ⟨rfl,rfl⟩⟩ (fun g e=>by simp [Value.ownBlock] at e)).2
 have HR:=ah hR
 have HRC:=ah hrc
 have HR0:=ah hr0
 clear a hR hrv hnb hrvv hrc hr0
 go_enter Tryz.func42,Tryz.ntmps42
 go_upto_region 1 with (fail)
 generalize w.setCell ⟨L.H,13,none⟩ (.slice none 0 0)=w1 at *
 obtain ⟨LH,oS0,ob0,es0,li0,rS0⟩:=L
 have HN2:Hq (JU base S (h.Eb []) ⟨LH,oS0,ob0,es0,li0,.slice none 0 0⟩ w1/\Keeps w w1 S):=HN
 clear HN c13 z13
 have q1:w1.cell? ⟨R,1,none⟩=some (.slice (some ⟨gr,0,none⟩) root.length cr):=(HR.o.keep HN2.o.2 hnR|>.cell (j:=1) (by omega)).trans ((HR.o.cell (j:=1) (by omega)).symm.trans r1)
 go_wp2
 go_loopw [15] (fun jv ws=>∃ j:Nat,j<=root.length/\jv=.int .i64 j/\Hq (∃ rS,JU base S (h.Eb (bV 0 (root.take j))) ⟨LH,oS0,ob0,es0,li0,rS⟩ ws/\Keeps w ws S)) (fun jv _=>root.length-aU jv)
 case atStart=>exact ⟨0,by omega,rfl,_,HN2.o.1,HN2.o.2⟩
 case round=>
  clear HN2 q1
  obtain ⟨j,hj9,rfl,HJ⟩:=hrel
  obtain ⟨rS,hJ1,hJ2⟩:=HJ.o
  have HJ1:=ah hJ1
  have HJ2:=ah hJ2
  clear hJ1 hJ2 HJ
  by_cases hj:j<root.length
  ·have hji:(j:Int)<(root.length:Int):=by omega
   obtain ⟨b,hb⟩:∃ b,root[j]?=some b:=⟨_,List.getElem?_eq_getElem hj⟩
   have x0:wr.cell? ⟨gr,j,none⟩=some (.bool b):=(World.cell?_of_block (a:=⟨gr,j,none⟩) (HJ2.o.block gr hgr hgS)).trans (HRC.o j b hb)
   have HRR:=ah (HR.o.keep HJ2.o hnR)
   have q0:wr.cell? ⟨R,0,none⟩=some (.pointer (some ⟨LH,0,none⟩)):=HRR.o.cell (j:=0) (by omega)
   cases b with
   |true=>
    have hj0:j≠0:=by
     intro c
     subst c
     rw [HR0.o] at hb
     cases hb
    have HBB:=ah hb
    clear hb
    obtain ⟨aR,cR,hrS⟩:=aF HJ1.o.ro
    have c13:wr.cell? ⟨LH,13,none⟩=some (.slice aR (bV 0 (root.take j)).length cR):=(HJ1.o.hp.cell (j:=13) (by omega)).trans (congrArg some hrS)
    have hln:(bV 0 (root.take j)).length<=6000:=by
     have h8:=eZ (root.take j) 0
     rw [List.length_take] at h8
     omega
    have HRS:=ah hrS
    clear hrS
    obtain ⟨v,hv⟩:∃ v:HV,cu j=v:=⟨_,rfl⟩
    have HVE:=ah (hv.symm.trans (iJ hj0))
    have HVV:=ah hv
    clear hv
    have hLl:=HJ1.o.hp.lt
    have hRl:=HRR.o.lt
    go_wp2_with fail
    go_region_law (first
     |(rw [if_pos (by rfl)]
       refine yP (.tmp 32) rfl j rfl v HVV.o ?_
       intro w5 hb5
       have hb6:Below wr.heap.size wr w5:=⟨hb5.os,hb5.tape,hb5.output,hb5.size,hb5.block⟩
       have d13:=(hb6.cell (p:=⟨LH,13,none⟩) hLl).trans c13
       have e13:=((hb6.trans ((aJ w5 (.cells #[.int .i64 (vk v),.int .i64 (vi v),.int .u64 0,.string ByteArray.empty,.int .i64 (vr v)] 95)).mono hb6.size)).cell (p:=⟨LH,13,none⟩) hLl).trans c13
       have d0:=(hb6.cell (p:=⟨R,0,none⟩) hRl).trans q0
       have e0:=((hb6.trans ((aJ w5 (.cells #[.int .i64 (vk v),.int .i64 (vi v),.int .u64 0,.string ByteArray.empty,.int .i64 (vr v)] 95)).mono hb6.size)).cell (p:=⟨R,0,none⟩) hRl).trans q0
       have HB5:=ah hb6
       have HZ5:=ah (oz w5 v)
       clear hb5 hb6)
     |(rw [if_pos (by rfl)]
       refine sS (wr:=w5.alloc (.cells #[.int .i64 (vk v),.int .i64 (vi v),.int .u64 0,.string ByteArray.empty,.int .i64 (vr v)] 95)) (.tmp 31) (.tmp 34) rfl base (.slice aR (bV 0 (root.take j)).length cR) (bV 0 (root.take j)) j (by
        have h9:=HJ1.o.ro
        have h8:rS=_:=HRS.o
        simp only [h8] at h9
        exact aj h9 (Keeps.of ((HB5.o).trans ((aJ w5 _).mono HB5.o.size)) (Nat.le_refl _) (fun _=>False)) (fun _ _ x=>x)) rfl w5.heap.size rfl (by have h9:=HZ5.o;rw [HVE.o] at h9 ⊢;exact h9) (by omega) (Nat.le_trans HJ1.o.bs (Nat.le_trans HB5.o.size (aJ w5 _).size)) ?_
       intro v' w6 g1 g2 g3
       obtain ⟨a6,k6,rfl⟩:=aF g1
       have k5:Keeps wr (w5.alloc (.cells #[.int .i64 (vk v),.int .i64 (vi v),.int .u64 0,.string ByteArray.empty,.int .i64 (vr v)] 95)) (fun b=>rS.ownBlock=some b):=Keeps.of ((HB5.o).trans ((aJ w5 _).mono HB5.o.size)) (Nat.le_refl _) _
       have H6:=ah (HJ1.o.IK (w1:=w6) (k5.trans (by rw [show rS=_ from HRS.o];exact g2)) (.slice a6 (bV 0 (root.take j)++[j]).length k6) (bV 0 (root.take j)++[j]) g1 (fun g e=>by
        rcases g3 g e with y|y
        ·exact .inl (by rw [show rS=_ from HRS.o];exact y)
        ·exact .inr (Nat.le_trans k5.size y)))
       have f0:w6.cell? ⟨R,0,none⟩=some (.pointer (some ⟨LH,0,none⟩)):=(HRR.o.keep (k5.trans (by rw [show rS=_ from HRS.o];exact g2)) (fun e=>ak HJ1.o.ro HRR.o (by decide) e)).cell (j:=0) (by omega)
       have g13:=H6.o.1.cell (j:=13) (by omega)
       have f13:=H6.o.1.Jv 13
       clear g1 g2 g3 k5))
    all_goals
     go_wp2_with fail
     go_roundw
     case rel=>
      have h9:=H6.o.2
      have e9:(bV 0 (root.take j)++[j]).length=(bV 0 (root.take j)).length+1:=by simp
      rw [e9] at h9
      exact ⟨j+1,by omega,by simp,.slice a6 ((bV 0 (root.take j)).length+1) k6,by rw [gy HBB.o];exact h9.1,HJ2.o.trans h9.2⟩
     case measure=>simp [aU];omega
   |false=>
    have HBB:=ah hb
    clear hb
    go_wp2
    go_roundw
    case rel=>exact ⟨j+1,by omega,by simp,rS,by rw [gy HBB.o];simpa using HJ1.o,HJ2.o⟩
    case measure=>simp [aU];omega
  ·have hje:j=root.length:=by omega
   subst hje
   rw [List.take_length] at HJ1
   go_wp2
   go_end0
   exact ⟨rfl,HJ2.o,_,rfl,HJ1.o⟩
end Go.Proofs.YtedpifhlffcmkaaGreatDoor
