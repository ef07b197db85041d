import Derived.Test.YtbpcdfbmnklcjaaGreatDoorKHYY0
namespace Go.Proofs.YtbpcdfbmnklcjaaGreatDoor
open Go Go.RowKit
set_option maxHeartbeats 6400000
set_option maxRecDepth 100000
set_option linter.unusedVariables false
variable {R base hand:Nat} {S:Nat->Prop} {h:Hp} {root:List Bool} {rv:Value} {w:World}
theorem jy {L:SM} (a:MV base S h L w) (V:aD w 61 R 3 (Es L.H rv hand)) (M:¬ S R) (l:w.ownsRow base 4 1 rv root.length (iQ root)) (K:∀ g,rv.ownBlock=some g->¬ S g) (Y:1<=root.length) (b0:root.length<=5001) (J:root[0]?=some false):
 Calls Tryz.prog 42 #[.pointer (some ⟨R,0,none⟩)] w fun e w'=>e=.returned (.tuple #[])/\Keeps w w' S/\∃ L',L'.H=L.H/\MV base S (h.Hf (dR 0 root)) L' w':=by
 have r0:w.cell? ⟨R,0,none⟩=some (.pointer (some ⟨L.H,0,none⟩)):=V.c 0;have s:w.cell? ⟨L.H,13,none⟩=some L.rS:=a.hp.c 13;have W:=a.hp.ME 13;obtain ⟨ar,cr,i⟩:=aF l;have b9:=ah l;rw [i] at l;obtain ⟨gr,rfl,a1,b4,G⟩:=jd l Y;have a2:¬ S gr:=K gr (by rw [i];simp [Value.ownBlock]);have r1:w.cell? ⟨R,1,none⟩=some (.slice (some ⟨gr,0,none⟩) root.length cr):=by rw [<-i];exact V.c 1
 have HN:=ah (a.LA (w1:=w) (Keeps.refl w _) (.slice none 0 0) [] ⟨rfl,.inl ⟨rfl,rfl⟩⟩ (fun g e=>by simp [Value.ownBlock] at e)).2;have HR:=ah V;have a7:=ah G;have a8:=ah J;clear a V l K i G J;go_enter Tryz.func42,Tryz.ntmps42;go_upto_region 1 with (fail)
 generalize w.setCell ⟨L.H,13,none⟩ (.slice none 0 0)=w1 at *;obtain ⟨B,E,D,U,F,a9⟩:=L;have z:Hq (MV base S (h.Hf []) ⟨B,E,D,U,F,.slice none 0 0⟩ w1/\Keeps w w1 S):=HN;clear HN s W;have q1:w1.cell? ⟨R,1,none⟩=some (.slice (some ⟨gr,0,none⟩) root.length cr):=(HR.o.keep z.o.2 M|>.c 1).trans ((HR.o.c 1).symm.trans r1);go_wp2;go_loopw [15] (fun jv ws=>∃ j:Nat,j<=root.length/\jv=.int .i64 j/\Hq (∃ rS,MV base S (h.Hf (dR 0 (root.take j))) ⟨B,E,D,U,F,rS⟩ ws/\Keeps w ws S)) (fun jv _=>root.length-bF jv)
 case atStart=>exact ⟨0,by omega,rfl,_,z.o.1,z.o.2⟩
 case round=>
  clear z q1;obtain ⟨j,b3,rfl,HJ⟩:=hrel;obtain ⟨rS,T,Q⟩:=HJ.o;have d:=ah T;have m:=ah Q;clear T Q HJ;by_cases hj:j<root.length
  ·have b2:(j:Int)<(root.length:Int):=by omega
   obtain ⟨b,hb⟩:∃ b,root[j]?=some b:=⟨_,aN hj⟩
   have x0:wr.cell? ⟨gr,j,none⟩=some (.bool b):=(bM (a:=⟨gr,j,none⟩) (m.o.block gr a1 a2)).trans (a7.o j b hb);have u:=ah (HR.o.keep m.o M);have q0:wr.cell? ⟨R,0,none⟩=some (.pointer (some ⟨B,0,none⟩)):=u.o.c 0;cases b with
   |true=>
    have a0:j≠0:=by
     intro c;subst c;rw [a8.o] at hb;cases hb
    have C:=ah hb;clear hb;obtain ⟨aR,cR,A⟩:=aF d.o.ro;have s:wr.cell? ⟨B,13,none⟩=some (.slice aR (dR 0 (root.take j)).length cR):=(d.o.hp.c 13).trans (congrArg some A);have b1:(dR 0 (root.take j)).length<=6000:=by
     have h8:=gU (root.take j) 0;rw [bf] at h8;omega
    have t:=ah A;clear A;obtain ⟨v,X⟩:∃ v:HV,cO j=v:=⟨_,rfl⟩
    have a5:=ah (X.symm.trans (gH a0));have a4:=ah X;clear X;have P:=d.o.hp.lt;have N:=u.o.lt;go_wp2_with fail
    go_region_law (first
     |(rw [if_pos (by rfl)]
       refine yS (.tmp 32) rfl j rfl v a4.o ?_;intro q k;have f:Below wr.heap.size wr q:=⟨k.os,k.tape,k.output,k.size,k.block⟩
       have b8:=(f.cell (p:=⟨B,13,none⟩) P).trans s;have b7:=((f.trans ((aU q (.cells (Nu v) 95)).mono f.size)).cell (p:=⟨B,13,none⟩) P).trans s;have d0:=(f.cell (p:=⟨R,0,none⟩) N).trans q0;have e0:=((f.trans ((aU q (.cells (Nu v) 95)).mono f.size)).cell (p:=⟨R,0,none⟩) N).trans q0;have n:=ah f;have a3:=ah (rA q v);clear k f)
     |(rw [if_pos (by rfl)]
       refine uU (wr:=q.alloc (.cells (Nu v) 95)) (.tmp 31) (.tmp 34) rfl base (.slice aR (dR 0 (root.take j)).length cR) (dR 0 (root.take j)) j (by
        have r:=d.o.ro;have h8:rS=_:=t.o;simp only [h8] at r;exact aj r (Keeps.of ((n.o).trans ((aU q _).mono n.o.size)) (au _) (fun _=>False)) (fun _ _ x=>x)) rfl q.heap.size rfl (by have r:=a3.o;rw [a5.o] at r ⊢;exact r) (by omega) (aI d.o.bs (aI n.o.size (aU q _).size)) ?_
       intro v' w6 g1 g2 g3;obtain ⟨a6,k6,rfl⟩:=aF g1;have k5:Keeps wr (q.alloc (.cells (Nu v) 95)) (fun b=>rS.ownBlock=some b):=Keeps.of ((n.o).trans ((aU q _).mono n.o.size)) (au _) _;have H6:=ah (d.o.LA (w1:=w6) (k5.trans (by rw [show rS=_ from t.o];exact g2)) (.slice a6 (dR 0 (root.take j)++[j]).length k6) (dR 0 (root.take j)++[j]) g1 (fun g e=>by
        rcases g3 g e with y|y
        ·exact .inl (by rw [show rS=_ from t.o];exact y)
        ·exact .inr (aI k5.size y)))
       have f0:w6.cell? ⟨R,0,none⟩=some (.pointer (some ⟨B,0,none⟩)):=(u.o.keep (k5.trans (by rw [show rS=_ from t.o];exact g2)) (fun e=>ak d.o.ro u.o (by decide) e)).c 0;have b5:=H6.o.1.c 13;have b6:=H6.o.1.ME 13;clear g1 g2 g3 k5))
    all_goals
     go_wp2_with fail;go_roundw
     case rel=>
      have r:=H6.o.2;have e9:(dR 0 (root.take j)++[j]).length=(dR 0 (root.take j)).length+1:=by simp
      rw [e9] at r;exact ⟨j+1,by omega,by simp,.slice a6 ((dR 0 (root.take j)).length+1) k6,by rw [iU C.o];exact r.1,m.o.trans r.2⟩
     case measure=>simp [bF];omega
   |false=>
    have C:=ah hb;clear hb;go_wp2;go_roundw
    case rel=>exact ⟨j+1,by omega,by simp,rS,by rw [iU C.o];simpa using d.o,m.o⟩
    case measure=>simp [bF];omega
  ·have Z:j=root.length:=by omega
   subst Z;rw [bN] at d;go_wp2;go_end0;exact ⟨rfl,m.o,_,rfl,d.o⟩
end Go.Proofs.YtbpcdfbmnklcjaaGreatDoor
