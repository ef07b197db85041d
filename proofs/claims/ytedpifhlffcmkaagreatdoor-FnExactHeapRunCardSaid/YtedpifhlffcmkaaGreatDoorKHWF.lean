import Derived.Test.YtedpifhlffcmkaaGreatDoorKHUD0
import Derived.Test.YtedpifhlffcmkaaGreatDoorKHUD
namespace Go.Proofs.YtedpifhlffcmkaaGreatDoor
open Go Go.RowKit
set_option maxHeartbeats 6400000
set_option maxRecDepth 100000
set_option linter.unusedVariables false
variable {R base cap g hand n:Nat} {S:Nat->Prop} {h:Hp} {root:List Bool} {rv:Value} {w:World}
theorem Aw (root:List Bool) (n:Nat) (b:Bool):(qP root).set n (.bool b)=qP (root.set n b):=by unfold qP;rw [List.map_set]
theorem RW.mark {L:SM} (x:RW base S h L R hand rv root w) (hv:rv=.slice (some ⟨g,0,none⟩) root.length cap) (hn:n<root.length) (b:Bool):
 JU base S h L (w.setCell ⟨g,n,none⟩ (.bool b))/\aD (w.setCell ⟨g,n,none⟩ (.bool b)) 61 R 3 (BH L.H rv hand)/\(w.setCell ⟨g,n,none⟩ (.bool b)).ownsRow base 4 1 rv (root.set n b).length (qP (root.set n b))/\Keeps w (w.setCell ⟨g,n,none⟩ (.bool b)) (fun c=>c=g):=by
 have hg:rv.ownBlock=some g:=by rw [hv];simp [Value.ownBlock]
 have hr:=au x.x.v hg
 have kk:Keeps w (w.setCell ⟨g,n,none⟩ (.bool b)) (fun c=>c=g):=Keeps.setCell (S:=fun c=>c=g) (Keeps.refl w _) rfl _
 refine ⟨x.x.a.out (kk.mono (fun c e=>e ▸ x.nb g hg)),x.x.r.keep kk (fun e=>x.x.r.apart hr (by decide) e),?_,kk⟩
 have h1:=x.x.v
 rw [hv] at h1 ⊢
 rw [List.length_set,<-Aw]
 exact aH h1 (by omega) _
theorem RW.Hu {L:SM} (x:RW base S h L R hand rv root w) (hp:1<=root.length):∃ g cap,rv=.slice (some ⟨g,0,none⟩) root.length cap/\root.length<=cap:=by
 obtain ⟨hl,⟨_,h2⟩|⟨g,cap,cur,hv,hb,hg,hnc,hr⟩⟩:=x.x.v
 ·omega
 ·exact ⟨g,cap,hv,hnc⟩
def dx (root:List Bool) (n:Nat) (B:Int):List Bool:=root.set n (decide (B=1))
theorem Dj {L:SM} (x:RW base S h L R hand rv root w) (hl9:h.objs.length<=5001) (hn1:1<=n) (hn:n<h.objs.length) (B C:Int):
 Calls Tryz.prog 34 #[.pointer (some ⟨R,0,none⟩),.agg #[.int .i64 4,.int .i64 (n:Int),.int .i64 B,.int .i64 C]] w (dS base S R hand rv w (if B≠0/\B≠1 then 2 else 0) 0 (if B≠0/\B≠1 then h else h.Eb (bV 0 (dx root n B))) (if B≠0/\B≠1 then root else dx root n B)):=by
 have HX:=ah (eT w 4 (n:Int) B C)
 have HB:=ah (aJ w (.cells #[.int .i64 4,.int .i64 (n:Int),.int .i64 B,.int .i64 C] 39))
 have HR:=ah (x.hole (.cells #[.int .i64 4,.int .i64 (n:Int),.int .i64 B,.int .i64 C] 39))
 have hrl:=x.x.l
 have hnr:n<root.length:=by omega
 have hni:(n:Int)<(root.length:Int):=by omega
 have hr9:root.length<=5001:=by omega
 have HRL:=ah hrl
 clear x hrl
 by_cases hB:B≠0/\B≠1
 ·rw [if_pos hB,if_pos hB,if_pos hB]
  have b0:(B !=0)=true:=by simpa using hB.1
  have b1:(B !=1)=true:=by simpa using hB.2
  clear hB
  go_enter Tryz.func34,Tryz.ntmps34
  go_upto_region 1 with (fail)
  generalize w.alloc (.cells #[.int .i64 4,.int .i64 (n:Int),.int .i64 B,.int .i64 C] 39)=w1 at *
  generalize hX:w.heap.size=X at *
  have x0:w1.cell? ⟨X,0,none⟩=some (.int .i64 4):=HX.o.cell (j:=0) (by omega)
  have x2:w1.cell? ⟨X,2,none⟩=some (.int .i64 B):=HX.o.cell (j:=2) (by omega)
  have r0:w1.cell? ⟨R,0,none⟩=some (.pointer (some ⟨L.H,0,none⟩)):=HR.o.x.r.cell (j:=0) (by omega)
  go_wp2
  ((try simp only [Exit.inBlock,Exit.then]);refine bodyPost_ret (results_tmp2 rfl _ _ _) rfl ?_)
  exact dS.mk' (by rw [hX];exact HB.o) (fun b e=>e.1) (Keeps.refl _ _) HR.o
 ·rw [if_neg hB,if_neg hB,if_neg hB]
  have hB2:B=0∨B=1:=by omega
  clear hB
  obtain ⟨bb,hbb⟩:∃ bb:Bool,decide (B=1)=bb:=⟨_,rfl⟩
  have hrb:dx root n B=root.set n bb:=by unfold dx;rw [hbb]
  rw [hrb]
  have hbe:(B==1)=bb:=by rw [<-hbb];rcases hB2 with rfl|rfl<;>rfl
  have hnb:(B !=0)=bb:=by rw [<-hbb];rcases hB2 with rfl|rfl<;>rfl
  have hnb2:(B !=1)=!bb:=by rw [<-hbb];rcases hB2 with rfl|rfl<;>rfl
  clear hrb hbb hB2
  cases bb with
  |true=>
   go_enter Tryz.func34,Tryz.ntmps34
   go_upto_region 1 with (fail)
   generalize w.alloc (.cells #[.int .i64 4,.int .i64 (n:Int),.int .i64 B,.int .i64 C] 39)=w1 at *
   generalize hX:w.heap.size=X at *
   have x0:w1.cell? ⟨X,0,none⟩=some (.int .i64 4):=HX.o.cell (j:=0) (by omega)
   have x1:w1.cell? ⟨X,1,none⟩=some (.int .i64 (n:Int)):=HX.o.cell (j:=1) (by omega)
   have x2:w1.cell? ⟨X,2,none⟩=some (.int .i64 B):=HX.o.cell (j:=2) (by omega)
   have r0:w1.cell? ⟨R,0,none⟩=some (.pointer (some ⟨L.H,0,none⟩)):=HR.o.x.r.cell (j:=0) (by omega)
   obtain ⟨gr,cr,hrv,hcr⟩:=HR.o.Hu (by omega)
   have r1:w1.cell? ⟨R,1,none⟩=some (.slice (some ⟨gr,0,none⟩) root.length cr):=by rw [<-hrv];exact HR.o.x.r.cell (j:=1) (by omega)
   have hrow:=au HR.o.x.v (g:=gr) (by rw [hrv];simp [Value.ownBlock])
   have gn:=hrow.cell (j:=n) (by omega)
   have zn:=hrow.Jv n
   have HM:=ah (HR.o.mark hrv hnr true)
   have HRVV:=ah hrv
   clear hrow hrv
   go_wp2_with fail
   go_cut [] (fun wc=>Hq (wc=(w1.setCell ⟨gr,n,none⟩ (.bool true)).drew))
   case first=>
    go_region
    all_goals
     go_wp2_with fail
     go_meet
     exact rfl
   case rest=>
   have HC:=ah hcut.out
   clear hcut x0 x1 x2 r0 r1 gn zn
   rename World=>w3
   have HB3:=ah (show Below (w1.setCell ⟨gr,n,none⟩ (.bool true)).heap.size (w1.setCell ⟨gr,n,none⟩ (.bool true)) w3 by rw [HC.o];exact ay (Below.refl _ _) 1)
   have kf:=Keeps.of HB3.o (Nat.le_refl _) (fun _=>False)
   have HA3:=ah (HM.o.1.low HB3.o)
   have HR3:=ah (HM.o.2.1.keep kf (fun y=>y))
   have HV3:=ah (aj HM.o.2.2.1 kf (fun _ _ y=>y))
   have HK3:=ah (HM.o.2.2.2.trans (kf.mono (fun b y=>y.elim)))
   clear kf HC HB3 HM
   have h0r:(root.set n true)[0]?=some false:=by
    rw [List.getElem?_set,if_neg (by omega)]
    exact HR.o.r0
   have HR0:=ah h0r
   have HST:=ah (gQ HA3.o HR3.o HR.o.nR HV3.o HR.o.nb (by rw [List.length_set];omega) (by rw [List.length_set];exact hr9) h0r)
   clear h0r
   go_wp2_with fail
   refine HST.o.mono ?_
   rintro e4 w4 ⟨rfl,hk4,L4,hH4,ha4⟩
   have H4:=ah (show RW base (fun b=>S b/\b≠X) (h.Eb (bV 0 (root.set n true))) L4 R hand rv (root.set n true) w4 from
    ⟨⟨ha4,by rw [hH4];exact HR3.o.keep hk4 HR.o.nR,aj HV3.o hk4 HR.o.nb,by rw [List.length_set];exact HRL.o,rfl⟩,HR.o.nR,HR.o.nb,HR0.o⟩)
   have K4:=ah hk4
   clear ha4 hk4 hH4
   go_wp2
   ((try simp only [Exit.inBlock,Exit.then]);refine bodyPost_ret (results_tmp2 rfl _ _ _) rfl ?_)
   refine ⟨rfl,?_,_,L4,rv,H4.o,fun b e=>e.1,fun g e=>.inl e⟩
   exact (Keeps.of HB.o (Nat.le_of_eq hX) _).trans ((HK3.o.mono (fun b e=>Or.inr (Or.inr (by rw [e,HRVV.o];simp [Value.ownBlock])))).trans (K4.o.mono (fun b e=>Or.inl e.1)))
  |false=>
   go_enter Tryz.func34,Tryz.ntmps34
   go_upto_region 1 with (fail)
   generalize w.alloc (.cells #[.int .i64 4,.int .i64 (n:Int),.int .i64 B,.int .i64 C] 39)=w1 at *
   generalize hX:w.heap.size=X at *
   have x0:w1.cell? ⟨X,0,none⟩=some (.int .i64 4):=HX.o.cell (j:=0) (by omega)
   have x1:w1.cell? ⟨X,1,none⟩=some (.int .i64 (n:Int)):=HX.o.cell (j:=1) (by omega)
   have x2:w1.cell? ⟨X,2,none⟩=some (.int .i64 B):=HX.o.cell (j:=2) (by omega)
   have r0:w1.cell? ⟨R,0,none⟩=some (.pointer (some ⟨L.H,0,none⟩)):=HR.o.x.r.cell (j:=0) (by omega)
   obtain ⟨gr,cr,hrv,hcr⟩:=HR.o.Hu (by omega)
   have r1:w1.cell? ⟨R,1,none⟩=some (.slice (some ⟨gr,0,none⟩) root.length cr):=by rw [<-hrv];exact HR.o.x.r.cell (j:=1) (by omega)
   have hrow:=au HR.o.x.v (g:=gr) (by rw [hrv];simp [Value.ownBlock])
   have gn:=hrow.cell (j:=n) (by omega)
   have zn:=hrow.Jv n
   have HM:=ah (HR.o.mark hrv hnr false)
   have HRVV:=ah hrv
   clear hrow hrv
   go_wp2_with fail
   go_cut [] (fun wc=>Hq (wc=(w1.setCell ⟨gr,n,none⟩ (.bool false)).drew))
   case first=>
    go_region
    all_goals
     go_wp2_with fail
     go_meet
     exact rfl
   case rest=>
   have HC:=ah hcut.out
   clear hcut x0 x1 x2 r0 r1 gn zn
   rename World=>w3
   have HB3:=ah (show Below (w1.setCell ⟨gr,n,none⟩ (.bool false)).heap.size (w1.setCell ⟨gr,n,none⟩ (.bool false)) w3 by rw [HC.o];exact ay (Below.refl _ _) 1)
   have kf:=Keeps.of HB3.o (Nat.le_refl _) (fun _=>False)
   have HA3:=ah (HM.o.1.low HB3.o)
   have HR3:=ah (HM.o.2.1.keep kf (fun y=>y))
   have HV3:=ah (aj HM.o.2.2.1 kf (fun _ _ y=>y))
   have HK3:=ah (HM.o.2.2.2.trans (kf.mono (fun b y=>y.elim)))
   clear kf HC HB3 HM
   have h0r:(root.set n false)[0]?=some false:=by
    rw [List.getElem?_set,if_neg (by omega)]
    exact HR.o.r0
   have HR0:=ah h0r
   have HST:=ah (gQ HA3.o HR3.o HR.o.nR HV3.o HR.o.nb (by rw [List.length_set];omega) (by rw [List.length_set];exact hr9) h0r)
   clear h0r
   go_wp2_with fail
   refine HST.o.mono ?_
   rintro e4 w4 ⟨rfl,hk4,L4,hH4,ha4⟩
   have H4:=ah (show RW base (fun b=>S b/\b≠X) (h.Eb (bV 0 (root.set n false))) L4 R hand rv (root.set n false) w4 from
    ⟨⟨ha4,by rw [hH4];exact HR3.o.keep hk4 HR.o.nR,aj HV3.o hk4 HR.o.nb,by rw [List.length_set];exact HRL.o,rfl⟩,HR.o.nR,HR.o.nb,HR0.o⟩)
   have K4:=ah hk4
   clear ha4 hk4 hH4
   go_wp2
   ((try simp only [Exit.inBlock,Exit.then]);refine bodyPost_ret (results_tmp2 rfl _ _ _) rfl ?_)
   refine ⟨rfl,?_,_,L4,rv,H4.o,fun b e=>e.1,fun g e=>.inl e⟩
   exact (Keeps.of HB.o (Nat.le_of_eq hX) _).trans ((HK3.o.mono (fun b e=>Or.inr (Or.inr (by rw [e,HRVV.o];simp [Value.ownBlock])))).trans (K4.o.mono (fun b e=>Or.inl e.1)))
end Go.Proofs.YtedpifhlffcmkaaGreatDoor
