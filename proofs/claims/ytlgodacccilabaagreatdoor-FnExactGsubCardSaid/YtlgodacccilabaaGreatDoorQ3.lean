import Derived.Test.YtlgodacccilabaaGreatDoorQ2
import Derived.Test.YtlgodacccilabaaGreatDoorPP
namespace Go.Proofs.YtlgodacccilabaaGreatDoor
open Go Go.RowKit Go.Shelf
set_option linter.unusedVariables false
set_option maxHeartbeats 1600000 in
set_option maxRecDepth 100000 in
theorem it_open (X:Sx) (pre:List It) (it:It) (nx:Nx) (fn:Nat) (bd cs:Array Value) (D:World→Prop) (at_:Nat) (σ:Ms) (nt:Nt) (to_:Nat) (w:World) (hs:X.s.size≤65536)
 (hx:WyOk X (pre++[it]) nx fn bd cs D) (hD:D w) (hb:SB w X.S X.s X.fx X.cn X.wh σ.steps nt to_) (ha:at_≤X.s.size) (h5:σ.steps≤50000) (hc:Cap pre σ at_) (hg:Ag pre nt σ) (B:Nat) (hBx:w.cell? ⟨B,0,none⟩=some (.int .i64 it.n)) (hn:it.n<16) (N:Nat) (hwf:wfAt N pre it) (hkd:it.kind=2):
 Calls Tryz.prog 66 #[.pointer (some ⟨X.S,0,none⟩),.int .i64 at_,.func (.func fn) bd cs,.pointer (some ⟨B,0,none⟩)] w fun e w'=>WyR X pre w nt (openM it nx at_ σ) e w':=by
 obtain ⟨S,s,fx,cn,wh,its⟩:=X
 dsimp only at *
 have e1:=hx.en
 have HX:=hide hx
 have HD:=hide hD
 have HB:=hide hb
 have HC:=hide hc
 have HG:=hide hg
 have c0:=hb.subj
 clear hx hD hb hc hg
 have HCC:=hide (HC.out.open (N:=N) hwf (.inr hkd))
 have HGG:=hide (show Ag (pre++[it]) (updN nt it.n (false,at_,0)) { σ with fr:=upd σ.fr it.n at_ } from fun j hj=>by
  rcases List.mem_append.1 hj with hj|hj
  ·have h1:=HG.out j hj
   have h2:=(hwf.1 (.inr hkd)).2 j hj
   refine ⟨fun x=>?_,fun x=>?_,fun x=>?_⟩
   ·dsimp only;rw [updN_other nt _ (h2 (.inl x)),upd_other _ _ (h2 (.inl x))];exact h1.1 x
   ·dsimp only;rw [updN_other nt _ (h2 (.inr (.inl x))),upd_other _ _ (h2 (.inr (.inl x)))];exact h1.2.1 x
   ·dsimp only;rw [updN_other nt _ (h2 (.inr (.inr x)))];exact h1.2.2 x
  ·rw [List.mem_singleton.1 hj]
   exact ⟨fun x=>by omega,fun x=>by dsimp only;rw [updN_same,upd_same];exact ⟨rfl,rfl⟩,fun x=>by omega⟩)
 have HSS:=hide (show Sm pre nt (updN nt it.n (false,at_,0)) from fun j hj=>by
  have h2:=(hwf.1 (.inr hkd)).2 j hj
  exact ⟨fun x=>by rw [updN_other nt _ (h2 (.inl x))],fun x=>by rw [updN_other nt _ (h2 (.inr (.inl x)))];exact ⟨rfl,rfl⟩,fun x=>by rw [updN_other nt _ (h2 (.inr (.inr x)))]⟩)
 have n0:=HB.out.n0 hn
 have n1:=HB.out.n1 hn
 have n2:=HB.out.n2 hn
 have z0:=RowF.frz HB.out (5+it.n*3)
 have z1:=RowF.frz HB.out (5+it.n*3+1)
 have z2:=RowF.frz HB.out (5+it.n*3+2)
 have HB1:=hide ((HB.out.setN hn false at_ 0).keep ((Keeps.refl _ (fun _=>False)).drw) (fun x=>x))
 have K1:=hide (show Keeps w (((w.setCell ⟨S,5+it.n*3,none⟩ (.bool false)).setCell ⟨S,5+it.n*3+1,none⟩ (.int .i64 (at_:Int))).setCell ⟨S,5+it.n*3+2,none⟩ (.int .i64 0)).drew (fun b=>b=S) from ((((Keeps.refl w (fun b=>b=S)).setCell (S:=fun b=>b=S) (j:=5+it.n*3) rfl _).setCell (S:=fun b=>b=S) (j:=5+it.n*3+1) rfl _).setCell (S:=fun b=>b=S) (j:=5+it.n*3+2) rfl _).drw)
 have HD1:=hide (HX.out.keep _ _ HD.out K1.out)
 have hn2:(it.n:Int)<16:=by omega
 clear HD HB HC HG c0
 go_enter Tryz.func66,Tryz.ntmps66
 go_wp2_with fail
 go_region
 clear n0 n1 n2 z0 z1 z2 hBx
 generalize (((w.setCell ⟨S,5+it.n*3,none⟩ (.bool false)).setCell ⟨S,5+it.n*3+1,none⟩ (.int .i64 (at_:Int))).setCell ⟨S,5+it.n*3+2,none⟩ (.int .i64 0)).drew=w1 at *
 go_wp2_with fail
 refine (HX.out.go at_ _ { σ with fr:=upd σ.fr it.n at_ } (updN nt it.n (false,at_,0)) to_ _ rfl HD1.out HB1.out ha h5 HCC.out HGG.out).mono ?_
 rintro e w2 hw
 have HW:=hide (WyR.capF (it:=it) (at_:=at_) (σ:=σ) hw K1.out HSS.out)
 obtain ⟨v,hv⟩:=WyR.val hw
 obtain rfl:=hv
 clear hw
 go_wp2_with fail
 refine bodyPost_ret (v:=.int .i64 v) ?_ rfl (HW.out)
 simp [results,Tryz.results66,go_sem]
set_option maxHeartbeats 1600000 in
set_option maxRecDepth 100000 in
theorem it_place (X:Sx) (pre:List It) (it:It) (nx:Nx) (fn:Nat) (bd cs:Array Value) (D:World→Prop) (at_:Nat) (σ:Ms) (nt:Nt) (to_:Nat) (w:World) (hs:X.s.size≤65536)
 (hx:WyOk X (pre++[it]) nx fn bd cs D) (hD:D w) (hb:SB w X.S X.s X.fx X.cn X.wh σ.steps nt to_) (ha:at_≤X.s.size) (h5:σ.steps≤50000) (hc:Cap pre σ at_) (hg:Ag pre nt σ) (B:Nat) (hBx:w.cell? ⟨B,0,none⟩=some (.int .i64 it.n)) (hn:it.n<16) (N:Nat) (hwf:wfAt N pre it) (hkd:it.kind=1):
 Calls Tryz.prog 65 #[.pointer (some ⟨X.S,0,none⟩),.int .i64 at_,.func (.func fn) bd cs,.pointer (some ⟨B,0,none⟩)] w fun e w'=>WyR X pre w nt (openM it nx at_ σ) e w':=by
 obtain ⟨S,s,fx,cn,wh,its⟩:=X
 dsimp only at *
 have e1:=hx.en
 have HX:=hide hx
 have HD:=hide hD
 have HB:=hide hb
 have HC:=hide hc
 have HG:=hide hg
 have c0:=hb.subj
 clear hx hD hb hc hg
 have HCC:=hide (HC.out.open (N:=N) hwf (.inl hkd))
 have HGG:=hide (show Ag (pre++[it]) (updN nt it.n (true,at_,at_)) { σ with fr:=upd σ.fr it.n at_ } from fun j hj=>by
  rcases List.mem_append.1 hj with hj|hj
  ·have h1:=HG.out j hj
   have h2:=(hwf.1 (.inl hkd)).2 j hj
   refine ⟨fun x=>?_,fun x=>?_,fun x=>?_⟩
   ·dsimp only;rw [updN_other nt _ (h2 (.inl x)),upd_other _ _ (h2 (.inl x))];exact h1.1 x
   ·dsimp only;rw [updN_other nt _ (h2 (.inr (.inl x))),upd_other _ _ (h2 (.inr (.inl x)))];exact h1.2.1 x
   ·dsimp only;rw [updN_other nt _ (h2 (.inr (.inr x)))];exact h1.2.2 x
  ·rw [List.mem_singleton.1 hj]
   exact ⟨fun x=>by dsimp only;rw [updN_same,upd_same],fun x=>by omega,fun x=>by omega⟩)
 have HSS:=hide (show Sm pre nt (updN nt it.n (true,at_,at_)) from fun j hj=>by
  have h2:=(hwf.1 (.inl hkd)).2 j hj
  exact ⟨fun x=>by rw [updN_other nt _ (h2 (.inl x))],fun x=>by rw [updN_other nt _ (h2 (.inr (.inl x)))];exact ⟨rfl,rfl⟩,fun x=>by rw [updN_other nt _ (h2 (.inr (.inr x)))]⟩)
 have n0:=HB.out.n0 hn
 have n1:=HB.out.n1 hn
 have n2:=HB.out.n2 hn
 have z0:=RowF.frz HB.out (5+it.n*3)
 have z1:=RowF.frz HB.out (5+it.n*3+1)
 have z2:=RowF.frz HB.out (5+it.n*3+2)
 have HB1:=hide ((HB.out.setN hn true at_ at_).keep ((Keeps.refl _ (fun _=>False)).drw) (fun x=>x))
 have K1:=hide (show Keeps w (((w.setCell ⟨S,5+it.n*3,none⟩ (.bool true)).setCell ⟨S,5+it.n*3+1,none⟩ (.int .i64 (at_:Int))).setCell ⟨S,5+it.n*3+2,none⟩ (.int .i64 (at_:Int))).drew (fun b=>b=S) from ((((Keeps.refl w (fun b=>b=S)).setCell (S:=fun b=>b=S) (j:=5+it.n*3) rfl _).setCell (S:=fun b=>b=S) (j:=5+it.n*3+1) rfl _).setCell (S:=fun b=>b=S) (j:=5+it.n*3+2) rfl _).drw)
 have HD1:=hide (HX.out.keep _ _ HD.out K1.out)
 have hn2:(it.n:Int)<16:=by omega
 clear HD HB HC HG c0
 go_enter Tryz.func65,Tryz.ntmps65
 go_wp2_with fail
 go_region
 clear n0 n1 n2 z0 z1 z2 hBx
 generalize (((w.setCell ⟨S,5+it.n*3,none⟩ (.bool true)).setCell ⟨S,5+it.n*3+1,none⟩ (.int .i64 (at_:Int))).setCell ⟨S,5+it.n*3+2,none⟩ (.int .i64 (at_:Int))).drew=w1 at *
 go_wp2_with fail
 refine (HX.out.go at_ _ { σ with fr:=upd σ.fr it.n at_ } (updN nt it.n (true,at_,at_)) to_ _ rfl HD1.out HB1.out ha h5 HCC.out HGG.out).mono ?_
 rintro e w2 hw
 have HW:=hide (WyR.capF (it:=it) (at_:=at_) (σ:=σ) hw K1.out HSS.out)
 obtain ⟨v,hv⟩:=WyR.val hw
 obtain rfl:=hv
 clear hw
 go_wp2_with fail
 refine bodyPost_ret (v:=.int .i64 v) ?_ rfl (HW.out)
 simp [results,Tryz.results65,go_sem]
set_option maxHeartbeats 1600000 in
set_option maxRecDepth 100000 in
theorem it_shut (X:Sx) (pre:List It) (it:It) (nx:Nx) (fn:Nat) (bd cs:Array Value) (D:World→Prop) (at_:Nat) (σ:Ms) (nt:Nt) (to_:Nat) (w:World) (hs:X.s.size≤65536)
 (hx:WyOk X (pre++[it]) nx fn bd cs D) (hD:D w) (hb:SB w X.S X.s X.fx X.cn X.wh σ.steps nt to_) (ha:at_≤X.s.size) (h5:σ.steps≤50000) (hc:Cap pre σ at_) (hg:Ag pre nt σ) (B:Nat) (hBx:w.cell? ⟨B,0,none⟩=some (.int .i64 it.n)) (hn:it.n<16) (N:Nat) (hwf:wfAt N pre it) (hkd:it.kind=3) (h3:∀ j∈pre,j.kind=1∨j.kind=3→j.n≠it.n):
 Calls Tryz.prog 82 #[.pointer (some ⟨X.S,0,none⟩),.int .i64 at_,.func (.func fn) bd cs,.pointer (some ⟨B,0,none⟩)] w fun e w'=>WyR X pre w nt (shutM it nx at_ σ) e w':=by
 obtain ⟨S,s,fx,cn,wh,its⟩:=X
 dsimp only at *
 have e1:=hx.en
 have HX:=hide hx
 have HD:=hide hD
 have HB:=hide hb
 have HC:=hide hc
 have HG:=hide hg
 have c0:=hb.subj
 clear hx hD hb hc hg
 have HCC:=hide (HC.out.shut (N:=N) hwf (hkd))
 have HGG:=hide (show Ag (pre++[it]) (updN nt it.n ((nt it.n).1,(nt it.n).2.1,at_)) { σ with tt:=upd σ.tt it.n at_ } from fun j hj=>by
  rcases List.mem_append.1 hj with hj|hj
  ·have h1:=HG.out j hj
   refine ⟨fun x=>?_,fun x=>?_,fun x=>?_⟩
   ·dsimp only;rw [updN_other nt _ (h3 j hj (.inl x))];exact h1.1 x
   ·by_cases e:j.n=it.n
    ·dsimp only;rw [e,updN_same,←e];exact h1.2.1 x
    ·dsimp only;rw [updN_other nt _ e];exact h1.2.1 x
   ·dsimp only;rw [updN_other nt _ (h3 j hj (.inr x)),upd_other _ _ (h3 j hj (.inr x))];exact h1.2.2 x
  ·rw [List.mem_singleton.1 hj]
   exact ⟨fun x=>by omega,fun x=>by omega,fun x=>by dsimp only;rw [updN_same,upd_same]⟩)
 have HSS:=hide (show Sm pre nt (updN nt it.n ((nt it.n).1,(nt it.n).2.1,at_)) from fun j hj=>by
  refine ⟨fun x=>by rw [updN_other nt _ (h3 j hj (.inl x))],fun x=>?_,fun x=>by rw [updN_other nt _ (h3 j hj (.inr x))]⟩
  by_cases e:j.n=it.n
  ·rw [e,updN_same];exact ⟨rfl,rfl⟩
  ·rw [updN_other nt _ e];exact ⟨rfl,rfl⟩)
 have n0:=HB.out.n0 hn
 have n1:=HB.out.n1 hn
 have n2:=HB.out.n2 hn
 have z0:=RowF.frz HB.out (5+it.n*3)
 have z1:=RowF.frz HB.out (5+it.n*3+1)
 have z2:=RowF.frz HB.out (5+it.n*3+2)
 have HB1:=hide ((HB.out.setN2 hn at_).keep ((Keeps.refl _ (fun _=>False)).drw) (fun x=>x))
 have K1:=hide (show Keeps w (w.setCell ⟨S,5+it.n*3+2,none⟩ (.int .i64 (at_:Int))).drew (fun b=>b=S) from ((Keeps.refl w (fun b=>b=S)).setCell (S:=fun b=>b=S) (j:=5+it.n*3+2) rfl _).drw)
 have HD1:=hide (HX.out.keep _ _ HD.out K1.out)
 have hn2:(it.n:Int)<16:=by omega
 clear HD HB HC HG c0
 go_enter Tryz.func82,Tryz.ntmps82
 go_wp2_with fail
 go_region
 clear n0 n1 n2 z0 z1 z2 hBx
 generalize (w.setCell ⟨S,5+it.n*3+2,none⟩ (.int .i64 (at_:Int))).drew=w1 at *
 go_wp2_with fail
 refine (HX.out.go at_ _ { σ with tt:=upd σ.tt it.n at_ } (updN nt it.n ((nt it.n).1,(nt it.n).2.1,at_)) to_ _ rfl HD1.out HB1.out ha h5 HCC.out HGG.out).mono ?_
 rintro e w2 hw
 have HW:=hide (WyR.capT (it:=it) (at_:=at_) (σ:=σ) hw K1.out HSS.out)
 obtain ⟨v,hv⟩:=WyR.val hw
 obtain rfl:=hv
 clear hw
 go_wp2_with fail
 refine bodyPost_ret (v:=.int .i64 v) ?_ rfl (HW.out)
 simp [results,Tryz.results82,go_sem]
end Go.Proofs.YtlgodacccilabaaGreatDoor
