import Derived.Test.YtlgodacccilabaaGreatDoorQ2
import Derived.Test.YtlgodacccilabaaGreatDoorPP
namespace Go.Proofs.YtlgodacccilabaaGreatDoor
open Go Go.RowKit Go.Shelf
set_option linter.unusedVariables false
set_option maxHeartbeats 1600000 in
set_option maxRecDepth 100000 in
theorem it_opt (X:Sx) (pre:List It) (it:It) (nx:Nx) (fn:Nat) (bd cs:Array Value) (D:World→Prop) (at_:Nat) (σ:Ms) (nt:Nt) (to_:Nat) (w:World) (hs:X.s.size≤65536)
 (hx:WyOk X (pre++[it]) nx fn bd cs D) (hD:D w) (hb:SB w X.S X.s X.fx X.cn X.wh σ.steps nt to_) (ha:at_≤X.s.size) (h5:σ.steps≤50000) (hc:Cap (pre++[it]) σ at_) (hg:Ag (pre++[it]) nt σ) (C:Nat) (hCl:ClF w C it.set) (hC:C≠X.S) (h63:it.sign=63) (hre:Rest nx):
 Calls Tryz.prog 95 #[.pointer (some ⟨X.S,0,none⟩),.int .i64 at_,.func (.func fn) bd cs,.pointer (some ⟨C,0,none⟩)] w fun e w'=>WyR X pre w nt (oneM X.s it nx at_ σ) e w':=by
 obtain ⟨S,s,fx,cn,wh,its⟩:=X
 dsimp only at *
 have e1:=hx.en
 have HX:=hide hx
 have HD:=hide hD
 have HB:=hide hb
 have HC:=hide hc
 have HG:=hide hg
 have c0:=hb.subj
 clear hx hD hb hc hg
 have HCl:=hide hCl
 have HQ:=hide (show oneM s it nx at_ σ=downM nx at_ 0 (if has s it.set at_=true then 1 else 0) σ by rw [oneM,if_neg (by omega),if_pos h63])
 clear hCl
 go_enter Tryz.func95,Tryz.ntmps95
 go_wp2_with fail
 refine (stands_any C it.set s at_ w (by omega) hs HCl.out).mono ?_
 rintro e w1 ⟨rfl,hk1⟩
 have HD:=hide (HX.out.keep _ _ HD.out (hk1.mono (fun b hb=>hb.elim)))
 have HB:=hide (HB.out.keep hk1 (fun x=>x))
 have HK1:=hide (hk1.mono (S':=fun b=>b=S) (fun b hb=>hb.elim))
 have HCl:=hide (show ClF w1 C it.set from RowF.keep HCl.out hk1 (fun x=>x))
 clear hk1 c0
 have hsp:σ.spent=false:=by unfold Ms.spent;simpa using h5
 cases hh:has s it.set at_ with
 |false=>
  have HO:=hide (HQ.out.trans (show downM nx at_ 0 (if has s it.set at_=true then 1 else 0) σ=nx at_ σ by rw [hh,if_neg (by simp),downM,if_neg (by rw [hsp];simp)]))
  go_wp2_with fail
  refine (HX.out.go at_ _ σ nt to_ _ rfl HD.out HB.out ha h5 HC.out HG.out).mono ?_
  rintro e w2 hw
  have HW:=hide (hw.sub (nt:=nt) HO.out HK1.out (Sm.rfl' _ _))
  obtain ⟨v,hv⟩:=WyR.val hw
  obtain rfl:=hv
  clear hw
  go_wp2_with fail
  refine bodyPost_ret (v:=.int .i64 v) ?_ rfl (HW.out)
  simp [results,Tryz.results95,go_sem]
 |true=>
  have hlt:=has_lt hh
  go_wp2_with fail
  refine (HX.out.go (at_+1) _ σ nt to_ _ (by omega) HD.out HB.out (show at_+1≤s.size by omega) h5 (HC.out.le (by omega) rfl rfl) HG.out).mono ?_
  rintro e w2 ⟨hk2,n',nt',to',hb2,hor⟩
  have HRE:=hide (hre (at_+1) σ)
  obtain ⟨r,hr⟩:∃ r,nx (at_+1) σ=r:=⟨_,rfl⟩
  rw [hr] at hor HRE
  obtain ⟨o,τ⟩:=r
  dsimp only at hor
  have HD2:=hide (HX.out.keep _ _ HD.out hk2)
  have HB2:=hide hb2
  have HK2:=hide (HK1.out.trans hk2)
  rcases hor with ⟨ht,rfl,h1,h2⟩|⟨ht,⟨x,hx1,hx2⟩,rfl,h1,h2⟩|⟨ht,ho,rfl,h1,h2⟩
  ·have HO:=hide (show (oneM s it nx at_ σ).2.spent=true by
    rw [HQ.out,hh,if_pos rfl]
    cases o with
    |none=>rw [downM_miss (by omega) hsp hr,downM_stop (.inr ht)];exact ht
    |some x=>rw [downM_hit (by omega) hsp hr];exact ht)
   clear hr
   go_wp2_with fail
   refine bodyPost_ret (v:=.int .i64 2) ?_ rfl (WyR.out HO.out HK2.out HB2.out h1 h2)
   simp [results,Tryz.results95,go_sem]
  ·subst hx1 hx2
   have HO:=hide (show oneM s it nx at_ σ=(some to',τ) by rw [HQ.out,hh,if_pos rfl,downM_hit (by omega) hsp hr])
   have HA:=hide h2
   clear hr h2
   go_wp2_with fail
   refine bodyPost_ret (v:=.int .i64 1) ?_ rfl (by rw [HO.out];exact ⟨HK2.out,_,_,_,HB2.out,.inr (.inl ⟨ht,⟨_,rfl,rfl⟩,rfl,h1,HA.out⟩)⟩)
   simp [results,Tryz.results95,go_sem]
  ·subst ho
   have hst:=HRE.out rfl
   have ht5:=spent_no ht
   have HO:=hide (show oneM s it nx at_ σ=nx at_ τ by rw [HQ.out,hh,if_pos rfl,downM_miss (by omega) hsp hr,downM,if_neg (by rw [ht];simp)])
   have HS2:=hide h2
   have HST:=hide hst
   subst h1
   clear hr h2 hst
   go_wp2_with fail
   refine (HX.out.go at_ _ τ nt' to' _ rfl HD2.out HB2.out ha ht5 (HC.out.le (Nat.le_refl _) HST.out.1 HST.out.2) (HG.out.same HS2.out HST.out.1 HST.out.2)).mono ?_
   rintro e w3 hw
   have HW:=hide (hw.sub (nt:=nt) HO.out HK2.out HS2.out.sub)
   obtain ⟨v,hv⟩:=WyR.val hw
   obtain rfl:=hv
   clear hw
   go_wp2_with fail
   refine bodyPost_ret (v:=.int .i64 v) ?_ rfl (HW.out)
   simp [results,Tryz.results95,go_sem]
end Go.Proofs.YtlgodacccilabaaGreatDoor
namespace Go.Proofs.YtlgodacccilabaaGreatDoor
open Go Go.RowKit Go.Shelf
set_option linter.unusedVariables false
set_option maxHeartbeats 3200000 in
set_option maxRecDepth 100000 in
theorem it_short (X:Sx) (pre:List It) (it:It) (nx:Nx) (fn:Nat) (bd cs:Array Value) (D:World→Prop) (at_:Nat) (σ:Ms) (nt:Nt) (to_:Nat) (w:World) (hs:X.s.size≤65536)
 (hx:WyOk X (pre++[it]) nx fn bd cs D) (hD:D w) (hb:SB w X.S X.s X.fx X.cn X.wh σ.steps nt to_) (ha:at_≤X.s.size) (h5:σ.steps≤50000) (hc:Cap (pre++[it]) σ at_) (hg:Ag (pre++[it]) nt σ) (C:Nat) (hCl:ClF w C it.set) (hC:C≠X.S) (h45:it.sign=45) (hre:Rest nx):
 Calls Tryz.prog 94 #[.pointer (some ⟨X.S,0,none⟩),.int .i64 at_,.func (.func fn) bd cs,.pointer (some ⟨C,0,none⟩)] w fun e w'=>WyR X pre w nt (oneM X.s it nx at_ σ) e w':=by
 obtain ⟨S,s,fx,cn,wh,its⟩:=X
 dsimp only at *
 have e1:=hx.en
 have HX:=hide hx
 have HD:=hide hD
 have HB:=hide hb
 have HC:=hide hc
 have HG:=hide hg
 have c0:=hb.subj
 clear hx hD hb hc hg
 have HCl:=hide hCl
 have HQ:=hide (show oneM s it nx at_ σ=lazyM s it.set nx (s.size+1) at_ σ by rw [oneM,if_neg (by omega),if_neg (by omega),if_pos h45])
 clear hCl h45 c0
 go_enter Tryz.func94,Tryz.ntmps94
 go_wp2_with fail
 go_loopw [1] (fun iv wr=>∃ (n q:Nat) (τ:Ms) (nt':Nt) (to':Nat),iv=.int .i64 n∧n≤s.size∧at_≤n∧s.size+1+at_=q+n∧τ.steps≤50000∧SameC τ σ∧Hid (Sm (pre++[it]) nt nt')∧Hid (SB wr S s fx cn wh τ.steps nt' to')∧Hid (D wr)∧Hid (ClF wr C it.set)∧Hid (Keeps w wr (fun b=>b=S))∧Hid (oneM s it nx at_ σ=lazyM s it.set nx q n τ)) (fun iv _=>s.size+1-ivN iv)
 case atStart=>exact ⟨at_,s.size+1,σ,nt,to_,rfl,ha,Nat.le_refl _,by omega,h5,SameC.rfl σ,hide (Sm.rfl' _ _),HB,HD,HCl,hide (Keeps.refl _ _),HQ⟩
 case round=>
  clear HB HD HCl HQ
  obtain ⟨n,q0,τ,nt',to',rfl,hn1,hn2,hq,hτ,HF,HSM,HB,HD,HCl,HK,HO⟩:=hrel
  obtain ⟨q,rfl⟩:∃ q,q0=q+1:=⟨q0-1,by omega⟩
  have hsp:τ.spent=false:=by unfold Ms.spent;simpa using hτ
  go_wp2_with fail
  refine (HX.out.go (n) _ τ nt' to' _ rfl HD.out HB.out (show n≤s.size by omega) hτ (HC.out.le (hn2) HF.1 HF.2) (HG.out.same HSM.out HF.1 HF.2)).mono ?_
  rintro e w2 ⟨hk2,n2,nt2,to2,hb2,hor⟩
  have HRE:=hide (hre (n) τ)
  obtain ⟨r,hr⟩:∃ r,nx (n) τ=r:=⟨_,rfl⟩
  rw [hr] at hor HRE
  obtain ⟨o,τ2⟩:=r
  dsimp only at hor
  have HD2:=hide (HX.out.keep _ _ HD.out hk2)
  have HB2:=hide hb2
  have HK2:=hide (HK.out.trans hk2)
  have HCl2:=hide (show ClF w2 C it.set from RowF.keep HCl.out hk2 hC)
  rcases hor with ⟨ht,rfl,h1,h2⟩|⟨ht,⟨x,hx1,hx2⟩,rfl,h1,h2⟩|⟨ht,ho,rfl,h1,h2⟩
  ·have HR:=hide (show (oneM s it nx at_ σ).2.spent=true by
    rw [HO.out]
    cases o with
    |none=>
     cases hh:has s it.set n with
     |false=>rw [lazyM_end hsp hr hh];exact ht
     |true=>
      have hlt:=has_lt hh
      obtain ⟨q1,rfl⟩:∃ q1,q=q1+1:=⟨q-1,by omega⟩
      have h9:(τ2.more 1).spent=true:=by
       show decide (50000<τ2.steps+1)=true
       unfold Ms.spent at ht
       simp at ht ⊢
       omega
      rw [lazyM_next hsp hr hh,lazyM_stop h9]
      exact h9
    |some x=>rw [lazyM_hit hsp hr];exact ht)
   clear hr
   go_wp2_with fail
   refine bodyPost_ret (v:=.int .i64 2) ?_ rfl (WyR.out HR.out HK2.out HB2.out h1 h2)
   simp [results,Tryz.results94,go_sem]
  ·subst hx1 hx2
   have HR:=hide (show oneM s it nx at_ σ=(some to2,τ2) by rw [HO.out,lazyM_hit hsp hr])
   have HA:=hide h2
   clear hr h2
   go_wp2_with fail
   refine bodyPost_ret (v:=.int .i64 1) ?_ rfl (by rw [HR.out];exact ⟨HK2.out,_,_,_,HB2.out,.inr (.inl ⟨ht,⟨_,rfl,rfl⟩,rfl,h1,HA.out⟩)⟩)
   simp [results,Tryz.results94,go_sem]
  ·subst ho
   have hst:=HRE.out rfl
   have ht5:=spent_no ht
   have HF2:SameC τ2 σ:=⟨hst.1.trans HF.1,hst.2.trans HF.2⟩
   have HS2:=hide (HSM.out.trans h2)
   subst h1
   have HNX:=hide hr
   clear hr h2 hst HB HD HK HCl hb2 hk2
   have c0:=HB2.out.subj
   go_wp2_with fail
   refine (stands_any C it.set s n w2 (by omega) hs HCl2.out).mono ?_
   rintro e w3 ⟨rfl,hk3⟩
   have HD3:=hide (HX.out.keep _ _ HD2.out (hk3.mono (fun b hb=>hb.elim)))
   have HB3:=hide (HB2.out.keep hk3 (fun x=>x))
   have HK3:=hide (HK2.out.trans (hk3.mono (fun b hb=>hb.elim)))
   have HCl3:=hide (show ClF w3 C it.set from RowF.keep HCl2.out hk3 (fun x=>x))
   clear hk3 c0 HB2 HD2 HCl2 HK2
   cases hh:has s it.set n with
   |false=>
    have HR:=hide (HO.out.trans (lazyM_end (k:=q) hsp HNX.out hh))
    go_wp2_with fail
    refine bodyPost_ret (v:=.int .i64 0) ?_ rfl (WyR.fail HR.out HK3.out HB3.out ht5 HS2.out.sub)
    simp [results,Tryz.results94,go_sem]
   |true=>
    have hlt:=has_lt hh
    have HR:=hide (HO.out.trans (lazyM_next (k:=q) hsp HNX.out hh))
    go_wp2_with fail
    refine (step_any w3 (by omega) HB3.out).mono ?_
    rintro e w4 ⟨rfl,hb4,hk4⟩
    have HB4:=hide hb4
    have HK4:=hide (HK3.out.trans hk4)
    by_cases hst:τ2.steps+1≤50000
    ·have hstb:decide (τ2.steps+1≤50000)=true:=decide_eq_true hst
     have HD4:=hide (HX.out.keep _ _ HD3.out hk4)
     have HCl4:=hide (show ClF w4 C it.set from RowF.keep HCl3.out hk4 hC)
     clear hb4 hk4 HB3 HD3 HCl3 HK3
     go_wp2_with fail
     go_roundw
     case rel=>exact ⟨n+1,q,τ2.more 1,nt2,to2,by simp,by omega,by omega,by omega,hst,⟨HF2.1,HF2.2⟩,HS2,HB4,HD4,HCl4,HK4,HR⟩
     case measure=>show s.size+1-ivN (.int .i64 _)<s.size+1-ivN (.int .i64 _);simp [ivN];omega
    ·have hstb:decide (τ2.steps+1≤50000)=false:=decide_eq_false hst
     have HR2:=hide (show (oneM s it nx at_ σ).2.spent=true by
      have h9:(τ2.more 1).spent=true:=decide_eq_true (show 50000<τ2.steps+1 by omega)
      obtain ⟨q1,rfl⟩:∃ q1,q=q1+1:=⟨q-1,by omega⟩
      rw [HR.out,lazyM_stop h9]
      exact h9)
     clear hb4 hk4 HB3 HD3 HCl3 HK3
     go_wp2_with fail
     refine bodyPost_ret (v:=.int .i64 2) ?_ rfl (WyR.out HR2.out HK4.out HB4.out (by omega) (by omega))
     simp [results,Tryz.results94,go_sem]
end Go.Proofs.YtlgodacccilabaaGreatDoor
