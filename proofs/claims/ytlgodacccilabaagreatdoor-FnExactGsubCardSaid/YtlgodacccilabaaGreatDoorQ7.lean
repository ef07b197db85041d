import Derived.Test.YtlgodacccilabaaGreatDoorQ2
import Derived.Test.YtlgodacccilabaaGreatDoorPP
namespace Go.Proofs.YtlgodacccilabaaGreatDoor
open Go Go.RowKit Go.Shelf
set_option linter.unusedVariables false
set_option maxHeartbeats 1600000 in
set_option maxRecDepth 100000 in
theorem it_edge (X:Sx) (pre:List It) (it:It) (nx:Nx) (fn:Nat) (bd cs:Array Value) (D:World→Prop) (at_:Nat) (σ:Ms) (nt:Nt) (to_:Nat) (w:World) (hs:X.s.size≤65536)
 (hx:WyOk X (pre++[it]) nx fn bd cs D) (hD:D w) (hb:SB w X.S X.s X.fx X.cn X.wh σ.steps nt to_) (ha:at_≤X.s.size) (h5:σ.steps≤50000) (hc:Cap (pre++[it]) σ at_) (hg:Ag (pre++[it]) nt σ) (C:Nat) (hCl:ClF w C it.set) (hC:C≠X.S):
 Calls Tryz.prog 89 #[.pointer (some ⟨X.S,0,none⟩),.int .i64 at_,.func (.func fn) bd cs,.pointer (some ⟨C,0,none⟩)] w fun e w'=>WyR X pre w nt (edgeM X.s it nx at_ σ) e w':=by
 obtain ⟨S,s,fx,cn,wh,its⟩:=X
 dsimp only at *
 have e1:=hx.en
 have HX:=hide hx
 have HD:=hide hD
 have HB:=hide hb
 have HC:=hide hc
 have HG:=hide hg
 have c0:=hb.subj
 clear hx hD hb hc hg
 have HCl:=hide hCl
 have HEn:=hide (show (it.set (hbB s at_).toNat=true∨it.set (hb s at_).toNat=false)→edgeM s it nx at_ σ=(none,σ) from fun h=>by rw [edgeM,if_pos h])
 have HEy:=hide (show ¬ (it.set (hbB s at_).toNat=true∨it.set (hb s at_).toNat=false)→edgeM s it nx at_ σ=nx at_ σ from fun h=>by rw [edgeM,if_neg h])
 have b0:0≤hbB s at_:=by unfold hbB;split;exact (hb_rng s _).1;omega
 have b1:hbB s at_<256:=by unfold hbB;split;exact (hb_rng s _).2;omega
 have b2:=(hb_rng s at_).1
 have b3:=(hb_rng s at_).2
 clear hCl
 by_cases hpos:0<at_
 ·by_cases hend:at_<s.size
  ·have e0:=RowF.cell HCl.out (j:=(hbB s at_).toNat) (by omega)
   have e9:=RowF.cell HCl.out (j:=(hb s at_).toNat) (by omega)
   have hat0:0<(at_:Int):=by omega
   have hi1:∀ w':World,(Instr.index 9 (.string s) (.int .i64 ((at_:Int)-1))).run Tryz.prog w'=.ok (.int .u8 (hbB s at_)) w':=fun w'=>by
    rw [idx_str s (i:=(at_:Int)-1) w' (by omega) (by omega),show ((at_:Int)-1).toNat=at_-1 by omega,hbB,if_pos hpos]
   have hat1:(at_:Int)<(s.size:Int):=by omega
   have hi2:∀ w':World,(Instr.index 9 (.string s) (.int .i64 (at_:Int))).run Tryz.prog w'=.ok (.int .u8 (hb s at_)) w':=fun w'=>by
    rw [idx_str s (i:=(at_:Int)) w' (by omega) (by omega),Int.toNat_natCast]
   cases hq0:it.set (hbB s at_).toNat with
   |true=>
    have HS:=hide (HEn.out (.inl hq0))
    go_enter Tryz.func89,Tryz.ntmps89
    go_wp2_with fail
    refine bodyPost_ret (v:=.int .i64 0) ?_ rfl (WyR.fail HS.out (Keeps.refl _ _) HB.out h5 (Sm.rfl' _ _))
    simp [results,Tryz.results89,go_sem]
   |false=>
    cases hq1:it.set (hb s at_).toNat with
    |false=>
     have HS:=hide (HEn.out (.inr hq1))
     go_enter Tryz.func89,Tryz.ntmps89
     go_wp2_with fail
     refine bodyPost_ret (v:=.int .i64 0) ?_ rfl (WyR.fail HS.out (Keeps.refl _ _) HB.out h5 (Sm.rfl' _ _))
     simp [results,Tryz.results89,go_sem]
    |true=>
     have HS:=hide (HEy.out (by rw [hq0,hq1];simp))
     go_enter Tryz.func89,Tryz.ntmps89
     go_wp2_with fail
     refine (HX.out.go at_ _ σ nt to_ _ rfl HD.out HB.out ha h5 HC.out HG.out).mono ?_
     rintro e w2 hw
     have HW:=hide (hw.sub (nt:=nt) HS.out (Keeps.refl _ _) (Sm.rfl' _ _))
     obtain ⟨v,hv⟩:=WyR.val hw
     obtain rfl:=hv
     clear hw
     go_wp2_with fail
     refine bodyPost_ret (v:=.int .i64 v) ?_ rfl (HW.out)
     simp [results,Tryz.results89,go_sem]
  ·have e0:=RowF.cell HCl.out (j:=(hbB s at_).toNat) (by omega)
   have e9:=RowF.cell HCl.out (j:=(hb s at_).toNat) (by omega)
   have hat0:0<(at_:Int):=by omega
   have hi1:∀ w':World,(Instr.index 9 (.string s) (.int .i64 ((at_:Int)-1))).run Tryz.prog w'=.ok (.int .u8 (hbB s at_)) w':=fun w'=>by
    rw [idx_str s (i:=(at_:Int)-1) w' (by omega) (by omega),show ((at_:Int)-1).toNat=at_-1 by omega,hbB,if_pos hpos]
   have hat1:¬ ((at_:Int)<(s.size:Int)):=by omega
   have hH0:hb s at_=0:=hb_out (by omega)
   rw [hH0] at e9 b2 b3 HEn HEy
   clear hH0
   simp only [Int.toNat_zero] at e0 e9 HEn HEy
   cases hq0:it.set (hbB s at_).toNat with
   |true=>
    have HS:=hide (HEn.out (.inl hq0))
    go_enter Tryz.func89,Tryz.ntmps89
    go_wp2_with fail
    refine bodyPost_ret (v:=.int .i64 0) ?_ rfl (WyR.fail HS.out (Keeps.refl _ _) HB.out h5 (Sm.rfl' _ _))
    simp [results,Tryz.results89,go_sem]
   |false=>
    cases hq1:it.set 0 with
    |false=>
     have HS:=hide (HEn.out (.inr hq1))
     go_enter Tryz.func89,Tryz.ntmps89
     go_wp2_with fail
     refine bodyPost_ret (v:=.int .i64 0) ?_ rfl (WyR.fail HS.out (Keeps.refl _ _) HB.out h5 (Sm.rfl' _ _))
     simp [results,Tryz.results89,go_sem]
    |true=>
     have HS:=hide (HEy.out (by rw [hq0,hq1];simp))
     go_enter Tryz.func89,Tryz.ntmps89
     go_wp2_with fail
     refine (HX.out.go at_ _ σ nt to_ _ rfl HD.out HB.out ha h5 HC.out HG.out).mono ?_
     rintro e w2 hw
     have HW:=hide (hw.sub (nt:=nt) HS.out (Keeps.refl _ _) (Sm.rfl' _ _))
     obtain ⟨v,hv⟩:=WyR.val hw
     obtain rfl:=hv
     clear hw
     go_wp2_with fail
     refine bodyPost_ret (v:=.int .i64 v) ?_ rfl (HW.out)
     simp [results,Tryz.results89,go_sem]
 ·by_cases hend:at_<s.size
  ·have e0:=RowF.cell HCl.out (j:=(hbB s at_).toNat) (by omega)
   have e9:=RowF.cell HCl.out (j:=(hb s at_).toNat) (by omega)
   have hat0:¬ (0<(at_:Int)):=by omega
   have hB0:hbB s at_=0:=by rw [hbB,if_neg hpos]
   rw [hB0] at e0 b0 b1 HEn HEy
   clear hB0
   have hat1:(at_:Int)<(s.size:Int):=by omega
   have hi2:∀ w':World,(Instr.index 9 (.string s) (.int .i64 (at_:Int))).run Tryz.prog w'=.ok (.int .u8 (hb s at_)) w':=fun w'=>by
    rw [idx_str s (i:=(at_:Int)) w' (by omega) (by omega),Int.toNat_natCast]
   simp only [Int.toNat_zero] at e0 e9 HEn HEy
   cases hq0:it.set 0 with
   |true=>
    have HS:=hide (HEn.out (.inl hq0))
    go_enter Tryz.func89,Tryz.ntmps89
    go_wp2_with fail
    refine bodyPost_ret (v:=.int .i64 0) ?_ rfl (WyR.fail HS.out (Keeps.refl _ _) HB.out h5 (Sm.rfl' _ _))
    simp [results,Tryz.results89,go_sem]
   |false=>
    cases hq1:it.set (hb s at_).toNat with
    |false=>
     have HS:=hide (HEn.out (.inr hq1))
     go_enter Tryz.func89,Tryz.ntmps89
     go_wp2_with fail
     refine bodyPost_ret (v:=.int .i64 0) ?_ rfl (WyR.fail HS.out (Keeps.refl _ _) HB.out h5 (Sm.rfl' _ _))
     simp [results,Tryz.results89,go_sem]
    |true=>
     have HS:=hide (HEy.out (by rw [hq0,hq1];simp))
     go_enter Tryz.func89,Tryz.ntmps89
     go_wp2_with fail
     refine (HX.out.go at_ _ σ nt to_ _ rfl HD.out HB.out ha h5 HC.out HG.out).mono ?_
     rintro e w2 hw
     have HW:=hide (hw.sub (nt:=nt) HS.out (Keeps.refl _ _) (Sm.rfl' _ _))
     obtain ⟨v,hv⟩:=WyR.val hw
     obtain rfl:=hv
     clear hw
     go_wp2_with fail
     refine bodyPost_ret (v:=.int .i64 v) ?_ rfl (HW.out)
     simp [results,Tryz.results89,go_sem]
  ·have e0:=RowF.cell HCl.out (j:=(hbB s at_).toNat) (by omega)
   have e9:=RowF.cell HCl.out (j:=(hb s at_).toNat) (by omega)
   have hat0:¬ (0<(at_:Int)):=by omega
   have hB0:hbB s at_=0:=by rw [hbB,if_neg hpos]
   rw [hB0] at e0 b0 b1 HEn HEy
   clear hB0
   have hat1:¬ ((at_:Int)<(s.size:Int)):=by omega
   have hH0:hb s at_=0:=hb_out (by omega)
   rw [hH0] at e9 b2 b3 HEn HEy
   clear hH0
   simp only [Int.toNat_zero] at e0 e9 HEn HEy
   cases hq0:it.set 0 with
   |true=>
    have HS:=hide (HEn.out (.inl hq0))
    go_enter Tryz.func89,Tryz.ntmps89
    go_wp2_with fail
    refine bodyPost_ret (v:=.int .i64 0) ?_ rfl (WyR.fail HS.out (Keeps.refl _ _) HB.out h5 (Sm.rfl' _ _))
    simp [results,Tryz.results89,go_sem]
   |false=>
    have HS:=hide (HEn.out (.inr hq0))
    go_enter Tryz.func89,Tryz.ntmps89
    go_wp2_with fail
    refine bodyPost_ret (v:=.int .i64 0) ?_ rfl (WyR.fail HS.out (Keeps.refl _ _) HB.out h5 (Sm.rfl' _ _))
    simp [results,Tryz.results89,go_sem]
end Go.Proofs.YtlgodacccilabaaGreatDoor
