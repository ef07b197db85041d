import Derived.Test.YtlgodacccilabaaGreatDoorQ5
import Derived.Test.YtlgodacccilabaaGreatDoorPP
namespace Go.Proofs.YtlgodacccilabaaGreatDoor
open Go Go.RowKit Go.Shelf
set_option linter.unusedVariables false
theorem pairM_spent {s:ByteArray} {x y:Int} {nx:Nx} {m:Nat} (hm:50000≤m):∀ (q i n:Nat) (τ:Ms),m≤τ.steps→i<s.size→0<q→(pairM s x y nx q i n τ).2.spent=true
 |0,i,n,τ,_,_,h=>by omega
 |q+1,i,n,τ,h1,h2,_=>by
  have hs:(τ.more 1).spent=true:=decide_eq_true (show 50000<τ.steps+1 by omega)
  have rest:∀ k,(pairM s x y nx q (i+1) k (τ.more 1)).2.spent=true:=fun k=>by
   by_cases hi:i+1<s.size
   ·by_cases hq:0<q
    ·exact pairM_spent hm q (i+1) k (τ.more 1) (show m≤τ.steps+1 by omega) hi hq
    ·obtain rfl:q=0:=by omega
     exact hs
   ·rw [pairM_end hi];exact hs
  rw [pairM,if_neg (by omega)]
  repeat' split
  all_goals first |exact hs|exact rest _|(rename_i h9;exact absurd hs h9)
set_option maxHeartbeats 3200000 in
set_option maxRecDepth 100000 in
theorem it_pair (X:Sx) (pre:List It) (it:It) (nx:Nx) (fn:Nat) (bd cs:Array Value) (D:World→Prop) (at_:Nat) (σ:Ms) (nt:Nt) (to_:Nat) (w:World) (hs:X.s.size≤65536)
 (hx:WyOk X (pre++[it]) nx fn bd cs D) (hD:D w) (hb:SB w X.S X.s X.fx X.cn X.wh σ.steps nt to_) (ha:at_≤X.s.size) (h5:σ.steps≤50000) (hc:Cap (pre++[it]) σ at_) (hg:Ag (pre++[it]) nt σ) (A B:Nat) (hA:w.cell? ⟨A,0,none⟩=some (.int .u8 it.x)) (hB:w.cell? ⟨B,0,none⟩=some (.int .u8 it.y)) (hAS:A≠X.S) (hBS:B≠X.S):
 Calls Tryz.prog 85 #[.pointer (some ⟨X.S,0,none⟩),.int .i64 at_,.func (.func fn) bd cs,.pointer (some ⟨A,0,none⟩),.pointer (some ⟨B,0,none⟩)] w fun e w'=>WyR X pre w nt (pairR X.s it nx at_ σ) e w':=by
 obtain ⟨S,s,fx,cn,wh,its⟩:=X
 dsimp only at *
 have e1:=hx.en
 have HX:=hide hx
 have HD:=hide hD
 have HB:=hide hb
 have HC:=hide hc
 have HG:=hide hg
 have c0:=hb.subj
 clear hx hD hb hc hg
 have HA:=hide (fun w9 (k9:Keeps w w9 (fun b=>b=S))=>(show w9.cell? ⟨A,0,none⟩=some (.int .u8 it.x) from cell_keep k9 hAS hA))
 have HBb:=hide (fun w9 (k9:Keeps w w9 (fun b=>b=S))=>(show w9.cell? ⟨B,0,none⟩=some (.int .u8 it.y) from cell_keep k9 hBS hB))
 have HK:=hide (Keeps.refl w (fun b=>b=S))
 clear hB
 by_cases hin:at_<s.size
 ·have hi0:∀ w':World,(Instr.index 9 (.string s) (.int .i64 (at_:Int))).run Tryz.prog w'=.ok (.int .u8 (hb s at_)) w':=fun w'=>by
   rw [idx_str s (i:=(at_:Int)) w' (by omega) (by omega),Int.toNat_natCast]
  have hne:((at_:Int)==(s.size:Int))=false:=beq_eq_false_iff_ne.2 (by omega)
  by_cases hxx:hb s at_=it.x
  ·have hxb:(hb s at_ !=it.x)=false:=by simp [hxx]
   have HO:=hide (show pairR s it nx at_ σ=pairM s it.x it.y nx s.size (at_+1) 1 σ by rw [pairR,if_neg (by rw [hxx];simp;omega)])
   clear hxx
   go_enter Tryz.func85,Tryz.ntmps85
   go_wp2_with fail
   go_quiet (fail)
   have HD:=hide (HX.out.keep _ _ HD.out (((Keeps.refl w (fun b=>b=S))).drewN nq))
   have HB:=hide (HB.out.keep ((Keeps.refl w (fun _=>False)).drewN nq) (fun x=>x))
   have HK:=hide (HK.out.drewN nq)
   generalize w.drewN nq=w1 at *
   clear c0 hA hi0
   go_wp2_with fail
   go_loopw [1,9] (fun iv nv wr=>∃ (i n q:Nat) (τ:Ms),iv=.int .i64 i∧nv=.int .i64 n∧i≤s.size∧at_<i∧1≤n∧n≤i∧s.size+at_+1=q+i∧τ.steps≤50000∧SameC τ σ∧Hid (SB wr S s fx cn wh τ.steps nt to_)∧Hid (D wr)∧Hid (Keeps w wr (fun b=>b=S))∧Hid (pairR s it nx at_ σ=pairM s it.x it.y nx q i n τ)) (fun iv _ _=>s.size+1-ivN iv)
   case atStart=>exact ⟨at_+1,1,s.size,σ,by simp,rfl,by omega,by omega,by omega,by omega,by omega,h5,SameC.rfl σ,HB,HD,HK,HO⟩
   case round=>
    clear HB HD HK HO
    obtain ⟨i,n,q0,τ,rfl,rfl,hi1,hi2,hn1,hn2,hq,hτ,HF,HB,HD,HK,HO⟩:=hrel
    obtain ⟨q,rfl⟩:∃ q,q0=q+1:=⟨q0-1,by omega⟩
    have c0:=HB.out.subj
    by_cases hin2:i<s.size
    ·have hi0:∀ w':World,(Instr.index 9 (.string s) (.int .i64 (i:Int))).run Tryz.prog w'=.ok (.int .u8 (hb s i)) w':=fun w'=>by
      rw [idx_str s (i:=(i:Int)) w' (by omega) (by omega),Int.toNat_natCast]
     have hin3:(i:Int)<(s.size:Int):=by omega
     go_wp2_with fail
     refine (step_any wr (by omega) HB.out).mono ?_
     rintro e w2 ⟨rfl,hb2,hk2⟩
     have HD:=hide (HX.out.keep _ _ HD.out hk2)
     have HK:=hide (HK.out.trans hk2)
     have HB:=hide hb2
     clear hb2 hk2 c0
     by_cases hst:τ.steps+1≤50000
     ·have hstb:decide (τ.steps+1≤50000)=true:=decide_eq_true hst
      have c0:=HB.out.subj
      have cA:=HA.out _ HK.out
      have cB:=HBb.out _ HK.out
      have hsp:(τ.more 1).spent=false:=decide_eq_false (show ¬ 50000<τ.steps+1 by omega)
      have HF5:SameC (τ.more 1) σ:=⟨HF.1,HF.2⟩
      by_cases hy:hb s i=it.y
      ·have hyb:(hb s i==it.y)=true:=beq_iff_eq.2 hy
       have HY:=hide hy
       clear hy
       by_cases hn:n=1
       ·subst hn
        have HR:=hide (HO.out.trans (pairM_hit hin2 HY.out hsp))
        go_wp2_with fail
        refine (HX.out.go (i+1) _ (τ.more 1) nt to_ _ (by omega) HD.out HB.out (show i+1≤s.size by omega) hst (HC.out.le (by omega) HF.1 HF.2) (HG.out.same (Sm.rfl' _ _) HF.1 HF.2)).mono ?_
        rintro e w6 hw
        have HW:=hide (hw.sub (nt:=nt) HR.out HK.out (Sm.rfl' _ _))
        obtain ⟨v,hv⟩:=WyR.val hw
        obtain rfl:=hv
        clear hw
        go_wp2_with fail
        refine bodyPost_ret (v:=.int .i64 v) ?_ rfl (HW.out)
        simp [results,Tryz.results85,go_sem]
       ·have HR:=hide (HO.out.trans (pairM_shut hin2 HY.out hn))
        have hnb:(((n:Int)-1)==0)=false:=beq_eq_false_iff_ne.2 (by omega)
        go_wp2_with fail
        go_roundw
        case rel=>exact ⟨i+1,n-1,q,τ.more 1,by simp,by congr 1;omega,by omega,by omega,by omega,by omega,by omega,hst,HF5,HB,HD,HK,HR⟩
        case measure=>show s.size+1-ivN (.int .i64 _)<s.size+1-ivN (.int .i64 _);simp [ivN];omega
      ·have hyb:(hb s i==it.y)=false:=beq_eq_false_iff_ne.2 hy
       have HY:=hide hy
       clear hy
       by_cases hx2:hb s i=it.x
       ·have hxb2:(hb s i==it.x)=true:=beq_iff_eq.2 hx2
        have HR:=hide (HO.out.trans (pairM_open hin2 HY.out hx2))
        have hnb:(((n:Int)+1)==0)=false:=beq_eq_false_iff_ne.2 (by omega)
        clear hx2
        go_wp2_with fail
        go_roundw
        case rel=>exact ⟨i+1,n+1,q,τ.more 1,by simp,by simp,by omega,by omega,by omega,by omega,by omega,hst,HF5,HB,HD,HK,HR⟩
        case measure=>show s.size+1-ivN (.int .i64 _)<s.size+1-ivN (.int .i64 _);simp [ivN];omega
       ·have hxb2:(hb s i==it.x)=false:=beq_eq_false_iff_ne.2 hx2
        have HR:=hide (HO.out.trans (pairM_past hin2 HY.out hx2))
        have hnb:((n:Int)==0)=false:=beq_eq_false_iff_ne.2 (by omega)
        clear hx2
        go_wp2_with fail
        go_roundw
        case rel=>exact ⟨i+1,n,q,τ.more 1,by simp,rfl,by omega,by omega,by omega,by omega,by omega,hst,HF5,HB,HD,HK,HR⟩
        case measure=>show s.size+1-ivN (.int .i64 _)<s.size+1-ivN (.int .i64 _);simp [ivN];omega
     ·have hstb:decide (τ.steps+1≤50000)=false:=decide_eq_false hst
      have HR:=hide (show (pairR s it nx at_ σ).2.spent=true by
       rw [HO.out]
       exact pairM_spent (show 50000≤τ.steps by omega) (q+1) i n τ (by omega) hin2 (by omega))
      go_wp2_with fail
      refine bodyPost_ret (v:=.int .i64 2) ?_ rfl (WyR.out HR.out HK.out HB.out (by omega) (by omega))
      simp [results,Tryz.results85,go_sem]
    ·have hin3:¬ ((i:Int)<(s.size:Int)):=by omega
     have HR:=hide (HO.out.trans (pairM_end hin2))
     go_wp2_with fail
     refine bodyPost_ret (v:=.int .i64 0) ?_ rfl (WyR.fail HR.out HK.out HB.out hτ (Sm.rfl' _ _))
     simp [results,Tryz.results85,go_sem]
  ·have hxb:(hb s at_ !=it.x)=true:=by simp [hxx]
   have HO:=hide (show pairR s it nx at_ σ=(none,σ) by rw [pairR,if_pos (.inr hxx)])
   clear hxx
   go_enter Tryz.func85,Tryz.ntmps85
   go_wp2_with fail
   go_quiet (fail)
   have HD:=hide (HX.out.keep _ _ HD.out (((Keeps.refl w (fun b=>b=S))).drewN nq))
   have HB:=hide (HB.out.keep ((Keeps.refl w (fun _=>False)).drewN nq) (fun x=>x))
   have HK:=hide (HK.out.drewN nq)
   generalize w.drewN nq=w1 at *
   go_wp2_with fail
   refine bodyPost_ret (v:=.int .i64 0) ?_ rfl (WyR.fail HO.out HK.out HB.out h5 (Sm.rfl' _ _))
   simp [results,Tryz.results85,go_sem]
 ·have hne:((at_:Int)==(s.size:Int))=true:=beq_iff_eq.2 (by omega)
  have HO:=hide (show pairR s it nx at_ σ=(none,σ) by rw [pairR,if_pos (.inl hin)])
  go_enter Tryz.func85,Tryz.ntmps85
  go_wp2_with fail
  go_quiet (fail)
  have HD:=hide (HX.out.keep _ _ HD.out (((Keeps.refl w (fun b=>b=S))).drewN nq))
  have HB:=hide (HB.out.keep ((Keeps.refl w (fun _=>False)).drewN nq) (fun x=>x))
  have HK:=hide (HK.out.drewN nq)
  generalize w.drewN nq=w1 at *
  go_wp2_with fail
  refine bodyPost_ret (v:=.int .i64 0) ?_ rfl (WyR.fail HO.out HK.out HB.out h5 (Sm.rfl' _ _))
  simp [results,Tryz.results85,go_sem]
end Go.Proofs.YtlgodacccilabaaGreatDoor
