import Derived.Test.YtlgodacccilabaaGreatDoorQ2
import Derived.Test.YtlgodacccilabaaGreatDoorPP
namespace Go.Proofs.YtlgodacccilabaaGreatDoor
open Go Go.RowKit Go.Shelf
set_option linter.unusedVariables false
theorem cell_keep {w w':World} {S L j:Nat} {v:Value} (k:Keeps w w' (fun b=>b=S)) (h:L≠S) (hc:w.cell? ⟨L,j,none⟩=some v):w'.cell? ⟨L,j,none⟩=some v:=
 (World.cell?_of_block (a:=⟨L,j,none⟩) (k.block L (World.block_lt_of_cell? w ⟨L,j,none⟩ hc) h)).trans hc
set_option maxHeartbeats 3200000 in
set_option maxRecDepth 100000 in
theorem it_long (X:Sx) (pre:List It) (it:It) (nx:Nx) (fn:Nat) (bd cs:Array Value) (D:World→Prop) (at_:Nat) (σ:Ms) (nt:Nt) (to_:Nat) (w:World) (hs:X.s.size≤65536)
 (hx:WyOk X (pre++[it]) nx fn bd cs D) (hD:D w) (hb:SB w X.S X.s X.fx X.cn X.wh σ.steps nt to_) (ha:at_≤X.s.size) (h5:σ.steps≤50000) (hc:Cap (pre++[it]) σ at_) (hg:Ag (pre++[it]) nt σ) (C L least:Nat) (hCl:ClF w C it.set) (hC:C≠X.S) (hL:w.cell? ⟨L,0,none⟩=some (.int .i64 least)) (hLS:L≠X.S) (h0:it.sign≠0) (h63:it.sign≠63) (h45:it.sign≠45) (hle:least=if it.sign=43 then 1 else 0) (hre:Rest nx):
 Calls Tryz.prog 92 #[.pointer (some ⟨X.S,0,none⟩),.int .i64 at_,.func (.func fn) bd cs,.pointer (some ⟨C,0,none⟩),.pointer (some ⟨L,0,none⟩)] w fun e w'=>WyR X pre w nt (oneM X.s it nx at_ σ) e w':=by
 obtain ⟨S,s,fx,cn,wh,its⟩:=X
 dsimp only at *
 have e1:=hx.en
 have HX:=hide hx
 have HD:=hide hD
 have HB:=hide hb
 have HC:=hide hc
 have HG:=hide hg
 have c0:=hb.subj
 clear hx hD hb hc hg
 have HCl:=hide hCl
 have HQ:=hide (show oneM s it nx at_ σ=downM nx at_ least (runL s it.set s.size at_) (σ.more (runL s it.set s.size at_)) by rw [oneM,if_neg h0,if_neg h63,if_neg h45,hle])
 have hl1:least≤1:=by rw [hle];split<;>omega
 have HL:=hide (fun w9 (k9:Keeps w w9 (fun b=>b=S))=>(show w9.cell? ⟨L,0,none⟩=some (.int .i64 least) from (cell_keep k9 hLS hL)))
 clear hCl hL hle h0 h63 h45 c0
 go_enter Tryz.func92,Tryz.ntmps92
 go_wp2_with fail
 go_loopw [9] (fun iv wr=>∃ j:Nat,iv=.int .i64 ((at_+j:Nat):Int)∧at_+j≤s.size∧σ.steps+j≤50000∧Hid (runL s it.set s.size at_=j+runL s it.set (s.size-j) (at_+j))∧Hid (SB wr S s fx cn wh (σ.steps+j) nt to_)∧Hid (D wr)∧Hid (ClF wr C it.set)∧Hid (Keeps w wr (fun b=>b=S))) (fun iv _=>s.size+1-ivN iv)
 case atStart=>exact ⟨0,by simp,by omega,by omega,hide (by simp),HB,HD,HCl,hide (Keeps.refl _ _)⟩
 case round=>
  clear HB HD HCl
  obtain ⟨j,rfl,hj,hjs,HJ,HB,HD,HCl,HK⟩:=hrel
  have c0:=HB.out.subj
  go_wp2_with fail
  refine (stands_any C it.set s (at_+j) wr (by omega) hs HCl.out).mono ?_
  rintro e w1 ⟨rfl,hk1⟩
  have HD:=hide (HX.out.keep _ _ HD.out (hk1.mono (fun b hb=>hb.elim)))
  have HB:=hide (HB.out.keep hk1 (fun x=>x))
  have HK:=hide (HK.out.trans (hk1.mono (fun b hb=>hb.elim)))
  have HCl:=hide (show ClF w1 C it.set from RowF.keep HCl.out hk1 (fun x=>x))
  clear hk1 c0
  cases hh:has s it.set (at_+j) with
  |true=>
   have hlt:=has_lt hh
   have HJ2:=hide (HJ.out.trans (by rw [runL_snoc (n:=s.size-j) (k:=0) (by omega) (at_+j) hh]))
   go_wp2_with fail
   refine (step_any w1 (by omega) HB.out).mono ?_
   rintro e w2 ⟨rfl,hb2,hk2⟩
   by_cases hst:σ.steps+j+1≤50000
   ·have hstb:decide (σ.steps+j+1≤50000)=true:=decide_eq_true hst
    have HB2:=hide hb2
    have HD2:=hide (HX.out.keep _ _ HD.out hk2)
    have HCl2:=hide (show ClF w2 C it.set from RowF.keep HCl.out hk2 hC)
    have HK2:=hide (HK.out.trans hk2)
    clear hb2 hk2 HB HD HCl HK
    go_wp2_with fail
    go_roundw
    case rel=>exact ⟨j+1,by first |(congr 1;done)|(congr 1;omega),by omega,by omega,hide (HJ2.out.trans (by rw [show s.size-j-1=s.size-(j+1) by omega,show at_+j+1=at_+(j+1) by omega];omega)),HB2,HD2,HCl2,HK2⟩
    case measure=>show s.size+1-ivN (.int .i64 _)<s.size+1-ivN (.int .i64 _);simp [ivN];omega
   ·have hstb:decide (σ.steps+j+1≤50000)=false:=decide_eq_false hst
    have HB2:=hide hb2
    have HK2:=hide (HK.out.trans hk2)
    have HO:=hide (show (oneM s it nx at_ σ).2.spent=true by
     have h9:(σ.more (runL s it.set s.size at_)).spent=true:=by
      show decide (50000<σ.steps+runL s it.set s.size at_)=true
      have:=HJ2.out
      exact decide_eq_true (by omega)
     rw [HQ.out,downM_stop (.inr h9)]
     exact h9)
    clear hb2 hk2 HB HD HCl HK
    go_wp2_with fail
    refine bodyPost_ret (v:=.int .i64 2) ?_ rfl (WyR.out HO.out HK2.out HB2.out (by omega) (by omega))
    simp [results,Tryz.results92,go_sem]
  |false=>
   have HJ2:=hide (HJ.out.trans (by rw [runL_0 hh]))
   have HQ2:=hide HQ.out
   rw [HJ2.out,Nat.add_zero] at HQ2
   clear HJ HQ HJ2 HCl
   go_wp2_with fail
   go_loopw [9] (fun iv wl=>∃ (τ:Ms) (nt':Nt) (to':Nat),τ.steps≤50000∧SameC τ σ∧Hid (Sm (pre++[it]) nt nt')∧Hid (SB wl S s fx cn wh τ.steps nt' to')∧Hid (D wl)∧Hid (Keeps w wl (fun b=>b=S))∧((∃ n:Nat,iv=.int .i64 ((at_:Int)+n)∧at_+n≤s.size∧Hid (oneM s it nx at_ σ=downM nx at_ least n τ))∨(iv=.int .i64 ((at_:Int)-1)∧Hid (oneM s it nx at_ σ=(none,τ))))) (fun iv _=>match iv with | .int _ x=>(x+1-at_).toNat|_=>0)
   case atStart=>exact ⟨σ.more j,nt,to_,hjs,⟨rfl,rfl⟩,hide (Sm.rfl' _ _),HB,HD,HK,.inl ⟨j,by simp,hj,HQ2⟩⟩
   case round=>
    clear HB HD HK HQ2
    obtain ⟨τ,nt',to',hτ,HF,HSM,HB,HD,HK,⟨n,rfl,hn,HO⟩|⟨rfl,HO⟩⟩:=hrel
    ·have cL:=HL.out _ HK.out
     by_cases hl:n<least
     ·have hl2:¬ ((at_:Int)+(least:Int)≤(at_:Int)+(n:Int)):=by omega
      have HR:=hide (HO.out.trans (downM_stop (.inl hl)))
      go_wp2_with fail
      refine bodyPost_ret (v:=.int .i64 0) ?_ rfl (WyR.fail HR.out HK.out HB.out hτ HSM.out.sub)
      simp [results,Tryz.results92,go_sem]
     ·have hl2:(at_:Int)+(least:Int)≤(at_:Int)+(n:Int):=by omega
      have hsp:τ.spent=false:=by unfold Ms.spent;simpa using hτ
      go_wp2_with fail
      clear cL
      refine (HX.out.go (at_+n) _ τ nt' to' _ (by omega) HD.out HB.out (show at_+n≤s.size by omega) hτ (HC.out.le (by omega) HF.1 HF.2) (HG.out.same HSM.out HF.1 HF.2)).mono ?_
      rintro e w2 ⟨hk2,n2,nt2,to2,hb2,hor⟩
      have HRE:=hide (hre (at_+n) τ)
      obtain ⟨r,hr⟩:∃ r,nx (at_+n) τ=r:=⟨_,rfl⟩
      rw [hr] at hor HRE
      obtain ⟨o,τ2⟩:=r
      dsimp only at hor
      have HD2:=hide (HX.out.keep _ _ HD.out hk2)
      have HB2:=hide hb2
      have HK2:=hide (HK.out.trans hk2)
      rcases hor with ⟨ht,rfl,h1,h2⟩|⟨ht,⟨x,hx1,hx2⟩,rfl,h1,h2⟩|⟨ht,ho,rfl,h1,h2⟩
      ·have HR:=hide (show (oneM s it nx at_ σ).2.spent=true by
        rw [HO.out]
        cases o with
        |none=>
         cases n with
         |zero=>rw [downM_last (by omega) hsp hr];exact ht
         |succ n=>rw [downM_miss (by omega) hsp hr,downM_stop (.inr ht)];exact ht
        |some x=>rw [downM_hit (by omega) hsp hr];exact ht)
       clear hr
       go_wp2_with fail
       refine bodyPost_ret (v:=.int .i64 2) ?_ rfl (WyR.out HR.out HK2.out HB2.out h1 h2)
       simp [results,Tryz.results92,go_sem]
      ·subst hx1 hx2
       have HR:=hide (show oneM s it nx at_ σ=(some to2,τ2) by rw [HO.out,downM_hit (by omega) hsp hr])
       have HA:=hide h2
       clear hr h2
       go_wp2_with fail
       refine bodyPost_ret (v:=.int .i64 1) ?_ rfl (by rw [HR.out];exact ⟨HK2.out,_,_,_,HB2.out,.inr (.inl ⟨ht,⟨_,rfl,rfl⟩,rfl,h1,HA.out⟩)⟩)
       simp [results,Tryz.results92,go_sem]
      ·subst ho
       have hst:=HRE.out rfl
       have ht5:=spent_no ht
       have HF2:SameC τ2 σ:=⟨hst.1.trans HF.1,hst.2.trans HF.2⟩
       have HS2:=hide (HSM.out.trans h2)
       subst h1
       cases n with
       |zero=>
        have HR:=hide (HO.out.trans (downM_last (by omega) hsp hr))
        clear hr h2 hst HB HD HK hb2 hk2
        go_wp2_with fail
        go_roundw
        case rel=>exact ⟨τ2,nt2,to2,ht5,HF2,HS2,HB2,HD2,HK2,.inr ⟨by simp,HR⟩⟩
        case measure=>simp
       |succ n=>
        have HR:=hide (HO.out.trans (downM_miss (by omega) hsp hr))
        clear hr h2 hst HB HD HK hb2 hk2
        go_wp2_with fail
        go_roundw
        case rel=>exact ⟨τ2,nt2,to2,ht5,HF2,HS2,HB2,HD2,HK2,.inl ⟨n,by congr 1;omega,by omega,HR⟩⟩
        case measure=>simp;omega
    ·have cL:=HL.out _ HK.out
     have hl2:¬ ((at_:Int)+(least:Int)≤(at_:Int)-1):=by omega
     go_wp2_with fail
     refine bodyPost_ret (v:=.int .i64 0) ?_ rfl (WyR.fail HO.out HK.out HB.out hτ HSM.out.sub)
     simp [results,Tryz.results92,go_sem]
end Go.Proofs.YtlgodacccilabaaGreatDoor
