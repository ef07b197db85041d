import Derived.Test.YtlgodacccilabaaGreatDoorPG
namespace Go.Proofs.YtlgodacccilabaaGreatDoor
open Go Go.RowKit
set_option linter.unusedVariables false
set_option maxHeartbeats 8000000 in
set_option maxRecDepth 100000 in
theorem one_any (R:Nat) (p:ByteArray) (at_:Nat) (vi vo vd:Value) (w:World) (ha:at_<p.size) (hp:p.size≤200) (h:RdB w R p at_ false vi vo vd):
 Calls Tryz.prog 43 #[.pointer (some ⟨R,0,none⟩)] w fun e w'=>SetR R p vi vo vd (rdOne p at_) w e w':=by
 obtain ⟨i0,hi,hz0,hz1,hz2⟩:=info_parts Tryz.info4
 have hRl:R<w.heap.size:=RowF.lt h
 have HR:=hide h
 clear h
 go_enter Tryz.func43,Tryz.ntmps43
 go_wp2_with (first
  |(at_make
    refine wpList_make_full _ rfl _ _ 34 rfl w.heap.size 4 i0 (.bool false) 1 Tryz.underlying34 hi hz0 hz1 _ _ _ _ 256 rfl rfl rfl rfl (by rw [hz2];omega) (by unfold maxLen;omega) (Nat.le_refl _) ?_
    intro w1 hown hgrow
    have HS0:=hide (show SetF w1 w.heap.size (fun _=>false) from made_row rfl hown)
    have hb1:Below w.heap.size w w1:=(Below.refl _ _).grown hgrow (Nat.le_refl _) (fun _ h=>by cases h)
    have HK0:=hide (Keeps.of hb1 (Nat.le_refl _) (fun b=>b=R))
    have HR1:=hide (RdB.keep HR.out (Keeps.of hb1 (Nat.le_refl _) (fun _=>False)) (fun x=>x))
    clear hown hgrow hb1))
 obtain ⟨g,hgg⟩:∃ g,g=w.heap.size:=⟨_,rfl⟩
 rw [←hgg] at HS0 ⊢
 have hg:w.heap.size≤g:=by omega
 have hgR:R≠g:=by omega
 clear hgg HR
 refine (here_in R p at_ 0 false vi vo vd w1 (by omega) (by omega) (by omega) HR1.out (by omega)).mono ?_
 rintro e w2 ⟨rfl,hk2⟩
 rw [Nat.add_zero]
 have HRd:=hide (RdB.keep HR1.out hk2 (fun x=>x))
 have HSet:=hide (SetF.keep HS0.out hk2 (fun x=>x))
 have HKw:=hide (HK0.out.on hk2 (fun b _ hb=>hb.elim))
 clear hk2 HR1 HS0 HK0
 have hcn0:=(hb_rng p at_).1
 have hcn1:=(hb_rng p at_).2
 have c1:w2.cell? ⟨R,1,none⟩=some (.int .i64 at_):=RowF.cell HRd.out (j:=1) (by omega)
 have z1:w2.frozen? ⟨R,1,none⟩=false:=RowF.frz HRd.out 1
 by_cases h91:hb p at_=91
 ·have HO:=hide (show rdOne p at_=rdSet p at_ by rw [rdOne,if_pos h91])
  go_wp2_with fail
  refine (set_any R p at_ vi vo vd w2 ha hp HRd.out).mono ?_
  rintro e w3 ⟨hk3,g3,rfl,hg3,hr⟩
  have HK3:=hide (HKw.out.trans hk3)
  have hs2:=HKw.out.size
  have HR3:=hide hr
  clear hk3 hr HRd HSet HKw
  go_wp2_with fail
  refine bodyPost_ret (v:=.slice (some ⟨g3,0,none⟩) 256 256) ?_ rfl ⟨HK3.out,g3,rfl,by omega,by rw [HO.out];exact HR3.out⟩
  simp [results,Tryz.results43,go_sem]
 by_cases h46:hb p at_=46
 ·have HO:=hide (show rdOne p at_=some (fun _=>true,at_+1) by rw [rdOne,if_neg h91,if_pos h46])
  clear c1 z1
  go_wp2_with fail
  go_loopw [27] (fun iv wr=>∃ i:Nat,i≤256∧iv=.int .i64 i∧Hid (RdB wr R p at_ false vi vo vd)∧Hid (SetF wr g (fun c=>decide (c<i)))∧Hid (Keeps w wr (fun b=>b=R))) (fun iv _=>256-ivN iv)
  case atStart=>exact ⟨0,by omega,rfl,HRd,hide (HSet.out.congr fun j hj=>by simp),HKw⟩
  case round=>
   clear HRd HSet HKw
   obtain ⟨i,hi1,rfl,HRd,HSet,HKw⟩:=hrel
   by_cases hin:i<256
   ·have d0:=RowF.cell HSet.out (j:=i) (by omega)
    have e0:=RowF.frz HSet.out i
    have HSx:=hide ((SetF.put HSet.out (j:=i) (by omega)).congr (f':=fun c=>decide (c<i+1)) fun j hj=>by
     rw [Bool.eq_iff_iff]
     simp
     omega)
    have HRx:=hide (RdB.keep HRd.out ((Keeps.refl wr (fun b=>b=g)).setCell (g:=g) (j:=i) rfl (.bool true)) (by omega))
    have HKx:=hide (HKw.out.past (g:=g) (j:=i) hg (.bool true))
    clear HSet HRd HKw
    go_wp2_with fail
    go_roundw
    case rel=>exact ⟨i+1,by omega,by simp,HRx,HSx,HKx⟩
    case measure=>show 256-ivN (.int .i64 _)<256-ivN (.int .i64 _);simp [ivN];omega
   ·obtain rfl:i=256:=by omega
    have c1:wr.cell? ⟨R,1,none⟩=some (.int .i64 at_):=RowF.cell HRd.out (j:=1) (by omega)
    have z1:wr.frozen? ⟨R,1,none⟩=false:=RowF.frz HRd.out 1
    have HN:=hide (RdB.pos (at':=at_+1) HRd.out)
    have HS:=hide (SetF.keep HSet.out ((Keeps.refl wr (fun b=>b=R)).setCell (g:=R) (j:=1) rfl (.int .i64 ((at_+1:Nat):Int))) (by omega))
    have HK:=hide (HKw.out.setCell (S:=fun b=>b=R) (g:=R) (j:=1) rfl (.int .i64 ((at_+1:Nat):Int)))
    rw [show ((at_+1:Nat):Int)=(at_:Int)+1 by omega] at HN HS HK
    go_wp2_with fail
    refine bodyPost_ret (v:=.slice (some ⟨g,0,none⟩) 256 256) ?_ rfl ⟨HK.out,g,rfl,hg,.inl ⟨fun _=>true,at_+1,HO.out,HN.out,HS.out.congr fun j hj=>by simp [hj],by omega⟩⟩
    simp [results,Tryz.results43,go_sem]
 by_cases h37:hb p at_=37
 ·clear c1 z1
  by_cases hr1:at_+1<p.size
  ·go_wp2_with fail
   refine (here_in R p at_ 1 false vi vo vd w2 (by omega) (by omega) (by omega) HRd.out (by omega)).mono ?_
   rintro e w3 ⟨rfl,hk3⟩
   have HRd:=hide (RdB.keep HRd.out hk3 (fun x=>x))
   have HSet:=hide (SetF.keep HSet.out hk3 (fun x=>x))
   have HKw:=hide (HKw.out.on hk3 (fun b _ hb=>hb.elim))
   clear hk3
   have hdn:=hb_rng p (at_+1)
   go_wp2_with fail
   refine (escape_any g (fun _=>false) (hb p (at_+1)) w3 hdn.1 hdn.2 HSet.out).mono ?_
   rintro e w5 ⟨rfl,hk5,hs5⟩
   have HRd:=hide (RdB.keep HRd.out hk5 (by omega))
   have HKw:=hide (HKw.out.on hk5 (fun b hb hb2=>by omega))
   clear hk5 HSet
   cases hok:escOk (hb p (at_+1)) with
   |true=>
    have HO:=hide (show rdOne p at_=some (fun c:Nat=>escIn (hb p (at_+1)) (c:Int),at_+2) by rw [rdOne,if_neg h91,if_neg h46,if_pos h37,if_pos ⟨hr1,hok⟩])
    have HSet:=hide ((hs5 hok).congr (f':=fun c:Nat=>escIn (hb p (at_+1)) (c:Int)) fun j hj=>by simp)
    clear hs5
    have c1:w5.cell? ⟨R,1,none⟩=some (.int .i64 at_):=RowF.cell HRd.out (j:=1) (by omega)
    have z1:w5.frozen? ⟨R,1,none⟩=false:=RowF.frz HRd.out 1
    have HN1:=hide (RdB.pos (at':=at_+1) HRd.out)
    have HN:=hide (RdB.pos (at':=at_+2) HN1.out)
    have HS:=hide (SetF.keep HSet.out (((Keeps.refl w5 (fun b=>b=R)).setCell (g:=R) (j:=1) rfl (.int .i64 ((at_+1:Nat):Int))).setCell (g:=R) (j:=1) rfl (.int .i64 ((at_+2:Nat):Int))) (by omega))
    have HK:=hide ((HKw.out.setCell (S:=fun b=>b=R) (g:=R) (j:=1) rfl (.int .i64 ((at_+1:Nat):Int))).setCell (S:=fun b=>b=R) (g:=R) (j:=1) rfl (.int .i64 ((at_+2:Nat):Int)))
    have c2:(w5.setCell ⟨R,1,none⟩ (.int .i64 ((at_+1:Nat):Int))).cell? ⟨R,1,none⟩=some (.int .i64 ((at_+1:Nat):Int)):=RowF.cell HN1.out (j:=1) (by omega)
    have z2:(w5.setCell ⟨R,1,none⟩ (.int .i64 ((at_+1:Nat):Int))).frozen? ⟨R,1,none⟩=false:=RowF.frz HN1.out 1
    rw [show ((at_+2:Nat):Int)=(at_:Int)+1+1 by omega,show ((at_+1:Nat):Int)=(at_:Int)+1 by omega] at HN HS HK
    rw [show ((at_+1:Nat):Int)=(at_:Int)+1 by omega] at c2 z2
    clear HRd HSet HKw HN1
    go_wp2_with fail
    refine bodyPost_ret (v:=.slice (some ⟨g,0,none⟩) 256 256) ?_ rfl ⟨HK.out,g,rfl,hg,.inl ⟨_,at_+2,HO.out,HN.out,HS.out,by omega⟩⟩
    simp [results,Tryz.results43,go_sem]
   |false=>
    have HO:=hide (show rdOne p at_=none by rw [rdOne,if_neg h91,if_neg h46,if_pos h37,if_neg (by rw [hok];simp)])
    clear hs5
    have b2:w5.cell? ⟨R,2,none⟩=some (.bool false):=RowF.cell HRd.out (j:=2) (by omega)
    have y2:w5.frozen? ⟨R,2,none⟩=false:=RowF.frz HRd.out 2
    have HB:=hide (RdB.isBad HRd.out)
    have c1:(w5.setCell ⟨R,2,none⟩ (.bool true)).cell? ⟨R,1,none⟩=some (.int .i64 at_):=RowF.cell HB.out (j:=1) (by omega)
    have z1:(w5.setCell ⟨R,2,none⟩ (.bool true)).frozen? ⟨R,1,none⟩=false:=RowF.frz HB.out 1
    have HN1:=hide (RdB.pos (at':=at_+1) HB.out)
    have HN:=hide (RdB.pos (at':=at_+2) HN1.out)
    have HK:=hide (((HKw.out.setCell (S:=fun b=>b=R) (g:=R) (j:=2) rfl (.bool true)).setCell (S:=fun b=>b=R) (g:=R) (j:=1) rfl (.int .i64 ((at_+1:Nat):Int))).setCell (S:=fun b=>b=R) (g:=R) (j:=1) rfl (.int .i64 ((at_+2:Nat):Int)))
    have c2:=RowF.cell HN1.out (j:=1) (by omega)
    have z2:=RowF.frz HN1.out 1
    simp only [rcells] at c2
    rw [show ((at_+2:Nat):Int)=(at_:Int)+1+1 by omega,show ((at_+1:Nat):Int)=(at_:Int)+1 by omega] at HN HK
    rw [show ((at_+1:Nat):Int)=(at_:Int)+1 by omega] at c2 z2
    clear HRd HKw HN1 HB
    go_wp2_with fail
    refine bodyPost_ret (v:=.slice (some ⟨g,0,none⟩) 256 256) ?_ rfl ⟨HK.out,g,rfl,hg,.inr ⟨HO.out,at_+2,by omega,HN.out⟩⟩
    simp [results,Tryz.results43,go_sem]
  ·have HO:=hide (show rdOne p at_=none by rw [rdOne,if_neg h91,if_neg h46,if_pos h37,if_neg (by omega)])
   go_wp2_with fail
   refine (here_out R p at_ 1 false vi vo vd w2 (by omega) (by omega) (by omega) HRd.out (by omega)).mono ?_
   rintro e w5 ⟨rfl,hk3⟩
   have HRd:=hide (RdB.keep HRd.out hk3 (fun x=>x))
   have HKw:=hide (HKw.out.on hk3 (fun b _ hb=>hb.elim))
   clear hk3 HSet
   have b2:w5.cell? ⟨R,2,none⟩=some (.bool false):=RowF.cell HRd.out (j:=2) (by omega)
   have y2:w5.frozen? ⟨R,2,none⟩=false:=RowF.frz HRd.out 2
   have HB:=hide (RdB.isBad HRd.out)
   have c1:(w5.setCell ⟨R,2,none⟩ (.bool true)).cell? ⟨R,1,none⟩=some (.int .i64 at_):=RowF.cell HB.out (j:=1) (by omega)
   have z1:(w5.setCell ⟨R,2,none⟩ (.bool true)).frozen? ⟨R,1,none⟩=false:=RowF.frz HB.out 1
   have HN1:=hide (RdB.pos (at':=at_+1) HB.out)
   have HN:=hide (RdB.pos (at':=at_+2) HN1.out)
   have HK:=hide (((HKw.out.setCell (S:=fun b=>b=R) (g:=R) (j:=2) rfl (.bool true)).setCell (S:=fun b=>b=R) (g:=R) (j:=1) rfl (.int .i64 ((at_+1:Nat):Int))).setCell (S:=fun b=>b=R) (g:=R) (j:=1) rfl (.int .i64 ((at_+2:Nat):Int)))
   have c2:=RowF.cell HN1.out (j:=1) (by omega)
   have z2:=RowF.frz HN1.out 1
   simp only [rcells] at c2
   rw [show ((at_+2:Nat):Int)=(at_:Int)+1+1 by omega,show ((at_+1:Nat):Int)=(at_:Int)+1 by omega] at HN HK
   rw [show ((at_+1:Nat):Int)=(at_:Int)+1 by omega] at c2 z2
   clear HRd HKw HN1 HB
   go_wp2_with fail
   refine bodyPost_ret (v:=.slice (some ⟨g,0,none⟩) 256 256) ?_ rfl ⟨HK.out,g,rfl,hg,.inr ⟨HO.out,at_+2,by omega,HN.out⟩⟩
   simp [results,Tryz.results43,go_sem]
 ·have HO:=hide (show rdOne p at_=some (fun c:Nat=>decide ((c:Int)=hb p at_),at_+1) by rw [rdOne,if_neg h91,if_neg h46,if_neg h37])
  have d0:w2.cell? ⟨g,(hb p at_).toNat,none⟩=some (.bool false):=RowF.cell HSet.out (j:=(hb p at_).toNat) (by omega)
  have e0:w2.frozen? ⟨g,(hb p at_).toNat,none⟩=false:=RowF.frz HSet.out (hb p at_).toNat
  have HSet:=hide ((SetF.put HSet.out (j:=(hb p at_).toNat) (by omega)).congr (f':=fun c:Nat=>decide ((c:Int)=hb p at_)) fun j hj=>by rw [show decide ((j:Int)=hb p at_)=decide (j=(hb p at_).toNat) from decide_eq_decide.2 (by omega)];simp)
  have HRd:=hide (RdB.keep HRd.out ((Keeps.refl w2 (fun b=>b=g)).setCell (g:=g) (j:=(hb p at_).toNat) rfl (.bool true)) (by omega))
  have HKw:=hide (HKw.out.past (g:=g) (j:=(hb p at_).toNat) hg (.bool true))
  have c2:(w2.setCell ⟨g,(hb p at_).toNat,none⟩ (.bool true)).cell? ⟨R,1,none⟩=some (.int .i64 at_):=RowF.cell HRd.out (j:=1) (by omega)
  have z2:(w2.setCell ⟨g,(hb p at_).toNat,none⟩ (.bool true)).frozen? ⟨R,1,none⟩=false:=RowF.frz HRd.out 1
  have HN:=hide (RdB.pos (at':=at_+1) HRd.out)
  have HS:=hide (SetF.keep HSet.out ((Keeps.refl (w2.setCell ⟨g,(hb p at_).toNat,none⟩ (.bool true)) (fun b=>b=R)).setCell (g:=R) (j:=1) rfl (.int .i64 ((at_+1:Nat):Int))) (by omega))
  have HK:=hide (HKw.out.setCell (S:=fun b=>b=R) (g:=R) (j:=1) rfl (.int .i64 ((at_+1:Nat):Int)))
  rw [show ((at_+1:Nat):Int)=(at_:Int)+1 by omega] at HN HS HK
  clear c1 z1 HRd HSet HKw
  go_wp2_with fail
  refine bodyPost_ret (v:=.slice (some ⟨g,0,none⟩) 256 256) ?_ rfl ⟨HK.out,g,rfl,hg,.inl ⟨_,at_+1,HO.out,HN.out,HS.out,by omega⟩⟩
  simp [results,Tryz.results43,go_sem]
end Go.Proofs.YtlgodacccilabaaGreatDoor
