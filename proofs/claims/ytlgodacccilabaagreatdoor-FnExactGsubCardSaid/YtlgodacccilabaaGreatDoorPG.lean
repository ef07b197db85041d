import Derived.Test.YtlgodacccilabaaGreatDoorJPF
namespace Go.Proofs.YtlgodacccilabaaGreatDoor
open Go Go.RowKit
set_option linter.unusedVariables false
theorem here_in (R:Nat) (p:ByteArray) (at_ d:Nat) (bad:Bool) (vi vo vd:Value) (w:World) (ha:at_≤100000) (hd:d≤10) (hs:p.size≤100000) (h:RdB w R p at_ bad vi vo vd) (hi:at_+d<p.size):
 Calls Tryz.prog 41 #[.pointer (some ⟨R,0,none⟩),.int .i64 d] w fun e w'=>e=.returned (.tuple #[.int .u8 (hb p (at_+d)),.bool true])∧Keeps w w' (fun _=>False):=by
 have:=here_any R p at_ d bad vi vo vd w ha hd hs h
 rw [decide_eq_true hi] at this
 exact this
theorem here_out (R:Nat) (p:ByteArray) (at_ d:Nat) (bad:Bool) (vi vo vd:Value) (w:World) (ha:at_≤100000) (hd:d≤10) (hs:p.size≤100000) (h:RdB w R p at_ bad vi vo vd) (hi:¬ at_+d<p.size):
 Calls Tryz.prog 41 #[.pointer (some ⟨R,0,none⟩),.int .i64 d] w fun e w'=>e=.returned (.tuple #[.int .u8 0,.bool false])∧Keeps w w' (fun _=>False):=by
 have:=here_any R p at_ d bad vi vo vd w ha hd hs h
 rw [decide_eq_false hi,hb_out (by omega)] at this
 exact this
def SetR (R:Nat) (p:ByteArray) (vi vo vd:Value) (r:Option ((Nat→Bool) × Nat)) (w:World) (e:Ending) (w':World):Prop:=
 Keeps w w' (fun b=>b=R)∧∃ g,e=.returned (.slice (some ⟨g,0,none⟩) 256 256)∧w.heap.size≤g∧((∃ f q,r=some (f,q)∧RdB w' R p q false vi vo vd∧SetF w' g f∧q≤p.size)∨(r=none∧∃ q,q≤100000∧RdB w' R p q true vi vo vd))
theorem setL_end {p:ByteArray} {k q:Nat} {f:Nat→Bool} {b:Bool} (h:¬ q<p.size):setL p (k+1) f q b=none:=by rw [setL,if_pos h]
theorem setL_shut {p:ByteArray} {k q:Nat} {f:Nat→Bool} (h:q<p.size) (h1:hb p q=93):setL p (k+1) f q false=some (f,q+1):=by
 rw [setL,if_neg (by omega),if_pos ⟨h1,rfl⟩]
theorem setL_esc {p:ByteArray} {k q:Nat} {f:Nat→Bool} {b:Bool} (h:q+1<p.size) (h1:hb p q=37) (h2:escOk (hb p (q+1))=true):setL p (k+1) f q b=setL p k (fun c=>f c||escIn (hb p (q+1)) c) (q+2) false:=by
 rw [setL,if_neg (by omega),if_neg (by omega),if_pos h1,if_pos ⟨h,h2⟩]
theorem setL_bad {p:ByteArray} {k q:Nat} {f:Nat→Bool} {b:Bool} (h:q<p.size) (h1:hb p q=37) (h2:¬ (q+1<p.size∧escOk (hb p (q+1))=true)):setL p (k+1) f q b=none:=by
 rw [setL,if_neg (by omega),if_neg (by omega),if_pos h1,if_neg h2]
theorem setL_to {p:ByteArray} {k q:Nat} {f:Nat→Bool} {b:Bool} (h0:hb p q≠93∨b=true) (h1:hb p q≠37) (h:q+2<p.size) (h2:hb p (q+1)=45) (h3:hb p (q+2)≠93) (h4:hb p (q+2)≠37):setL p (k+1) f q b=setL p k (fun c=>f c||(decide (hb p q≤c)&&decide ((c:Int)≤hb p (q+2)))) (q+3) false:=by
 rw [setL,if_neg (by omega),if_neg (by rintro ⟨a,rfl⟩;rcases h0 with h|h;exact h a;cases h),if_neg h1,if_pos ⟨h,h2,h3,h4⟩]
theorem setL_one {p:ByteArray} {k q:Nat} {f:Nat→Bool} {b:Bool} (h0:hb p q≠93∨b=true) (h1:hb p q≠37) (h:q<p.size) (h2:¬ (q+2<p.size∧hb p (q+1)=45∧hb p (q+2)≠93∧hb p (q+2)≠37)):setL p (k+1) f q b=setL p k (fun c=>f c||decide ((c:Int)=hb p q)) (q+1) false:=by
 rw [setL,if_neg (by omega),if_neg (by rintro ⟨a,rfl⟩;rcases h0 with h|h;exact h a;cases h),if_neg h1,if_neg h2]
theorem Keeps.on {w w1 w2:World} {S S2:Nat→Prop} (h:Keeps w w1 S) (k:Keeps w1 w2 S2) (hS:∀ b,b<w.heap.size→S2 b→S b):Keeps w w2 S:=
 ⟨k.os.trans h.os,k.tape.trans h.tape,k.output.trans h.output,Nat.le_trans h.size k.size,fun b hb hn=>(k.block b (Nat.lt_of_lt_of_le hb h.size) (fun x=>hn (hS b hb x))).trans (h.block b hb hn)⟩
theorem rdSet_t {p:ByteArray} {a:Nat} (h:hb p (a+1)=94):rdSet p a=(setL p (p.size+1) (fun _=>false) (a+2) true).map (fun r=>(fun c=>!r.1 c,r.2)):=by rw [rdSet,if_pos h]
theorem rdSet_p {p:ByteArray} {a:Nat} (h:¬ hb p (a+1)=94):rdSet p a=setL p (p.size+1) (fun _=>false) (a+1) true:=by rw [rdSet,if_neg h]
def posOf (w:World) (R:Nat):Nat:=match w.cell? ⟨R,1,none⟩ with |some v=>ivN v|none=>0
theorem RdB.posOf {w:World} {R:Nat} {p:ByteArray} {at_:Nat} {bad:Bool} {vi vo vd:Value} (h:RdB w R p at_ bad vi vo vd):posOf w R=at_:=by
 unfold Go.Proofs.YtlgodacccilabaaGreatDoor.posOf
 rw [show w.cell? ⟨R,1,none⟩=some (.int .i64 at_) from RowF.cell h (j:=1) (by omega)]
 simp [ivN]
set_option maxHeartbeats 8000000 in
set_option maxRecDepth 100000 in
theorem set_plain (R:Nat) (p:ByteArray) (at_:Nat) (vi vo vd:Value) (w:World) (ha:at_<p.size) (hp:p.size≤200) (h94:¬ hb p (at_+1)=94) (h:RdB w R p at_ false vi vo vd):
 Calls Tryz.prog 42 #[.pointer (some ⟨R,0,none⟩)] w fun e w'=>SetR R p vi vo vd (rdSet p at_) w e w':=by
 obtain ⟨i0,hi,hz0,hz1,hz2⟩:=info_parts Tryz.info4
 have hRl:R<w.heap.size:=RowF.lt h
 have HR:=hide h
 clear h
 go_enter Tryz.func42,Tryz.ntmps42
 go_wp2_with (first
  |(at_make
    refine wpList_make_full _ rfl _ _ 34 rfl w.heap.size 4 i0 (.bool false) 1 Tryz.underlying34 hi hz0 hz1 _ _ _ _ 256 rfl rfl rfl rfl (by rw [hz2];omega) (by unfold maxLen;omega) (Nat.le_refl _) ?_
    intro w1 hown hgrow
    have HS0:=hide (show SetF w1 w.heap.size (fun _=>false) from made_row rfl hown)
    have hb1:Below w.heap.size w w1:=(Below.refl _ _).grown hgrow (Nat.le_refl _) (fun _ h=>by cases h)
    have HK0:=hide (Keeps.of hb1 (Nat.le_refl _) (fun b=>b=R))
    have HR1:=hide (RdB.keep HR.out (Keeps.of hb1 (Nat.le_refl _) (fun _=>False)) (fun x=>x))
    have c1:w1.cell? ⟨R,1,none⟩=some (.int .i64 at_):=RowF.cell HR1.out (j:=1) (by omega)
    have z1:w1.frozen? ⟨R,1,none⟩=false:=RowF.frz HR1.out 1
    clear hown hgrow hb1))
 have HRd:=hide (RdB.pos (at':=at_+1) HR1.out)
 have HSet:=hide (SetF.keep HS0.out ((Keeps.refl w1 (fun b=>b=R)).setCell (g:=R) (j:=1) rfl (.int .i64 ((at_+1:Nat):Int))) (by omega))
 have HKw:=hide (HK0.out.setCell (S:=fun b=>b=R) (g:=R) (j:=1) rfl (.int .i64 ((at_+1:Nat):Int)))
 rw [show ((at_+1:Nat):Int)=(at_:Int)+1 by omega] at HRd HSet HKw
 clear HR HS0 HK0 HR1 c1 z1
 generalize w1.setCell ⟨R,1,none⟩ (.int .i64 ((at_:Int)+1))=w1' at *
 obtain ⟨g,hgg⟩:∃ g,g=w.heap.size:=⟨_,rfl⟩
 rw [←hgg] at HSet ⊢
 have HNo:=hide (show setL p (p.size+1) (fun _=>false) (at_+1) true=none→rdSet p at_=none from fun h=>by rw [rdSet_p h94,h])
 have HYes:=hide (rdSet_p h94)
 have hg:w.heap.size≤g:=by omega
 have hgR:R≠g:=by omega
 clear hgg
 have h94b:(hb p (at_+1)==94)=false:=beq_eq_false_iff_ne.2 h94
 refine (here_any R p (at_+1) 0 false vi vo vd w1' (by omega) (by omega) (by omega) HRd.out).mono ?_
 rintro e w2 ⟨rfl,hk2⟩
 rw [Nat.add_zero]
 have HRd:=hide (RdB.keep HRd.out hk2 (fun x=>x))
 have HSet:=hide (SetF.keep HSet.out hk2 (fun x=>x))
 have HKw:=hide (HKw.out.on hk2 (fun b _ hb=>hb.elim))
 clear hk2
 go_wp2_with fail
 go_loopw [7] (fun fv wr=>∃ (q k:Nat) (f:Nat→Bool) (first:Bool),fv=.bool first∧q≤p.size∧p.size<k+q∧Hid (RdB wr R p q false vi vo vd)∧Hid (SetF wr g f)∧Hid (Keeps w wr (fun b=>b=R))∧Hid (setL p k f q first=setL p (p.size+1) (fun _=>false) (at_+1) true)) (fun _ wr=>p.size+1-posOf wr R)
 case atStart=>exact ⟨at_+1,p.size+1,fun _=>false,true,rfl,by omega,by omega,HRd,HSet,HKw,hide rfl⟩
 case round=>
  clear HRd HSet HKw
  obtain ⟨q,k0,f,first,rfl,hq1,hq2,HRd,HSet,HKw,HE⟩:=hrel
  have HRd0:=HRd
  obtain ⟨k,rfl⟩:∃ k,k0=k+1:=⟨k0-1,by omega⟩
  by_cases hq:q<p.size
  ·go_wp2_with fail
   refine (here_in R p q 0 false vi vo vd wr (by omega) (by omega) (by omega) HRd.out (by omega)).mono ?_
   rintro e w2 ⟨rfl,hk2⟩
   rw [Nat.add_zero]
   have HRd:=hide (RdB.keep HRd.out hk2 (fun x=>x))
   have HSet:=hide (SetF.keep HSet.out hk2 (fun x=>x))
   have HKw:=hide (HKw.out.on hk2 (fun b _ hb=>hb.elim))
   clear hk2
   by_cases h93:hb p q=93
   ·cases first with
    |false=>
     have HRES:=hide (HE.out.symm.trans (setL_shut hq h93))
     have c1:w2.cell? ⟨R,1,none⟩=some (.int .i64 q):=RowF.cell HRd.out (j:=1) (by omega)
     have z1:w2.frozen? ⟨R,1,none⟩=false:=RowF.frz HRd.out 1
     have HN:=hide (RdB.pos (at':=q+1) HRd.out)
     have HS:=hide (SetF.keep HSet.out ((Keeps.refl w2 (fun b=>b=R)).setCell (g:=R) (j:=1) rfl (.int .i64 ((q+1:Nat):Int))) (by omega))
     have HK:=hide (HKw.out.setCell (S:=fun b=>b=R) (g:=R) (j:=1) rfl (.int .i64 ((q+1:Nat):Int)))
     rw [show ((q+1:Nat):Int)=(q:Int)+1 by omega] at HN HS HK
     go_wp2_with fail
     refine bodyPost_ret (v:=.slice (some ⟨g,0,none⟩) 256 256) ?_ rfl ⟨HK.out,g,rfl,hg,.inl ⟨f,q+1,HYes.out.trans HRES.out,HN.out,HS.out,by omega⟩⟩
     simp [results,Tryz.results42,go_sem]
    |true=>
     have h93b:(hb p q==93)=true:=beq_iff_eq.2 h93
     have h37:¬ hb p q=37:=by omega
     have HX93:=hide h93
     clear h93
     have hcn0:=(hb_rng p q).1
     have hcn1:=(hb_rng p q).2
     by_cases hr2:q+2<p.size
     ·go_wp2_with fail
      refine (here_in R p q 1 false vi vo vd w2 (by omega) (by omega) (by omega) HRd.out (by omega)).mono ?_
      rintro e w3 ⟨rfl,hk3⟩
      have HRd:=hide (RdB.keep HRd.out hk3 (fun x=>x))
      have HSet:=hide (SetF.keep HSet.out hk3 (fun x=>x))
      have HKw:=hide (HKw.out.on hk3 (fun b _ hb=>hb.elim))
      clear hk3
      go_wp2_with fail
      refine (here_in R p q 2 false vi vo vd w3 (by omega) (by omega) (by omega) HRd.out (by omega)).mono ?_
      rintro e w4 ⟨rfl,hk4⟩
      have HRd:=hide (RdB.keep HRd.out hk4 (fun x=>x))
      have HSet:=hide (SetF.keep HSet.out hk4 (fun x=>x))
      have HKw:=hide (HKw.out.on hk4 (fun b _ hb=>hb.elim))
      clear hk4
      by_cases hd:hb p (q+1)=45
      ·by_cases he:hb p (q+2)=93
       ·have HE2:=hide ((setL_one (k:=k) (f:=f) (b:=true) (.inr rfl) h37 hq (by rintro ⟨_,_,a,_⟩;exact a he)).symm.trans HE.out)
        have d0:w4.cell? ⟨g,(hb p q).toNat,none⟩=some (.bool (f (hb p q).toNat)):=RowF.cell HSet.out (j:=(hb p q).toNat) (by omega)
        have e0:w4.frozen? ⟨g,(hb p q).toNat,none⟩=false:=RowF.frz HSet.out (hb p q).toNat
        have HSet:=hide ((SetF.put HSet.out (j:=(hb p q).toNat) (by omega)).congr (f':=fun c=>f c||decide ((c:Int)=hb p q)) fun j hj=>by rw [show decide ((j:Int)=hb p q)=decide (j=(hb p q).toNat) from decide_eq_decide.2 (by omega)])
        have HRd:=hide (RdB.keep HRd.out ((Keeps.refl w4 (fun b=>b=g)).setCell (g:=g) (j:=(hb p q).toNat) rfl (.bool true)) (by omega))
        have HKw:=hide (HKw.out.past (g:=g) (j:=(hb p q).toNat) hg (.bool true))
        have c1:(w4.setCell ⟨g,(hb p q).toNat,none⟩ (.bool true)).cell? ⟨R,1,none⟩=some (.int .i64 q):=RowF.cell HRd.out (j:=1) (by omega)
        have z1:(w4.setCell ⟨g,(hb p q).toNat,none⟩ (.bool true)).frozen? ⟨R,1,none⟩=false:=RowF.frz HRd.out 1
        have HN:=hide (RdB.pos (at':=q+1) HRd.out)
        have HS:=hide (SetF.keep HSet.out ((Keeps.refl (w4.setCell ⟨g,(hb p q).toNat,none⟩ (.bool true)) (fun b=>b=R)).setCell (g:=R) (j:=1) rfl (.int .i64 ((q+1:Nat):Int))) (by omega))
        have HK:=hide (HKw.out.setCell (S:=fun b=>b=R) (g:=R) (j:=1) rfl (.int .i64 ((q+1:Nat):Int)))
        rw [show ((q+1:Nat):Int)=(q:Int)+1 by omega] at HN HS HK
        clear HRd HSet HKw HE
        go_wp2_with fail
        go_roundw
        case rel=>exact ⟨q+1,k,_,false,rfl,by omega,by omega,HN,HS,HK,HE2⟩
        case measure=>rw [RdB.posOf HN.out,RdB.posOf HRd0.out];omega
       ·by_cases hf:hb p (q+2)=37
        ·have HE2:=hide ((setL_one (k:=k) (f:=f) (b:=true) (.inr rfl) h37 hq (by rintro ⟨_,_,_,a⟩;exact a hf)).symm.trans HE.out)
         have d0:w4.cell? ⟨g,(hb p q).toNat,none⟩=some (.bool (f (hb p q).toNat)):=RowF.cell HSet.out (j:=(hb p q).toNat) (by omega)
         have e0:w4.frozen? ⟨g,(hb p q).toNat,none⟩=false:=RowF.frz HSet.out (hb p q).toNat
         have HSet:=hide ((SetF.put HSet.out (j:=(hb p q).toNat) (by omega)).congr (f':=fun c=>f c||decide ((c:Int)=hb p q)) fun j hj=>by rw [show decide ((j:Int)=hb p q)=decide (j=(hb p q).toNat) from decide_eq_decide.2 (by omega)])
         have HRd:=hide (RdB.keep HRd.out ((Keeps.refl w4 (fun b=>b=g)).setCell (g:=g) (j:=(hb p q).toNat) rfl (.bool true)) (by omega))
         have HKw:=hide (HKw.out.past (g:=g) (j:=(hb p q).toNat) hg (.bool true))
         have c1:(w4.setCell ⟨g,(hb p q).toNat,none⟩ (.bool true)).cell? ⟨R,1,none⟩=some (.int .i64 q):=RowF.cell HRd.out (j:=1) (by omega)
         have z1:(w4.setCell ⟨g,(hb p q).toNat,none⟩ (.bool true)).frozen? ⟨R,1,none⟩=false:=RowF.frz HRd.out 1
         have HN:=hide (RdB.pos (at':=q+1) HRd.out)
         have HS:=hide (SetF.keep HSet.out ((Keeps.refl (w4.setCell ⟨g,(hb p q).toNat,none⟩ (.bool true)) (fun b=>b=R)).setCell (g:=R) (j:=1) rfl (.int .i64 ((q+1:Nat):Int))) (by omega))
         have HK:=hide (HKw.out.setCell (S:=fun b=>b=R) (g:=R) (j:=1) rfl (.int .i64 ((q+1:Nat):Int)))
         rw [show ((q+1:Nat):Int)=(q:Int)+1 by omega] at HN HS HK
         clear HRd HSet HKw HE
         go_wp2_with fail
         go_roundw
         case rel=>exact ⟨q+1,k,_,false,rfl,by omega,by omega,HN,HS,HK,HE2⟩
         case measure=>rw [RdB.posOf HN.out,RdB.posOf HRd0.out];omega
        ·have heb:(hb p (q+2) !=93)=true:=by simp [he]
         have hfb:(hb p (q+2) !=37)=true:=by simp [hf]
         have hen0:=(hb_rng p (q+2)).1
         have hen1:=(hb_rng p (q+2)).2
         have HE2:=hide ((setL_to (k:=k) (f:=f) (b:=true) (.inr rfl) h37 (by omega) hd he hf).symm.trans HE.out)
         go_wp2_with fail
         go_loopw [14] (fun iv wi=>∃ i:Nat,(hb p q).toNat≤i∧i≤256∧(i≤(hb p (q+2)).toNat+1∨i=(hb p q).toNat)∧iv=.int .i64 i∧Hid (RdB wi R p q false vi vo vd)∧Hid (SetF wi g (fun c=>f c||(decide ((hb p q).toNat≤c)&&decide (c<i))))∧Hid (Keeps w wi (fun b=>b=R))) (fun iv _=>257-ivN iv)
         case atStart=>exact ⟨(hb p q).toNat,Nat.le_refl _,by omega,.inr rfl,by rw [Int.toNat_of_nonneg hcn0],HRd,hide (HSet.out.congr fun j hj=>by simp;omega),HKw⟩
         case round=>
          clear HRd HSet HKw
          obtain ⟨i,hi1,hi2,hi3,rfl,HRd,HSet,HKw⟩:=hrel
          by_cases hin:(i:Int)≤hb p (q+2)
          ·have d0:=RowF.cell HSet.out (j:=i) (by omega)
           have e0:=RowF.frz HSet.out i
           have HSx:=hide ((SetF.put HSet.out (j:=i) (by omega)).congr (f':=fun c=>f c||(decide ((hb p q).toNat≤c)&&decide (c<i+1))) fun j hj=>by
            cases f j
            ·rw [Bool.eq_iff_iff]
             simp
             omega
            ·simp)
           have HRx:=hide (RdB.keep HRd.out ((Keeps.refl wr (fun b=>b=g)).setCell (g:=g) (j:=i) rfl (.bool true)) (by omega))
           have HKx:=hide (HKw.out.past (g:=g) (j:=i) hg (.bool true))
           clear HSet HRd HKw
           go_wp2_with fail
           go_roundw
           case rel=>exact ⟨i+1,by omega,by omega,.inl (by omega),by simp,HRx,HSx,HKx⟩
           case measure=>show 257-ivN (.int .i64 _)<257-ivN (.int .i64 _);simp [ivN];omega
          ·have HSet:=hide (HSet.out.congr (f':=fun c=>f c||(decide (hb p q≤c)&&decide ((c:Int)≤hb p (q+2)))) fun j hj=>by
            cases f j
            ·rw [Bool.eq_iff_iff]
             simp
             omega
            ·simp)
           have c1:wr.cell? ⟨R,1,none⟩=some (.int .i64 q):=RowF.cell HRd.out (j:=1) (by omega)
           have z1:wr.frozen? ⟨R,1,none⟩=false:=RowF.frz HRd.out 1
           have HN:=hide (RdB.pos (at':=q+3) HRd.out)
           have HS:=hide (SetF.keep HSet.out ((Keeps.refl wr (fun b=>b=R)).setCell (g:=R) (j:=1) rfl (.int .i64 ((q+3:Nat):Int))) (by omega))
           have HK:=hide (HKw.out.setCell (S:=fun b=>b=R) (g:=R) (j:=1) rfl (.int .i64 ((q+3:Nat):Int)))
           rw [show ((q+3:Nat):Int)=(q:Int)+3 by omega] at HN HS HK
           clear HRd HSet HKw HE
           go_wp2_with fail
           go_roundw
           case rel=>exact ⟨q+3,k,_,false,rfl,by omega,by omega,HN,HS,HK,HE2⟩
           case measure=>rw [RdB.posOf HN.out,RdB.posOf HRd0.out];omega
      ·have HE2:=hide ((setL_one (k:=k) (f:=f) (b:=true) (.inr rfl) h37 hq (by rintro ⟨_,a,_⟩;exact hd a)).symm.trans HE.out)
       have d0:w4.cell? ⟨g,(hb p q).toNat,none⟩=some (.bool (f (hb p q).toNat)):=RowF.cell HSet.out (j:=(hb p q).toNat) (by omega)
       have e0:w4.frozen? ⟨g,(hb p q).toNat,none⟩=false:=RowF.frz HSet.out (hb p q).toNat
       have HSet:=hide ((SetF.put HSet.out (j:=(hb p q).toNat) (by omega)).congr (f':=fun c=>f c||decide ((c:Int)=hb p q)) fun j hj=>by rw [show decide ((j:Int)=hb p q)=decide (j=(hb p q).toNat) from decide_eq_decide.2 (by omega)])
       have HRd:=hide (RdB.keep HRd.out ((Keeps.refl w4 (fun b=>b=g)).setCell (g:=g) (j:=(hb p q).toNat) rfl (.bool true)) (by omega))
       have HKw:=hide (HKw.out.past (g:=g) (j:=(hb p q).toNat) hg (.bool true))
       have c1:(w4.setCell ⟨g,(hb p q).toNat,none⟩ (.bool true)).cell? ⟨R,1,none⟩=some (.int .i64 q):=RowF.cell HRd.out (j:=1) (by omega)
       have z1:(w4.setCell ⟨g,(hb p q).toNat,none⟩ (.bool true)).frozen? ⟨R,1,none⟩=false:=RowF.frz HRd.out 1
       have HN:=hide (RdB.pos (at':=q+1) HRd.out)
       have HS:=hide (SetF.keep HSet.out ((Keeps.refl (w4.setCell ⟨g,(hb p q).toNat,none⟩ (.bool true)) (fun b=>b=R)).setCell (g:=R) (j:=1) rfl (.int .i64 ((q+1:Nat):Int))) (by omega))
       have HK:=hide (HKw.out.setCell (S:=fun b=>b=R) (g:=R) (j:=1) rfl (.int .i64 ((q+1:Nat):Int)))
       rw [show ((q+1:Nat):Int)=(q:Int)+1 by omega] at HN HS HK
       clear HRd HSet HKw HE
       go_wp2_with fail
       go_roundw
       case rel=>exact ⟨q+1,k,_,false,rfl,by omega,by omega,HN,HS,HK,HE2⟩
       case measure=>rw [RdB.posOf HN.out,RdB.posOf HRd0.out];omega
     ·by_cases hr1:q+1<p.size
      ·go_wp2_with fail
       refine (here_in R p q 1 false vi vo vd w2 (by omega) (by omega) (by omega) HRd.out (by omega)).mono ?_
       rintro e w3 ⟨rfl,hk3⟩
       have HRd:=hide (RdB.keep HRd.out hk3 (fun x=>x))
       have HSet:=hide (SetF.keep HSet.out hk3 (fun x=>x))
       have HKw:=hide (HKw.out.on hk3 (fun b _ hb=>hb.elim))
       clear hk3
       go_wp2_with fail
       refine (here_out R p q 2 false vi vo vd w3 (by omega) (by omega) (by omega) HRd.out (by omega)).mono ?_
       rintro e w4 ⟨rfl,hk4⟩
       have HRd:=hide (RdB.keep HRd.out hk4 (fun x=>x))
       have HSet:=hide (SetF.keep HSet.out hk4 (fun x=>x))
       have HKw:=hide (HKw.out.on hk4 (fun b _ hb=>hb.elim))
       clear hk4
       have HE2:=hide ((setL_one (k:=k) (f:=f) (b:=true) (.inr rfl) h37 hq (by omega)).symm.trans HE.out)
       have d0:w4.cell? ⟨g,(hb p q).toNat,none⟩=some (.bool (f (hb p q).toNat)):=RowF.cell HSet.out (j:=(hb p q).toNat) (by omega)
       have e0:w4.frozen? ⟨g,(hb p q).toNat,none⟩=false:=RowF.frz HSet.out (hb p q).toNat
       have HSet:=hide ((SetF.put HSet.out (j:=(hb p q).toNat) (by omega)).congr (f':=fun c=>f c||decide ((c:Int)=hb p q)) fun j hj=>by rw [show decide ((j:Int)=hb p q)=decide (j=(hb p q).toNat) from decide_eq_decide.2 (by omega)])
       have HRd:=hide (RdB.keep HRd.out ((Keeps.refl w4 (fun b=>b=g)).setCell (g:=g) (j:=(hb p q).toNat) rfl (.bool true)) (by omega))
       have HKw:=hide (HKw.out.past (g:=g) (j:=(hb p q).toNat) hg (.bool true))
       have c1:(w4.setCell ⟨g,(hb p q).toNat,none⟩ (.bool true)).cell? ⟨R,1,none⟩=some (.int .i64 q):=RowF.cell HRd.out (j:=1) (by omega)
       have z1:(w4.setCell ⟨g,(hb p q).toNat,none⟩ (.bool true)).frozen? ⟨R,1,none⟩=false:=RowF.frz HRd.out 1
       have HN:=hide (RdB.pos (at':=q+1) HRd.out)
       have HS:=hide (SetF.keep HSet.out ((Keeps.refl (w4.setCell ⟨g,(hb p q).toNat,none⟩ (.bool true)) (fun b=>b=R)).setCell (g:=R) (j:=1) rfl (.int .i64 ((q+1:Nat):Int))) (by omega))
       have HK:=hide (HKw.out.setCell (S:=fun b=>b=R) (g:=R) (j:=1) rfl (.int .i64 ((q+1:Nat):Int)))
       rw [show ((q+1:Nat):Int)=(q:Int)+1 by omega] at HN HS HK
       clear HRd HSet HKw HE
       go_wp2_with fail
       go_roundw
       case rel=>exact ⟨q+1,k,_,false,rfl,by omega,by omega,HN,HS,HK,HE2⟩
       case measure=>rw [RdB.posOf HN.out,RdB.posOf HRd0.out];omega
      ·go_wp2_with fail
       refine (here_out R p q 1 false vi vo vd w2 (by omega) (by omega) (by omega) HRd.out (by omega)).mono ?_
       rintro e w3 ⟨rfl,hk3⟩
       have HRd:=hide (RdB.keep HRd.out hk3 (fun x=>x))
       have HSet:=hide (SetF.keep HSet.out hk3 (fun x=>x))
       have HKw:=hide (HKw.out.on hk3 (fun b _ hb=>hb.elim))
       clear hk3
       go_wp2_with fail
       refine (here_out R p q 2 false vi vo vd w3 (by omega) (by omega) (by omega) HRd.out (by omega)).mono ?_
       rintro e w4 ⟨rfl,hk4⟩
       have HRd:=hide (RdB.keep HRd.out hk4 (fun x=>x))
       have HSet:=hide (SetF.keep HSet.out hk4 (fun x=>x))
       have HKw:=hide (HKw.out.on hk4 (fun b _ hb=>hb.elim))
       clear hk4
       have HE2:=hide ((setL_one (k:=k) (f:=f) (b:=true) (.inr rfl) h37 hq (by omega)).symm.trans HE.out)
       have d0:w4.cell? ⟨g,(hb p q).toNat,none⟩=some (.bool (f (hb p q).toNat)):=RowF.cell HSet.out (j:=(hb p q).toNat) (by omega)
       have e0:w4.frozen? ⟨g,(hb p q).toNat,none⟩=false:=RowF.frz HSet.out (hb p q).toNat
       have HSet:=hide ((SetF.put HSet.out (j:=(hb p q).toNat) (by omega)).congr (f':=fun c=>f c||decide ((c:Int)=hb p q)) fun j hj=>by rw [show decide ((j:Int)=hb p q)=decide (j=(hb p q).toNat) from decide_eq_decide.2 (by omega)])
       have HRd:=hide (RdB.keep HRd.out ((Keeps.refl w4 (fun b=>b=g)).setCell (g:=g) (j:=(hb p q).toNat) rfl (.bool true)) (by omega))
       have HKw:=hide (HKw.out.past (g:=g) (j:=(hb p q).toNat) hg (.bool true))
       have c1:(w4.setCell ⟨g,(hb p q).toNat,none⟩ (.bool true)).cell? ⟨R,1,none⟩=some (.int .i64 q):=RowF.cell HRd.out (j:=1) (by omega)
       have z1:(w4.setCell ⟨g,(hb p q).toNat,none⟩ (.bool true)).frozen? ⟨R,1,none⟩=false:=RowF.frz HRd.out 1
       have HN:=hide (RdB.pos (at':=q+1) HRd.out)
       have HS:=hide (SetF.keep HSet.out ((Keeps.refl (w4.setCell ⟨g,(hb p q).toNat,none⟩ (.bool true)) (fun b=>b=R)).setCell (g:=R) (j:=1) rfl (.int .i64 ((q+1:Nat):Int))) (by omega))
       have HK:=hide (HKw.out.setCell (S:=fun b=>b=R) (g:=R) (j:=1) rfl (.int .i64 ((q+1:Nat):Int)))
       rw [show ((q+1:Nat):Int)=(q:Int)+1 by omega] at HN HS HK
       clear HRd HSet HKw HE
       go_wp2_with fail
       go_roundw
       case rel=>exact ⟨q+1,k,_,false,rfl,by omega,by omega,HN,HS,HK,HE2⟩
       case measure=>rw [RdB.posOf HN.out,RdB.posOf HRd0.out];omega
   ·have H93:=hide (show hb p q≠93∨first=true from .inl h93)
    have hcn0:=(hb_rng p q).1
    have hcn1:=(hb_rng p q).2
    by_cases hr2:q+2<p.size
    ·go_wp2_with fail
     refine (here_in R p q 1 false vi vo vd w2 (by omega) (by omega) (by omega) HRd.out (by omega)).mono ?_
     rintro e w3 ⟨rfl,hk3⟩
     have HRd:=hide (RdB.keep HRd.out hk3 (fun x=>x))
     have HSet:=hide (SetF.keep HSet.out hk3 (fun x=>x))
     have HKw:=hide (HKw.out.on hk3 (fun b _ hb=>hb.elim))
     clear hk3
     go_wp2_with fail
     refine (here_in R p q 2 false vi vo vd w3 (by omega) (by omega) (by omega) HRd.out (by omega)).mono ?_
     rintro e w4 ⟨rfl,hk4⟩
     have HRd:=hide (RdB.keep HRd.out hk4 (fun x=>x))
     have HSet:=hide (SetF.keep HSet.out hk4 (fun x=>x))
     have HKw:=hide (HKw.out.on hk4 (fun b _ hb=>hb.elim))
     clear hk4
     by_cases h37:hb p q=37
     ·have hdn:=hb_rng p (q+1)
      go_wp2_with fail
      refine (escape_any g f (hb p (q+1)) w4 hdn.1 hdn.2 HSet.out).mono ?_
      rintro e w5 ⟨rfl,hk5,hs5⟩
      have HRd:=hide (RdB.keep HRd.out hk5 (by omega))
      have HKw:=hide (HKw.out.on hk5 (fun b hb hb2=>by omega))
      clear hk5 HSet
      cases hok:escOk (hb p (q+1)) with
      |true=>
       have HSet:=hide (hs5 hok)
       clear hs5
       have HE2:=hide ((setL_esc (k:=k) (f:=f) (b:=first) (by omega) h37 hok).symm.trans HE.out)
       have c1:w5.cell? ⟨R,1,none⟩=some (.int .i64 q):=RowF.cell HRd.out (j:=1) (by omega)
       have z1:w5.frozen? ⟨R,1,none⟩=false:=RowF.frz HRd.out 1
       have HN:=hide (RdB.pos (at':=q+2) HRd.out)
       have HS:=hide (SetF.keep HSet.out ((Keeps.refl w5 (fun b=>b=R)).setCell (g:=R) (j:=1) rfl (.int .i64 ((q+2:Nat):Int))) (by omega))
       have HK:=hide (HKw.out.setCell (S:=fun b=>b=R) (g:=R) (j:=1) rfl (.int .i64 ((q+2:Nat):Int)))
       rw [show ((q+2:Nat):Int)=(q:Int)+2 by omega] at HN HS HK
       clear HRd HSet HKw HE
       go_wp2_with fail
       go_roundw
       case rel=>exact ⟨q+2,k,_,false,rfl,by omega,by omega,HN,HS,HK,HE2⟩
       case measure=>rw [RdB.posOf HN.out,RdB.posOf HRd0.out];omega
      |false=>
       clear hs5
       have HRES:=hide (HE.out.symm.trans (setL_bad (k:=k) (f:=f) (b:=first) hq h37 (by rw [hok];simp)))
       have c2:w5.cell? ⟨R,2,none⟩=some (.bool false):=RowF.cell HRd.out (j:=2) (by omega)
       have z2:w5.frozen? ⟨R,2,none⟩=false:=RowF.frz HRd.out 2
       have HB:=hide (RdB.isBad HRd.out)
       have HK:=hide (HKw.out.setCell (S:=fun b=>b=R) (g:=R) (j:=2) rfl (.bool true))
       go_wp2_with fail
       refine bodyPost_ret (v:=.slice (some ⟨g,0,none⟩) 256 256) ?_ rfl ⟨HK.out,g,rfl,hg,.inr ⟨HNo.out HRES.out,q,by omega,HB.out⟩⟩
       simp [results,Tryz.results42,go_sem]
     ·by_cases hd:hb p (q+1)=45
      ·by_cases he:hb p (q+2)=93
       ·have HE2:=hide ((setL_one (k:=k) (f:=f) (b:=first) H93.out h37 hq (by rintro ⟨_,_,a,_⟩;exact a he)).symm.trans HE.out)
        have d0:w4.cell? ⟨g,(hb p q).toNat,none⟩=some (.bool (f (hb p q).toNat)):=RowF.cell HSet.out (j:=(hb p q).toNat) (by omega)
        have e0:w4.frozen? ⟨g,(hb p q).toNat,none⟩=false:=RowF.frz HSet.out (hb p q).toNat
        have HSet:=hide ((SetF.put HSet.out (j:=(hb p q).toNat) (by omega)).congr (f':=fun c=>f c||decide ((c:Int)=hb p q)) fun j hj=>by rw [show decide ((j:Int)=hb p q)=decide (j=(hb p q).toNat) from decide_eq_decide.2 (by omega)])
        have HRd:=hide (RdB.keep HRd.out ((Keeps.refl w4 (fun b=>b=g)).setCell (g:=g) (j:=(hb p q).toNat) rfl (.bool true)) (by omega))
        have HKw:=hide (HKw.out.past (g:=g) (j:=(hb p q).toNat) hg (.bool true))
        have c1:(w4.setCell ⟨g,(hb p q).toNat,none⟩ (.bool true)).cell? ⟨R,1,none⟩=some (.int .i64 q):=RowF.cell HRd.out (j:=1) (by omega)
        have z1:(w4.setCell ⟨g,(hb p q).toNat,none⟩ (.bool true)).frozen? ⟨R,1,none⟩=false:=RowF.frz HRd.out 1
        have HN:=hide (RdB.pos (at':=q+1) HRd.out)
        have HS:=hide (SetF.keep HSet.out ((Keeps.refl (w4.setCell ⟨g,(hb p q).toNat,none⟩ (.bool true)) (fun b=>b=R)).setCell (g:=R) (j:=1) rfl (.int .i64 ((q+1:Nat):Int))) (by omega))
        have HK:=hide (HKw.out.setCell (S:=fun b=>b=R) (g:=R) (j:=1) rfl (.int .i64 ((q+1:Nat):Int)))
        rw [show ((q+1:Nat):Int)=(q:Int)+1 by omega] at HN HS HK
        clear HRd HSet HKw HE
        go_wp2_with fail
        go_roundw
        case rel=>exact ⟨q+1,k,_,false,rfl,by omega,by omega,HN,HS,HK,HE2⟩
        case measure=>rw [RdB.posOf HN.out,RdB.posOf HRd0.out];omega
       ·by_cases hf:hb p (q+2)=37
        ·have HE2:=hide ((setL_one (k:=k) (f:=f) (b:=first) H93.out h37 hq (by rintro ⟨_,_,_,a⟩;exact a hf)).symm.trans HE.out)
         have d0:w4.cell? ⟨g,(hb p q).toNat,none⟩=some (.bool (f (hb p q).toNat)):=RowF.cell HSet.out (j:=(hb p q).toNat) (by omega)
         have e0:w4.frozen? ⟨g,(hb p q).toNat,none⟩=false:=RowF.frz HSet.out (hb p q).toNat
         have HSet:=hide ((SetF.put HSet.out (j:=(hb p q).toNat) (by omega)).congr (f':=fun c=>f c||decide ((c:Int)=hb p q)) fun j hj=>by rw [show decide ((j:Int)=hb p q)=decide (j=(hb p q).toNat) from decide_eq_decide.2 (by omega)])
         have HRd:=hide (RdB.keep HRd.out ((Keeps.refl w4 (fun b=>b=g)).setCell (g:=g) (j:=(hb p q).toNat) rfl (.bool true)) (by omega))
         have HKw:=hide (HKw.out.past (g:=g) (j:=(hb p q).toNat) hg (.bool true))
         have c1:(w4.setCell ⟨g,(hb p q).toNat,none⟩ (.bool true)).cell? ⟨R,1,none⟩=some (.int .i64 q):=RowF.cell HRd.out (j:=1) (by omega)
         have z1:(w4.setCell ⟨g,(hb p q).toNat,none⟩ (.bool true)).frozen? ⟨R,1,none⟩=false:=RowF.frz HRd.out 1
         have HN:=hide (RdB.pos (at':=q+1) HRd.out)
         have HS:=hide (SetF.keep HSet.out ((Keeps.refl (w4.setCell ⟨g,(hb p q).toNat,none⟩ (.bool true)) (fun b=>b=R)).setCell (g:=R) (j:=1) rfl (.int .i64 ((q+1:Nat):Int))) (by omega))
         have HK:=hide (HKw.out.setCell (S:=fun b=>b=R) (g:=R) (j:=1) rfl (.int .i64 ((q+1:Nat):Int)))
         rw [show ((q+1:Nat):Int)=(q:Int)+1 by omega] at HN HS HK
         clear HRd HSet HKw HE
         go_wp2_with fail
         go_roundw
         case rel=>exact ⟨q+1,k,_,false,rfl,by omega,by omega,HN,HS,HK,HE2⟩
         case measure=>rw [RdB.posOf HN.out,RdB.posOf HRd0.out];omega
        ·have heb:(hb p (q+2) !=93)=true:=by simp [he]
         have hfb:(hb p (q+2) !=37)=true:=by simp [hf]
         have hen0:=(hb_rng p (q+2)).1
         have hen1:=(hb_rng p (q+2)).2
         have HE2:=hide ((setL_to (k:=k) (f:=f) (b:=first) H93.out h37 (by omega) hd he hf).symm.trans HE.out)
         go_wp2_with fail
         go_loopw [14] (fun iv wi=>∃ i:Nat,(hb p q).toNat≤i∧i≤256∧(i≤(hb p (q+2)).toNat+1∨i=(hb p q).toNat)∧iv=.int .i64 i∧Hid (RdB wi R p q false vi vo vd)∧Hid (SetF wi g (fun c=>f c||(decide ((hb p q).toNat≤c)&&decide (c<i))))∧Hid (Keeps w wi (fun b=>b=R))) (fun iv _=>257-ivN iv)
         case atStart=>exact ⟨(hb p q).toNat,Nat.le_refl _,by omega,.inr rfl,by rw [Int.toNat_of_nonneg hcn0],HRd,hide (HSet.out.congr fun j hj=>by simp;omega),HKw⟩
         case round=>
          clear HRd HSet HKw
          obtain ⟨i,hi1,hi2,hi3,rfl,HRd,HSet,HKw⟩:=hrel
          by_cases hin:(i:Int)≤hb p (q+2)
          ·have d0:=RowF.cell HSet.out (j:=i) (by omega)
           have e0:=RowF.frz HSet.out i
           have HSx:=hide ((SetF.put HSet.out (j:=i) (by omega)).congr (f':=fun c=>f c||(decide ((hb p q).toNat≤c)&&decide (c<i+1))) fun j hj=>by
            cases f j
            ·rw [Bool.eq_iff_iff]
             simp
             omega
            ·simp)
           have HRx:=hide (RdB.keep HRd.out ((Keeps.refl wr (fun b=>b=g)).setCell (g:=g) (j:=i) rfl (.bool true)) (by omega))
           have HKx:=hide (HKw.out.past (g:=g) (j:=i) hg (.bool true))
           clear HSet HRd HKw
           go_wp2_with fail
           go_roundw
           case rel=>exact ⟨i+1,by omega,by omega,.inl (by omega),by simp,HRx,HSx,HKx⟩
           case measure=>show 257-ivN (.int .i64 _)<257-ivN (.int .i64 _);simp [ivN];omega
          ·have HSet:=hide (HSet.out.congr (f':=fun c=>f c||(decide (hb p q≤c)&&decide ((c:Int)≤hb p (q+2)))) fun j hj=>by
            cases f j
            ·rw [Bool.eq_iff_iff]
             simp
             omega
            ·simp)
           have c1:wr.cell? ⟨R,1,none⟩=some (.int .i64 q):=RowF.cell HRd.out (j:=1) (by omega)
           have z1:wr.frozen? ⟨R,1,none⟩=false:=RowF.frz HRd.out 1
           have HN:=hide (RdB.pos (at':=q+3) HRd.out)
           have HS:=hide (SetF.keep HSet.out ((Keeps.refl wr (fun b=>b=R)).setCell (g:=R) (j:=1) rfl (.int .i64 ((q+3:Nat):Int))) (by omega))
           have HK:=hide (HKw.out.setCell (S:=fun b=>b=R) (g:=R) (j:=1) rfl (.int .i64 ((q+3:Nat):Int)))
           rw [show ((q+3:Nat):Int)=(q:Int)+3 by omega] at HN HS HK
           clear HRd HSet HKw HE
           go_wp2_with fail
           go_roundw
           case rel=>exact ⟨q+3,k,_,false,rfl,by omega,by omega,HN,HS,HK,HE2⟩
           case measure=>rw [RdB.posOf HN.out,RdB.posOf HRd0.out];omega
      ·have HE2:=hide ((setL_one (k:=k) (f:=f) (b:=first) H93.out h37 hq (by rintro ⟨_,a,_⟩;exact hd a)).symm.trans HE.out)
       have d0:w4.cell? ⟨g,(hb p q).toNat,none⟩=some (.bool (f (hb p q).toNat)):=RowF.cell HSet.out (j:=(hb p q).toNat) (by omega)
       have e0:w4.frozen? ⟨g,(hb p q).toNat,none⟩=false:=RowF.frz HSet.out (hb p q).toNat
       have HSet:=hide ((SetF.put HSet.out (j:=(hb p q).toNat) (by omega)).congr (f':=fun c=>f c||decide ((c:Int)=hb p q)) fun j hj=>by rw [show decide ((j:Int)=hb p q)=decide (j=(hb p q).toNat) from decide_eq_decide.2 (by omega)])
       have HRd:=hide (RdB.keep HRd.out ((Keeps.refl w4 (fun b=>b=g)).setCell (g:=g) (j:=(hb p q).toNat) rfl (.bool true)) (by omega))
       have HKw:=hide (HKw.out.past (g:=g) (j:=(hb p q).toNat) hg (.bool true))
       have c1:(w4.setCell ⟨g,(hb p q).toNat,none⟩ (.bool true)).cell? ⟨R,1,none⟩=some (.int .i64 q):=RowF.cell HRd.out (j:=1) (by omega)
       have z1:(w4.setCell ⟨g,(hb p q).toNat,none⟩ (.bool true)).frozen? ⟨R,1,none⟩=false:=RowF.frz HRd.out 1
       have HN:=hide (RdB.pos (at':=q+1) HRd.out)
       have HS:=hide (SetF.keep HSet.out ((Keeps.refl (w4.setCell ⟨g,(hb p q).toNat,none⟩ (.bool true)) (fun b=>b=R)).setCell (g:=R) (j:=1) rfl (.int .i64 ((q+1:Nat):Int))) (by omega))
       have HK:=hide (HKw.out.setCell (S:=fun b=>b=R) (g:=R) (j:=1) rfl (.int .i64 ((q+1:Nat):Int)))
       rw [show ((q+1:Nat):Int)=(q:Int)+1 by omega] at HN HS HK
       clear HRd HSet HKw HE
       go_wp2_with fail
       go_roundw
       case rel=>exact ⟨q+1,k,_,false,rfl,by omega,by omega,HN,HS,HK,HE2⟩
       case measure=>rw [RdB.posOf HN.out,RdB.posOf HRd0.out];omega
    ·by_cases hr1:q+1<p.size
     ·go_wp2_with fail
      refine (here_in R p q 1 false vi vo vd w2 (by omega) (by omega) (by omega) HRd.out (by omega)).mono ?_
      rintro e w3 ⟨rfl,hk3⟩
      have HRd:=hide (RdB.keep HRd.out hk3 (fun x=>x))
      have HSet:=hide (SetF.keep HSet.out hk3 (fun x=>x))
      have HKw:=hide (HKw.out.on hk3 (fun b _ hb=>hb.elim))
      clear hk3
      go_wp2_with fail
      refine (here_out R p q 2 false vi vo vd w3 (by omega) (by omega) (by omega) HRd.out (by omega)).mono ?_
      rintro e w4 ⟨rfl,hk4⟩
      have HRd:=hide (RdB.keep HRd.out hk4 (fun x=>x))
      have HSet:=hide (SetF.keep HSet.out hk4 (fun x=>x))
      have HKw:=hide (HKw.out.on hk4 (fun b _ hb=>hb.elim))
      clear hk4
      by_cases h37:hb p q=37
      ·have hdn:=hb_rng p (q+1)
       go_wp2_with fail
       refine (escape_any g f (hb p (q+1)) w4 hdn.1 hdn.2 HSet.out).mono ?_
       rintro e w5 ⟨rfl,hk5,hs5⟩
       have HRd:=hide (RdB.keep HRd.out hk5 (by omega))
       have HKw:=hide (HKw.out.on hk5 (fun b hb hb2=>by omega))
       clear hk5 HSet
       cases hok:escOk (hb p (q+1)) with
       |true=>
        have HSet:=hide (hs5 hok)
        clear hs5
        have HE2:=hide ((setL_esc (k:=k) (f:=f) (b:=first) (by omega) h37 hok).symm.trans HE.out)
        have c1:w5.cell? ⟨R,1,none⟩=some (.int .i64 q):=RowF.cell HRd.out (j:=1) (by omega)
        have z1:w5.frozen? ⟨R,1,none⟩=false:=RowF.frz HRd.out 1
        have HN:=hide (RdB.pos (at':=q+2) HRd.out)
        have HS:=hide (SetF.keep HSet.out ((Keeps.refl w5 (fun b=>b=R)).setCell (g:=R) (j:=1) rfl (.int .i64 ((q+2:Nat):Int))) (by omega))
        have HK:=hide (HKw.out.setCell (S:=fun b=>b=R) (g:=R) (j:=1) rfl (.int .i64 ((q+2:Nat):Int)))
        rw [show ((q+2:Nat):Int)=(q:Int)+2 by omega] at HN HS HK
        clear HRd HSet HKw HE
        go_wp2_with fail
        go_roundw
        case rel=>exact ⟨q+2,k,_,false,rfl,by omega,by omega,HN,HS,HK,HE2⟩
        case measure=>rw [RdB.posOf HN.out,RdB.posOf HRd0.out];omega
       |false=>
        clear hs5
        have HRES:=hide (HE.out.symm.trans (setL_bad (k:=k) (f:=f) (b:=first) hq h37 (by rw [hok];simp)))
        have c2:w5.cell? ⟨R,2,none⟩=some (.bool false):=RowF.cell HRd.out (j:=2) (by omega)
        have z2:w5.frozen? ⟨R,2,none⟩=false:=RowF.frz HRd.out 2
        have HB:=hide (RdB.isBad HRd.out)
        have HK:=hide (HKw.out.setCell (S:=fun b=>b=R) (g:=R) (j:=2) rfl (.bool true))
        go_wp2_with fail
        refine bodyPost_ret (v:=.slice (some ⟨g,0,none⟩) 256 256) ?_ rfl ⟨HK.out,g,rfl,hg,.inr ⟨HNo.out HRES.out,q,by omega,HB.out⟩⟩
        simp [results,Tryz.results42,go_sem]
      ·have HE2:=hide ((setL_one (k:=k) (f:=f) (b:=first) H93.out h37 hq (by omega)).symm.trans HE.out)
       have d0:w4.cell? ⟨g,(hb p q).toNat,none⟩=some (.bool (f (hb p q).toNat)):=RowF.cell HSet.out (j:=(hb p q).toNat) (by omega)
       have e0:w4.frozen? ⟨g,(hb p q).toNat,none⟩=false:=RowF.frz HSet.out (hb p q).toNat
       have HSet:=hide ((SetF.put HSet.out (j:=(hb p q).toNat) (by omega)).congr (f':=fun c=>f c||decide ((c:Int)=hb p q)) fun j hj=>by rw [show decide ((j:Int)=hb p q)=decide (j=(hb p q).toNat) from decide_eq_decide.2 (by omega)])
       have HRd:=hide (RdB.keep HRd.out ((Keeps.refl w4 (fun b=>b=g)).setCell (g:=g) (j:=(hb p q).toNat) rfl (.bool true)) (by omega))
       have HKw:=hide (HKw.out.past (g:=g) (j:=(hb p q).toNat) hg (.bool true))
       have c1:(w4.setCell ⟨g,(hb p q).toNat,none⟩ (.bool true)).cell? ⟨R,1,none⟩=some (.int .i64 q):=RowF.cell HRd.out (j:=1) (by omega)
       have z1:(w4.setCell ⟨g,(hb p q).toNat,none⟩ (.bool true)).frozen? ⟨R,1,none⟩=false:=RowF.frz HRd.out 1
       have HN:=hide (RdB.pos (at':=q+1) HRd.out)
       have HS:=hide (SetF.keep HSet.out ((Keeps.refl (w4.setCell ⟨g,(hb p q).toNat,none⟩ (.bool true)) (fun b=>b=R)).setCell (g:=R) (j:=1) rfl (.int .i64 ((q+1:Nat):Int))) (by omega))
       have HK:=hide (HKw.out.setCell (S:=fun b=>b=R) (g:=R) (j:=1) rfl (.int .i64 ((q+1:Nat):Int)))
       rw [show ((q+1:Nat):Int)=(q:Int)+1 by omega] at HN HS HK
       clear HRd HSet HKw HE
       go_wp2_with fail
       go_roundw
       case rel=>exact ⟨q+1,k,_,false,rfl,by omega,by omega,HN,HS,HK,HE2⟩
       case measure=>rw [RdB.posOf HN.out,RdB.posOf HRd0.out];omega
     ·go_wp2_with fail
      refine (here_out R p q 1 false vi vo vd w2 (by omega) (by omega) (by omega) HRd.out (by omega)).mono ?_
      rintro e w3 ⟨rfl,hk3⟩
      have HRd:=hide (RdB.keep HRd.out hk3 (fun x=>x))
      have HSet:=hide (SetF.keep HSet.out hk3 (fun x=>x))
      have HKw:=hide (HKw.out.on hk3 (fun b _ hb=>hb.elim))
      clear hk3
      go_wp2_with fail
      refine (here_out R p q 2 false vi vo vd w3 (by omega) (by omega) (by omega) HRd.out (by omega)).mono ?_
      rintro e w4 ⟨rfl,hk4⟩
      have HRd:=hide (RdB.keep HRd.out hk4 (fun x=>x))
      have HSet:=hide (SetF.keep HSet.out hk4 (fun x=>x))
      have HKw:=hide (HKw.out.on hk4 (fun b _ hb=>hb.elim))
      clear hk4
      by_cases h37:hb p q=37
      ·have HRES:=hide (HE.out.symm.trans (setL_bad (k:=k) (f:=f) (b:=first) hq h37 (by omega)))
       have c2:w4.cell? ⟨R,2,none⟩=some (.bool false):=RowF.cell HRd.out (j:=2) (by omega)
       have z2:w4.frozen? ⟨R,2,none⟩=false:=RowF.frz HRd.out 2
       have HB:=hide (RdB.isBad HRd.out)
       have HK:=hide (HKw.out.setCell (S:=fun b=>b=R) (g:=R) (j:=2) rfl (.bool true))
       go_wp2_with fail
       refine bodyPost_ret (v:=.slice (some ⟨g,0,none⟩) 256 256) ?_ rfl ⟨HK.out,g,rfl,hg,.inr ⟨HNo.out HRES.out,q,by omega,HB.out⟩⟩
       simp [results,Tryz.results42,go_sem]
      ·have HE2:=hide ((setL_one (k:=k) (f:=f) (b:=first) H93.out h37 hq (by omega)).symm.trans HE.out)
       have d0:w4.cell? ⟨g,(hb p q).toNat,none⟩=some (.bool (f (hb p q).toNat)):=RowF.cell HSet.out (j:=(hb p q).toNat) (by omega)
       have e0:w4.frozen? ⟨g,(hb p q).toNat,none⟩=false:=RowF.frz HSet.out (hb p q).toNat
       have HSet:=hide ((SetF.put HSet.out (j:=(hb p q).toNat) (by omega)).congr (f':=fun c=>f c||decide ((c:Int)=hb p q)) fun j hj=>by rw [show decide ((j:Int)=hb p q)=decide (j=(hb p q).toNat) from decide_eq_decide.2 (by omega)])
       have HRd:=hide (RdB.keep HRd.out ((Keeps.refl w4 (fun b=>b=g)).setCell (g:=g) (j:=(hb p q).toNat) rfl (.bool true)) (by omega))
       have HKw:=hide (HKw.out.past (g:=g) (j:=(hb p q).toNat) hg (.bool true))
       have c1:(w4.setCell ⟨g,(hb p q).toNat,none⟩ (.bool true)).cell? ⟨R,1,none⟩=some (.int .i64 q):=RowF.cell HRd.out (j:=1) (by omega)
       have z1:(w4.setCell ⟨g,(hb p q).toNat,none⟩ (.bool true)).frozen? ⟨R,1,none⟩=false:=RowF.frz HRd.out 1
       have HN:=hide (RdB.pos (at':=q+1) HRd.out)
       have HS:=hide (SetF.keep HSet.out ((Keeps.refl (w4.setCell ⟨g,(hb p q).toNat,none⟩ (.bool true)) (fun b=>b=R)).setCell (g:=R) (j:=1) rfl (.int .i64 ((q+1:Nat):Int))) (by omega))
       have HK:=hide (HKw.out.setCell (S:=fun b=>b=R) (g:=R) (j:=1) rfl (.int .i64 ((q+1:Nat):Int)))
       rw [show ((q+1:Nat):Int)=(q:Int)+1 by omega] at HN HS HK
       clear HRd HSet HKw HE
       go_wp2_with fail
       go_roundw
       case rel=>exact ⟨q+1,k,_,false,rfl,by omega,by omega,HN,HS,HK,HE2⟩
       case measure=>rw [RdB.posOf HN.out,RdB.posOf HRd0.out];omega
  ·go_wp2_with fail
   refine (here_out R p q 0 false vi vo vd wr (by omega) (by omega) (by omega) HRd.out (by omega)).mono ?_
   rintro e w2 ⟨rfl,hk2⟩
   have HRd:=hide (RdB.keep HRd.out hk2 (fun x=>x))
   have HSet:=hide (SetF.keep HSet.out hk2 (fun x=>x))
   have HKw:=hide (HKw.out.on hk2 (fun b _ hb=>hb.elim))
   clear hk2
   have HRES:=hide (HE.out.symm.trans (setL_end (k:=k) (f:=f) (b:=first) hq))
   have c2:w2.cell? ⟨R,2,none⟩=some (.bool false):=RowF.cell HRd.out (j:=2) (by omega)
   have z2:w2.frozen? ⟨R,2,none⟩=false:=RowF.frz HRd.out 2
   have HB:=hide (RdB.isBad HRd.out)
   have HK:=hide (HKw.out.setCell (S:=fun b=>b=R) (g:=R) (j:=2) rfl (.bool true))
   go_wp2_with fail
   refine bodyPost_ret (v:=.slice (some ⟨g,0,none⟩) 256 256) ?_ rfl ⟨HK.out,g,rfl,hg,.inr ⟨HNo.out HRES.out,q,by omega,HB.out⟩⟩
   simp [results,Tryz.results42,go_sem]
set_option maxHeartbeats 8000000 in
set_option maxRecDepth 100000 in
theorem set_turned (R:Nat) (p:ByteArray) (at_:Nat) (vi vo vd:Value) (w:World) (ha:at_<p.size) (hp:p.size≤200) (h94:hb p (at_+1)=94) (h:RdB w R p at_ false vi vo vd):
 Calls Tryz.prog 42 #[.pointer (some ⟨R,0,none⟩)] w fun e w'=>SetR R p vi vo vd (rdSet p at_) w e w':=by
 obtain ⟨i0,hi,hz0,hz1,hz2⟩:=info_parts Tryz.info4
 have hRl:R<w.heap.size:=RowF.lt h
 have HR:=hide h
 clear h
 go_enter Tryz.func42,Tryz.ntmps42
 go_wp2_with (first
  |(at_make
    refine wpList_make_full _ rfl _ _ 34 rfl w.heap.size 4 i0 (.bool false) 1 Tryz.underlying34 hi hz0 hz1 _ _ _ _ 256 rfl rfl rfl rfl (by rw [hz2];omega) (by unfold maxLen;omega) (Nat.le_refl _) ?_
    intro w1 hown hgrow
    have HS0:=hide (show SetF w1 w.heap.size (fun _=>false) from made_row rfl hown)
    have hb1:Below w.heap.size w w1:=(Below.refl _ _).grown hgrow (Nat.le_refl _) (fun _ h=>by cases h)
    have HK0:=hide (Keeps.of hb1 (Nat.le_refl _) (fun b=>b=R))
    have HR1:=hide (RdB.keep HR.out (Keeps.of hb1 (Nat.le_refl _) (fun _=>False)) (fun x=>x))
    have c1:w1.cell? ⟨R,1,none⟩=some (.int .i64 at_):=RowF.cell HR1.out (j:=1) (by omega)
    have z1:w1.frozen? ⟨R,1,none⟩=false:=RowF.frz HR1.out 1
    clear hown hgrow hb1))
 have HRd:=hide (RdB.pos (at':=at_+1) HR1.out)
 have HSet:=hide (SetF.keep HS0.out ((Keeps.refl w1 (fun b=>b=R)).setCell (g:=R) (j:=1) rfl (.int .i64 ((at_+1:Nat):Int))) (by omega))
 have HKw:=hide (HK0.out.setCell (S:=fun b=>b=R) (g:=R) (j:=1) rfl (.int .i64 ((at_+1:Nat):Int)))
 rw [show ((at_+1:Nat):Int)=(at_:Int)+1 by omega] at HRd HSet HKw
 clear HR HS0 HK0 HR1 c1 z1
 generalize w1.setCell ⟨R,1,none⟩ (.int .i64 ((at_:Int)+1))=w1' at *
 obtain ⟨g,hgg⟩:∃ g,g=w.heap.size:=⟨_,rfl⟩
 rw [←hgg] at HSet ⊢
 have HNo:=hide (show setL p (p.size+1) (fun _=>false) (at_+2) true=none→rdSet p at_=none from fun h=>by rw [rdSet_t h94,h];rfl)
 have HYes:=hide (show ∀ f q,setL p (p.size+1) (fun _=>false) (at_+2) true=some (f,q)→rdSet p at_=some (fun c=>!f c,q) from fun f q h=>by rw [rdSet_t h94,h];rfl)
 have hg:w.heap.size≤g:=by omega
 have hgR:R≠g:=by omega
 clear hgg
 have h2:at_+1<p.size:=by rcases Nat.lt_or_ge (at_+1) p.size with c|c;exact c;rw [hb_out c] at h94;omega
 have h94b:(hb p (at_+1)==94)=true:=beq_iff_eq.2 h94
 refine (here_any R p (at_+1) 0 false vi vo vd w1' (by omega) (by omega) (by omega) HRd.out).mono ?_
 rintro e w2 ⟨rfl,hk2⟩
 rw [Nat.add_zero]
 have HRd:=hide (RdB.keep HRd.out hk2 (fun x=>x))
 have HSet:=hide (SetF.keep HSet.out hk2 (fun x=>x))
 have HKw:=hide (HKw.out.on hk2 (fun b _ hb=>hb.elim))
 clear hk2
 have c1:w2.cell? ⟨R,1,none⟩=some (.int .i64 ((at_+1:Nat):Int)):=RowF.cell HRd.out (j:=1) (by omega)
 have z1:w2.frozen? ⟨R,1,none⟩=false:=RowF.frz HRd.out 1
 have HN:=hide (RdB.pos (at':=at_+2) HRd.out)
 have HS:=hide (SetF.keep HSet.out ((Keeps.refl w2 (fun b=>b=R)).setCell (g:=R) (j:=1) rfl (.int .i64 ((at_+2:Nat):Int))) (by omega))
 have HK:=hide (HKw.out.setCell (S:=fun b=>b=R) (g:=R) (j:=1) rfl (.int .i64 ((at_+2:Nat):Int)))
 rw [show ((at_+2:Nat):Int)=(at_:Int)+1+1 by omega] at HN HS HK
 rw [show ((at_+1:Nat):Int)=(at_:Int)+1 by omega] at c1
 clear HRd HSet HKw
 go_wp2_with fail
 have HRd:=HN
 have HSet:=HS
 have HKw:=HK
 clear HN HS HK c1 z1
 go_loopw [7] (fun fv wr=>∃ (q k:Nat) (f:Nat→Bool) (first:Bool),fv=.bool first∧q≤p.size∧p.size<k+q∧Hid (RdB wr R p q false vi vo vd)∧Hid (SetF wr g f)∧Hid (Keeps w wr (fun b=>b=R))∧Hid (setL p k f q first=setL p (p.size+1) (fun _=>false) (at_+2) true)) (fun _ wr=>p.size+1-posOf wr R)
 case atStart=>exact ⟨at_+2,p.size+1,fun _=>false,true,rfl,by omega,by omega,HRd,HSet,HKw,hide rfl⟩
 case round=>
  clear HRd HSet HKw
  obtain ⟨q,k0,f,first,rfl,hq1,hq2,HRd,HSet,HKw,HE⟩:=hrel
  have HRd0:=HRd
  obtain ⟨k,rfl⟩:∃ k,k0=k+1:=⟨k0-1,by omega⟩
  by_cases hq:q<p.size
  ·go_wp2_with fail
   refine (here_in R p q 0 false vi vo vd wr (by omega) (by omega) (by omega) HRd.out (by omega)).mono ?_
   rintro e w2 ⟨rfl,hk2⟩
   rw [Nat.add_zero]
   have HRd:=hide (RdB.keep HRd.out hk2 (fun x=>x))
   have HSet:=hide (SetF.keep HSet.out hk2 (fun x=>x))
   have HKw:=hide (HKw.out.on hk2 (fun b _ hb=>hb.elim))
   clear hk2
   by_cases h93:hb p q=93
   ·cases first with
    |false=>
     have HRES:=hide (HE.out.symm.trans (setL_shut hq h93))
     have c1:w2.cell? ⟨R,1,none⟩=some (.int .i64 q):=RowF.cell HRd.out (j:=1) (by omega)
     have z1:w2.frozen? ⟨R,1,none⟩=false:=RowF.frz HRd.out 1
     have HN:=hide (RdB.pos (at':=q+1) HRd.out)
     have HS:=hide (SetF.keep HSet.out ((Keeps.refl w2 (fun b=>b=R)).setCell (g:=R) (j:=1) rfl (.int .i64 ((q+1:Nat):Int))) (by omega))
     have HK:=hide (HKw.out.setCell (S:=fun b=>b=R) (g:=R) (j:=1) rfl (.int .i64 ((q+1:Nat):Int)))
     rw [show ((q+1:Nat):Int)=(q:Int)+1 by omega] at HN HS HK
     go_wp2_with fail
     generalize w2.setCell ⟨R,1,none⟩ (.int .i64 ((q:Int)+1))=wy at *
     go_loopw [140] (fun iv wi=>∃ i:Nat,i≤256∧iv=.int .i64 i∧Hid (RdB wi R p (q+1) false vi vo vd)∧Hid (SetF wi g (fun c=>if c<i then !f c else f c))∧Hid (Keeps w wi (fun b=>b=R))) (fun iv _=>256-ivN iv)
     case atStart=>exact ⟨0,by omega,rfl,HN,hide (HS.out.congr fun j hj=>by simp),HK⟩
     case round=>
      clear HN HS HK
      obtain ⟨i,hi1,rfl,HN,HS,HK⟩:=hrel
      by_cases hin:i<256
      ·have d0:wr.cell? ⟨g,i,none⟩=some (.bool (f i)):=by
        have:=RowF.cell HS.out (j:=i) (by omega)
        simpa using this
       have e0:=RowF.frz HS.out i
       have HSx:=hide ((RowF.set HS.out (j:=i) (by omega) (.bool (!f i))).congr (f':=fun c=>.bool (if c<i+1 then !f c else f c)) fun j hj=>by
        by_cases e:j=i
        ·subst e;simp
        ·simp [e,show (j<i+1)=(j<i) by simp;omega])
       have HRx:=hide (RdB.keep HN.out ((Keeps.refl wr (fun b=>b=g)).setCell (g:=g) (j:=i) rfl (.bool (!f i))) (by omega))
       have HKx:=hide (HK.out.past (g:=g) (j:=i) hg (.bool (!f i)))
       clear HS HN HK
       go_wp2_with fail
       go_roundw
       case rel=>exact ⟨i+1,by omega,by simp,HRx,HSx,HKx⟩
       case measure=>show 256-ivN (.int .i64 _)<256-ivN (.int .i64 _);simp [ivN];omega
      ·obtain rfl:i=256:=by omega
       go_wp2_with fail
       refine bodyPost_ret (v:=.slice (some ⟨g,0,none⟩) 256 256) ?_ rfl ⟨HK.out,g,rfl,hg,.inl ⟨fun c=>!f c,q+1,HYes.out f (q+1) HRES.out,HN.out,HS.out.congr fun j hj=>by simp [hj],by omega⟩⟩
       simp [results,Tryz.results42,go_sem]
    |true=>
     have h93b:(hb p q==93)=true:=beq_iff_eq.2 h93
     have h37:¬ hb p q=37:=by omega
     have HX93:=hide h93
     clear h93
     have hcn0:=(hb_rng p q).1
     have hcn1:=(hb_rng p q).2
     by_cases hr2:q+2<p.size
     ·go_wp2_with fail
      refine (here_in R p q 1 false vi vo vd w2 (by omega) (by omega) (by omega) HRd.out (by omega)).mono ?_
      rintro e w3 ⟨rfl,hk3⟩
      have HRd:=hide (RdB.keep HRd.out hk3 (fun x=>x))
      have HSet:=hide (SetF.keep HSet.out hk3 (fun x=>x))
      have HKw:=hide (HKw.out.on hk3 (fun b _ hb=>hb.elim))
      clear hk3
      go_wp2_with fail
      refine (here_in R p q 2 false vi vo vd w3 (by omega) (by omega) (by omega) HRd.out (by omega)).mono ?_
      rintro e w4 ⟨rfl,hk4⟩
      have HRd:=hide (RdB.keep HRd.out hk4 (fun x=>x))
      have HSet:=hide (SetF.keep HSet.out hk4 (fun x=>x))
      have HKw:=hide (HKw.out.on hk4 (fun b _ hb=>hb.elim))
      clear hk4
      by_cases hd:hb p (q+1)=45
      ·by_cases he:hb p (q+2)=93
       ·have HE2:=hide ((setL_one (k:=k) (f:=f) (b:=true) (.inr rfl) h37 hq (by rintro ⟨_,_,a,_⟩;exact a he)).symm.trans HE.out)
        have d0:w4.cell? ⟨g,(hb p q).toNat,none⟩=some (.bool (f (hb p q).toNat)):=RowF.cell HSet.out (j:=(hb p q).toNat) (by omega)
        have e0:w4.frozen? ⟨g,(hb p q).toNat,none⟩=false:=RowF.frz HSet.out (hb p q).toNat
        have HSet:=hide ((SetF.put HSet.out (j:=(hb p q).toNat) (by omega)).congr (f':=fun c=>f c||decide ((c:Int)=hb p q)) fun j hj=>by rw [show decide ((j:Int)=hb p q)=decide (j=(hb p q).toNat) from decide_eq_decide.2 (by omega)])
        have HRd:=hide (RdB.keep HRd.out ((Keeps.refl w4 (fun b=>b=g)).setCell (g:=g) (j:=(hb p q).toNat) rfl (.bool true)) (by omega))
        have HKw:=hide (HKw.out.past (g:=g) (j:=(hb p q).toNat) hg (.bool true))
        have c1:(w4.setCell ⟨g,(hb p q).toNat,none⟩ (.bool true)).cell? ⟨R,1,none⟩=some (.int .i64 q):=RowF.cell HRd.out (j:=1) (by omega)
        have z1:(w4.setCell ⟨g,(hb p q).toNat,none⟩ (.bool true)).frozen? ⟨R,1,none⟩=false:=RowF.frz HRd.out 1
        have HN:=hide (RdB.pos (at':=q+1) HRd.out)
        have HS:=hide (SetF.keep HSet.out ((Keeps.refl (w4.setCell ⟨g,(hb p q).toNat,none⟩ (.bool true)) (fun b=>b=R)).setCell (g:=R) (j:=1) rfl (.int .i64 ((q+1:Nat):Int))) (by omega))
        have HK:=hide (HKw.out.setCell (S:=fun b=>b=R) (g:=R) (j:=1) rfl (.int .i64 ((q+1:Nat):Int)))
        rw [show ((q+1:Nat):Int)=(q:Int)+1 by omega] at HN HS HK
        clear HRd HSet HKw HE
        go_wp2_with fail
        go_roundw
        case rel=>exact ⟨q+1,k,_,false,rfl,by omega,by omega,HN,HS,HK,HE2⟩
        case measure=>rw [RdB.posOf HN.out,RdB.posOf HRd0.out];omega
       ·by_cases hf:hb p (q+2)=37
        ·have HE2:=hide ((setL_one (k:=k) (f:=f) (b:=true) (.inr rfl) h37 hq (by rintro ⟨_,_,_,a⟩;exact a hf)).symm.trans HE.out)
         have d0:w4.cell? ⟨g,(hb p q).toNat,none⟩=some (.bool (f (hb p q).toNat)):=RowF.cell HSet.out (j:=(hb p q).toNat) (by omega)
         have e0:w4.frozen? ⟨g,(hb p q).toNat,none⟩=false:=RowF.frz HSet.out (hb p q).toNat
         have HSet:=hide ((SetF.put HSet.out (j:=(hb p q).toNat) (by omega)).congr (f':=fun c=>f c||decide ((c:Int)=hb p q)) fun j hj=>by rw [show decide ((j:Int)=hb p q)=decide (j=(hb p q).toNat) from decide_eq_decide.2 (by omega)])
         have HRd:=hide (RdB.keep HRd.out ((Keeps.refl w4 (fun b=>b=g)).setCell (g:=g) (j:=(hb p q).toNat) rfl (.bool true)) (by omega))
         have HKw:=hide (HKw.out.past (g:=g) (j:=(hb p q).toNat) hg (.bool true))
         have c1:(w4.setCell ⟨g,(hb p q).toNat,none⟩ (.bool true)).cell? ⟨R,1,none⟩=some (.int .i64 q):=RowF.cell HRd.out (j:=1) (by omega)
         have z1:(w4.setCell ⟨g,(hb p q).toNat,none⟩ (.bool true)).frozen? ⟨R,1,none⟩=false:=RowF.frz HRd.out 1
         have HN:=hide (RdB.pos (at':=q+1) HRd.out)
         have HS:=hide (SetF.keep HSet.out ((Keeps.refl (w4.setCell ⟨g,(hb p q).toNat,none⟩ (.bool true)) (fun b=>b=R)).setCell (g:=R) (j:=1) rfl (.int .i64 ((q+1:Nat):Int))) (by omega))
         have HK:=hide (HKw.out.setCell (S:=fun b=>b=R) (g:=R) (j:=1) rfl (.int .i64 ((q+1:Nat):Int)))
         rw [show ((q+1:Nat):Int)=(q:Int)+1 by omega] at HN HS HK
         clear HRd HSet HKw HE
         go_wp2_with fail
         go_roundw
         case rel=>exact ⟨q+1,k,_,false,rfl,by omega,by omega,HN,HS,HK,HE2⟩
         case measure=>rw [RdB.posOf HN.out,RdB.posOf HRd0.out];omega
        ·have heb:(hb p (q+2) !=93)=true:=by simp [he]
         have hfb:(hb p (q+2) !=37)=true:=by simp [hf]
         have hen0:=(hb_rng p (q+2)).1
         have hen1:=(hb_rng p (q+2)).2
         have HE2:=hide ((setL_to (k:=k) (f:=f) (b:=true) (.inr rfl) h37 (by omega) hd he hf).symm.trans HE.out)
         go_wp2_with fail
         go_loopw [14] (fun iv wi=>∃ i:Nat,(hb p q).toNat≤i∧i≤256∧(i≤(hb p (q+2)).toNat+1∨i=(hb p q).toNat)∧iv=.int .i64 i∧Hid (RdB wi R p q false vi vo vd)∧Hid (SetF wi g (fun c=>f c||(decide ((hb p q).toNat≤c)&&decide (c<i))))∧Hid (Keeps w wi (fun b=>b=R))) (fun iv _=>257-ivN iv)
         case atStart=>exact ⟨(hb p q).toNat,Nat.le_refl _,by omega,.inr rfl,by rw [Int.toNat_of_nonneg hcn0],HRd,hide (HSet.out.congr fun j hj=>by simp;omega),HKw⟩
         case round=>
          clear HRd HSet HKw
          obtain ⟨i,hi1,hi2,hi3,rfl,HRd,HSet,HKw⟩:=hrel
          by_cases hin:(i:Int)≤hb p (q+2)
          ·have d0:=RowF.cell HSet.out (j:=i) (by omega)
           have e0:=RowF.frz HSet.out i
           have HSx:=hide ((SetF.put HSet.out (j:=i) (by omega)).congr (f':=fun c=>f c||(decide ((hb p q).toNat≤c)&&decide (c<i+1))) fun j hj=>by
            cases f j
            ·rw [Bool.eq_iff_iff]
             simp
             omega
            ·simp)
           have HRx:=hide (RdB.keep HRd.out ((Keeps.refl wr (fun b=>b=g)).setCell (g:=g) (j:=i) rfl (.bool true)) (by omega))
           have HKx:=hide (HKw.out.past (g:=g) (j:=i) hg (.bool true))
           clear HSet HRd HKw
           go_wp2_with fail
           go_roundw
           case rel=>exact ⟨i+1,by omega,by omega,.inl (by omega),by simp,HRx,HSx,HKx⟩
           case measure=>show 257-ivN (.int .i64 _)<257-ivN (.int .i64 _);simp [ivN];omega
          ·have HSet:=hide (HSet.out.congr (f':=fun c=>f c||(decide (hb p q≤c)&&decide ((c:Int)≤hb p (q+2)))) fun j hj=>by
            cases f j
            ·rw [Bool.eq_iff_iff]
             simp
             omega
            ·simp)
           have c1:wr.cell? ⟨R,1,none⟩=some (.int .i64 q):=RowF.cell HRd.out (j:=1) (by omega)
           have z1:wr.frozen? ⟨R,1,none⟩=false:=RowF.frz HRd.out 1
           have HN:=hide (RdB.pos (at':=q+3) HRd.out)
           have HS:=hide (SetF.keep HSet.out ((Keeps.refl wr (fun b=>b=R)).setCell (g:=R) (j:=1) rfl (.int .i64 ((q+3:Nat):Int))) (by omega))
           have HK:=hide (HKw.out.setCell (S:=fun b=>b=R) (g:=R) (j:=1) rfl (.int .i64 ((q+3:Nat):Int)))
           rw [show ((q+3:Nat):Int)=(q:Int)+3 by omega] at HN HS HK
           clear HRd HSet HKw HE
           go_wp2_with fail
           go_roundw
           case rel=>exact ⟨q+3,k,_,false,rfl,by omega,by omega,HN,HS,HK,HE2⟩
           case measure=>rw [RdB.posOf HN.out,RdB.posOf HRd0.out];omega
      ·have HE2:=hide ((setL_one (k:=k) (f:=f) (b:=true) (.inr rfl) h37 hq (by rintro ⟨_,a,_⟩;exact hd a)).symm.trans HE.out)
       have d0:w4.cell? ⟨g,(hb p q).toNat,none⟩=some (.bool (f (hb p q).toNat)):=RowF.cell HSet.out (j:=(hb p q).toNat) (by omega)
       have e0:w4.frozen? ⟨g,(hb p q).toNat,none⟩=false:=RowF.frz HSet.out (hb p q).toNat
       have HSet:=hide ((SetF.put HSet.out (j:=(hb p q).toNat) (by omega)).congr (f':=fun c=>f c||decide ((c:Int)=hb p q)) fun j hj=>by rw [show decide ((j:Int)=hb p q)=decide (j=(hb p q).toNat) from decide_eq_decide.2 (by omega)])
       have HRd:=hide (RdB.keep HRd.out ((Keeps.refl w4 (fun b=>b=g)).setCell (g:=g) (j:=(hb p q).toNat) rfl (.bool true)) (by omega))
       have HKw:=hide (HKw.out.past (g:=g) (j:=(hb p q).toNat) hg (.bool true))
       have c1:(w4.setCell ⟨g,(hb p q).toNat,none⟩ (.bool true)).cell? ⟨R,1,none⟩=some (.int .i64 q):=RowF.cell HRd.out (j:=1) (by omega)
       have z1:(w4.setCell ⟨g,(hb p q).toNat,none⟩ (.bool true)).frozen? ⟨R,1,none⟩=false:=RowF.frz HRd.out 1
       have HN:=hide (RdB.pos (at':=q+1) HRd.out)
       have HS:=hide (SetF.keep HSet.out ((Keeps.refl (w4.setCell ⟨g,(hb p q).toNat,none⟩ (.bool true)) (fun b=>b=R)).setCell (g:=R) (j:=1) rfl (.int .i64 ((q+1:Nat):Int))) (by omega))
       have HK:=hide (HKw.out.setCell (S:=fun b=>b=R) (g:=R) (j:=1) rfl (.int .i64 ((q+1:Nat):Int)))
       rw [show ((q+1:Nat):Int)=(q:Int)+1 by omega] at HN HS HK
       clear HRd HSet HKw HE
       go_wp2_with fail
       go_roundw
       case rel=>exact ⟨q+1,k,_,false,rfl,by omega,by omega,HN,HS,HK,HE2⟩
       case measure=>rw [RdB.posOf HN.out,RdB.posOf HRd0.out];omega
     ·by_cases hr1:q+1<p.size
      ·go_wp2_with fail
       refine (here_in R p q 1 false vi vo vd w2 (by omega) (by omega) (by omega) HRd.out (by omega)).mono ?_
       rintro e w3 ⟨rfl,hk3⟩
       have HRd:=hide (RdB.keep HRd.out hk3 (fun x=>x))
       have HSet:=hide (SetF.keep HSet.out hk3 (fun x=>x))
       have HKw:=hide (HKw.out.on hk3 (fun b _ hb=>hb.elim))
       clear hk3
       go_wp2_with fail
       refine (here_out R p q 2 false vi vo vd w3 (by omega) (by omega) (by omega) HRd.out (by omega)).mono ?_
       rintro e w4 ⟨rfl,hk4⟩
       have HRd:=hide (RdB.keep HRd.out hk4 (fun x=>x))
       have HSet:=hide (SetF.keep HSet.out hk4 (fun x=>x))
       have HKw:=hide (HKw.out.on hk4 (fun b _ hb=>hb.elim))
       clear hk4
       have HE2:=hide ((setL_one (k:=k) (f:=f) (b:=true) (.inr rfl) h37 hq (by omega)).symm.trans HE.out)
       have d0:w4.cell? ⟨g,(hb p q).toNat,none⟩=some (.bool (f (hb p q).toNat)):=RowF.cell HSet.out (j:=(hb p q).toNat) (by omega)
       have e0:w4.frozen? ⟨g,(hb p q).toNat,none⟩=false:=RowF.frz HSet.out (hb p q).toNat
       have HSet:=hide ((SetF.put HSet.out (j:=(hb p q).toNat) (by omega)).congr (f':=fun c=>f c||decide ((c:Int)=hb p q)) fun j hj=>by rw [show decide ((j:Int)=hb p q)=decide (j=(hb p q).toNat) from decide_eq_decide.2 (by omega)])
       have HRd:=hide (RdB.keep HRd.out ((Keeps.refl w4 (fun b=>b=g)).setCell (g:=g) (j:=(hb p q).toNat) rfl (.bool true)) (by omega))
       have HKw:=hide (HKw.out.past (g:=g) (j:=(hb p q).toNat) hg (.bool true))
       have c1:(w4.setCell ⟨g,(hb p q).toNat,none⟩ (.bool true)).cell? ⟨R,1,none⟩=some (.int .i64 q):=RowF.cell HRd.out (j:=1) (by omega)
       have z1:(w4.setCell ⟨g,(hb p q).toNat,none⟩ (.bool true)).frozen? ⟨R,1,none⟩=false:=RowF.frz HRd.out 1
       have HN:=hide (RdB.pos (at':=q+1) HRd.out)
       have HS:=hide (SetF.keep HSet.out ((Keeps.refl (w4.setCell ⟨g,(hb p q).toNat,none⟩ (.bool true)) (fun b=>b=R)).setCell (g:=R) (j:=1) rfl (.int .i64 ((q+1:Nat):Int))) (by omega))
       have HK:=hide (HKw.out.setCell (S:=fun b=>b=R) (g:=R) (j:=1) rfl (.int .i64 ((q+1:Nat):Int)))
       rw [show ((q+1:Nat):Int)=(q:Int)+1 by omega] at HN HS HK
       clear HRd HSet HKw HE
       go_wp2_with fail
       go_roundw
       case rel=>exact ⟨q+1,k,_,false,rfl,by omega,by omega,HN,HS,HK,HE2⟩
       case measure=>rw [RdB.posOf HN.out,RdB.posOf HRd0.out];omega
      ·go_wp2_with fail
       refine (here_out R p q 1 false vi vo vd w2 (by omega) (by omega) (by omega) HRd.out (by omega)).mono ?_
       rintro e w3 ⟨rfl,hk3⟩
       have HRd:=hide (RdB.keep HRd.out hk3 (fun x=>x))
       have HSet:=hide (SetF.keep HSet.out hk3 (fun x=>x))
       have HKw:=hide (HKw.out.on hk3 (fun b _ hb=>hb.elim))
       clear hk3
       go_wp2_with fail
       refine (here_out R p q 2 false vi vo vd w3 (by omega) (by omega) (by omega) HRd.out (by omega)).mono ?_
       rintro e w4 ⟨rfl,hk4⟩
       have HRd:=hide (RdB.keep HRd.out hk4 (fun x=>x))
       have HSet:=hide (SetF.keep HSet.out hk4 (fun x=>x))
       have HKw:=hide (HKw.out.on hk4 (fun b _ hb=>hb.elim))
       clear hk4
       have HE2:=hide ((setL_one (k:=k) (f:=f) (b:=true) (.inr rfl) h37 hq (by omega)).symm.trans HE.out)
       have d0:w4.cell? ⟨g,(hb p q).toNat,none⟩=some (.bool (f (hb p q).toNat)):=RowF.cell HSet.out (j:=(hb p q).toNat) (by omega)
       have e0:w4.frozen? ⟨g,(hb p q).toNat,none⟩=false:=RowF.frz HSet.out (hb p q).toNat
       have HSet:=hide ((SetF.put HSet.out (j:=(hb p q).toNat) (by omega)).congr (f':=fun c=>f c||decide ((c:Int)=hb p q)) fun j hj=>by rw [show decide ((j:Int)=hb p q)=decide (j=(hb p q).toNat) from decide_eq_decide.2 (by omega)])
       have HRd:=hide (RdB.keep HRd.out ((Keeps.refl w4 (fun b=>b=g)).setCell (g:=g) (j:=(hb p q).toNat) rfl (.bool true)) (by omega))
       have HKw:=hide (HKw.out.past (g:=g) (j:=(hb p q).toNat) hg (.bool true))
       have c1:(w4.setCell ⟨g,(hb p q).toNat,none⟩ (.bool true)).cell? ⟨R,1,none⟩=some (.int .i64 q):=RowF.cell HRd.out (j:=1) (by omega)
       have z1:(w4.setCell ⟨g,(hb p q).toNat,none⟩ (.bool true)).frozen? ⟨R,1,none⟩=false:=RowF.frz HRd.out 1
       have HN:=hide (RdB.pos (at':=q+1) HRd.out)
       have HS:=hide (SetF.keep HSet.out ((Keeps.refl (w4.setCell ⟨g,(hb p q).toNat,none⟩ (.bool true)) (fun b=>b=R)).setCell (g:=R) (j:=1) rfl (.int .i64 ((q+1:Nat):Int))) (by omega))
       have HK:=hide (HKw.out.setCell (S:=fun b=>b=R) (g:=R) (j:=1) rfl (.int .i64 ((q+1:Nat):Int)))
       rw [show ((q+1:Nat):Int)=(q:Int)+1 by omega] at HN HS HK
       clear HRd HSet HKw HE
       go_wp2_with fail
       go_roundw
       case rel=>exact ⟨q+1,k,_,false,rfl,by omega,by omega,HN,HS,HK,HE2⟩
       case measure=>rw [RdB.posOf HN.out,RdB.posOf HRd0.out];omega
   ·have H93:=hide (show hb p q≠93∨first=true from .inl h93)
    have hcn0:=(hb_rng p q).1
    have hcn1:=(hb_rng p q).2
    by_cases hr2:q+2<p.size
    ·go_wp2_with fail
     refine (here_in R p q 1 false vi vo vd w2 (by omega) (by omega) (by omega) HRd.out (by omega)).mono ?_
     rintro e w3 ⟨rfl,hk3⟩
     have HRd:=hide (RdB.keep HRd.out hk3 (fun x=>x))
     have HSet:=hide (SetF.keep HSet.out hk3 (fun x=>x))
     have HKw:=hide (HKw.out.on hk3 (fun b _ hb=>hb.elim))
     clear hk3
     go_wp2_with fail
     refine (here_in R p q 2 false vi vo vd w3 (by omega) (by omega) (by omega) HRd.out (by omega)).mono ?_
     rintro e w4 ⟨rfl,hk4⟩
     have HRd:=hide (RdB.keep HRd.out hk4 (fun x=>x))
     have HSet:=hide (SetF.keep HSet.out hk4 (fun x=>x))
     have HKw:=hide (HKw.out.on hk4 (fun b _ hb=>hb.elim))
     clear hk4
     by_cases h37:hb p q=37
     ·have hdn:=hb_rng p (q+1)
      go_wp2_with fail
      refine (escape_any g f (hb p (q+1)) w4 hdn.1 hdn.2 HSet.out).mono ?_
      rintro e w5 ⟨rfl,hk5,hs5⟩
      have HRd:=hide (RdB.keep HRd.out hk5 (by omega))
      have HKw:=hide (HKw.out.on hk5 (fun b hb hb2=>by omega))
      clear hk5 HSet
      cases hok:escOk (hb p (q+1)) with
      |true=>
       have HSet:=hide (hs5 hok)
       clear hs5
       have HE2:=hide ((setL_esc (k:=k) (f:=f) (b:=first) (by omega) h37 hok).symm.trans HE.out)
       have c1:w5.cell? ⟨R,1,none⟩=some (.int .i64 q):=RowF.cell HRd.out (j:=1) (by omega)
       have z1:w5.frozen? ⟨R,1,none⟩=false:=RowF.frz HRd.out 1
       have HN:=hide (RdB.pos (at':=q+2) HRd.out)
       have HS:=hide (SetF.keep HSet.out ((Keeps.refl w5 (fun b=>b=R)).setCell (g:=R) (j:=1) rfl (.int .i64 ((q+2:Nat):Int))) (by omega))
       have HK:=hide (HKw.out.setCell (S:=fun b=>b=R) (g:=R) (j:=1) rfl (.int .i64 ((q+2:Nat):Int)))
       rw [show ((q+2:Nat):Int)=(q:Int)+2 by omega] at HN HS HK
       clear HRd HSet HKw HE
       go_wp2_with fail
       go_roundw
       case rel=>exact ⟨q+2,k,_,false,rfl,by omega,by omega,HN,HS,HK,HE2⟩
       case measure=>rw [RdB.posOf HN.out,RdB.posOf HRd0.out];omega
      |false=>
       clear hs5
       have HRES:=hide (HE.out.symm.trans (setL_bad (k:=k) (f:=f) (b:=first) hq h37 (by rw [hok];simp)))
       have c2:w5.cell? ⟨R,2,none⟩=some (.bool false):=RowF.cell HRd.out (j:=2) (by omega)
       have z2:w5.frozen? ⟨R,2,none⟩=false:=RowF.frz HRd.out 2
       have HB:=hide (RdB.isBad HRd.out)
       have HK:=hide (HKw.out.setCell (S:=fun b=>b=R) (g:=R) (j:=2) rfl (.bool true))
       go_wp2_with fail
       refine bodyPost_ret (v:=.slice (some ⟨g,0,none⟩) 256 256) ?_ rfl ⟨HK.out,g,rfl,hg,.inr ⟨HNo.out HRES.out,q,by omega,HB.out⟩⟩
       simp [results,Tryz.results42,go_sem]
     ·by_cases hd:hb p (q+1)=45
      ·by_cases he:hb p (q+2)=93
       ·have HE2:=hide ((setL_one (k:=k) (f:=f) (b:=first) H93.out h37 hq (by rintro ⟨_,_,a,_⟩;exact a he)).symm.trans HE.out)
        have d0:w4.cell? ⟨g,(hb p q).toNat,none⟩=some (.bool (f (hb p q).toNat)):=RowF.cell HSet.out (j:=(hb p q).toNat) (by omega)
        have e0:w4.frozen? ⟨g,(hb p q).toNat,none⟩=false:=RowF.frz HSet.out (hb p q).toNat
        have HSet:=hide ((SetF.put HSet.out (j:=(hb p q).toNat) (by omega)).congr (f':=fun c=>f c||decide ((c:Int)=hb p q)) fun j hj=>by rw [show decide ((j:Int)=hb p q)=decide (j=(hb p q).toNat) from decide_eq_decide.2 (by omega)])
        have HRd:=hide (RdB.keep HRd.out ((Keeps.refl w4 (fun b=>b=g)).setCell (g:=g) (j:=(hb p q).toNat) rfl (.bool true)) (by omega))
        have HKw:=hide (HKw.out.past (g:=g) (j:=(hb p q).toNat) hg (.bool true))
        have c1:(w4.setCell ⟨g,(hb p q).toNat,none⟩ (.bool true)).cell? ⟨R,1,none⟩=some (.int .i64 q):=RowF.cell HRd.out (j:=1) (by omega)
        have z1:(w4.setCell ⟨g,(hb p q).toNat,none⟩ (.bool true)).frozen? ⟨R,1,none⟩=false:=RowF.frz HRd.out 1
        have HN:=hide (RdB.pos (at':=q+1) HRd.out)
        have HS:=hide (SetF.keep HSet.out ((Keeps.refl (w4.setCell ⟨g,(hb p q).toNat,none⟩ (.bool true)) (fun b=>b=R)).setCell (g:=R) (j:=1) rfl (.int .i64 ((q+1:Nat):Int))) (by omega))
        have HK:=hide (HKw.out.setCell (S:=fun b=>b=R) (g:=R) (j:=1) rfl (.int .i64 ((q+1:Nat):Int)))
        rw [show ((q+1:Nat):Int)=(q:Int)+1 by omega] at HN HS HK
        clear HRd HSet HKw HE
        go_wp2_with fail
        go_roundw
        case rel=>exact ⟨q+1,k,_,false,rfl,by omega,by omega,HN,HS,HK,HE2⟩
        case measure=>rw [RdB.posOf HN.out,RdB.posOf HRd0.out];omega
       ·by_cases hf:hb p (q+2)=37
        ·have HE2:=hide ((setL_one (k:=k) (f:=f) (b:=first) H93.out h37 hq (by rintro ⟨_,_,_,a⟩;exact a hf)).symm.trans HE.out)
         have d0:w4.cell? ⟨g,(hb p q).toNat,none⟩=some (.bool (f (hb p q).toNat)):=RowF.cell HSet.out (j:=(hb p q).toNat) (by omega)
         have e0:w4.frozen? ⟨g,(hb p q).toNat,none⟩=false:=RowF.frz HSet.out (hb p q).toNat
         have HSet:=hide ((SetF.put HSet.out (j:=(hb p q).toNat) (by omega)).congr (f':=fun c=>f c||decide ((c:Int)=hb p q)) fun j hj=>by rw [show decide ((j:Int)=hb p q)=decide (j=(hb p q).toNat) from decide_eq_decide.2 (by omega)])
         have HRd:=hide (RdB.keep HRd.out ((Keeps.refl w4 (fun b=>b=g)).setCell (g:=g) (j:=(hb p q).toNat) rfl (.bool true)) (by omega))
         have HKw:=hide (HKw.out.past (g:=g) (j:=(hb p q).toNat) hg (.bool true))
         have c1:(w4.setCell ⟨g,(hb p q).toNat,none⟩ (.bool true)).cell? ⟨R,1,none⟩=some (.int .i64 q):=RowF.cell HRd.out (j:=1) (by omega)
         have z1:(w4.setCell ⟨g,(hb p q).toNat,none⟩ (.bool true)).frozen? ⟨R,1,none⟩=false:=RowF.frz HRd.out 1
         have HN:=hide (RdB.pos (at':=q+1) HRd.out)
         have HS:=hide (SetF.keep HSet.out ((Keeps.refl (w4.setCell ⟨g,(hb p q).toNat,none⟩ (.bool true)) (fun b=>b=R)).setCell (g:=R) (j:=1) rfl (.int .i64 ((q+1:Nat):Int))) (by omega))
         have HK:=hide (HKw.out.setCell (S:=fun b=>b=R) (g:=R) (j:=1) rfl (.int .i64 ((q+1:Nat):Int)))
         rw [show ((q+1:Nat):Int)=(q:Int)+1 by omega] at HN HS HK
         clear HRd HSet HKw HE
         go_wp2_with fail
         go_roundw
         case rel=>exact ⟨q+1,k,_,false,rfl,by omega,by omega,HN,HS,HK,HE2⟩
         case measure=>rw [RdB.posOf HN.out,RdB.posOf HRd0.out];omega
        ·have heb:(hb p (q+2) !=93)=true:=by simp [he]
         have hfb:(hb p (q+2) !=37)=true:=by simp [hf]
         have hen0:=(hb_rng p (q+2)).1
         have hen1:=(hb_rng p (q+2)).2
         have HE2:=hide ((setL_to (k:=k) (f:=f) (b:=first) H93.out h37 (by omega) hd he hf).symm.trans HE.out)
         go_wp2_with fail
         go_loopw [14] (fun iv wi=>∃ i:Nat,(hb p q).toNat≤i∧i≤256∧(i≤(hb p (q+2)).toNat+1∨i=(hb p q).toNat)∧iv=.int .i64 i∧Hid (RdB wi R p q false vi vo vd)∧Hid (SetF wi g (fun c=>f c||(decide ((hb p q).toNat≤c)&&decide (c<i))))∧Hid (Keeps w wi (fun b=>b=R))) (fun iv _=>257-ivN iv)
         case atStart=>exact ⟨(hb p q).toNat,Nat.le_refl _,by omega,.inr rfl,by rw [Int.toNat_of_nonneg hcn0],HRd,hide (HSet.out.congr fun j hj=>by simp;omega),HKw⟩
         case round=>
          clear HRd HSet HKw
          obtain ⟨i,hi1,hi2,hi3,rfl,HRd,HSet,HKw⟩:=hrel
          by_cases hin:(i:Int)≤hb p (q+2)
          ·have d0:=RowF.cell HSet.out (j:=i) (by omega)
           have e0:=RowF.frz HSet.out i
           have HSx:=hide ((SetF.put HSet.out (j:=i) (by omega)).congr (f':=fun c=>f c||(decide ((hb p q).toNat≤c)&&decide (c<i+1))) fun j hj=>by
            cases f j
            ·rw [Bool.eq_iff_iff]
             simp
             omega
            ·simp)
           have HRx:=hide (RdB.keep HRd.out ((Keeps.refl wr (fun b=>b=g)).setCell (g:=g) (j:=i) rfl (.bool true)) (by omega))
           have HKx:=hide (HKw.out.past (g:=g) (j:=i) hg (.bool true))
           clear HSet HRd HKw
           go_wp2_with fail
           go_roundw
           case rel=>exact ⟨i+1,by omega,by omega,.inl (by omega),by simp,HRx,HSx,HKx⟩
           case measure=>show 257-ivN (.int .i64 _)<257-ivN (.int .i64 _);simp [ivN];omega
          ·have HSet:=hide (HSet.out.congr (f':=fun c=>f c||(decide (hb p q≤c)&&decide ((c:Int)≤hb p (q+2)))) fun j hj=>by
            cases f j
            ·rw [Bool.eq_iff_iff]
             simp
             omega
            ·simp)
           have c1:wr.cell? ⟨R,1,none⟩=some (.int .i64 q):=RowF.cell HRd.out (j:=1) (by omega)
           have z1:wr.frozen? ⟨R,1,none⟩=false:=RowF.frz HRd.out 1
           have HN:=hide (RdB.pos (at':=q+3) HRd.out)
           have HS:=hide (SetF.keep HSet.out ((Keeps.refl wr (fun b=>b=R)).setCell (g:=R) (j:=1) rfl (.int .i64 ((q+3:Nat):Int))) (by omega))
           have HK:=hide (HKw.out.setCell (S:=fun b=>b=R) (g:=R) (j:=1) rfl (.int .i64 ((q+3:Nat):Int)))
           rw [show ((q+3:Nat):Int)=(q:Int)+3 by omega] at HN HS HK
           clear HRd HSet HKw HE
           go_wp2_with fail
           go_roundw
           case rel=>exact ⟨q+3,k,_,false,rfl,by omega,by omega,HN,HS,HK,HE2⟩
           case measure=>rw [RdB.posOf HN.out,RdB.posOf HRd0.out];omega
      ·have HE2:=hide ((setL_one (k:=k) (f:=f) (b:=first) H93.out h37 hq (by rintro ⟨_,a,_⟩;exact hd a)).symm.trans HE.out)
       have d0:w4.cell? ⟨g,(hb p q).toNat,none⟩=some (.bool (f (hb p q).toNat)):=RowF.cell HSet.out (j:=(hb p q).toNat) (by omega)
       have e0:w4.frozen? ⟨g,(hb p q).toNat,none⟩=false:=RowF.frz HSet.out (hb p q).toNat
       have HSet:=hide ((SetF.put HSet.out (j:=(hb p q).toNat) (by omega)).congr (f':=fun c=>f c||decide ((c:Int)=hb p q)) fun j hj=>by rw [show decide ((j:Int)=hb p q)=decide (j=(hb p q).toNat) from decide_eq_decide.2 (by omega)])
       have HRd:=hide (RdB.keep HRd.out ((Keeps.refl w4 (fun b=>b=g)).setCell (g:=g) (j:=(hb p q).toNat) rfl (.bool true)) (by omega))
       have HKw:=hide (HKw.out.past (g:=g) (j:=(hb p q).toNat) hg (.bool true))
       have c1:(w4.setCell ⟨g,(hb p q).toNat,none⟩ (.bool true)).cell? ⟨R,1,none⟩=some (.int .i64 q):=RowF.cell HRd.out (j:=1) (by omega)
       have z1:(w4.setCell ⟨g,(hb p q).toNat,none⟩ (.bool true)).frozen? ⟨R,1,none⟩=false:=RowF.frz HRd.out 1
       have HN:=hide (RdB.pos (at':=q+1) HRd.out)
       have HS:=hide (SetF.keep HSet.out ((Keeps.refl (w4.setCell ⟨g,(hb p q).toNat,none⟩ (.bool true)) (fun b=>b=R)).setCell (g:=R) (j:=1) rfl (.int .i64 ((q+1:Nat):Int))) (by omega))
       have HK:=hide (HKw.out.setCell (S:=fun b=>b=R) (g:=R) (j:=1) rfl (.int .i64 ((q+1:Nat):Int)))
       rw [show ((q+1:Nat):Int)=(q:Int)+1 by omega] at HN HS HK
       clear HRd HSet HKw HE
       go_wp2_with fail
       go_roundw
       case rel=>exact ⟨q+1,k,_,false,rfl,by omega,by omega,HN,HS,HK,HE2⟩
       case measure=>rw [RdB.posOf HN.out,RdB.posOf HRd0.out];omega
    ·by_cases hr1:q+1<p.size
     ·go_wp2_with fail
      refine (here_in R p q 1 false vi vo vd w2 (by omega) (by omega) (by omega) HRd.out (by omega)).mono ?_
      rintro e w3 ⟨rfl,hk3⟩
      have HRd:=hide (RdB.keep HRd.out hk3 (fun x=>x))
      have HSet:=hide (SetF.keep HSet.out hk3 (fun x=>x))
      have HKw:=hide (HKw.out.on hk3 (fun b _ hb=>hb.elim))
      clear hk3
      go_wp2_with fail
      refine (here_out R p q 2 false vi vo vd w3 (by omega) (by omega) (by omega) HRd.out (by omega)).mono ?_
      rintro e w4 ⟨rfl,hk4⟩
      have HRd:=hide (RdB.keep HRd.out hk4 (fun x=>x))
      have HSet:=hide (SetF.keep HSet.out hk4 (fun x=>x))
      have HKw:=hide (HKw.out.on hk4 (fun b _ hb=>hb.elim))
      clear hk4
      by_cases h37:hb p q=37
      ·have hdn:=hb_rng p (q+1)
       go_wp2_with fail
       refine (escape_any g f (hb p (q+1)) w4 hdn.1 hdn.2 HSet.out).mono ?_
       rintro e w5 ⟨rfl,hk5,hs5⟩
       have HRd:=hide (RdB.keep HRd.out hk5 (by omega))
       have HKw:=hide (HKw.out.on hk5 (fun b hb hb2=>by omega))
       clear hk5 HSet
       cases hok:escOk (hb p (q+1)) with
       |true=>
        have HSet:=hide (hs5 hok)
        clear hs5
        have HE2:=hide ((setL_esc (k:=k) (f:=f) (b:=first) (by omega) h37 hok).symm.trans HE.out)
        have c1:w5.cell? ⟨R,1,none⟩=some (.int .i64 q):=RowF.cell HRd.out (j:=1) (by omega)
        have z1:w5.frozen? ⟨R,1,none⟩=false:=RowF.frz HRd.out 1
        have HN:=hide (RdB.pos (at':=q+2) HRd.out)
        have HS:=hide (SetF.keep HSet.out ((Keeps.refl w5 (fun b=>b=R)).setCell (g:=R) (j:=1) rfl (.int .i64 ((q+2:Nat):Int))) (by omega))
        have HK:=hide (HKw.out.setCell (S:=fun b=>b=R) (g:=R) (j:=1) rfl (.int .i64 ((q+2:Nat):Int)))
        rw [show ((q+2:Nat):Int)=(q:Int)+2 by omega] at HN HS HK
        clear HRd HSet HKw HE
        go_wp2_with fail
        go_roundw
        case rel=>exact ⟨q+2,k,_,false,rfl,by omega,by omega,HN,HS,HK,HE2⟩
        case measure=>rw [RdB.posOf HN.out,RdB.posOf HRd0.out];omega
       |false=>
        clear hs5
        have HRES:=hide (HE.out.symm.trans (setL_bad (k:=k) (f:=f) (b:=first) hq h37 (by rw [hok];simp)))
        have c2:w5.cell? ⟨R,2,none⟩=some (.bool false):=RowF.cell HRd.out (j:=2) (by omega)
        have z2:w5.frozen? ⟨R,2,none⟩=false:=RowF.frz HRd.out 2
        have HB:=hide (RdB.isBad HRd.out)
        have HK:=hide (HKw.out.setCell (S:=fun b=>b=R) (g:=R) (j:=2) rfl (.bool true))
        go_wp2_with fail
        refine bodyPost_ret (v:=.slice (some ⟨g,0,none⟩) 256 256) ?_ rfl ⟨HK.out,g,rfl,hg,.inr ⟨HNo.out HRES.out,q,by omega,HB.out⟩⟩
        simp [results,Tryz.results42,go_sem]
      ·have HE2:=hide ((setL_one (k:=k) (f:=f) (b:=first) H93.out h37 hq (by omega)).symm.trans HE.out)
       have d0:w4.cell? ⟨g,(hb p q).toNat,none⟩=some (.bool (f (hb p q).toNat)):=RowF.cell HSet.out (j:=(hb p q).toNat) (by omega)
       have e0:w4.frozen? ⟨g,(hb p q).toNat,none⟩=false:=RowF.frz HSet.out (hb p q).toNat
       have HSet:=hide ((SetF.put HSet.out (j:=(hb p q).toNat) (by omega)).congr (f':=fun c=>f c||decide ((c:Int)=hb p q)) fun j hj=>by rw [show decide ((j:Int)=hb p q)=decide (j=(hb p q).toNat) from decide_eq_decide.2 (by omega)])
       have HRd:=hide (RdB.keep HRd.out ((Keeps.refl w4 (fun b=>b=g)).setCell (g:=g) (j:=(hb p q).toNat) rfl (.bool true)) (by omega))
       have HKw:=hide (HKw.out.past (g:=g) (j:=(hb p q).toNat) hg (.bool true))
       have c1:(w4.setCell ⟨g,(hb p q).toNat,none⟩ (.bool true)).cell? ⟨R,1,none⟩=some (.int .i64 q):=RowF.cell HRd.out (j:=1) (by omega)
       have z1:(w4.setCell ⟨g,(hb p q).toNat,none⟩ (.bool true)).frozen? ⟨R,1,none⟩=false:=RowF.frz HRd.out 1
       have HN:=hide (RdB.pos (at':=q+1) HRd.out)
       have HS:=hide (SetF.keep HSet.out ((Keeps.refl (w4.setCell ⟨g,(hb p q).toNat,none⟩ (.bool true)) (fun b=>b=R)).setCell (g:=R) (j:=1) rfl (.int .i64 ((q+1:Nat):Int))) (by omega))
       have HK:=hide (HKw.out.setCell (S:=fun b=>b=R) (g:=R) (j:=1) rfl (.int .i64 ((q+1:Nat):Int)))
       rw [show ((q+1:Nat):Int)=(q:Int)+1 by omega] at HN HS HK
       clear HRd HSet HKw HE
       go_wp2_with fail
       go_roundw
       case rel=>exact ⟨q+1,k,_,false,rfl,by omega,by omega,HN,HS,HK,HE2⟩
       case measure=>rw [RdB.posOf HN.out,RdB.posOf HRd0.out];omega
     ·go_wp2_with fail
      refine (here_out R p q 1 false vi vo vd w2 (by omega) (by omega) (by omega) HRd.out (by omega)).mono ?_
      rintro e w3 ⟨rfl,hk3⟩
      have HRd:=hide (RdB.keep HRd.out hk3 (fun x=>x))
      have HSet:=hide (SetF.keep HSet.out hk3 (fun x=>x))
      have HKw:=hide (HKw.out.on hk3 (fun b _ hb=>hb.elim))
      clear hk3
      go_wp2_with fail
      refine (here_out R p q 2 false vi vo vd w3 (by omega) (by omega) (by omega) HRd.out (by omega)).mono ?_
      rintro e w4 ⟨rfl,hk4⟩
      have HRd:=hide (RdB.keep HRd.out hk4 (fun x=>x))
      have HSet:=hide (SetF.keep HSet.out hk4 (fun x=>x))
      have HKw:=hide (HKw.out.on hk4 (fun b _ hb=>hb.elim))
      clear hk4
      by_cases h37:hb p q=37
      ·have HRES:=hide (HE.out.symm.trans (setL_bad (k:=k) (f:=f) (b:=first) hq h37 (by omega)))
       have c2:w4.cell? ⟨R,2,none⟩=some (.bool false):=RowF.cell HRd.out (j:=2) (by omega)
       have z2:w4.frozen? ⟨R,2,none⟩=false:=RowF.frz HRd.out 2
       have HB:=hide (RdB.isBad HRd.out)
       have HK:=hide (HKw.out.setCell (S:=fun b=>b=R) (g:=R) (j:=2) rfl (.bool true))
       go_wp2_with fail
       refine bodyPost_ret (v:=.slice (some ⟨g,0,none⟩) 256 256) ?_ rfl ⟨HK.out,g,rfl,hg,.inr ⟨HNo.out HRES.out,q,by omega,HB.out⟩⟩
       simp [results,Tryz.results42,go_sem]
      ·have HE2:=hide ((setL_one (k:=k) (f:=f) (b:=first) H93.out h37 hq (by omega)).symm.trans HE.out)
       have d0:w4.cell? ⟨g,(hb p q).toNat,none⟩=some (.bool (f (hb p q).toNat)):=RowF.cell HSet.out (j:=(hb p q).toNat) (by omega)
       have e0:w4.frozen? ⟨g,(hb p q).toNat,none⟩=false:=RowF.frz HSet.out (hb p q).toNat
       have HSet:=hide ((SetF.put HSet.out (j:=(hb p q).toNat) (by omega)).congr (f':=fun c=>f c||decide ((c:Int)=hb p q)) fun j hj=>by rw [show decide ((j:Int)=hb p q)=decide (j=(hb p q).toNat) from decide_eq_decide.2 (by omega)])
       have HRd:=hide (RdB.keep HRd.out ((Keeps.refl w4 (fun b=>b=g)).setCell (g:=g) (j:=(hb p q).toNat) rfl (.bool true)) (by omega))
       have HKw:=hide (HKw.out.past (g:=g) (j:=(hb p q).toNat) hg (.bool true))
       have c1:(w4.setCell ⟨g,(hb p q).toNat,none⟩ (.bool true)).cell? ⟨R,1,none⟩=some (.int .i64 q):=RowF.cell HRd.out (j:=1) (by omega)
       have z1:(w4.setCell ⟨g,(hb p q).toNat,none⟩ (.bool true)).frozen? ⟨R,1,none⟩=false:=RowF.frz HRd.out 1
       have HN:=hide (RdB.pos (at':=q+1) HRd.out)
       have HS:=hide (SetF.keep HSet.out ((Keeps.refl (w4.setCell ⟨g,(hb p q).toNat,none⟩ (.bool true)) (fun b=>b=R)).setCell (g:=R) (j:=1) rfl (.int .i64 ((q+1:Nat):Int))) (by omega))
       have HK:=hide (HKw.out.setCell (S:=fun b=>b=R) (g:=R) (j:=1) rfl (.int .i64 ((q+1:Nat):Int)))
       rw [show ((q+1:Nat):Int)=(q:Int)+1 by omega] at HN HS HK
       clear HRd HSet HKw HE
       go_wp2_with fail
       go_roundw
       case rel=>exact ⟨q+1,k,_,false,rfl,by omega,by omega,HN,HS,HK,HE2⟩
       case measure=>rw [RdB.posOf HN.out,RdB.posOf HRd0.out];omega
  ·go_wp2_with fail
   refine (here_out R p q 0 false vi vo vd wr (by omega) (by omega) (by omega) HRd.out (by omega)).mono ?_
   rintro e w2 ⟨rfl,hk2⟩
   have HRd:=hide (RdB.keep HRd.out hk2 (fun x=>x))
   have HSet:=hide (SetF.keep HSet.out hk2 (fun x=>x))
   have HKw:=hide (HKw.out.on hk2 (fun b _ hb=>hb.elim))
   clear hk2
   have HRES:=hide (HE.out.symm.trans (setL_end (k:=k) (f:=f) (b:=first) hq))
   have c2:w2.cell? ⟨R,2,none⟩=some (.bool false):=RowF.cell HRd.out (j:=2) (by omega)
   have z2:w2.frozen? ⟨R,2,none⟩=false:=RowF.frz HRd.out 2
   have HB:=hide (RdB.isBad HRd.out)
   have HK:=hide (HKw.out.setCell (S:=fun b=>b=R) (g:=R) (j:=2) rfl (.bool true))
   go_wp2_with fail
   refine bodyPost_ret (v:=.slice (some ⟨g,0,none⟩) 256 256) ?_ rfl ⟨HK.out,g,rfl,hg,.inr ⟨HNo.out HRES.out,q,by omega,HB.out⟩⟩
   simp [results,Tryz.results42,go_sem]
theorem set_any (R:Nat) (p:ByteArray) (at_:Nat) (vi vo vd:Value) (w:World) (ha:at_<p.size) (hp:p.size≤200) (h:RdB w R p at_ false vi vo vd):
 Calls Tryz.prog 42 #[.pointer (some ⟨R,0,none⟩)] w fun e w'=>SetR R p vi vo vd (rdSet p at_) w e w':=by
 by_cases h94:hb p (at_+1)=94
 ·exact set_turned R p at_ vi vo vd w ha hp h94 h
 ·exact set_plain R p at_ vi vo vd w ha hp h94 h
end Go.Proofs.YtlgodacccilabaaGreatDoor
