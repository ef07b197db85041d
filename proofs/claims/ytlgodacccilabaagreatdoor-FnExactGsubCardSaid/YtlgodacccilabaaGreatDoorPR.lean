import Derived.Test.YtlgodacccilabaaGreatDoorJQF
import Derived.Test.YtlgodacccilabaaGreatDoorJQE
import Derived.Deep.RegionLaw
namespace Go.Proofs.YtlgodacccilabaaGreatDoor
open Go Go.RowKit
set_option linter.unusedVariables false
set_option maxHeartbeats 6400000 in
set_option maxRecDepth 100000 in
theorem read_any (p:ByteArray) (w:World) (hp20:p.size≤1048576):
 Calls Tryz.prog 15 #[.string p] w fun e w'=>PtR p w e w':=by
 have HZ:=hide (show RowF (w.alloc (.cells #[nilS,nilS,Value.bool false] 36)) 36 w.heap.size 3 (fun j=>#[nilS,nilS,Value.bool false].getD j (.bool false)) from RowF.mk' w 36 #[nilS,nilS,Value.bool false])
 have HB:=hide (b_1 w (.cells #[nilS,nilS,Value.bool false] 36))
 by_cases hps:p.size≤200
 ·have hps2:¬ ((200:Int)<(p.size:Int)):=by omega
  have hsz:(w.alloc (.cells #[nilS,nilS,Value.bool false] 36)).heap.size=w.heap.size+1:=by simp
  have kb:Keeps (w.alloc (.cells #[nilS,nilS,Value.bool false] 36)) ((w.alloc (.cells #[nilS,nilS,Value.bool false] 36)).alloc (.cells #[Value.string p,.int .i64 0,.bool false,nilS,nilS,nilS] 89)) (fun _=>False):=Keeps.of (b_1 _ _) (Nat.le_refl _) _
  have HZ2:=hide (HZ.out.keep kb (fun x=>x))
  have HB2:=hide (HB.out.trans ((b_1 (w.alloc (.cells #[nilS,nilS,Value.bool false] 36)) (.cells #[Value.string p,.int .i64 0,.bool false,nilS,nilS,nilS] 89)).mono (by omega)))
  have HRd:=hide (show RdB ((w.alloc (.cells #[nilS,nilS,Value.bool false] 36)).alloc (.cells #[Value.string p,.int .i64 0,.bool false,nilS,nilS,nilS] 89)) (w.alloc (.cells #[nilS,nilS,Value.bool false] 36)).heap.size p 0 false nilS nilS nilS from (RowF.mk' (w.alloc (.cells #[nilS,nilS,Value.bool false] 36)) 89 #[Value.string p,.int .i64 0,.bool false,nilS,nilS,nilS]).congr fun j hj=>by
   have hj6:j<6:=by simpa using hj
   clear hj
   rcases j with _|_|_|_|_|_|j
   all_goals simp [rcells]
   all_goals omega)
  rw [hsz] at HRd
  have HZ0:=HZ
  have HB0:=HB
  clear HZ HB kb hsz
  have hx0:0<p.size→∀ w':World,(Instr.index 9 (.string p) (.int .i64 0)).run Tryz.prog w'=.ok (.int .u8 (hb p 0)) w':=fun h0 w'=>by
   rw [idx_str p (i:=0) w' (by omega) (by omega)];rfl
  rcases Nat.eq_zero_or_pos p.size with h0|h0
  ·have h94:¬ hb p 0=94:=by rw [hb_out (by omega)];omega
   have h02:¬ ((0:Int)<(p.size:Int)):=by omega
   have H94:=hide (decide_eq_false h94)
   have HP0:=hide (show rd0 p=⟨0,[],[],[]⟩ by rw [rd0,if_neg h94])
   have hpz:p.size≤0:=by omega
   clear h94 hx0 h0
   go_enter Tryz.func15,Tryz.ntmps15
   go_wp2_with fail
   have HQ:=hide (show QR (((w.alloc (.cells #[nilS,nilS,Value.bool false] 36)).alloc (.cells #[Value.string p,.int .i64 0,.bool false,nilS,nilS,nilS] 89))) (w.heap.size+1) p 0 [] [] [] nilS nilS nilS from ⟨HRd.out,⟨rfl,.inl ⟨rfl,rfl⟩⟩,⟨rfl,.inl ⟨rfl,rfl⟩⟩,⟨rfl,.inl ⟨rfl,rfl⟩⟩,fun u hu=>by simp at hu,fun u hu=>by simp at hu⟩)
   have HZ:=HZ2
   have HB:=HB2
   clear HRd HZ2 HB2 HZ0 HB0 h02
   generalize ((w.alloc (.cells #[nilS,nilS,Value.bool false] 36)).alloc (.cells #[Value.string p,.int .i64 0,.bool false,nilS,nilS,nilS] 89))=w1 at *
   have hww:w.heap.size<w.heap.size+1:=by omega
   generalize w.heap.size+1=R at *
   go_loopw [] (fun wr=>(∃ (rd:Rd) (us:List (It × Value)) (vi vo vd:Value) (k:Nat),rd.pos≤p.size∧p.size≤k+rd.pos∧us.length≤rd.pos∧rd.opn.length≤rd.pos∧rd.done.length≤rd.pos∧Hid (us.map Prod.fst=rd.items)∧Hid (RdJ rd)∧Hid (rdAll p 200 (rd0 p)=rdAll p k rd)∧Hid (QR wr R p rd.pos us rd.opn rd.done vi vo vd)∧Hid (RowF wr 36 w.heap.size 3 (fun j=>#[nilS,nilS,Value.bool false].getD j (.bool false)))∧Hid (Below w.heap.size w wr))∨
    (∃ (q:Nat) (vi vo vd:Value),q≤100000∧Hid (rdAll p 200 (rd0 p)=none)∧Hid (RdB wr R p q true vi vo vd)∧Hid (RowF wr 36 w.heap.size 3 (fun j=>#[nilS,nilS,Value.bool false].getD j (.bool false)))∧Hid (Below w.heap.size w wr))) (fun wr=>mRd p R wr)
   case atStart=>exact .inl ⟨rd0 p,[],nilS,nilS,nilS,200,by rw [HP0.out];show (0:Nat)≤p.size;omega,by omega,by simp,by simp [rd0],by simp [rd0],hide rfl,hide (rdJ0 p),hide rfl,hide (by rw [HP0.out];exact HQ.out),HZ,HB⟩
   case round=>
    clear HQ HZ HB
    rcases hrel with ⟨rd,us,vi,vo,vd,k0,hp1,hp2,hu1,hu2,hu3,HIT,HJ,HO,HQ,HZ,HB⟩|⟨q,vi,vo,vd,hq9,HO,HRb,HZ,HB⟩
    ·have c1:wr.cell? ⟨R,1,none⟩=some (.int .i64 (rd.pos:Int)):=RowF.cell HQ.out.b (j:=1) (by omega)
     have c2:wr.cell? ⟨R,2,none⟩=some (.bool false):=RowF.cell HQ.out.b (j:=2) (by omega)
     by_cases hlt:rd.pos<p.size
     ·exfalso;omega
     ·have hlt2:¬ ((rd.pos:Int)<(p.size:Int)):=by omega
      have HO2:=hide (HO.out.trans (rdAll_end hlt))
      obtain ⟨ao,ko,hvo⟩:=owns_val HQ.out.n
      obtain ⟨ad,kd,hvd⟩:=owns_val HQ.out.d
      obtain ⟨ai,ki,hvi⟩:=owns_val HQ.out.i
      subst hvo hvd hvi
      have c4:wr.cell? ⟨R,4,none⟩=some (.slice ao rd.opn.length ko):=RowF.cell HQ.out.b (j:=4) (by omega)
      have c5:wr.cell? ⟨R,5,none⟩=some (.slice ad rd.done.length kd):=RowF.cell HQ.out.b (j:=5) (by omega)
      by_cases hop:0<rd.opn.length
      ·exfalso;omega
      ·have hop2:¬ ((0:Int)<(rd.opn.length:Int)):=by omega
       by_cases hd16:16<rd.done.length
       ·exfalso;omega
       ·have hd2:¬ ((16:Int)<(rd.done.length:Int)):=by omega
        have HR:=hide (show rdPat p=some ⟨rd.items,rd.done.length,isPl rd.items,false⟩ by
         rw [rdPat_eq hps,HO2.out]
         simp only [Option.bind_some]
         rw [if_pos ⟨List.length_eq_zero_iff.1 (by omega),by omega⟩,H94.out])
        go_wp2_with fail
        obtain ⟨MC,hMC⟩:∃ MC,MC=madeCells #[Value.bool false] rd.done.length:=⟨_,rfl⟩
        have hmk:∀ w9:World,(Instr.makeSlice 34 (.int .i64 (rd.done.length:Int)) (.int .i64 (rd.done.length:Int))).run Tryz.prog w9=.ok (.slice (some ⟨w9.heap.size,0,none⟩) rd.done.length rd.done.length) (w9.alloc (.cells MC 4)):=fun w9=>by
         obtain ⟨i0,hi,hz0,hz1,hz2⟩:=info_parts Tryz.info4
         have h9:=run_make (P:=Tryz.prog) w9 34 4 i0 (.bool false) Tryz.underlying34 hi hz0 .i64 .i64 rd.done.length rd.done.length (by omega) (Int.le_refl _) (by rw [hz2];omega) (by omega)
         rw [h9,hMC]
         simp [hz1]
         rfl
        have HMC:=hide hMC
        clear hMC
        have c3:wr.cell? ⟨R,3,none⟩=some (.slice ai us.length ki):=RowF.cell HQ.out.b (j:=3) (by omega)
        have e3:=((b_1 wr (.cells #[nilS,nilS,Value.bool false] 36)).cell (p:=⟨R,3,none⟩) HQ.out.lt).trans c3
        have e5:=((b_1 wr (.cells #[nilS,nilS,Value.bool false] 36)).cell (p:=⟨R,5,none⟩) HQ.out.lt).trans c5
        have f3:=((b_1 wr (.cells MC 4)).cell (p:=⟨R,3,none⟩) HQ.out.lt).trans c3
        have f5:=((b_1 wr (.cells MC 4)).cell (p:=⟨R,5,none⟩) HQ.out.lt).trans c5
        have g3:=((b_2 wr (.cells #[nilS,nilS,Value.bool false] 36) (.cells MC 4)).cell (p:=⟨R,3,none⟩) HQ.out.lt).trans c3
        have k3:=((b_2 wr (.cells MC 4) (.cells #[nilS,nilS,Value.bool false] 36)).cell (p:=⟨R,3,none⟩) HQ.out.lt).trans c3
        go_region
        ·have HPl:=hide (show RowF (((wr.alloc (.cells MC 4)).alloc (.cells #[Value.slice ai us.length ki,.slice (some ⟨wr.heap.size,0,none⟩) rd.done.length rd.done.length,.bool false] 36)).drew) 4 wr.heap.size rd.done.length (fun _=>.bool false) from ((mc_row wr HMC.out).low (b_1 (wr.alloc (.cells MC 4)) _) (by simp)).keep ((Keeps.refl _ (fun _=>False)).dr1) (fun x=>x))
         have HOu:=hide (show RowF (((wr.alloc (.cells MC 4)).alloc (.cells #[Value.slice ai us.length ki,.slice (some ⟨wr.heap.size,0,none⟩) rd.done.length rd.done.length,.bool false] 36)).drew) 36 (wr.heap.size+1) 3 (fun c=>#[Value.slice ai us.length ki,.slice (some ⟨wr.heap.size,0,none⟩) rd.done.length rd.done.length,.bool false].getD c (.bool false)) from by have h9:=(RowF.mk' (wr.alloc (.cells MC 4)) 36 #[Value.slice ai us.length ki,.slice (some ⟨wr.heap.size,0,none⟩) rd.done.length rd.done.length,.bool false]).keep ((Keeps.refl _ (fun _=>False)).dr1) (fun x=>x);simpa using h9)
         have kk:=((Keeps.of (b_2 wr (.cells MC 4) (.cells #[Value.slice ai us.length ki,.slice (some ⟨wr.heap.size,0,none⟩) rd.done.length rd.done.length,.bool false] 36)) (Nat.le_refl _) (fun _=>False)).dr1)
         have HIt:=hide ((owns_slF HQ.out.i).keep kk (fun _ _ x=>x))
         have HSt:=hide (show ∀ u∈us,SetV (((wr.alloc (.cells MC 4)).alloc (.cells #[Value.slice ai us.length ki,.slice (some ⟨wr.heap.size,0,none⟩) rd.done.length rd.done.length,.bool false] 36)).drew) u from fun u hu=>(HQ.out.s u hu).keep kk (fun _ _ x=>x))
         have HGP:=hide (show ∀ u∈us,∀ g,u.2.ownBlock=some g→¬ g=wr.heap.size from fun u hu g hg=>by
          rcases HQ.out.s u hu with ⟨h1,_⟩|⟨g',h1,h2⟩
          ·rw [h1] at hg;simp [Value.ownBlock] at hg
          ·rw [h1] at hg
           have e9:g'=g:=by simpa [Value.ownBlock] using hg
           subst e9
           have:=RowF.lt h2
           omega)
         have HZ9:=hide (HZ.out.keep kk (fun x=>x))
         have HB9:=hide (show Below w.heap.size w (((wr.alloc (.cells MC 4)).alloc (.cells #[Value.slice ai us.length ki,.slice (some ⟨wr.heap.size,0,none⟩) rd.done.length rd.done.length,.bool false] 36)).drew) from HB.out.trans ((show Below wr.heap.size wr (((wr.alloc (.cells MC 4)).alloc (.cells #[Value.slice ai us.length ki,.slice (some ⟨wr.heap.size,0,none⟩) rd.done.length rd.done.length,.bool false] 36)).drew) from (b_2 wr _ _).drew).mono HB.out.size))
         have hgp:w.heap.size<wr.heap.size:=by have:=HZ.out.lt;omega
         have hgo:w.heap.size<(wr.heap.size+1):=by have:=HZ.out.lt;omega
         have n3:(((wr.alloc (.cells MC 4)).alloc (.cells #[Value.slice ai us.length ki,.slice (some ⟨wr.heap.size,0,none⟩) rd.done.length rd.done.length,.bool false] 36)).drew).cell? ⟨R,3,none⟩=some (.slice ai us.length ki):=RowF.cell (RdB.keep HQ.out.b kk (fun x=>x)) (j:=3) (by omega)
         clear kk c1 c2 c3 c4 c5 e3 e5 f3 f5 g3 k3 hmk HMC HZ HB HQ
         generalize ((wr.alloc (.cells MC 4)).alloc (.cells #[Value.slice ai us.length ki,.slice (some ⟨wr.heap.size,0,none⟩) rd.done.length rd.done.length,.bool false] 36)).drew=w9 at *
         generalize wr.heap.size+1=GO at *
         generalize wr.heap.size=GP at *
         go_wp2_with fail
         go_loopw [82] (fun iv wl=>∃ j:Nat,iv=.int .i64 j∧j≤us.length∧Hid (RowF wl 4 GP rd.done.length (fun c=>.bool (isPl (rd.items.take j) c)))∧Hid (RowF wl 36 GO 3 (fun c=>#[Value.slice ai us.length ki,.slice (some ⟨GP,0,none⟩) rd.done.length rd.done.length,.bool false].getD c (.bool false)))∧Hid (SlF wl 91 6 (.slice ai us.length ki) us.length (itF us))∧Hid (∀ u∈us,SetV wl u)∧Hid (RowF wl 36 w.heap.size 3 (fun j=>#[nilS,nilS,Value.bool false].getD j (.bool false)))∧Hid (Below w.heap.size w wl)) (fun iv _=>us.length+1-ivN iv)
         case atStart=>exact ⟨0,rfl,by omega,hide (HPl.out.congr fun c hc=>by simp [isPl]),HOu,HIt,HSt,HZ9,HB9⟩
         case round=>
          clear HPl HOu HIt HSt HZ9 HB9
          obtain ⟨j,rfl,hj,HPl,HOu,HIt,HSt,HZ,HB⟩:=hrel
          by_cases hjl:j<us.length
          ·exfalso;omega
          ·obtain rfl:j=us.length:=by omega
           have hjl2:¬ ((us.length:Int)<(us.length:Int)):=by omega
           have o0:wr.cell? ⟨GO,0,none⟩=some (.slice ai us.length ki):=HOu.out.cell (j:=0) (by omega)
           have o1:wr.cell? ⟨GO,1,none⟩=some (.slice (some ⟨GP,0,none⟩) rd.done.length rd.done.length):=HOu.out.cell (j:=1) (by omega)
           have o2:wr.cell? ⟨GO,2,none⟩=some (.bool false):=HOu.out.cell (j:=2) (by omega)
           have r0:=HZ.out.cell (j:=0) (by omega)
           have r1:=HZ.out.cell (j:=1) (by omega)
           have r2:=HZ.out.cell (j:=2) (by omega)
           have y0:=HZ.out.frz 0
           have y1:=HZ.out.frz 1
           have y2:=HZ.out.frz 2
           have k9:Keeps wr (((wr.setCell ⟨w.heap.size,0,none⟩ (.slice ai us.length ki)).setCell ⟨w.heap.size,1,none⟩ (.slice (some ⟨GP,0,none⟩) rd.done.length rd.done.length)).setCell ⟨w.heap.size,2,none⟩ (.bool false)) (fun b=>b=w.heap.size):=(((Keeps.refl wr (fun b=>b=w.heap.size)).setCell (S:=fun b=>b=w.heap.size) (j:=0) rfl _).setCell (S:=fun b=>b=w.heap.size) (j:=1) rfl _).setCell (S:=fun b=>b=w.heap.size) (j:=2) rfl _
           have HBf:=hide (((HB.out.setCell (p:=⟨w.heap.size,0,none⟩) (Nat.le_refl _) (.slice ai us.length ki)).setCell (p:=⟨w.heap.size,1,none⟩) (Nat.le_refl _) (.slice (some ⟨GP,0,none⟩) rd.done.length rd.done.length)).setCell (p:=⟨w.heap.size,2,none⟩) (Nat.le_refl _) (.bool false))
           have HItf:=hide (HIt.out.pastG k9 HZ.out (by decide))
           have HPlf:=hide ((HPl.out.keep k9 (by omega)).congr (f':=fun c=>.bool (isPl rd.items c)) fun c hc=>by rw [List.take_of_length_le (by rw [←HIT.out];simp)])
           have HStf:=hide (show ∀ u9∈us,SetV (((wr.setCell ⟨w.heap.size,0,none⟩ (.slice ai us.length ki)).setCell ⟨w.heap.size,1,none⟩ (.slice (some ⟨GP,0,none⟩) rd.done.length rd.done.length)).setCell ⟨w.heap.size,2,none⟩ (.bool false)) u9 from fun u9 h9=>(HSt.out u9 h9).keep k9 (fun g hg e=>RowF.apart hg HZ.out (by decide) e))
           clear k9
           go_wp2_with fail
           refine bodyPost_ret (v:=.tuple #[.agg #[.slice ai us.length ki,.slice (some ⟨GP,0,none⟩) rd.done.length rd.done.length,.bool false],.bool true]) ?_ rfl ⟨HBf.out,.inr ⟨⟨rd.items,rd.done.length,isPl rd.items,false⟩,us,ai,ki,_,rd.done.length,HR.out,rfl,HIT.out,by omega,HItf.out,⟨_,_,rfl,Nat.le_refl _,.inr ⟨GP,rfl,by rw [Nat.mul_one];exact HPlf.out⟩⟩,HStf.out⟩⟩
           simp [results,Tryz.results15,go_sem,r0,r1,r2]
        ·have HPl:=hide (show RowF (((wr.alloc (.cells #[Value.slice ai us.length ki,.slice (some ⟨wr.heap.size+1,0,none⟩) rd.done.length rd.done.length,.bool false] 36)).alloc (.cells MC 4)).drew) 4 (wr.heap.size+1) rd.done.length (fun _=>.bool false) from by have h9:=(mc_row (wr.alloc (.cells #[Value.slice ai us.length ki,.slice (some ⟨wr.heap.size+1,0,none⟩) rd.done.length rd.done.length,.bool false] 36)) HMC.out).keep ((Keeps.refl _ (fun _=>False)).dr1) (fun x=>x);simpa using h9)
         have HOu:=hide (show RowF (((wr.alloc (.cells #[Value.slice ai us.length ki,.slice (some ⟨wr.heap.size+1,0,none⟩) rd.done.length rd.done.length,.bool false] 36)).alloc (.cells MC 4)).drew) 36 wr.heap.size 3 (fun c=>#[Value.slice ai us.length ki,.slice (some ⟨wr.heap.size+1,0,none⟩) rd.done.length rd.done.length,.bool false].getD c (.bool false)) from ((RowF.mk' wr 36 #[Value.slice ai us.length ki,.slice (some ⟨wr.heap.size+1,0,none⟩) rd.done.length rd.done.length,.bool false]).low (b_1 (wr.alloc (.cells #[Value.slice ai us.length ki,.slice (some ⟨wr.heap.size+1,0,none⟩) rd.done.length rd.done.length,.bool false] 36)) _) (by simp)).keep ((Keeps.refl _ (fun _=>False)).dr1) (fun x=>x))
         have kk:=((Keeps.of (b_2 wr (.cells #[Value.slice ai us.length ki,.slice (some ⟨wr.heap.size+1,0,none⟩) rd.done.length rd.done.length,.bool false] 36) (.cells MC 4)) (Nat.le_refl _) (fun _=>False)).dr1)
         have HIt:=hide ((owns_slF HQ.out.i).keep kk (fun _ _ x=>x))
         have HSt:=hide (show ∀ u∈us,SetV (((wr.alloc (.cells #[Value.slice ai us.length ki,.slice (some ⟨wr.heap.size+1,0,none⟩) rd.done.length rd.done.length,.bool false] 36)).alloc (.cells MC 4)).drew) u from fun u hu=>(HQ.out.s u hu).keep kk (fun _ _ x=>x))
         have HGP:=hide (show ∀ u∈us,∀ g,u.2.ownBlock=some g→¬ g=(wr.heap.size+1) from fun u hu g hg=>by
          rcases HQ.out.s u hu with ⟨h1,_⟩|⟨g',h1,h2⟩
          ·rw [h1] at hg;simp [Value.ownBlock] at hg
          ·rw [h1] at hg
           have e9:g'=g:=by simpa [Value.ownBlock] using hg
           subst e9
           have:=RowF.lt h2
           omega)
         have HZ9:=hide (HZ.out.keep kk (fun x=>x))
         have HB9:=hide (show Below w.heap.size w (((wr.alloc (.cells #[Value.slice ai us.length ki,.slice (some ⟨wr.heap.size+1,0,none⟩) rd.done.length rd.done.length,.bool false] 36)).alloc (.cells MC 4)).drew) from HB.out.trans ((show Below wr.heap.size wr (((wr.alloc (.cells #[Value.slice ai us.length ki,.slice (some ⟨wr.heap.size+1,0,none⟩) rd.done.length rd.done.length,.bool false] 36)).alloc (.cells MC 4)).drew) from (b_2 wr _ _).drew).mono HB.out.size))
         have hgp:w.heap.size<(wr.heap.size+1):=by have:=HZ.out.lt;omega
         have hgo:w.heap.size<wr.heap.size:=by have:=HZ.out.lt;omega
         have n3:(((wr.alloc (.cells #[Value.slice ai us.length ki,.slice (some ⟨wr.heap.size+1,0,none⟩) rd.done.length rd.done.length,.bool false] 36)).alloc (.cells MC 4)).drew).cell? ⟨R,3,none⟩=some (.slice ai us.length ki):=RowF.cell (RdB.keep HQ.out.b kk (fun x=>x)) (j:=3) (by omega)
         clear kk c1 c2 c3 c4 c5 e3 e5 f3 f5 g3 k3 hmk HMC HZ HB HQ
         generalize ((wr.alloc (.cells #[Value.slice ai us.length ki,.slice (some ⟨wr.heap.size+1,0,none⟩) rd.done.length rd.done.length,.bool false] 36)).alloc (.cells MC 4)).drew=w9 at *
         generalize wr.heap.size+1=GP at *
         generalize wr.heap.size=GO at *
         go_wp2_with fail
         go_loopw [82] (fun iv wl=>∃ j:Nat,iv=.int .i64 j∧j≤us.length∧Hid (RowF wl 4 GP rd.done.length (fun c=>.bool (isPl (rd.items.take j) c)))∧Hid (RowF wl 36 GO 3 (fun c=>#[Value.slice ai us.length ki,.slice (some ⟨GP,0,none⟩) rd.done.length rd.done.length,.bool false].getD c (.bool false)))∧Hid (SlF wl 91 6 (.slice ai us.length ki) us.length (itF us))∧Hid (∀ u∈us,SetV wl u)∧Hid (RowF wl 36 w.heap.size 3 (fun j=>#[nilS,nilS,Value.bool false].getD j (.bool false)))∧Hid (Below w.heap.size w wl)) (fun iv _=>us.length+1-ivN iv)
         case atStart=>exact ⟨0,rfl,by omega,hide (HPl.out.congr fun c hc=>by simp [isPl]),HOu,HIt,HSt,HZ9,HB9⟩
         case round=>
          clear HPl HOu HIt HSt HZ9 HB9
          obtain ⟨j,rfl,hj,HPl,HOu,HIt,HSt,HZ,HB⟩:=hrel
          by_cases hjl:j<us.length
          ·exfalso;omega
          ·obtain rfl:j=us.length:=by omega
           have hjl2:¬ ((us.length:Int)<(us.length:Int)):=by omega
           have o0:wr.cell? ⟨GO,0,none⟩=some (.slice ai us.length ki):=HOu.out.cell (j:=0) (by omega)
           have o1:wr.cell? ⟨GO,1,none⟩=some (.slice (some ⟨GP,0,none⟩) rd.done.length rd.done.length):=HOu.out.cell (j:=1) (by omega)
           have o2:wr.cell? ⟨GO,2,none⟩=some (.bool false):=HOu.out.cell (j:=2) (by omega)
           have r0:=HZ.out.cell (j:=0) (by omega)
           have r1:=HZ.out.cell (j:=1) (by omega)
           have r2:=HZ.out.cell (j:=2) (by omega)
           have y0:=HZ.out.frz 0
           have y1:=HZ.out.frz 1
           have y2:=HZ.out.frz 2
           have k9:Keeps wr (((wr.setCell ⟨w.heap.size,0,none⟩ (.slice ai us.length ki)).setCell ⟨w.heap.size,1,none⟩ (.slice (some ⟨GP,0,none⟩) rd.done.length rd.done.length)).setCell ⟨w.heap.size,2,none⟩ (.bool false)) (fun b=>b=w.heap.size):=(((Keeps.refl wr (fun b=>b=w.heap.size)).setCell (S:=fun b=>b=w.heap.size) (j:=0) rfl _).setCell (S:=fun b=>b=w.heap.size) (j:=1) rfl _).setCell (S:=fun b=>b=w.heap.size) (j:=2) rfl _
           have HBf:=hide (((HB.out.setCell (p:=⟨w.heap.size,0,none⟩) (Nat.le_refl _) (.slice ai us.length ki)).setCell (p:=⟨w.heap.size,1,none⟩) (Nat.le_refl _) (.slice (some ⟨GP,0,none⟩) rd.done.length rd.done.length)).setCell (p:=⟨w.heap.size,2,none⟩) (Nat.le_refl _) (.bool false))
           have HItf:=hide (HIt.out.pastG k9 HZ.out (by decide))
           have HPlf:=hide ((HPl.out.keep k9 (by omega)).congr (f':=fun c=>.bool (isPl rd.items c)) fun c hc=>by rw [List.take_of_length_le (by rw [←HIT.out];simp)])
           have HStf:=hide (show ∀ u9∈us,SetV (((wr.setCell ⟨w.heap.size,0,none⟩ (.slice ai us.length ki)).setCell ⟨w.heap.size,1,none⟩ (.slice (some ⟨GP,0,none⟩) rd.done.length rd.done.length)).setCell ⟨w.heap.size,2,none⟩ (.bool false)) u9 from fun u9 h9=>(HSt.out u9 h9).keep k9 (fun g hg e=>RowF.apart hg HZ.out (by decide) e))
           clear k9
           go_wp2_with fail
           refine bodyPost_ret (v:=.tuple #[.agg #[.slice ai us.length ki,.slice (some ⟨GP,0,none⟩) rd.done.length rd.done.length,.bool false],.bool true]) ?_ rfl ⟨HBf.out,.inr ⟨⟨rd.items,rd.done.length,isPl rd.items,false⟩,us,ai,ki,_,rd.done.length,HR.out,rfl,HIT.out,by omega,HItf.out,⟨_,_,rfl,Nat.le_refl _,.inr ⟨GP,rfl,by rw [Nat.mul_one];exact HPlf.out⟩⟩,HStf.out⟩⟩
           simp [results,Tryz.results15,go_sem,r0,r1,r2]
    ·have c1:wr.cell? ⟨R,1,none⟩=some (.int .i64 (q:Int)):=RowF.cell HRb.out (j:=1) (by omega)
     have c2:wr.cell? ⟨R,2,none⟩=some (.bool true):=RowF.cell HRb.out (j:=2) (by omega)
     have HR:=hide (show rdPat p=none by rw [rdPat_eq hps,HO.out];rfl)
     by_cases hq2:q<p.size
     ·exfalso;omega
     ·have hq3:¬ ((q:Int)<(p.size:Int)):=by omega
      have r0:=HZ.out.cell (j:=0) (by omega)
      have r1:=HZ.out.cell (j:=1) (by omega)
      have r2:=HZ.out.cell (j:=2) (by omega)
      have y0:=HZ.out.frz 0
      have y1:=HZ.out.frz 1
      have y2:=HZ.out.frz 2
      have HBf:=hide (((HB.out.setCell (p:=⟨w.heap.size,0,none⟩) (Nat.le_refl _) nilS).setCell (p:=⟨w.heap.size,1,none⟩) (Nat.le_refl _) nilS).setCell (p:=⟨w.heap.size,2,none⟩) (Nat.le_refl _) (.bool false))
      go_wp2_with fail
      refine bodyPost_ret (v:=.tuple #[.agg #[nilS,nilS,.bool false],.bool false]) ?_ rfl ⟨HBf.out,.inl ⟨HR.out,rfl⟩⟩
      simp [results,Tryz.results15,go_sem,r0,r1,r2]
  ·have h02:(0:Int)<(p.size:Int):=by omega
   have hx0:=hx0 h0
   by_cases h94:hb p 0=94
   ·have H94:=hide (decide_eq_true h94)
    have HP0:=hide (show rd0 p=⟨1,[],[],[]⟩ by rw [rd0,if_pos h94])
    have b94:(hb p 0==94)=true:=beq_iff_eq.2 h94
    clear h94
    have kb1:Keeps (w.alloc (.cells #[nilS,nilS,Value.bool false] 36)) ((w.alloc (.cells #[nilS,nilS,Value.bool false] 36)).alloc (.cells #[Value.string p,.int .i64 1,.bool false,nilS,nilS,nilS] 89)) (fun _=>False):=Keeps.of (b_1 _ _) (Nat.le_refl _) _
    clear HZ2 HB2 HRd
    have HZ2:=hide (HZ0.out.keep kb1 (fun x=>x))
    have HB2:=hide (HB0.out.trans ((b_1 (w.alloc (.cells #[nilS,nilS,Value.bool false] 36)) (.cells #[Value.string p,.int .i64 1,.bool false,nilS,nilS,nilS] 89)).mono (by simp)))
    have HRd:=hide (show RdB ((w.alloc (.cells #[nilS,nilS,Value.bool false] 36)).alloc (.cells #[Value.string p,.int .i64 1,.bool false,nilS,nilS,nilS] 89)) (w.alloc (.cells #[nilS,nilS,Value.bool false] 36)).heap.size p 1 false nilS nilS nilS from (RowF.mk' (w.alloc (.cells #[nilS,nilS,Value.bool false] 36)) 89 #[Value.string p,.int .i64 1,.bool false,nilS,nilS,nilS]).congr fun j hj=>by
     have hj6:j<6:=by simpa using hj
     clear hj
     rcases j with _|_|_|_|_|_|j
     all_goals simp [rcells]
     all_goals omega)
    rw [show (w.alloc (.cells #[nilS,nilS,Value.bool false] 36)).heap.size=w.heap.size+1 by simp] at HRd
    clear kb1
    go_enter Tryz.func15,Tryz.ntmps15
    go_wp2_with fail
    have HQ:=hide (show QR (((w.alloc (.cells #[nilS,nilS,Value.bool false] 36)).alloc (.cells #[Value.string p,.int .i64 1,.bool false,nilS,nilS,nilS] 89))) (w.heap.size+1) p 1 [] [] [] nilS nilS nilS from ⟨HRd.out,⟨rfl,.inl ⟨rfl,rfl⟩⟩,⟨rfl,.inl ⟨rfl,rfl⟩⟩,⟨rfl,.inl ⟨rfl,rfl⟩⟩,fun u hu=>by simp at hu,fun u hu=>by simp at hu⟩)
    have HZ:=HZ2
    have HB:=HB2
    clear HRd HZ2 HB2 HZ0 HB0 h02
    generalize ((w.alloc (.cells #[nilS,nilS,Value.bool false] 36)).alloc (.cells #[Value.string p,.int .i64 1,.bool false,nilS,nilS,nilS] 89))=w1 at *
    have hww:w.heap.size<w.heap.size+1:=by omega
    generalize w.heap.size+1=R at *
    go_loopw [] (fun wr=>(∃ (rd:Rd) (us:List (It × Value)) (vi vo vd:Value) (k:Nat),rd.pos≤p.size∧p.size≤k+rd.pos∧us.length≤rd.pos∧rd.opn.length≤rd.pos∧rd.done.length≤rd.pos∧Hid (us.map Prod.fst=rd.items)∧Hid (RdJ rd)∧Hid (rdAll p 200 (rd0 p)=rdAll p k rd)∧Hid (QR wr R p rd.pos us rd.opn rd.done vi vo vd)∧Hid (RowF wr 36 w.heap.size 3 (fun j=>#[nilS,nilS,Value.bool false].getD j (.bool false)))∧Hid (Below w.heap.size w wr))∨
     (∃ (q:Nat) (vi vo vd:Value),q≤100000∧Hid (rdAll p 200 (rd0 p)=none)∧Hid (RdB wr R p q true vi vo vd)∧Hid (RowF wr 36 w.heap.size 3 (fun j=>#[nilS,nilS,Value.bool false].getD j (.bool false)))∧Hid (Below w.heap.size w wr))) (fun wr=>mRd p R wr)
    case atStart=>exact .inl ⟨rd0 p,[],nilS,nilS,nilS,200,by rw [HP0.out];show (1:Nat)≤p.size;omega,by omega,by simp,by simp [rd0],by simp [rd0],hide rfl,hide (rdJ0 p),hide rfl,hide (by rw [HP0.out];exact HQ.out),HZ,HB⟩
    case round=>
     clear HQ HZ HB
     rcases hrel with ⟨rd,us,vi,vo,vd,k0,hp1,hp2,hu1,hu2,hu3,HIT,HJ,HO,HQ,HZ,HB⟩|⟨q,vi,vo,vd,hq9,HO,HRb,HZ,HB⟩
     ·have c1:wr.cell? ⟨R,1,none⟩=some (.int .i64 (rd.pos:Int)):=RowF.cell HQ.out.b (j:=1) (by omega)
      have c2:wr.cell? ⟨R,2,none⟩=some (.bool false):=RowF.cell HQ.out.b (j:=2) (by omega)
      by_cases hlt:rd.pos<p.size
      ·have hlt2:(rd.pos:Int)<(p.size:Int):=by omega
       obtain ⟨k,rfl⟩:∃ k,k0=k+1:=⟨k0-1,by omega⟩
       have HO2:=hide (HO.out.trans (rdAll_on hlt))
       have HM0:=hide (mRd_ok HQ.out.b)
       go_wp2_with fail
       refine (item_any R p rd us vi vo vd wr hps hlt HJ.out ⟨hu1,hu2,hu3⟩ HIT.out HQ.out).mono ?_
       rintro e w5 ⟨rfl,hb5,⟨rd',us',vi',vo',vd',hr,hit',hq',hq1,hq2⟩|⟨hr,q,vi',vo',vd',hq1,hrb⟩⟩
       ·have hln:=rdItem_len hr
        have HIL:=hide (show us'.length=rd'.items.length by rw [←hit'];simp)
        have hul:us.length=rd.items.length:=by rw [←HIT.out];simp
        have hl9:us'.length≤rd'.pos∧rd'.opn.length≤rd'.pos∧rd'.done.length≤rd'.pos:=⟨by rw [HIL.out];omega,by omega,by omega⟩
        have HO3:=hide (HO2.out.trans (show (rdItem p rd).bind (rdAll p k)=rdAll p k rd' by rw [hr,Option.bind_some]))
        have HJ3:=hide (rdItem_j HJ.out hr)
        have HZ3:=hide (HZ.out.low hb5 (by omega))
        have HB3:=hide (HB.out.trans (hb5.mono (by omega)))
        have HQ3:=hide hq'
        have HIT3:=hide hit'
        have HM1:=hide (mRd_ok hq'.b)
        clear c1 c2 HQ HZ HB hb5 hq' hit' HO HO2 HJ hr hln hul HIL
        go_wp2_with fail
        go_roundw
        case rel=>exact .inl ⟨rd',us',vi',vo',vd',k,hq2,by omega,hl9.1,hl9.2.1,hl9.2.2,HIT3,HJ3,HO3,HQ3,HZ3,HB3⟩
        case measure=>rw [HM0.out,HM1.out];omega
       ·have HO3:=hide (HO2.out.trans (show (rdItem p rd).bind (rdAll p k)=none by rw [hr,Option.bind_none]))
        have HZ3:=hide (HZ.out.low hb5 (by omega))
        have HB3:=hide (HB.out.trans (hb5.mono (by omega)))
        have HR3:=hide hrb
        have HM1:=hide (mRd_bad hrb)
        clear c1 c2 HQ HZ HB hb5 hrb HO HO2 HJ hr
        go_wp2_with fail
        go_roundw
        case rel=>exact .inr ⟨q,vi',vo',vd',hq1,HO3,HR3,HZ3,HB3⟩
        case measure=>rw [HM0.out,HM1.out];omega
      ·have hlt2:¬ ((rd.pos:Int)<(p.size:Int)):=by omega
       have HO2:=hide (HO.out.trans (rdAll_end hlt))
       obtain ⟨ao,ko,hvo⟩:=owns_val HQ.out.n
       obtain ⟨ad,kd,hvd⟩:=owns_val HQ.out.d
       obtain ⟨ai,ki,hvi⟩:=owns_val HQ.out.i
       subst hvo hvd hvi
       have c4:wr.cell? ⟨R,4,none⟩=some (.slice ao rd.opn.length ko):=RowF.cell HQ.out.b (j:=4) (by omega)
       have c5:wr.cell? ⟨R,5,none⟩=some (.slice ad rd.done.length kd):=RowF.cell HQ.out.b (j:=5) (by omega)
       by_cases hop:0<rd.opn.length
       ·have hop2:(0:Int)<(rd.opn.length:Int):=by omega
        have HR:=hide (show rdPat p=none by rw [rdPat_eq hps,HO2.out];simp only [Option.bind_some];rw [if_neg (by rintro ⟨x,_⟩;rw [x] at hop;simp at hop)])
        have r0:=HZ.out.cell (j:=0) (by omega)
        have r1:=HZ.out.cell (j:=1) (by omega)
        have r2:=HZ.out.cell (j:=2) (by omega)
        have y0:=HZ.out.frz 0
        have y1:=HZ.out.frz 1
        have y2:=HZ.out.frz 2
        have HBf:=hide (((HB.out.setCell (p:=⟨w.heap.size,0,none⟩) (Nat.le_refl _) nilS).setCell (p:=⟨w.heap.size,1,none⟩) (Nat.le_refl _) nilS).setCell (p:=⟨w.heap.size,2,none⟩) (Nat.le_refl _) (.bool false))
        go_wp2_with fail
        refine bodyPost_ret (v:=.tuple #[.agg #[nilS,nilS,.bool false],.bool false]) ?_ rfl ⟨HBf.out,.inl ⟨HR.out,rfl⟩⟩
        simp [results,Tryz.results15,go_sem,r0,r1,r2]
       ·have hop2:¬ ((0:Int)<(rd.opn.length:Int)):=by omega
        by_cases hd16:16<rd.done.length
        ·have hd2:(16:Int)<(rd.done.length:Int):=by omega
         have HR:=hide (show rdPat p=none by rw [rdPat_eq hps,HO2.out];simp only [Option.bind_some];rw [if_neg (by rintro ⟨_,x⟩;omega)])
         have r0:=HZ.out.cell (j:=0) (by omega)
         have r1:=HZ.out.cell (j:=1) (by omega)
         have r2:=HZ.out.cell (j:=2) (by omega)
         have y0:=HZ.out.frz 0
         have y1:=HZ.out.frz 1
         have y2:=HZ.out.frz 2
         have HBf:=hide (((HB.out.setCell (p:=⟨w.heap.size,0,none⟩) (Nat.le_refl _) nilS).setCell (p:=⟨w.heap.size,1,none⟩) (Nat.le_refl _) nilS).setCell (p:=⟨w.heap.size,2,none⟩) (Nat.le_refl _) (.bool false))
         go_wp2_with fail
         refine bodyPost_ret (v:=.tuple #[.agg #[nilS,nilS,.bool false],.bool false]) ?_ rfl ⟨HBf.out,.inl ⟨HR.out,rfl⟩⟩
         simp [results,Tryz.results15,go_sem,r0,r1,r2]
        ·have hd2:¬ ((16:Int)<(rd.done.length:Int)):=by omega
         have HR:=hide (show rdPat p=some ⟨rd.items,rd.done.length,isPl rd.items,true⟩ by
          rw [rdPat_eq hps,HO2.out]
          simp only [Option.bind_some]
          rw [if_pos ⟨List.length_eq_zero_iff.1 (by omega),by omega⟩,H94.out])
         go_wp2_with fail
         obtain ⟨MC,hMC⟩:∃ MC,MC=madeCells #[Value.bool false] rd.done.length:=⟨_,rfl⟩
         have hmk:∀ w9:World,(Instr.makeSlice 34 (.int .i64 (rd.done.length:Int)) (.int .i64 (rd.done.length:Int))).run Tryz.prog w9=.ok (.slice (some ⟨w9.heap.size,0,none⟩) rd.done.length rd.done.length) (w9.alloc (.cells MC 4)):=fun w9=>by
          obtain ⟨i0,hi,hz0,hz1,hz2⟩:=info_parts Tryz.info4
          have h9:=run_make (P:=Tryz.prog) w9 34 4 i0 (.bool false) Tryz.underlying34 hi hz0 .i64 .i64 rd.done.length rd.done.length (by omega) (Int.le_refl _) (by rw [hz2];omega) (by omega)
          rw [h9,hMC]
          simp [hz1]
          rfl
         have HMC:=hide hMC
         clear hMC
         have c3:wr.cell? ⟨R,3,none⟩=some (.slice ai us.length ki):=RowF.cell HQ.out.b (j:=3) (by omega)
         have e3:=((b_1 wr (.cells #[nilS,nilS,Value.bool false] 36)).cell (p:=⟨R,3,none⟩) HQ.out.lt).trans c3
         have e5:=((b_1 wr (.cells #[nilS,nilS,Value.bool false] 36)).cell (p:=⟨R,5,none⟩) HQ.out.lt).trans c5
         have f3:=((b_1 wr (.cells MC 4)).cell (p:=⟨R,3,none⟩) HQ.out.lt).trans c3
         have f5:=((b_1 wr (.cells MC 4)).cell (p:=⟨R,5,none⟩) HQ.out.lt).trans c5
         have g3:=((b_2 wr (.cells #[nilS,nilS,Value.bool false] 36) (.cells MC 4)).cell (p:=⟨R,3,none⟩) HQ.out.lt).trans c3
         have k3:=((b_2 wr (.cells MC 4) (.cells #[nilS,nilS,Value.bool false] 36)).cell (p:=⟨R,3,none⟩) HQ.out.lt).trans c3
         go_region
         ·have HPl:=hide (show RowF (((wr.alloc (.cells MC 4)).alloc (.cells #[Value.slice ai us.length ki,.slice (some ⟨wr.heap.size,0,none⟩) rd.done.length rd.done.length,.bool true] 36)).drew) 4 wr.heap.size rd.done.length (fun _=>.bool false) from ((mc_row wr HMC.out).low (b_1 (wr.alloc (.cells MC 4)) _) (by simp)).keep ((Keeps.refl _ (fun _=>False)).dr1) (fun x=>x))
          have HOu:=hide (show RowF (((wr.alloc (.cells MC 4)).alloc (.cells #[Value.slice ai us.length ki,.slice (some ⟨wr.heap.size,0,none⟩) rd.done.length rd.done.length,.bool true] 36)).drew) 36 (wr.heap.size+1) 3 (fun c=>#[Value.slice ai us.length ki,.slice (some ⟨wr.heap.size,0,none⟩) rd.done.length rd.done.length,.bool true].getD c (.bool false)) from by have h9:=(RowF.mk' (wr.alloc (.cells MC 4)) 36 #[Value.slice ai us.length ki,.slice (some ⟨wr.heap.size,0,none⟩) rd.done.length rd.done.length,.bool true]).keep ((Keeps.refl _ (fun _=>False)).dr1) (fun x=>x);simpa using h9)
          have kk:=((Keeps.of (b_2 wr (.cells MC 4) (.cells #[Value.slice ai us.length ki,.slice (some ⟨wr.heap.size,0,none⟩) rd.done.length rd.done.length,.bool true] 36)) (Nat.le_refl _) (fun _=>False)).dr1)
          have HIt:=hide ((owns_slF HQ.out.i).keep kk (fun _ _ x=>x))
          have HSt:=hide (show ∀ u∈us,SetV (((wr.alloc (.cells MC 4)).alloc (.cells #[Value.slice ai us.length ki,.slice (some ⟨wr.heap.size,0,none⟩) rd.done.length rd.done.length,.bool true] 36)).drew) u from fun u hu=>(HQ.out.s u hu).keep kk (fun _ _ x=>x))
          have HGP:=hide (show ∀ u∈us,∀ g,u.2.ownBlock=some g→¬ g=wr.heap.size from fun u hu g hg=>by
           rcases HQ.out.s u hu with ⟨h1,_⟩|⟨g',h1,h2⟩
           ·rw [h1] at hg;simp [Value.ownBlock] at hg
           ·rw [h1] at hg
            have e9:g'=g:=by simpa [Value.ownBlock] using hg
            subst e9
            have:=RowF.lt h2
            omega)
          have HZ9:=hide (HZ.out.keep kk (fun x=>x))
          have HB9:=hide (show Below w.heap.size w (((wr.alloc (.cells MC 4)).alloc (.cells #[Value.slice ai us.length ki,.slice (some ⟨wr.heap.size,0,none⟩) rd.done.length rd.done.length,.bool true] 36)).drew) from HB.out.trans ((show Below wr.heap.size wr (((wr.alloc (.cells MC 4)).alloc (.cells #[Value.slice ai us.length ki,.slice (some ⟨wr.heap.size,0,none⟩) rd.done.length rd.done.length,.bool true] 36)).drew) from (b_2 wr _ _).drew).mono HB.out.size))
          have hgp:w.heap.size<wr.heap.size:=by have:=HZ.out.lt;omega
          have hgo:w.heap.size<(wr.heap.size+1):=by have:=HZ.out.lt;omega
          have n3:(((wr.alloc (.cells MC 4)).alloc (.cells #[Value.slice ai us.length ki,.slice (some ⟨wr.heap.size,0,none⟩) rd.done.length rd.done.length,.bool true] 36)).drew).cell? ⟨R,3,none⟩=some (.slice ai us.length ki):=RowF.cell (RdB.keep HQ.out.b kk (fun x=>x)) (j:=3) (by omega)
          clear kk c1 c2 c3 c4 c5 e3 e5 f3 f5 g3 k3 hmk HMC HZ HB HQ
          generalize ((wr.alloc (.cells MC 4)).alloc (.cells #[Value.slice ai us.length ki,.slice (some ⟨wr.heap.size,0,none⟩) rd.done.length rd.done.length,.bool true] 36)).drew=w9 at *
          generalize wr.heap.size+1=GO at *
          generalize wr.heap.size=GP at *
          go_wp2_with fail
          go_loopw [82] (fun iv wl=>∃ j:Nat,iv=.int .i64 j∧j≤us.length∧Hid (RowF wl 4 GP rd.done.length (fun c=>.bool (isPl (rd.items.take j) c)))∧Hid (RowF wl 36 GO 3 (fun c=>#[Value.slice ai us.length ki,.slice (some ⟨GP,0,none⟩) rd.done.length rd.done.length,.bool true].getD c (.bool false)))∧Hid (SlF wl 91 6 (.slice ai us.length ki) us.length (itF us))∧Hid (∀ u∈us,SetV wl u)∧Hid (RowF wl 36 w.heap.size 3 (fun j=>#[nilS,nilS,Value.bool false].getD j (.bool false)))∧Hid (Below w.heap.size w wl)) (fun iv _=>us.length+1-ivN iv)
          case atStart=>exact ⟨0,rfl,by omega,hide (HPl.out.congr fun c hc=>by simp [isPl]),HOu,HIt,HSt,HZ9,HB9⟩
          case round=>
           clear HPl HOu HIt HSt HZ9 HB9
           obtain ⟨j,rfl,hj,HPl,HOu,HIt,HSt,HZ,HB⟩:=hrel
           by_cases hjl:j<us.length
           ·have hjl2:(j:Int)<(us.length:Int):=by omega
            have hat:us[j]?=some us[j]:=List.getElem?_eq_getElem hjl
            obtain ⟨gi,hai,hri⟩:∃ gi,ai=some ⟨gi,0,none⟩∧RowF wr 91 gi (us.length*6) (itF us):=by
             obtain ⟨a,c,h1,h2,⟨rfl,h3⟩|⟨g,rfl,h3⟩⟩:=HIt.out
             ·omega
             ·simp only [Value.slice.injEq] at h1
              exact ⟨g,h1.1,h3⟩
            subst hai
            have hmem:us[j]∈us:=List.getElem_mem hjl
            have HIU:=hide (show rd.items.take (j+1)=rd.items.take j++[us[j].1] by rw [←HIT.out,List.take_succ_eq_append_getElem (by simpa using hjl)];simp)
            have hlt9:us[j].1.kind=1→us[j].1.n<rd.done.length:=fun hk=>HJ.out.lt us[j].1 (by rw [←HIT.out];exact List.mem_map_of_mem hmem) (by omega) (by omega)
            have hsv9:∃ a9 n9 c9,us[j].2=.slice a9 n9 c9:=by
             rcases HSt.out us[j] hmem with ⟨h1,_⟩|⟨g,h1,_⟩
             ·exact ⟨_,_,_,h1⟩
             ·exact ⟨_,_,_,h1⟩
            generalize us[j]=u at *
            obtain ⟨u,sv⟩:=u
            dsimp only at *
            obtain ⟨a9,n9,c9,rfl⟩:=hsv9
            have i0:=hri.cell (j:=j*6) (by omega)
            have i1:=hri.cell (j:=j*6+1) (by omega)
            have i2:=hri.cell (j:=j*6+2) (by omega)
            have i3:=hri.cell (j:=j*6+3) (by omega)
            have i4:=hri.cell (j:=j*6+4) (by omega)
            have i5:=hri.cell (j:=j*6+5) (by omega)
            rw [show itF us (j*6)=itF us (j*6+0) from rfl,itF_at hat 0 (by omega)] at i0
            rw [itF_at hat 1 (by omega)] at i1
            rw [itF_at hat 2 (by omega)] at i2
            rw [itF_at hat 3 (by omega)] at i3
            rw [itF_at hat 4 (by omega)] at i4
            rw [itF_at hat 5 (by omega)] at i5
            simp only [itC,List.getD_cons_zero,List.getD_cons_succ] at i0 i1 i2 i3 i4 i5
            have kb:Keeps wr (wr.alloc (.cells (boxC u (.slice a9 n9 c9)) 91)) (fun _=>False):=Keeps.of (b_1 wr _) (Nat.le_refl _) _
            have HPl2:=hide (HPl.out.keep kb (fun x=>x))
            have HOu2:=hide (HOu.out.keep kb (fun x=>x))
            have HIt2:=hide (HIt.out.keep kb (fun _ _ x=>x))
            have HSt2:=hide (show ∀ u9∈us,SetV (wr.alloc (.cells (boxC u (.slice a9 n9 c9)) 91)) u9 from fun u9 h9=>(HSt.out u9 h9).keep kb (fun _ _ x=>x))
            have HZ2:=hide (HZ.out.keep kb (fun x=>x))
            have HB2:=hide (HB.out.alloc HB.out.size (.cells (boxC u (.slice a9 n9 c9)) 91))
            have HX2:=hide (show RowF (wr.alloc (.cells (boxC u (.slice a9 n9 c9)) 91)) 91 wr.heap.size 6 (fun c=>(boxC u (.slice a9 n9 c9)).getD c (.bool false)) from RowF.mk' wr 91 (boxC u (.slice a9 n9 c9)))
            have hGP2:GP<wr.heap.size:=HPl.out.lt
            clear kb hri HPl HOu HIt HSt HZ HB hat hmem
            go_upto_region 15 with (fail)
            clear i0 i1 i2 i3 i4 i5
            generalize wr.alloc (.cells (boxC u (.slice a9 n9 c9)) 91)=w6 at *
            generalize wr.heap.size=X at *
            have x0:w6.cell? ⟨X,0,none⟩=some (.int .i64 u.kind):=HX2.out.cell (j:=0) (by omega)
            have x3:w6.cell? ⟨X,3,none⟩=some (.int .i64 u.n):=HX2.out.cell (j:=3) (by omega)
            by_cases hk1:u.kind=1
            ·have hk1b:((u.kind:Int)==1)=true:=beq_iff_eq.2 (by omega)
             have hn:=hlt9 hk1
             have o1:w6.cell? ⟨GO,1,none⟩=some (.slice (some ⟨GP,0,none⟩) rd.done.length rd.done.length):=HOu2.out.cell (j:=1) (by omega)
             have p0:=HPl2.out.cell (j:=u.n) hn
             have p1:=HPl2.out.frz u.n
             have k6:Keeps w6 (w6.setCell ⟨GP,u.n,none⟩ (.bool true)) (fun b=>b=GP):=(Keeps.refl w6 (fun b=>b=GP)).setCell (S:=fun b=>b=GP) (j:=u.n) rfl (.bool true)
             have HPl3:=hide ((HPl2.out.set (j:=u.n) hn (.bool true)).congr (f':=fun c=>.bool (isPl (rd.items.take (j+1)) c)) fun c hc=>by
              rw [HIU.out]
              by_cases e:c=u.n
              ·subst e;simp [isPl,hk1]
              ·simp [isPl,hk1,e,Ne.symm e])
             have HOu3:=hide (HOu2.out.keep k6 (fun e=>RowF.apart HOu2.out HPl2.out (by decide) e))
             have HIt3:=hide (HIt2.out.pastG k6 HPl2.out (by decide))
             have HSt3:=hide (show ∀ u9∈us,SetV (w6.setCell ⟨GP,u.n,none⟩ (.bool true)) u9 from fun u9 h9=>by
              rcases HSt2.out u9 h9 with h8|⟨g,h8,h7⟩
              ·exact .inl h8
              ·exact .inr ⟨g,h8,SetF.keep h7 k6 (HGP.out u9 h9 g (by rw [h8];rfl))⟩)
             have HZ3:=hide (HZ2.out.keep k6 (by omega))
             have HB3:=hide (HB2.out.setCell (p:=⟨GP,u.n,none⟩) (show w.heap.size≤GP by omega) (.bool true))
             clear k6 HPl2 HOu2 HIt2 HSt2 HZ2 HB2 HX2
             go_wp2_with fail
             go_roundw
             case rel=>exact ⟨j+1,by simp,by omega,HPl3,HOu3,HIt3,HSt3,HZ3,HB3⟩
             case measure=>show us.length+1-ivN (.int .i64 _)<us.length+1-ivN (.int .i64 _);simp [ivN];omega
            ·have hk1b:((u.kind:Int)==1)=false:=beq_eq_false_iff_ne.2 (by omega)
             have HPl3:=hide (HPl2.out.congr (f':=fun c=>.bool (isPl (rd.items.take (j+1)) c)) fun c hc=>by
              rw [HIU.out]
              simp [isPl,hk1])
             clear HPl2 HX2
             go_wp2_with fail
             go_roundw
             case rel=>exact ⟨j+1,by simp,by omega,HPl3,HOu2,HIt2,HSt2,HZ2,HB2⟩
             case measure=>show us.length+1-ivN (.int .i64 _)<us.length+1-ivN (.int .i64 _);simp [ivN];omega
           ·obtain rfl:j=us.length:=by omega
            have hjl2:¬ ((us.length:Int)<(us.length:Int)):=by omega
            have o0:wr.cell? ⟨GO,0,none⟩=some (.slice ai us.length ki):=HOu.out.cell (j:=0) (by omega)
            have o1:wr.cell? ⟨GO,1,none⟩=some (.slice (some ⟨GP,0,none⟩) rd.done.length rd.done.length):=HOu.out.cell (j:=1) (by omega)
            have o2:wr.cell? ⟨GO,2,none⟩=some (.bool true):=HOu.out.cell (j:=2) (by omega)
            have r0:=HZ.out.cell (j:=0) (by omega)
            have r1:=HZ.out.cell (j:=1) (by omega)
            have r2:=HZ.out.cell (j:=2) (by omega)
            have y0:=HZ.out.frz 0
            have y1:=HZ.out.frz 1
            have y2:=HZ.out.frz 2
            have k9:Keeps wr (((wr.setCell ⟨w.heap.size,0,none⟩ (.slice ai us.length ki)).setCell ⟨w.heap.size,1,none⟩ (.slice (some ⟨GP,0,none⟩) rd.done.length rd.done.length)).setCell ⟨w.heap.size,2,none⟩ (.bool true)) (fun b=>b=w.heap.size):=(((Keeps.refl wr (fun b=>b=w.heap.size)).setCell (S:=fun b=>b=w.heap.size) (j:=0) rfl _).setCell (S:=fun b=>b=w.heap.size) (j:=1) rfl _).setCell (S:=fun b=>b=w.heap.size) (j:=2) rfl _
            have HBf:=hide (((HB.out.setCell (p:=⟨w.heap.size,0,none⟩) (Nat.le_refl _) (.slice ai us.length ki)).setCell (p:=⟨w.heap.size,1,none⟩) (Nat.le_refl _) (.slice (some ⟨GP,0,none⟩) rd.done.length rd.done.length)).setCell (p:=⟨w.heap.size,2,none⟩) (Nat.le_refl _) (.bool true))
            have HItf:=hide (HIt.out.pastG k9 HZ.out (by decide))
            have HPlf:=hide ((HPl.out.keep k9 (by omega)).congr (f':=fun c=>.bool (isPl rd.items c)) fun c hc=>by rw [List.take_of_length_le (by rw [←HIT.out];simp)])
            have HStf:=hide (show ∀ u9∈us,SetV (((wr.setCell ⟨w.heap.size,0,none⟩ (.slice ai us.length ki)).setCell ⟨w.heap.size,1,none⟩ (.slice (some ⟨GP,0,none⟩) rd.done.length rd.done.length)).setCell ⟨w.heap.size,2,none⟩ (.bool true)) u9 from fun u9 h9=>(HSt.out u9 h9).keep k9 (fun g hg e=>RowF.apart hg HZ.out (by decide) e))
            clear k9
            go_wp2_with fail
            refine bodyPost_ret (v:=.tuple #[.agg #[.slice ai us.length ki,.slice (some ⟨GP,0,none⟩) rd.done.length rd.done.length,.bool true],.bool true]) ?_ rfl ⟨HBf.out,.inr ⟨⟨rd.items,rd.done.length,isPl rd.items,true⟩,us,ai,ki,_,rd.done.length,HR.out,rfl,HIT.out,by omega,HItf.out,⟨_,_,rfl,Nat.le_refl _,.inr ⟨GP,rfl,by rw [Nat.mul_one];exact HPlf.out⟩⟩,HStf.out⟩⟩
            simp [results,Tryz.results15,go_sem,r0,r1,r2]
         ·have HPl:=hide (show RowF (((wr.alloc (.cells #[Value.slice ai us.length ki,.slice (some ⟨wr.heap.size+1,0,none⟩) rd.done.length rd.done.length,.bool true] 36)).alloc (.cells MC 4)).drew) 4 (wr.heap.size+1) rd.done.length (fun _=>.bool false) from by have h9:=(mc_row (wr.alloc (.cells #[Value.slice ai us.length ki,.slice (some ⟨wr.heap.size+1,0,none⟩) rd.done.length rd.done.length,.bool true] 36)) HMC.out).keep ((Keeps.refl _ (fun _=>False)).dr1) (fun x=>x);simpa using h9)
          have HOu:=hide (show RowF (((wr.alloc (.cells #[Value.slice ai us.length ki,.slice (some ⟨wr.heap.size+1,0,none⟩) rd.done.length rd.done.length,.bool true] 36)).alloc (.cells MC 4)).drew) 36 wr.heap.size 3 (fun c=>#[Value.slice ai us.length ki,.slice (some ⟨wr.heap.size+1,0,none⟩) rd.done.length rd.done.length,.bool true].getD c (.bool false)) from ((RowF.mk' wr 36 #[Value.slice ai us.length ki,.slice (some ⟨wr.heap.size+1,0,none⟩) rd.done.length rd.done.length,.bool true]).low (b_1 (wr.alloc (.cells #[Value.slice ai us.length ki,.slice (some ⟨wr.heap.size+1,0,none⟩) rd.done.length rd.done.length,.bool true] 36)) _) (by simp)).keep ((Keeps.refl _ (fun _=>False)).dr1) (fun x=>x))
          have kk:=((Keeps.of (b_2 wr (.cells #[Value.slice ai us.length ki,.slice (some ⟨wr.heap.size+1,0,none⟩) rd.done.length rd.done.length,.bool true] 36) (.cells MC 4)) (Nat.le_refl _) (fun _=>False)).dr1)
          have HIt:=hide ((owns_slF HQ.out.i).keep kk (fun _ _ x=>x))
          have HSt:=hide (show ∀ u∈us,SetV (((wr.alloc (.cells #[Value.slice ai us.length ki,.slice (some ⟨wr.heap.size+1,0,none⟩) rd.done.length rd.done.length,.bool true] 36)).alloc (.cells MC 4)).drew) u from fun u hu=>(HQ.out.s u hu).keep kk (fun _ _ x=>x))
          have HGP:=hide (show ∀ u∈us,∀ g,u.2.ownBlock=some g→¬ g=(wr.heap.size+1) from fun u hu g hg=>by
           rcases HQ.out.s u hu with ⟨h1,_⟩|⟨g',h1,h2⟩
           ·rw [h1] at hg;simp [Value.ownBlock] at hg
           ·rw [h1] at hg
            have e9:g'=g:=by simpa [Value.ownBlock] using hg
            subst e9
            have:=RowF.lt h2
            omega)
          have HZ9:=hide (HZ.out.keep kk (fun x=>x))
          have HB9:=hide (show Below w.heap.size w (((wr.alloc (.cells #[Value.slice ai us.length ki,.slice (some ⟨wr.heap.size+1,0,none⟩) rd.done.length rd.done.length,.bool true] 36)).alloc (.cells MC 4)).drew) from HB.out.trans ((show Below wr.heap.size wr (((wr.alloc (.cells #[Value.slice ai us.length ki,.slice (some ⟨wr.heap.size+1,0,none⟩) rd.done.length rd.done.length,.bool true] 36)).alloc (.cells MC 4)).drew) from (b_2 wr _ _).drew).mono HB.out.size))
          have hgp:w.heap.size<(wr.heap.size+1):=by have:=HZ.out.lt;omega
          have hgo:w.heap.size<wr.heap.size:=by have:=HZ.out.lt;omega
          have n3:(((wr.alloc (.cells #[Value.slice ai us.length ki,.slice (some ⟨wr.heap.size+1,0,none⟩) rd.done.length rd.done.length,.bool true] 36)).alloc (.cells MC 4)).drew).cell? ⟨R,3,none⟩=some (.slice ai us.length ki):=RowF.cell (RdB.keep HQ.out.b kk (fun x=>x)) (j:=3) (by omega)
          clear kk c1 c2 c3 c4 c5 e3 e5 f3 f5 g3 k3 hmk HMC HZ HB HQ
          generalize ((wr.alloc (.cells #[Value.slice ai us.length ki,.slice (some ⟨wr.heap.size+1,0,none⟩) rd.done.length rd.done.length,.bool true] 36)).alloc (.cells MC 4)).drew=w9 at *
          generalize wr.heap.size+1=GP at *
          generalize wr.heap.size=GO at *
          go_wp2_with fail
          go_loopw [82] (fun iv wl=>∃ j:Nat,iv=.int .i64 j∧j≤us.length∧Hid (RowF wl 4 GP rd.done.length (fun c=>.bool (isPl (rd.items.take j) c)))∧Hid (RowF wl 36 GO 3 (fun c=>#[Value.slice ai us.length ki,.slice (some ⟨GP,0,none⟩) rd.done.length rd.done.length,.bool true].getD c (.bool false)))∧Hid (SlF wl 91 6 (.slice ai us.length ki) us.length (itF us))∧Hid (∀ u∈us,SetV wl u)∧Hid (RowF wl 36 w.heap.size 3 (fun j=>#[nilS,nilS,Value.bool false].getD j (.bool false)))∧Hid (Below w.heap.size w wl)) (fun iv _=>us.length+1-ivN iv)
          case atStart=>exact ⟨0,rfl,by omega,hide (HPl.out.congr fun c hc=>by simp [isPl]),HOu,HIt,HSt,HZ9,HB9⟩
          case round=>
           clear HPl HOu HIt HSt HZ9 HB9
           obtain ⟨j,rfl,hj,HPl,HOu,HIt,HSt,HZ,HB⟩:=hrel
           by_cases hjl:j<us.length
           ·have hjl2:(j:Int)<(us.length:Int):=by omega
            have hat:us[j]?=some us[j]:=List.getElem?_eq_getElem hjl
            obtain ⟨gi,hai,hri⟩:∃ gi,ai=some ⟨gi,0,none⟩∧RowF wr 91 gi (us.length*6) (itF us):=by
             obtain ⟨a,c,h1,h2,⟨rfl,h3⟩|⟨g,rfl,h3⟩⟩:=HIt.out
             ·omega
             ·simp only [Value.slice.injEq] at h1
              exact ⟨g,h1.1,h3⟩
            subst hai
            have hmem:us[j]∈us:=List.getElem_mem hjl
            have HIU:=hide (show rd.items.take (j+1)=rd.items.take j++[us[j].1] by rw [←HIT.out,List.take_succ_eq_append_getElem (by simpa using hjl)];simp)
            have hlt9:us[j].1.kind=1→us[j].1.n<rd.done.length:=fun hk=>HJ.out.lt us[j].1 (by rw [←HIT.out];exact List.mem_map_of_mem hmem) (by omega) (by omega)
            have hsv9:∃ a9 n9 c9,us[j].2=.slice a9 n9 c9:=by
             rcases HSt.out us[j] hmem with ⟨h1,_⟩|⟨g,h1,_⟩
             ·exact ⟨_,_,_,h1⟩
             ·exact ⟨_,_,_,h1⟩
            generalize us[j]=u at *
            obtain ⟨u,sv⟩:=u
            dsimp only at *
            obtain ⟨a9,n9,c9,rfl⟩:=hsv9
            have i0:=hri.cell (j:=j*6) (by omega)
            have i1:=hri.cell (j:=j*6+1) (by omega)
            have i2:=hri.cell (j:=j*6+2) (by omega)
            have i3:=hri.cell (j:=j*6+3) (by omega)
            have i4:=hri.cell (j:=j*6+4) (by omega)
            have i5:=hri.cell (j:=j*6+5) (by omega)
            rw [show itF us (j*6)=itF us (j*6+0) from rfl,itF_at hat 0 (by omega)] at i0
            rw [itF_at hat 1 (by omega)] at i1
            rw [itF_at hat 2 (by omega)] at i2
            rw [itF_at hat 3 (by omega)] at i3
            rw [itF_at hat 4 (by omega)] at i4
            rw [itF_at hat 5 (by omega)] at i5
            simp only [itC,List.getD_cons_zero,List.getD_cons_succ] at i0 i1 i2 i3 i4 i5
            have kb:Keeps wr (wr.alloc (.cells (boxC u (.slice a9 n9 c9)) 91)) (fun _=>False):=Keeps.of (b_1 wr _) (Nat.le_refl _) _
            have HPl2:=hide (HPl.out.keep kb (fun x=>x))
            have HOu2:=hide (HOu.out.keep kb (fun x=>x))
            have HIt2:=hide (HIt.out.keep kb (fun _ _ x=>x))
            have HSt2:=hide (show ∀ u9∈us,SetV (wr.alloc (.cells (boxC u (.slice a9 n9 c9)) 91)) u9 from fun u9 h9=>(HSt.out u9 h9).keep kb (fun _ _ x=>x))
            have HZ2:=hide (HZ.out.keep kb (fun x=>x))
            have HB2:=hide (HB.out.alloc HB.out.size (.cells (boxC u (.slice a9 n9 c9)) 91))
            have HX2:=hide (show RowF (wr.alloc (.cells (boxC u (.slice a9 n9 c9)) 91)) 91 wr.heap.size 6 (fun c=>(boxC u (.slice a9 n9 c9)).getD c (.bool false)) from RowF.mk' wr 91 (boxC u (.slice a9 n9 c9)))
            have hGP2:GP<wr.heap.size:=HPl.out.lt
            clear kb hri HPl HOu HIt HSt HZ HB hat hmem
            go_upto_region 15 with (fail)
            clear i0 i1 i2 i3 i4 i5
            generalize wr.alloc (.cells (boxC u (.slice a9 n9 c9)) 91)=w6 at *
            generalize wr.heap.size=X at *
            have x0:w6.cell? ⟨X,0,none⟩=some (.int .i64 u.kind):=HX2.out.cell (j:=0) (by omega)
            have x3:w6.cell? ⟨X,3,none⟩=some (.int .i64 u.n):=HX2.out.cell (j:=3) (by omega)
            by_cases hk1:u.kind=1
            ·have hk1b:((u.kind:Int)==1)=true:=beq_iff_eq.2 (by omega)
             have hn:=hlt9 hk1
             have o1:w6.cell? ⟨GO,1,none⟩=some (.slice (some ⟨GP,0,none⟩) rd.done.length rd.done.length):=HOu2.out.cell (j:=1) (by omega)
             have p0:=HPl2.out.cell (j:=u.n) hn
             have p1:=HPl2.out.frz u.n
             have k6:Keeps w6 (w6.setCell ⟨GP,u.n,none⟩ (.bool true)) (fun b=>b=GP):=(Keeps.refl w6 (fun b=>b=GP)).setCell (S:=fun b=>b=GP) (j:=u.n) rfl (.bool true)
             have HPl3:=hide ((HPl2.out.set (j:=u.n) hn (.bool true)).congr (f':=fun c=>.bool (isPl (rd.items.take (j+1)) c)) fun c hc=>by
              rw [HIU.out]
              by_cases e:c=u.n
              ·subst e;simp [isPl,hk1]
              ·simp [isPl,hk1,e,Ne.symm e])
             have HOu3:=hide (HOu2.out.keep k6 (fun e=>RowF.apart HOu2.out HPl2.out (by decide) e))
             have HIt3:=hide (HIt2.out.pastG k6 HPl2.out (by decide))
             have HSt3:=hide (show ∀ u9∈us,SetV (w6.setCell ⟨GP,u.n,none⟩ (.bool true)) u9 from fun u9 h9=>by
              rcases HSt2.out u9 h9 with h8|⟨g,h8,h7⟩
              ·exact .inl h8
              ·exact .inr ⟨g,h8,SetF.keep h7 k6 (HGP.out u9 h9 g (by rw [h8];rfl))⟩)
             have HZ3:=hide (HZ2.out.keep k6 (by omega))
             have HB3:=hide (HB2.out.setCell (p:=⟨GP,u.n,none⟩) (show w.heap.size≤GP by omega) (.bool true))
             clear k6 HPl2 HOu2 HIt2 HSt2 HZ2 HB2 HX2
             go_wp2_with fail
             go_roundw
             case rel=>exact ⟨j+1,by simp,by omega,HPl3,HOu3,HIt3,HSt3,HZ3,HB3⟩
             case measure=>show us.length+1-ivN (.int .i64 _)<us.length+1-ivN (.int .i64 _);simp [ivN];omega
            ·have hk1b:((u.kind:Int)==1)=false:=beq_eq_false_iff_ne.2 (by omega)
             have HPl3:=hide (HPl2.out.congr (f':=fun c=>.bool (isPl (rd.items.take (j+1)) c)) fun c hc=>by
              rw [HIU.out]
              simp [isPl,hk1])
             clear HPl2 HX2
             go_wp2_with fail
             go_roundw
             case rel=>exact ⟨j+1,by simp,by omega,HPl3,HOu2,HIt2,HSt2,HZ2,HB2⟩
             case measure=>show us.length+1-ivN (.int .i64 _)<us.length+1-ivN (.int .i64 _);simp [ivN];omega
           ·obtain rfl:j=us.length:=by omega
            have hjl2:¬ ((us.length:Int)<(us.length:Int)):=by omega
            have o0:wr.cell? ⟨GO,0,none⟩=some (.slice ai us.length ki):=HOu.out.cell (j:=0) (by omega)
            have o1:wr.cell? ⟨GO,1,none⟩=some (.slice (some ⟨GP,0,none⟩) rd.done.length rd.done.length):=HOu.out.cell (j:=1) (by omega)
            have o2:wr.cell? ⟨GO,2,none⟩=some (.bool true):=HOu.out.cell (j:=2) (by omega)
            have r0:=HZ.out.cell (j:=0) (by omega)
            have r1:=HZ.out.cell (j:=1) (by omega)
            have r2:=HZ.out.cell (j:=2) (by omega)
            have y0:=HZ.out.frz 0
            have y1:=HZ.out.frz 1
            have y2:=HZ.out.frz 2
            have k9:Keeps wr (((wr.setCell ⟨w.heap.size,0,none⟩ (.slice ai us.length ki)).setCell ⟨w.heap.size,1,none⟩ (.slice (some ⟨GP,0,none⟩) rd.done.length rd.done.length)).setCell ⟨w.heap.size,2,none⟩ (.bool true)) (fun b=>b=w.heap.size):=(((Keeps.refl wr (fun b=>b=w.heap.size)).setCell (S:=fun b=>b=w.heap.size) (j:=0) rfl _).setCell (S:=fun b=>b=w.heap.size) (j:=1) rfl _).setCell (S:=fun b=>b=w.heap.size) (j:=2) rfl _
            have HBf:=hide (((HB.out.setCell (p:=⟨w.heap.size,0,none⟩) (Nat.le_refl _) (.slice ai us.length ki)).setCell (p:=⟨w.heap.size,1,none⟩) (Nat.le_refl _) (.slice (some ⟨GP,0,none⟩) rd.done.length rd.done.length)).setCell (p:=⟨w.heap.size,2,none⟩) (Nat.le_refl _) (.bool true))
            have HItf:=hide (HIt.out.pastG k9 HZ.out (by decide))
            have HPlf:=hide ((HPl.out.keep k9 (by omega)).congr (f':=fun c=>.bool (isPl rd.items c)) fun c hc=>by rw [List.take_of_length_le (by rw [←HIT.out];simp)])
            have HStf:=hide (show ∀ u9∈us,SetV (((wr.setCell ⟨w.heap.size,0,none⟩ (.slice ai us.length ki)).setCell ⟨w.heap.size,1,none⟩ (.slice (some ⟨GP,0,none⟩) rd.done.length rd.done.length)).setCell ⟨w.heap.size,2,none⟩ (.bool true)) u9 from fun u9 h9=>(HSt.out u9 h9).keep k9 (fun g hg e=>RowF.apart hg HZ.out (by decide) e))
            clear k9
            go_wp2_with fail
            refine bodyPost_ret (v:=.tuple #[.agg #[.slice ai us.length ki,.slice (some ⟨GP,0,none⟩) rd.done.length rd.done.length,.bool true],.bool true]) ?_ rfl ⟨HBf.out,.inr ⟨⟨rd.items,rd.done.length,isPl rd.items,true⟩,us,ai,ki,_,rd.done.length,HR.out,rfl,HIT.out,by omega,HItf.out,⟨_,_,rfl,Nat.le_refl _,.inr ⟨GP,rfl,by rw [Nat.mul_one];exact HPlf.out⟩⟩,HStf.out⟩⟩
            simp [results,Tryz.results15,go_sem,r0,r1,r2]
     ·have c1:wr.cell? ⟨R,1,none⟩=some (.int .i64 (q:Int)):=RowF.cell HRb.out (j:=1) (by omega)
      have c2:wr.cell? ⟨R,2,none⟩=some (.bool true):=RowF.cell HRb.out (j:=2) (by omega)
      have HR:=hide (show rdPat p=none by rw [rdPat_eq hps,HO.out];rfl)
      by_cases hq2:q<p.size
      ·have hq3:(q:Int)<(p.size:Int):=by omega
       have r0:=HZ.out.cell (j:=0) (by omega)
       have r1:=HZ.out.cell (j:=1) (by omega)
       have r2:=HZ.out.cell (j:=2) (by omega)
       have y0:=HZ.out.frz 0
       have y1:=HZ.out.frz 1
       have y2:=HZ.out.frz 2
       have HBf:=hide (((HB.out.setCell (p:=⟨w.heap.size,0,none⟩) (Nat.le_refl _) nilS).setCell (p:=⟨w.heap.size,1,none⟩) (Nat.le_refl _) nilS).setCell (p:=⟨w.heap.size,2,none⟩) (Nat.le_refl _) (.bool false))
       go_wp2_with fail
       refine bodyPost_ret (v:=.tuple #[.agg #[nilS,nilS,.bool false],.bool false]) ?_ rfl ⟨HBf.out,.inl ⟨HR.out,rfl⟩⟩
       simp [results,Tryz.results15,go_sem,r0,r1,r2]
      ·have hq3:¬ ((q:Int)<(p.size:Int)):=by omega
       have r0:=HZ.out.cell (j:=0) (by omega)
       have r1:=HZ.out.cell (j:=1) (by omega)
       have r2:=HZ.out.cell (j:=2) (by omega)
       have y0:=HZ.out.frz 0
       have y1:=HZ.out.frz 1
       have y2:=HZ.out.frz 2
       have HBf:=hide (((HB.out.setCell (p:=⟨w.heap.size,0,none⟩) (Nat.le_refl _) nilS).setCell (p:=⟨w.heap.size,1,none⟩) (Nat.le_refl _) nilS).setCell (p:=⟨w.heap.size,2,none⟩) (Nat.le_refl _) (.bool false))
       go_wp2_with fail
       refine bodyPost_ret (v:=.tuple #[.agg #[nilS,nilS,.bool false],.bool false]) ?_ rfl ⟨HBf.out,.inl ⟨HR.out,rfl⟩⟩
       simp [results,Tryz.results15,go_sem,r0,r1,r2]
   ·have H94:=hide (decide_eq_false h94)
    have HP0:=hide (show rd0 p=⟨0,[],[],[]⟩ by rw [rd0,if_neg h94])
    have b94:(hb p 0==94)=false:=beq_eq_false_iff_ne.2 h94
    clear h94
    go_enter Tryz.func15,Tryz.ntmps15
    go_wp2_with fail
    have HQ:=hide (show QR (((w.alloc (.cells #[nilS,nilS,Value.bool false] 36)).alloc (.cells #[Value.string p,.int .i64 0,.bool false,nilS,nilS,nilS] 89))) (w.heap.size+1) p 0 [] [] [] nilS nilS nilS from ⟨HRd.out,⟨rfl,.inl ⟨rfl,rfl⟩⟩,⟨rfl,.inl ⟨rfl,rfl⟩⟩,⟨rfl,.inl ⟨rfl,rfl⟩⟩,fun u hu=>by simp at hu,fun u hu=>by simp at hu⟩)
    have HZ:=HZ2
    have HB:=HB2
    clear HRd HZ2 HB2 HZ0 HB0 h02
    generalize ((w.alloc (.cells #[nilS,nilS,Value.bool false] 36)).alloc (.cells #[Value.string p,.int .i64 0,.bool false,nilS,nilS,nilS] 89))=w1 at *
    have hww:w.heap.size<w.heap.size+1:=by omega
    generalize w.heap.size+1=R at *
    go_loopw [] (fun wr=>(∃ (rd:Rd) (us:List (It × Value)) (vi vo vd:Value) (k:Nat),rd.pos≤p.size∧p.size≤k+rd.pos∧us.length≤rd.pos∧rd.opn.length≤rd.pos∧rd.done.length≤rd.pos∧Hid (us.map Prod.fst=rd.items)∧Hid (RdJ rd)∧Hid (rdAll p 200 (rd0 p)=rdAll p k rd)∧Hid (QR wr R p rd.pos us rd.opn rd.done vi vo vd)∧Hid (RowF wr 36 w.heap.size 3 (fun j=>#[nilS,nilS,Value.bool false].getD j (.bool false)))∧Hid (Below w.heap.size w wr))∨
     (∃ (q:Nat) (vi vo vd:Value),q≤100000∧Hid (rdAll p 200 (rd0 p)=none)∧Hid (RdB wr R p q true vi vo vd)∧Hid (RowF wr 36 w.heap.size 3 (fun j=>#[nilS,nilS,Value.bool false].getD j (.bool false)))∧Hid (Below w.heap.size w wr))) (fun wr=>mRd p R wr)
    case atStart=>exact .inl ⟨rd0 p,[],nilS,nilS,nilS,200,by rw [HP0.out];show (0:Nat)≤p.size;omega,by omega,by simp,by simp [rd0],by simp [rd0],hide rfl,hide (rdJ0 p),hide rfl,hide (by rw [HP0.out];exact HQ.out),HZ,HB⟩
    case round=>
     clear HQ HZ HB
     rcases hrel with ⟨rd,us,vi,vo,vd,k0,hp1,hp2,hu1,hu2,hu3,HIT,HJ,HO,HQ,HZ,HB⟩|⟨q,vi,vo,vd,hq9,HO,HRb,HZ,HB⟩
     ·have c1:wr.cell? ⟨R,1,none⟩=some (.int .i64 (rd.pos:Int)):=RowF.cell HQ.out.b (j:=1) (by omega)
      have c2:wr.cell? ⟨R,2,none⟩=some (.bool false):=RowF.cell HQ.out.b (j:=2) (by omega)
      by_cases hlt:rd.pos<p.size
      ·have hlt2:(rd.pos:Int)<(p.size:Int):=by omega
       obtain ⟨k,rfl⟩:∃ k,k0=k+1:=⟨k0-1,by omega⟩
       have HO2:=hide (HO.out.trans (rdAll_on hlt))
       have HM0:=hide (mRd_ok HQ.out.b)
       go_wp2_with fail
       refine (item_any R p rd us vi vo vd wr hps hlt HJ.out ⟨hu1,hu2,hu3⟩ HIT.out HQ.out).mono ?_
       rintro e w5 ⟨rfl,hb5,⟨rd',us',vi',vo',vd',hr,hit',hq',hq1,hq2⟩|⟨hr,q,vi',vo',vd',hq1,hrb⟩⟩
       ·have hln:=rdItem_len hr
        have HIL:=hide (show us'.length=rd'.items.length by rw [←hit'];simp)
        have hul:us.length=rd.items.length:=by rw [←HIT.out];simp
        have hl9:us'.length≤rd'.pos∧rd'.opn.length≤rd'.pos∧rd'.done.length≤rd'.pos:=⟨by rw [HIL.out];omega,by omega,by omega⟩
        have HO3:=hide (HO2.out.trans (show (rdItem p rd).bind (rdAll p k)=rdAll p k rd' by rw [hr,Option.bind_some]))
        have HJ3:=hide (rdItem_j HJ.out hr)
        have HZ3:=hide (HZ.out.low hb5 (by omega))
        have HB3:=hide (HB.out.trans (hb5.mono (by omega)))
        have HQ3:=hide hq'
        have HIT3:=hide hit'
        have HM1:=hide (mRd_ok hq'.b)
        clear c1 c2 HQ HZ HB hb5 hq' hit' HO HO2 HJ hr hln hul HIL
        go_wp2_with fail
        go_roundw
        case rel=>exact .inl ⟨rd',us',vi',vo',vd',k,hq2,by omega,hl9.1,hl9.2.1,hl9.2.2,HIT3,HJ3,HO3,HQ3,HZ3,HB3⟩
        case measure=>rw [HM0.out,HM1.out];omega
       ·have HO3:=hide (HO2.out.trans (show (rdItem p rd).bind (rdAll p k)=none by rw [hr,Option.bind_none]))
        have HZ3:=hide (HZ.out.low hb5 (by omega))
        have HB3:=hide (HB.out.trans (hb5.mono (by omega)))
        have HR3:=hide hrb
        have HM1:=hide (mRd_bad hrb)
        clear c1 c2 HQ HZ HB hb5 hrb HO HO2 HJ hr
        go_wp2_with fail
        go_roundw
        case rel=>exact .inr ⟨q,vi',vo',vd',hq1,HO3,HR3,HZ3,HB3⟩
        case measure=>rw [HM0.out,HM1.out];omega
      ·have hlt2:¬ ((rd.pos:Int)<(p.size:Int)):=by omega
       have HO2:=hide (HO.out.trans (rdAll_end hlt))
       obtain ⟨ao,ko,hvo⟩:=owns_val HQ.out.n
       obtain ⟨ad,kd,hvd⟩:=owns_val HQ.out.d
       obtain ⟨ai,ki,hvi⟩:=owns_val HQ.out.i
       subst hvo hvd hvi
       have c4:wr.cell? ⟨R,4,none⟩=some (.slice ao rd.opn.length ko):=RowF.cell HQ.out.b (j:=4) (by omega)
       have c5:wr.cell? ⟨R,5,none⟩=some (.slice ad rd.done.length kd):=RowF.cell HQ.out.b (j:=5) (by omega)
       by_cases hop:0<rd.opn.length
       ·have hop2:(0:Int)<(rd.opn.length:Int):=by omega
        have HR:=hide (show rdPat p=none by rw [rdPat_eq hps,HO2.out];simp only [Option.bind_some];rw [if_neg (by rintro ⟨x,_⟩;rw [x] at hop;simp at hop)])
        have r0:=HZ.out.cell (j:=0) (by omega)
        have r1:=HZ.out.cell (j:=1) (by omega)
        have r2:=HZ.out.cell (j:=2) (by omega)
        have y0:=HZ.out.frz 0
        have y1:=HZ.out.frz 1
        have y2:=HZ.out.frz 2
        have HBf:=hide (((HB.out.setCell (p:=⟨w.heap.size,0,none⟩) (Nat.le_refl _) nilS).setCell (p:=⟨w.heap.size,1,none⟩) (Nat.le_refl _) nilS).setCell (p:=⟨w.heap.size,2,none⟩) (Nat.le_refl _) (.bool false))
        go_wp2_with fail
        refine bodyPost_ret (v:=.tuple #[.agg #[nilS,nilS,.bool false],.bool false]) ?_ rfl ⟨HBf.out,.inl ⟨HR.out,rfl⟩⟩
        simp [results,Tryz.results15,go_sem,r0,r1,r2]
       ·have hop2:¬ ((0:Int)<(rd.opn.length:Int)):=by omega
        by_cases hd16:16<rd.done.length
        ·have hd2:(16:Int)<(rd.done.length:Int):=by omega
         have HR:=hide (show rdPat p=none by rw [rdPat_eq hps,HO2.out];simp only [Option.bind_some];rw [if_neg (by rintro ⟨_,x⟩;omega)])
         have r0:=HZ.out.cell (j:=0) (by omega)
         have r1:=HZ.out.cell (j:=1) (by omega)
         have r2:=HZ.out.cell (j:=2) (by omega)
         have y0:=HZ.out.frz 0
         have y1:=HZ.out.frz 1
         have y2:=HZ.out.frz 2
         have HBf:=hide (((HB.out.setCell (p:=⟨w.heap.size,0,none⟩) (Nat.le_refl _) nilS).setCell (p:=⟨w.heap.size,1,none⟩) (Nat.le_refl _) nilS).setCell (p:=⟨w.heap.size,2,none⟩) (Nat.le_refl _) (.bool false))
         go_wp2_with fail
         refine bodyPost_ret (v:=.tuple #[.agg #[nilS,nilS,.bool false],.bool false]) ?_ rfl ⟨HBf.out,.inl ⟨HR.out,rfl⟩⟩
         simp [results,Tryz.results15,go_sem,r0,r1,r2]
        ·have hd2:¬ ((16:Int)<(rd.done.length:Int)):=by omega
         have HR:=hide (show rdPat p=some ⟨rd.items,rd.done.length,isPl rd.items,false⟩ by
          rw [rdPat_eq hps,HO2.out]
          simp only [Option.bind_some]
          rw [if_pos ⟨List.length_eq_zero_iff.1 (by omega),by omega⟩,H94.out])
         go_wp2_with fail
         obtain ⟨MC,hMC⟩:∃ MC,MC=madeCells #[Value.bool false] rd.done.length:=⟨_,rfl⟩
         have hmk:∀ w9:World,(Instr.makeSlice 34 (.int .i64 (rd.done.length:Int)) (.int .i64 (rd.done.length:Int))).run Tryz.prog w9=.ok (.slice (some ⟨w9.heap.size,0,none⟩) rd.done.length rd.done.length) (w9.alloc (.cells MC 4)):=fun w9=>by
          obtain ⟨i0,hi,hz0,hz1,hz2⟩:=info_parts Tryz.info4
          have h9:=run_make (P:=Tryz.prog) w9 34 4 i0 (.bool false) Tryz.underlying34 hi hz0 .i64 .i64 rd.done.length rd.done.length (by omega) (Int.le_refl _) (by rw [hz2];omega) (by omega)
          rw [h9,hMC]
          simp [hz1]
          rfl
         have HMC:=hide hMC
         clear hMC
         have c3:wr.cell? ⟨R,3,none⟩=some (.slice ai us.length ki):=RowF.cell HQ.out.b (j:=3) (by omega)
         have e3:=((b_1 wr (.cells #[nilS,nilS,Value.bool false] 36)).cell (p:=⟨R,3,none⟩) HQ.out.lt).trans c3
         have e5:=((b_1 wr (.cells #[nilS,nilS,Value.bool false] 36)).cell (p:=⟨R,5,none⟩) HQ.out.lt).trans c5
         have f3:=((b_1 wr (.cells MC 4)).cell (p:=⟨R,3,none⟩) HQ.out.lt).trans c3
         have f5:=((b_1 wr (.cells MC 4)).cell (p:=⟨R,5,none⟩) HQ.out.lt).trans c5
         have g3:=((b_2 wr (.cells #[nilS,nilS,Value.bool false] 36) (.cells MC 4)).cell (p:=⟨R,3,none⟩) HQ.out.lt).trans c3
         have k3:=((b_2 wr (.cells MC 4) (.cells #[nilS,nilS,Value.bool false] 36)).cell (p:=⟨R,3,none⟩) HQ.out.lt).trans c3
         go_region
         ·have HPl:=hide (show RowF (((wr.alloc (.cells MC 4)).alloc (.cells #[Value.slice ai us.length ki,.slice (some ⟨wr.heap.size,0,none⟩) rd.done.length rd.done.length,.bool false] 36)).drew) 4 wr.heap.size rd.done.length (fun _=>.bool false) from ((mc_row wr HMC.out).low (b_1 (wr.alloc (.cells MC 4)) _) (by simp)).keep ((Keeps.refl _ (fun _=>False)).dr1) (fun x=>x))
          have HOu:=hide (show RowF (((wr.alloc (.cells MC 4)).alloc (.cells #[Value.slice ai us.length ki,.slice (some ⟨wr.heap.size,0,none⟩) rd.done.length rd.done.length,.bool false] 36)).drew) 36 (wr.heap.size+1) 3 (fun c=>#[Value.slice ai us.length ki,.slice (some ⟨wr.heap.size,0,none⟩) rd.done.length rd.done.length,.bool false].getD c (.bool false)) from by have h9:=(RowF.mk' (wr.alloc (.cells MC 4)) 36 #[Value.slice ai us.length ki,.slice (some ⟨wr.heap.size,0,none⟩) rd.done.length rd.done.length,.bool false]).keep ((Keeps.refl _ (fun _=>False)).dr1) (fun x=>x);simpa using h9)
          have kk:=((Keeps.of (b_2 wr (.cells MC 4) (.cells #[Value.slice ai us.length ki,.slice (some ⟨wr.heap.size,0,none⟩) rd.done.length rd.done.length,.bool false] 36)) (Nat.le_refl _) (fun _=>False)).dr1)
          have HIt:=hide ((owns_slF HQ.out.i).keep kk (fun _ _ x=>x))
          have HSt:=hide (show ∀ u∈us,SetV (((wr.alloc (.cells MC 4)).alloc (.cells #[Value.slice ai us.length ki,.slice (some ⟨wr.heap.size,0,none⟩) rd.done.length rd.done.length,.bool false] 36)).drew) u from fun u hu=>(HQ.out.s u hu).keep kk (fun _ _ x=>x))
          have HGP:=hide (show ∀ u∈us,∀ g,u.2.ownBlock=some g→¬ g=wr.heap.size from fun u hu g hg=>by
           rcases HQ.out.s u hu with ⟨h1,_⟩|⟨g',h1,h2⟩
           ·rw [h1] at hg;simp [Value.ownBlock] at hg
           ·rw [h1] at hg
            have e9:g'=g:=by simpa [Value.ownBlock] using hg
            subst e9
            have:=RowF.lt h2
            omega)
          have HZ9:=hide (HZ.out.keep kk (fun x=>x))
          have HB9:=hide (show Below w.heap.size w (((wr.alloc (.cells MC 4)).alloc (.cells #[Value.slice ai us.length ki,.slice (some ⟨wr.heap.size,0,none⟩) rd.done.length rd.done.length,.bool false] 36)).drew) from HB.out.trans ((show Below wr.heap.size wr (((wr.alloc (.cells MC 4)).alloc (.cells #[Value.slice ai us.length ki,.slice (some ⟨wr.heap.size,0,none⟩) rd.done.length rd.done.length,.bool false] 36)).drew) from (b_2 wr _ _).drew).mono HB.out.size))
          have hgp:w.heap.size<wr.heap.size:=by have:=HZ.out.lt;omega
          have hgo:w.heap.size<(wr.heap.size+1):=by have:=HZ.out.lt;omega
          have n3:(((wr.alloc (.cells MC 4)).alloc (.cells #[Value.slice ai us.length ki,.slice (some ⟨wr.heap.size,0,none⟩) rd.done.length rd.done.length,.bool false] 36)).drew).cell? ⟨R,3,none⟩=some (.slice ai us.length ki):=RowF.cell (RdB.keep HQ.out.b kk (fun x=>x)) (j:=3) (by omega)
          clear kk c1 c2 c3 c4 c5 e3 e5 f3 f5 g3 k3 hmk HMC HZ HB HQ
          generalize ((wr.alloc (.cells MC 4)).alloc (.cells #[Value.slice ai us.length ki,.slice (some ⟨wr.heap.size,0,none⟩) rd.done.length rd.done.length,.bool false] 36)).drew=w9 at *
          generalize wr.heap.size+1=GO at *
          generalize wr.heap.size=GP at *
          go_wp2_with fail
          go_loopw [82] (fun iv wl=>∃ j:Nat,iv=.int .i64 j∧j≤us.length∧Hid (RowF wl 4 GP rd.done.length (fun c=>.bool (isPl (rd.items.take j) c)))∧Hid (RowF wl 36 GO 3 (fun c=>#[Value.slice ai us.length ki,.slice (some ⟨GP,0,none⟩) rd.done.length rd.done.length,.bool false].getD c (.bool false)))∧Hid (SlF wl 91 6 (.slice ai us.length ki) us.length (itF us))∧Hid (∀ u∈us,SetV wl u)∧Hid (RowF wl 36 w.heap.size 3 (fun j=>#[nilS,nilS,Value.bool false].getD j (.bool false)))∧Hid (Below w.heap.size w wl)) (fun iv _=>us.length+1-ivN iv)
          case atStart=>exact ⟨0,rfl,by omega,hide (HPl.out.congr fun c hc=>by simp [isPl]),HOu,HIt,HSt,HZ9,HB9⟩
          case round=>
           clear HPl HOu HIt HSt HZ9 HB9
           obtain ⟨j,rfl,hj,HPl,HOu,HIt,HSt,HZ,HB⟩:=hrel
           by_cases hjl:j<us.length
           ·have hjl2:(j:Int)<(us.length:Int):=by omega
            have hat:us[j]?=some us[j]:=List.getElem?_eq_getElem hjl
            obtain ⟨gi,hai,hri⟩:∃ gi,ai=some ⟨gi,0,none⟩∧RowF wr 91 gi (us.length*6) (itF us):=by
             obtain ⟨a,c,h1,h2,⟨rfl,h3⟩|⟨g,rfl,h3⟩⟩:=HIt.out
             ·omega
             ·simp only [Value.slice.injEq] at h1
              exact ⟨g,h1.1,h3⟩
            subst hai
            have hmem:us[j]∈us:=List.getElem_mem hjl
            have HIU:=hide (show rd.items.take (j+1)=rd.items.take j++[us[j].1] by rw [←HIT.out,List.take_succ_eq_append_getElem (by simpa using hjl)];simp)
            have hlt9:us[j].1.kind=1→us[j].1.n<rd.done.length:=fun hk=>HJ.out.lt us[j].1 (by rw [←HIT.out];exact List.mem_map_of_mem hmem) (by omega) (by omega)
            have hsv9:∃ a9 n9 c9,us[j].2=.slice a9 n9 c9:=by
             rcases HSt.out us[j] hmem with ⟨h1,_⟩|⟨g,h1,_⟩
             ·exact ⟨_,_,_,h1⟩
             ·exact ⟨_,_,_,h1⟩
            generalize us[j]=u at *
            obtain ⟨u,sv⟩:=u
            dsimp only at *
            obtain ⟨a9,n9,c9,rfl⟩:=hsv9
            have i0:=hri.cell (j:=j*6) (by omega)
            have i1:=hri.cell (j:=j*6+1) (by omega)
            have i2:=hri.cell (j:=j*6+2) (by omega)
            have i3:=hri.cell (j:=j*6+3) (by omega)
            have i4:=hri.cell (j:=j*6+4) (by omega)
            have i5:=hri.cell (j:=j*6+5) (by omega)
            rw [show itF us (j*6)=itF us (j*6+0) from rfl,itF_at hat 0 (by omega)] at i0
            rw [itF_at hat 1 (by omega)] at i1
            rw [itF_at hat 2 (by omega)] at i2
            rw [itF_at hat 3 (by omega)] at i3
            rw [itF_at hat 4 (by omega)] at i4
            rw [itF_at hat 5 (by omega)] at i5
            simp only [itC,List.getD_cons_zero,List.getD_cons_succ] at i0 i1 i2 i3 i4 i5
            have kb:Keeps wr (wr.alloc (.cells (boxC u (.slice a9 n9 c9)) 91)) (fun _=>False):=Keeps.of (b_1 wr _) (Nat.le_refl _) _
            have HPl2:=hide (HPl.out.keep kb (fun x=>x))
            have HOu2:=hide (HOu.out.keep kb (fun x=>x))
            have HIt2:=hide (HIt.out.keep kb (fun _ _ x=>x))
            have HSt2:=hide (show ∀ u9∈us,SetV (wr.alloc (.cells (boxC u (.slice a9 n9 c9)) 91)) u9 from fun u9 h9=>(HSt.out u9 h9).keep kb (fun _ _ x=>x))
            have HZ2:=hide (HZ.out.keep kb (fun x=>x))
            have HB2:=hide (HB.out.alloc HB.out.size (.cells (boxC u (.slice a9 n9 c9)) 91))
            have HX2:=hide (show RowF (wr.alloc (.cells (boxC u (.slice a9 n9 c9)) 91)) 91 wr.heap.size 6 (fun c=>(boxC u (.slice a9 n9 c9)).getD c (.bool false)) from RowF.mk' wr 91 (boxC u (.slice a9 n9 c9)))
            have hGP2:GP<wr.heap.size:=HPl.out.lt
            clear kb hri HPl HOu HIt HSt HZ HB hat hmem
            go_upto_region 15 with (fail)
            clear i0 i1 i2 i3 i4 i5
            generalize wr.alloc (.cells (boxC u (.slice a9 n9 c9)) 91)=w6 at *
            generalize wr.heap.size=X at *
            have x0:w6.cell? ⟨X,0,none⟩=some (.int .i64 u.kind):=HX2.out.cell (j:=0) (by omega)
            have x3:w6.cell? ⟨X,3,none⟩=some (.int .i64 u.n):=HX2.out.cell (j:=3) (by omega)
            by_cases hk1:u.kind=1
            ·have hk1b:((u.kind:Int)==1)=true:=beq_iff_eq.2 (by omega)
             have hn:=hlt9 hk1
             have o1:w6.cell? ⟨GO,1,none⟩=some (.slice (some ⟨GP,0,none⟩) rd.done.length rd.done.length):=HOu2.out.cell (j:=1) (by omega)
             have p0:=HPl2.out.cell (j:=u.n) hn
             have p1:=HPl2.out.frz u.n
             have k6:Keeps w6 (w6.setCell ⟨GP,u.n,none⟩ (.bool true)) (fun b=>b=GP):=(Keeps.refl w6 (fun b=>b=GP)).setCell (S:=fun b=>b=GP) (j:=u.n) rfl (.bool true)
             have HPl3:=hide ((HPl2.out.set (j:=u.n) hn (.bool true)).congr (f':=fun c=>.bool (isPl (rd.items.take (j+1)) c)) fun c hc=>by
              rw [HIU.out]
              by_cases e:c=u.n
              ·subst e;simp [isPl,hk1]
              ·simp [isPl,hk1,e,Ne.symm e])
             have HOu3:=hide (HOu2.out.keep k6 (fun e=>RowF.apart HOu2.out HPl2.out (by decide) e))
             have HIt3:=hide (HIt2.out.pastG k6 HPl2.out (by decide))
             have HSt3:=hide (show ∀ u9∈us,SetV (w6.setCell ⟨GP,u.n,none⟩ (.bool true)) u9 from fun u9 h9=>by
              rcases HSt2.out u9 h9 with h8|⟨g,h8,h7⟩
              ·exact .inl h8
              ·exact .inr ⟨g,h8,SetF.keep h7 k6 (HGP.out u9 h9 g (by rw [h8];rfl))⟩)
             have HZ3:=hide (HZ2.out.keep k6 (by omega))
             have HB3:=hide (HB2.out.setCell (p:=⟨GP,u.n,none⟩) (show w.heap.size≤GP by omega) (.bool true))
             clear k6 HPl2 HOu2 HIt2 HSt2 HZ2 HB2 HX2
             go_wp2_with fail
             go_roundw
             case rel=>exact ⟨j+1,by simp,by omega,HPl3,HOu3,HIt3,HSt3,HZ3,HB3⟩
             case measure=>show us.length+1-ivN (.int .i64 _)<us.length+1-ivN (.int .i64 _);simp [ivN];omega
            ·have hk1b:((u.kind:Int)==1)=false:=beq_eq_false_iff_ne.2 (by omega)
             have HPl3:=hide (HPl2.out.congr (f':=fun c=>.bool (isPl (rd.items.take (j+1)) c)) fun c hc=>by
              rw [HIU.out]
              simp [isPl,hk1])
             clear HPl2 HX2
             go_wp2_with fail
             go_roundw
             case rel=>exact ⟨j+1,by simp,by omega,HPl3,HOu2,HIt2,HSt2,HZ2,HB2⟩
             case measure=>show us.length+1-ivN (.int .i64 _)<us.length+1-ivN (.int .i64 _);simp [ivN];omega
           ·obtain rfl:j=us.length:=by omega
            have hjl2:¬ ((us.length:Int)<(us.length:Int)):=by omega
            have o0:wr.cell? ⟨GO,0,none⟩=some (.slice ai us.length ki):=HOu.out.cell (j:=0) (by omega)
            have o1:wr.cell? ⟨GO,1,none⟩=some (.slice (some ⟨GP,0,none⟩) rd.done.length rd.done.length):=HOu.out.cell (j:=1) (by omega)
            have o2:wr.cell? ⟨GO,2,none⟩=some (.bool false):=HOu.out.cell (j:=2) (by omega)
            have r0:=HZ.out.cell (j:=0) (by omega)
            have r1:=HZ.out.cell (j:=1) (by omega)
            have r2:=HZ.out.cell (j:=2) (by omega)
            have y0:=HZ.out.frz 0
            have y1:=HZ.out.frz 1
            have y2:=HZ.out.frz 2
            have k9:Keeps wr (((wr.setCell ⟨w.heap.size,0,none⟩ (.slice ai us.length ki)).setCell ⟨w.heap.size,1,none⟩ (.slice (some ⟨GP,0,none⟩) rd.done.length rd.done.length)).setCell ⟨w.heap.size,2,none⟩ (.bool false)) (fun b=>b=w.heap.size):=(((Keeps.refl wr (fun b=>b=w.heap.size)).setCell (S:=fun b=>b=w.heap.size) (j:=0) rfl _).setCell (S:=fun b=>b=w.heap.size) (j:=1) rfl _).setCell (S:=fun b=>b=w.heap.size) (j:=2) rfl _
            have HBf:=hide (((HB.out.setCell (p:=⟨w.heap.size,0,none⟩) (Nat.le_refl _) (.slice ai us.length ki)).setCell (p:=⟨w.heap.size,1,none⟩) (Nat.le_refl _) (.slice (some ⟨GP,0,none⟩) rd.done.length rd.done.length)).setCell (p:=⟨w.heap.size,2,none⟩) (Nat.le_refl _) (.bool false))
            have HItf:=hide (HIt.out.pastG k9 HZ.out (by decide))
            have HPlf:=hide ((HPl.out.keep k9 (by omega)).congr (f':=fun c=>.bool (isPl rd.items c)) fun c hc=>by rw [List.take_of_length_le (by rw [←HIT.out];simp)])
            have HStf:=hide (show ∀ u9∈us,SetV (((wr.setCell ⟨w.heap.size,0,none⟩ (.slice ai us.length ki)).setCell ⟨w.heap.size,1,none⟩ (.slice (some ⟨GP,0,none⟩) rd.done.length rd.done.length)).setCell ⟨w.heap.size,2,none⟩ (.bool false)) u9 from fun u9 h9=>(HSt.out u9 h9).keep k9 (fun g hg e=>RowF.apart hg HZ.out (by decide) e))
            clear k9
            go_wp2_with fail
            refine bodyPost_ret (v:=.tuple #[.agg #[.slice ai us.length ki,.slice (some ⟨GP,0,none⟩) rd.done.length rd.done.length,.bool false],.bool true]) ?_ rfl ⟨HBf.out,.inr ⟨⟨rd.items,rd.done.length,isPl rd.items,false⟩,us,ai,ki,_,rd.done.length,HR.out,rfl,HIT.out,by omega,HItf.out,⟨_,_,rfl,Nat.le_refl _,.inr ⟨GP,rfl,by rw [Nat.mul_one];exact HPlf.out⟩⟩,HStf.out⟩⟩
            simp [results,Tryz.results15,go_sem,r0,r1,r2]
         ·have HPl:=hide (show RowF (((wr.alloc (.cells #[Value.slice ai us.length ki,.slice (some ⟨wr.heap.size+1,0,none⟩) rd.done.length rd.done.length,.bool false] 36)).alloc (.cells MC 4)).drew) 4 (wr.heap.size+1) rd.done.length (fun _=>.bool false) from by have h9:=(mc_row (wr.alloc (.cells #[Value.slice ai us.length ki,.slice (some ⟨wr.heap.size+1,0,none⟩) rd.done.length rd.done.length,.bool false] 36)) HMC.out).keep ((Keeps.refl _ (fun _=>False)).dr1) (fun x=>x);simpa using h9)
          have HOu:=hide (show RowF (((wr.alloc (.cells #[Value.slice ai us.length ki,.slice (some ⟨wr.heap.size+1,0,none⟩) rd.done.length rd.done.length,.bool false] 36)).alloc (.cells MC 4)).drew) 36 wr.heap.size 3 (fun c=>#[Value.slice ai us.length ki,.slice (some ⟨wr.heap.size+1,0,none⟩) rd.done.length rd.done.length,.bool false].getD c (.bool false)) from ((RowF.mk' wr 36 #[Value.slice ai us.length ki,.slice (some ⟨wr.heap.size+1,0,none⟩) rd.done.length rd.done.length,.bool false]).low (b_1 (wr.alloc (.cells #[Value.slice ai us.length ki,.slice (some ⟨wr.heap.size+1,0,none⟩) rd.done.length rd.done.length,.bool false] 36)) _) (by simp)).keep ((Keeps.refl _ (fun _=>False)).dr1) (fun x=>x))
          have kk:=((Keeps.of (b_2 wr (.cells #[Value.slice ai us.length ki,.slice (some ⟨wr.heap.size+1,0,none⟩) rd.done.length rd.done.length,.bool false] 36) (.cells MC 4)) (Nat.le_refl _) (fun _=>False)).dr1)
          have HIt:=hide ((owns_slF HQ.out.i).keep kk (fun _ _ x=>x))
          have HSt:=hide (show ∀ u∈us,SetV (((wr.alloc (.cells #[Value.slice ai us.length ki,.slice (some ⟨wr.heap.size+1,0,none⟩) rd.done.length rd.done.length,.bool false] 36)).alloc (.cells MC 4)).drew) u from fun u hu=>(HQ.out.s u hu).keep kk (fun _ _ x=>x))
          have HGP:=hide (show ∀ u∈us,∀ g,u.2.ownBlock=some g→¬ g=(wr.heap.size+1) from fun u hu g hg=>by
           rcases HQ.out.s u hu with ⟨h1,_⟩|⟨g',h1,h2⟩
           ·rw [h1] at hg;simp [Value.ownBlock] at hg
           ·rw [h1] at hg
            have e9:g'=g:=by simpa [Value.ownBlock] using hg
            subst e9
            have:=RowF.lt h2
            omega)
          have HZ9:=hide (HZ.out.keep kk (fun x=>x))
          have HB9:=hide (show Below w.heap.size w (((wr.alloc (.cells #[Value.slice ai us.length ki,.slice (some ⟨wr.heap.size+1,0,none⟩) rd.done.length rd.done.length,.bool false] 36)).alloc (.cells MC 4)).drew) from HB.out.trans ((show Below wr.heap.size wr (((wr.alloc (.cells #[Value.slice ai us.length ki,.slice (some ⟨wr.heap.size+1,0,none⟩) rd.done.length rd.done.length,.bool false] 36)).alloc (.cells MC 4)).drew) from (b_2 wr _ _).drew).mono HB.out.size))
          have hgp:w.heap.size<(wr.heap.size+1):=by have:=HZ.out.lt;omega
          have hgo:w.heap.size<wr.heap.size:=by have:=HZ.out.lt;omega
          have n3:(((wr.alloc (.cells #[Value.slice ai us.length ki,.slice (some ⟨wr.heap.size+1,0,none⟩) rd.done.length rd.done.length,.bool false] 36)).alloc (.cells MC 4)).drew).cell? ⟨R,3,none⟩=some (.slice ai us.length ki):=RowF.cell (RdB.keep HQ.out.b kk (fun x=>x)) (j:=3) (by omega)
          clear kk c1 c2 c3 c4 c5 e3 e5 f3 f5 g3 k3 hmk HMC HZ HB HQ
          generalize ((wr.alloc (.cells #[Value.slice ai us.length ki,.slice (some ⟨wr.heap.size+1,0,none⟩) rd.done.length rd.done.length,.bool false] 36)).alloc (.cells MC 4)).drew=w9 at *
          generalize wr.heap.size+1=GP at *
          generalize wr.heap.size=GO at *
          go_wp2_with fail
          go_loopw [82] (fun iv wl=>∃ j:Nat,iv=.int .i64 j∧j≤us.length∧Hid (RowF wl 4 GP rd.done.length (fun c=>.bool (isPl (rd.items.take j) c)))∧Hid (RowF wl 36 GO 3 (fun c=>#[Value.slice ai us.length ki,.slice (some ⟨GP,0,none⟩) rd.done.length rd.done.length,.bool false].getD c (.bool false)))∧Hid (SlF wl 91 6 (.slice ai us.length ki) us.length (itF us))∧Hid (∀ u∈us,SetV wl u)∧Hid (RowF wl 36 w.heap.size 3 (fun j=>#[nilS,nilS,Value.bool false].getD j (.bool false)))∧Hid (Below w.heap.size w wl)) (fun iv _=>us.length+1-ivN iv)
          case atStart=>exact ⟨0,rfl,by omega,hide (HPl.out.congr fun c hc=>by simp [isPl]),HOu,HIt,HSt,HZ9,HB9⟩
          case round=>
           clear HPl HOu HIt HSt HZ9 HB9
           obtain ⟨j,rfl,hj,HPl,HOu,HIt,HSt,HZ,HB⟩:=hrel
           by_cases hjl:j<us.length
           ·have hjl2:(j:Int)<(us.length:Int):=by omega
            have hat:us[j]?=some us[j]:=List.getElem?_eq_getElem hjl
            obtain ⟨gi,hai,hri⟩:∃ gi,ai=some ⟨gi,0,none⟩∧RowF wr 91 gi (us.length*6) (itF us):=by
             obtain ⟨a,c,h1,h2,⟨rfl,h3⟩|⟨g,rfl,h3⟩⟩:=HIt.out
             ·omega
             ·simp only [Value.slice.injEq] at h1
              exact ⟨g,h1.1,h3⟩
            subst hai
            have hmem:us[j]∈us:=List.getElem_mem hjl
            have HIU:=hide (show rd.items.take (j+1)=rd.items.take j++[us[j].1] by rw [←HIT.out,List.take_succ_eq_append_getElem (by simpa using hjl)];simp)
            have hlt9:us[j].1.kind=1→us[j].1.n<rd.done.length:=fun hk=>HJ.out.lt us[j].1 (by rw [←HIT.out];exact List.mem_map_of_mem hmem) (by omega) (by omega)
            have hsv9:∃ a9 n9 c9,us[j].2=.slice a9 n9 c9:=by
             rcases HSt.out us[j] hmem with ⟨h1,_⟩|⟨g,h1,_⟩
             ·exact ⟨_,_,_,h1⟩
             ·exact ⟨_,_,_,h1⟩
            generalize us[j]=u at *
            obtain ⟨u,sv⟩:=u
            dsimp only at *
            obtain ⟨a9,n9,c9,rfl⟩:=hsv9
            have i0:=hri.cell (j:=j*6) (by omega)
            have i1:=hri.cell (j:=j*6+1) (by omega)
            have i2:=hri.cell (j:=j*6+2) (by omega)
            have i3:=hri.cell (j:=j*6+3) (by omega)
            have i4:=hri.cell (j:=j*6+4) (by omega)
            have i5:=hri.cell (j:=j*6+5) (by omega)
            rw [show itF us (j*6)=itF us (j*6+0) from rfl,itF_at hat 0 (by omega)] at i0
            rw [itF_at hat 1 (by omega)] at i1
            rw [itF_at hat 2 (by omega)] at i2
            rw [itF_at hat 3 (by omega)] at i3
            rw [itF_at hat 4 (by omega)] at i4
            rw [itF_at hat 5 (by omega)] at i5
            simp only [itC,List.getD_cons_zero,List.getD_cons_succ] at i0 i1 i2 i3 i4 i5
            have kb:Keeps wr (wr.alloc (.cells (boxC u (.slice a9 n9 c9)) 91)) (fun _=>False):=Keeps.of (b_1 wr _) (Nat.le_refl _) _
            have HPl2:=hide (HPl.out.keep kb (fun x=>x))
            have HOu2:=hide (HOu.out.keep kb (fun x=>x))
            have HIt2:=hide (HIt.out.keep kb (fun _ _ x=>x))
            have HSt2:=hide (show ∀ u9∈us,SetV (wr.alloc (.cells (boxC u (.slice a9 n9 c9)) 91)) u9 from fun u9 h9=>(HSt.out u9 h9).keep kb (fun _ _ x=>x))
            have HZ2:=hide (HZ.out.keep kb (fun x=>x))
            have HB2:=hide (HB.out.alloc HB.out.size (.cells (boxC u (.slice a9 n9 c9)) 91))
            have HX2:=hide (show RowF (wr.alloc (.cells (boxC u (.slice a9 n9 c9)) 91)) 91 wr.heap.size 6 (fun c=>(boxC u (.slice a9 n9 c9)).getD c (.bool false)) from RowF.mk' wr 91 (boxC u (.slice a9 n9 c9)))
            have hGP2:GP<wr.heap.size:=HPl.out.lt
            clear kb hri HPl HOu HIt HSt HZ HB hat hmem
            go_upto_region 15 with (fail)
            clear i0 i1 i2 i3 i4 i5
            generalize wr.alloc (.cells (boxC u (.slice a9 n9 c9)) 91)=w6 at *
            generalize wr.heap.size=X at *
            have x0:w6.cell? ⟨X,0,none⟩=some (.int .i64 u.kind):=HX2.out.cell (j:=0) (by omega)
            have x3:w6.cell? ⟨X,3,none⟩=some (.int .i64 u.n):=HX2.out.cell (j:=3) (by omega)
            by_cases hk1:u.kind=1
            ·have hk1b:((u.kind:Int)==1)=true:=beq_iff_eq.2 (by omega)
             have hn:=hlt9 hk1
             have o1:w6.cell? ⟨GO,1,none⟩=some (.slice (some ⟨GP,0,none⟩) rd.done.length rd.done.length):=HOu2.out.cell (j:=1) (by omega)
             have p0:=HPl2.out.cell (j:=u.n) hn
             have p1:=HPl2.out.frz u.n
             have k6:Keeps w6 (w6.setCell ⟨GP,u.n,none⟩ (.bool true)) (fun b=>b=GP):=(Keeps.refl w6 (fun b=>b=GP)).setCell (S:=fun b=>b=GP) (j:=u.n) rfl (.bool true)
             have HPl3:=hide ((HPl2.out.set (j:=u.n) hn (.bool true)).congr (f':=fun c=>.bool (isPl (rd.items.take (j+1)) c)) fun c hc=>by
              rw [HIU.out]
              by_cases e:c=u.n
              ·subst e;simp [isPl,hk1]
              ·simp [isPl,hk1,e,Ne.symm e])
             have HOu3:=hide (HOu2.out.keep k6 (fun e=>RowF.apart HOu2.out HPl2.out (by decide) e))
             have HIt3:=hide (HIt2.out.pastG k6 HPl2.out (by decide))
             have HSt3:=hide (show ∀ u9∈us,SetV (w6.setCell ⟨GP,u.n,none⟩ (.bool true)) u9 from fun u9 h9=>by
              rcases HSt2.out u9 h9 with h8|⟨g,h8,h7⟩
              ·exact .inl h8
              ·exact .inr ⟨g,h8,SetF.keep h7 k6 (HGP.out u9 h9 g (by rw [h8];rfl))⟩)
             have HZ3:=hide (HZ2.out.keep k6 (by omega))
             have HB3:=hide (HB2.out.setCell (p:=⟨GP,u.n,none⟩) (show w.heap.size≤GP by omega) (.bool true))
             clear k6 HPl2 HOu2 HIt2 HSt2 HZ2 HB2 HX2
             go_wp2_with fail
             go_roundw
             case rel=>exact ⟨j+1,by simp,by omega,HPl3,HOu3,HIt3,HSt3,HZ3,HB3⟩
             case measure=>show us.length+1-ivN (.int .i64 _)<us.length+1-ivN (.int .i64 _);simp [ivN];omega
            ·have hk1b:((u.kind:Int)==1)=false:=beq_eq_false_iff_ne.2 (by omega)
             have HPl3:=hide (HPl2.out.congr (f':=fun c=>.bool (isPl (rd.items.take (j+1)) c)) fun c hc=>by
              rw [HIU.out]
              simp [isPl,hk1])
             clear HPl2 HX2
             go_wp2_with fail
             go_roundw
             case rel=>exact ⟨j+1,by simp,by omega,HPl3,HOu2,HIt2,HSt2,HZ2,HB2⟩
             case measure=>show us.length+1-ivN (.int .i64 _)<us.length+1-ivN (.int .i64 _);simp [ivN];omega
           ·obtain rfl:j=us.length:=by omega
            have hjl2:¬ ((us.length:Int)<(us.length:Int)):=by omega
            have o0:wr.cell? ⟨GO,0,none⟩=some (.slice ai us.length ki):=HOu.out.cell (j:=0) (by omega)
            have o1:wr.cell? ⟨GO,1,none⟩=some (.slice (some ⟨GP,0,none⟩) rd.done.length rd.done.length):=HOu.out.cell (j:=1) (by omega)
            have o2:wr.cell? ⟨GO,2,none⟩=some (.bool false):=HOu.out.cell (j:=2) (by omega)
            have r0:=HZ.out.cell (j:=0) (by omega)
            have r1:=HZ.out.cell (j:=1) (by omega)
            have r2:=HZ.out.cell (j:=2) (by omega)
            have y0:=HZ.out.frz 0
            have y1:=HZ.out.frz 1
            have y2:=HZ.out.frz 2
            have k9:Keeps wr (((wr.setCell ⟨w.heap.size,0,none⟩ (.slice ai us.length ki)).setCell ⟨w.heap.size,1,none⟩ (.slice (some ⟨GP,0,none⟩) rd.done.length rd.done.length)).setCell ⟨w.heap.size,2,none⟩ (.bool false)) (fun b=>b=w.heap.size):=(((Keeps.refl wr (fun b=>b=w.heap.size)).setCell (S:=fun b=>b=w.heap.size) (j:=0) rfl _).setCell (S:=fun b=>b=w.heap.size) (j:=1) rfl _).setCell (S:=fun b=>b=w.heap.size) (j:=2) rfl _
            have HBf:=hide (((HB.out.setCell (p:=⟨w.heap.size,0,none⟩) (Nat.le_refl _) (.slice ai us.length ki)).setCell (p:=⟨w.heap.size,1,none⟩) (Nat.le_refl _) (.slice (some ⟨GP,0,none⟩) rd.done.length rd.done.length)).setCell (p:=⟨w.heap.size,2,none⟩) (Nat.le_refl _) (.bool false))
            have HItf:=hide (HIt.out.pastG k9 HZ.out (by decide))
            have HPlf:=hide ((HPl.out.keep k9 (by omega)).congr (f':=fun c=>.bool (isPl rd.items c)) fun c hc=>by rw [List.take_of_length_le (by rw [←HIT.out];simp)])
            have HStf:=hide (show ∀ u9∈us,SetV (((wr.setCell ⟨w.heap.size,0,none⟩ (.slice ai us.length ki)).setCell ⟨w.heap.size,1,none⟩ (.slice (some ⟨GP,0,none⟩) rd.done.length rd.done.length)).setCell ⟨w.heap.size,2,none⟩ (.bool false)) u9 from fun u9 h9=>(HSt.out u9 h9).keep k9 (fun g hg e=>RowF.apart hg HZ.out (by decide) e))
            clear k9
            go_wp2_with fail
            refine bodyPost_ret (v:=.tuple #[.agg #[.slice ai us.length ki,.slice (some ⟨GP,0,none⟩) rd.done.length rd.done.length,.bool false],.bool true]) ?_ rfl ⟨HBf.out,.inr ⟨⟨rd.items,rd.done.length,isPl rd.items,false⟩,us,ai,ki,_,rd.done.length,HR.out,rfl,HIT.out,by omega,HItf.out,⟨_,_,rfl,Nat.le_refl _,.inr ⟨GP,rfl,by rw [Nat.mul_one];exact HPlf.out⟩⟩,HStf.out⟩⟩
            simp [results,Tryz.results15,go_sem,r0,r1,r2]
     ·have c1:wr.cell? ⟨R,1,none⟩=some (.int .i64 (q:Int)):=RowF.cell HRb.out (j:=1) (by omega)
      have c2:wr.cell? ⟨R,2,none⟩=some (.bool true):=RowF.cell HRb.out (j:=2) (by omega)
      have HR:=hide (show rdPat p=none by rw [rdPat_eq hps,HO.out];rfl)
      by_cases hq2:q<p.size
      ·have hq3:(q:Int)<(p.size:Int):=by omega
       have r0:=HZ.out.cell (j:=0) (by omega)
       have r1:=HZ.out.cell (j:=1) (by omega)
       have r2:=HZ.out.cell (j:=2) (by omega)
       have y0:=HZ.out.frz 0
       have y1:=HZ.out.frz 1
       have y2:=HZ.out.frz 2
       have HBf:=hide (((HB.out.setCell (p:=⟨w.heap.size,0,none⟩) (Nat.le_refl _) nilS).setCell (p:=⟨w.heap.size,1,none⟩) (Nat.le_refl _) nilS).setCell (p:=⟨w.heap.size,2,none⟩) (Nat.le_refl _) (.bool false))
       go_wp2_with fail
       refine bodyPost_ret (v:=.tuple #[.agg #[nilS,nilS,.bool false],.bool false]) ?_ rfl ⟨HBf.out,.inl ⟨HR.out,rfl⟩⟩
       simp [results,Tryz.results15,go_sem,r0,r1,r2]
      ·have hq3:¬ ((q:Int)<(p.size:Int)):=by omega
       have r0:=HZ.out.cell (j:=0) (by omega)
       have r1:=HZ.out.cell (j:=1) (by omega)
       have r2:=HZ.out.cell (j:=2) (by omega)
       have y0:=HZ.out.frz 0
       have y1:=HZ.out.frz 1
       have y2:=HZ.out.frz 2
       have HBf:=hide (((HB.out.setCell (p:=⟨w.heap.size,0,none⟩) (Nat.le_refl _) nilS).setCell (p:=⟨w.heap.size,1,none⟩) (Nat.le_refl _) nilS).setCell (p:=⟨w.heap.size,2,none⟩) (Nat.le_refl _) (.bool false))
       go_wp2_with fail
       refine bodyPost_ret (v:=.tuple #[.agg #[nilS,nilS,.bool false],.bool false]) ?_ rfl ⟨HBf.out,.inl ⟨HR.out,rfl⟩⟩
       simp [results,Tryz.results15,go_sem,r0,r1,r2]
 ·have hps2:(200:Int)<(p.size:Int):=by omega
  have HR:=hide (show rdPat p=none by rw [rdPat,if_pos (by omega)])
  go_enter Tryz.func15,Tryz.ntmps15
  go_wp2_with fail
  refine bodyPost_ret (v:=.tuple #[.agg #[nilS,nilS,.bool false],.bool false]) ?_ rfl ⟨HB.out,.inl ⟨HR.out,rfl⟩⟩
  simp [results,Tryz.results15,go_sem]
end Go.Proofs.YtlgodacccilabaaGreatDoor
