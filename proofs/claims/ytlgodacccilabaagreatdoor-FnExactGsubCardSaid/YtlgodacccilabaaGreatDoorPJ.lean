import Derived.Test.YtlgodacccilabaaGreatDoorJGD0
import Derived.Deep.RegionLaw
namespace Go.Proofs.YtlgodacccilabaaGreatDoor
open Go Go.RowKit
set_option linter.unusedVariables false
theorem Below.of {w w':World} {R:Nat} (k:Keeps w w' (fun b=>R≤b)) (hR:R≤w.heap.size):Below R w w':=⟨k.os,k.tape,k.output,k.size,fun b hb=>k.block b (by omega) (by omega)⟩
theorem QR.lt {w:World} {R:Nat} {p:ByteArray} {pos:Nat} {us:List (It × Value)} {opn:List Nat} {done:List Bool} {vi vo vd:Value} (h:QR w R p pos us opn done vi vo vd):R<w.heap.size:=RowF.lt h.b
theorem below_keeps {w w':World} {R:Nat} (k:Keeps w w' (fun _=>False)) (hR:R≤w.heap.size):Below R w w':=Below.of (k.mono (fun _ x=>x.elim)) hR
theorem setv_nil {w:World} (u:It) (h0:u.kind≠0) (h6:u.kind≠6):SetV w (u,nilS):=.inl ⟨rfl,h0,h6⟩
theorem nil_own {P:Prop} (g:Nat) (h:nilS.ownBlock=some g):P:=by simp [Value.ownBlock] at h
theorem QR.done_cell {w:World} {R:Nat} {p:ByteArray} {pos:Nat} {us:List (It × Value)} {opn:List Nat} {done:List Bool} {vi vo vd:Value} (h:QR w R p pos us opn done vi vo vd) {j:Nat} (hj:j<done.length):
 ∃ g cap,vd=.slice (some ⟨g,0,none⟩) done.length cap∧w.cell? ⟨g,j,none⟩=some (.bool (done.getD j false))∧w.frozen? ⟨g,j,none⟩=false∧R<g:=by
 have hd:=h.d
 obtain ⟨h1,⟨rfl,h2⟩|⟨g,cap,cur,rfl,hb,hg,hnc,hr⟩⟩:=h.d
 ·omega
 ·have hF:=rowF_owns hd
  refine ⟨g,cap,rfl,?_,hF.frz j,by omega⟩
  rw [hF.cell (j:=j) (by omega)]
  simp [boC,List.getD_eq_getElem?_getD,hj]
theorem QR.open_cell {w:World} {R:Nat} {p:ByteArray} {pos:Nat} {us:List (It × Value)} {op:List Nat} {n:Nat} {done:List Bool} {vi vo vd:Value} (h:QR w R p pos us (op++[n]) done vi vo vd):
 ∃ g cap,vo=.slice (some ⟨g,0,none⟩) (op.length+1) cap∧w.cell? ⟨g,op.length,none⟩=some (.int .i64 n)∧op.length+1≤cap:=by
 have hd:=h.n
 obtain ⟨h1,⟨rfl,h2⟩|⟨g,cap,cur,rfl,hb,hg,hnc,hr⟩⟩:=h.n
 ·simp at h2
 ·have hF:=rowF_owns hd
  refine ⟨g,cap,by simp,?_,by simpa using hnc⟩
  rw [hF.cell (j:=op.length) (by simp)]
  simp [opC]
set_option maxHeartbeats 3200000 in
set_option maxRecDepth 100000 in
theorem item_end (R:Nat) (p:ByteArray) (rd:Rd) (us:List (It × Value)) (vi vo vd:Value) (w:World) (hp:p.size≤200) (hpos:rd.pos<p.size) (hj:RdJ rd) (hu:us.length≤rd.pos∧rd.opn.length≤rd.pos∧rd.done.length≤rd.pos) (hit:us.map Prod.fst=rd.items) (h:QR w R p rd.pos us rd.opn rd.done vi vo vd) (h36:hb p rd.pos=36) (h1:¬ rd.pos+1<p.size):
 Calls Tryz.prog 25 #[.pointer (some ⟨R,0,none⟩)] w fun e w'=>ItR R p rd.pos (rdItem p rd) w e w':=by
 obtain ⟨pos,items,opn,done⟩:=rd
 dsimp only at *
 have hu1:=hu.1
 have hu2:=hu.2.1
 have hu3:=hu.2.2
 have HJ:=hide hj
 clear hu hj
 have hRl:=h.lt
 have HQ:=hide h
 clear h
 go_enter Tryz.func25,Tryz.ntmps25
 go_wp2_with fail
 refine (here_in R p pos 0 false vi vo vd w (by omega) (by omega) (by omega) HQ.out.b (by omega)).mono ?_
 rintro e w1 ⟨rfl,hk1⟩
 rw [Nat.add_zero]
 have HQ1:=hide (HQ.out.keep hk1)
 have HB1:=hide (below_keeps (R:=R) hk1 (by omega))
 clear hk1 HQ
 go_wp2_with fail
 refine (here_out R p pos 1 false vi vo vd w1 (by omega) (by omega) (by omega) HQ1.out.b (by omega)).mono ?_
 rintro e w2 ⟨rfl,hk2⟩
 have HQ:=hide (HQ1.out.keep hk2)
 have HB:=hide (HB1.out.trans (below_keeps (R:=R) hk2 (by have:=HB1.out.size;omega)))
 have hs2:R<w2.heap.size:=HQ.out.lt
 clear hk2 HQ1 HB1
 have HR:=hide (show rdItem p ⟨pos,items,opn,done⟩=some ⟨pos+1,items++[itEnd],opn,done⟩ by
  rw [rdItem,if_neg (by simp only;omega),if_neg (by simp only;omega),if_neg (by simp only;omega),if_neg (by simp only;omega),if_neg (by simp only;omega),if_pos ⟨h36,h1⟩])
 have b1:(hb p pos==40)=false:=beq_eq_false_iff_ne.2 (by omega)
 have b2:(hb p pos==41)=false:=beq_eq_false_iff_ne.2 (by omega)
 have b3:(hb p pos==37)=false:=beq_eq_false_iff_ne.2 (by omega)
 have b4:(hb p pos==36)=true:=beq_iff_eq.2 h36
 clear h36
 have c1:w2.cell? ⟨R,1,none⟩=some (.int .i64 (pos:Int)):=RowF.cell HQ.out.b (j:=1) (by omega)
 have zc1:w2.frozen? ⟨R,1,none⟩=false:=RowF.frz HQ.out.b 1
 go_upto_region 47 with (fail)
 clear c1 zc1
 have HQ9:=hide (HQ.out.posn (pos+1))
 have HB9:=hide (HB.out.setCell (p:=⟨R,1,none⟩) (Nat.le_refl _) (.int .i64 ((pos+1:Nat):Int)))
 rw [show ((pos+1:Nat):Int)=(pos:Int)+1 by omega] at HQ9 HB9
 clear HQ HB
 have HQ:=HQ9
 have HB:=HB9
 clear HQ9 HB9
 generalize w2.setCell ⟨R,1,none⟩ (.int .i64 ((pos:Int)+1))=w3 at *
 have hs2:R<w3.heap.size:=HQ.out.lt
 have c3:w3.cell? ⟨R,3,none⟩=some vi:=RowF.cell HQ.out.b (j:=3) (by omega)
 go_wp2_with (first
  |(have _z:=HQ
    at_builtin
    clear _z
    refine app_new rfl _ _ 33 91 6 56 _ rfl Tryz.underlying33 Tryz.info91 rfl (by omega) (R+1) vi us.length (itsC us) [.int .i64 7,nilS,.int .u8 0,.int .i64 0,.int .u8 0,.int .u8 0] HQ.out.i rfl rfl rfl (one_it itEnd none 0 0) (by omega) (by omega) (by omega) ?_
    intro v' w5 h1 _ h2 h3
    obtain ⟨a9,k9,rfl⟩:=owns_val h1
    have HQ5:=hide (HQ.out.app_i (itEnd,nilS) (setv_nil _ (by show (7:Nat)≠0;omega) (by show (7:Nat)≠6;omega)) (fun g hg=>nil_own g hg) h1 h2 h3)
    have HB5:=hide (h2 R w HB.out (by omega))
    have c5:w5.cell? ⟨R,3,none⟩=some vi:=((h2 _ _ (Below.refl (R+1) w3) (Nat.le_refl _)).cell (p:=⟨R,3,none⟩) (Nat.lt_succ_self _)).trans (RowF.cell HQ.out.b (j:=3) (by omega))
    have z5:w5.frozen? ⟨R,3,none⟩=false:=(RowF.low HQ.out.b (h2 _ _ (Below.refl (R+1) w3) (Nat.le_refl _)) (Nat.lt_succ_self _)).frz 3
    clear h1 h2 h3 HQ)
  |fail)
 have HB6:=hide (HB5.out.setCell (p:=⟨R,3,none⟩) (Nat.le_refl _) (.slice a9 (us.length+1) k9))
 go_end0
 exact ⟨rfl,HB6.out,.inl ⟨⟨pos+1,items++[itEnd],opn,done⟩,us++[(itEnd,nilS)],.slice a9 (us.length+1) k9,_,_,HR.out,by simp [hit],HQ5.out,by simp,by simp;omega⟩⟩
set_option maxHeartbeats 3200000 in
set_option maxRecDepth 100000 in
theorem item_bal (R:Nat) (p:ByteArray) (rd:Rd) (us:List (It × Value)) (vi vo vd:Value) (w:World) (hp:p.size≤200) (hpos:rd.pos<p.size) (hj:RdJ rd) (hu:us.length≤rd.pos∧rd.opn.length≤rd.pos∧rd.done.length≤rd.pos) (hit:us.map Prod.fst=rd.items) (h:QR w R p rd.pos us rd.opn rd.done vi vo vd) (h37:hb p rd.pos=37) (h1:rd.pos+1<p.size) (h98:hb p (rd.pos+1)=98):
 Calls Tryz.prog 25 #[.pointer (some ⟨R,0,none⟩)] w fun e w'=>ItR R p rd.pos (rdItem p rd) w e w':=by
 obtain ⟨pos,items,opn,done⟩:=rd
 dsimp only at *
 have hu1:=hu.1
 have hu2:=hu.2.1
 have hu3:=hu.2.2
 have HJ:=hide hj
 clear hu hj
 have hRl:=h.lt
 have HQ:=hide h
 clear h
 go_enter Tryz.func25,Tryz.ntmps25
 go_wp2_with fail
 refine (here_in R p pos 0 false vi vo vd w (by omega) (by omega) (by omega) HQ.out.b (by omega)).mono ?_
 rintro e w1 ⟨rfl,hk1⟩
 rw [Nat.add_zero]
 have HQ1:=hide (HQ.out.keep hk1)
 have HB1:=hide (below_keeps (R:=R) hk1 (by omega))
 clear hk1 HQ
 go_wp2_with fail
 refine (here_in R p pos 1 false vi vo vd w1 (by omega) (by omega) (by omega) HQ1.out.b (by omega)).mono ?_
 rintro e w2 ⟨rfl,hk2⟩
 have HQ:=hide (HQ1.out.keep hk2)
 have HB:=hide (HB1.out.trans (below_keeps (R:=R) hk2 (by have:=HB1.out.size;omega)))
 have hs2:R<w2.heap.size:=HQ.out.lt
 clear hk2 HQ1 HB1
 have HRy:=hide (show pos+3<p.size→rdItem p ⟨pos,items,opn,done⟩=some ⟨pos+4,items++[itPair (hb p (pos+2)) (hb p (pos+3))],opn,done⟩ from fun h3=>by
  rw [rdItem,if_neg (by simp only;omega),if_neg (by simp only;omega),if_neg (by simp only;simp [isDg];omega),if_pos ⟨h37,h1,h98⟩,if_pos h3])
 have HRn:=hide (show ¬ pos+3<p.size→rdItem p ⟨pos,items,opn,done⟩=none from fun h3=>by
  rw [rdItem,if_neg (by simp only;omega),if_neg (by simp only;omega),if_neg (by simp only;simp [isDg];omega),if_pos ⟨h37,h1,h98⟩,if_neg h3])
 have b1:(hb p pos==40)=false:=beq_eq_false_iff_ne.2 (by omega)
 have b2:(hb p pos==41)=false:=beq_eq_false_iff_ne.2 (by omega)
 have b3:(hb p pos==37)=true:=beq_iff_eq.2 h37
 have b5:48≤hb p (pos+1):=by omega
 have b6:¬ hb p (pos+1)≤57:=by omega
 have b7:(hb p (pos+1)==98)=true:=beq_iff_eq.2 h98
 clear h37 h98
 go_wp2_with fail
 refine (here_any R p pos 2 false vi vo vd w2 (by omega) (by omega) (by omega) HQ.out.b).mono ?_
 rintro e w3 ⟨rfl,hk3⟩
 have HQ3:=hide (HQ.out.keep hk3)
 have HB3:=hide (HB.out.trans (below_keeps (R:=R) hk3 (by omega)))
 clear hk3 HQ HB
 go_wp2_with fail
 by_cases h3:pos+3<p.size
 ·have HR:=hide (HRy.out h3)
  refine (here_in R p pos 3 false vi vo vd w3 (by omega) (by omega) (by omega) HQ3.out.b (by omega)).mono ?_
  rintro e w4 ⟨rfl,hk4⟩
  have HQ:=hide (HQ3.out.keep hk4)
  have HB:=hide (HB3.out.trans (below_keeps (R:=R) hk4 (by have:=HQ3.out.lt;omega)))
  have hs2:R<w4.heap.size:=HQ.out.lt
  clear hk4 HQ3 HB3 HRy HRn
  have c1:w4.cell? ⟨R,1,none⟩=some (.int .i64 (pos:Int)):=RowF.cell HQ.out.b (j:=1) (by omega)
  have zc1:w4.frozen? ⟨R,1,none⟩=false:=RowF.frz HQ.out.b 1
  go_upto_region 38 with (fail)
  clear c1 zc1
  have HQ9:=hide (HQ.out.posn (pos+4))
  have HB9:=hide (HB.out.setCell (p:=⟨R,1,none⟩) (Nat.le_refl _) (.int .i64 ((pos+4:Nat):Int)))
  rw [show ((pos+4:Nat):Int)=(pos:Int)+4 by omega] at HQ9 HB9
  clear HQ HB
  have HQ:=HQ9
  have HB:=HB9
  clear HQ9 HB9
  generalize w4.setCell ⟨R,1,none⟩ (.int .i64 ((pos:Int)+4))=w6 at *
  have hs2:R<w6.heap.size:=HQ.out.lt
  have c3:w6.cell? ⟨R,3,none⟩=some vi:=RowF.cell HQ.out.b (j:=3) (by omega)
  go_wp2_with (first
   |(have _z:=HQ
     at_builtin
     clear _z
     refine app_new rfl _ _ 33 91 6 56 _ rfl Tryz.underlying33 Tryz.info91 rfl (by omega) (R+1) vi us.length (itsC us) [.int .i64 5,nilS,.int .u8 0,.int .i64 0,.int .u8 (hb p (pos+2)),.int .u8 (hb p (pos+3))] HQ.out.i rfl rfl rfl (one_it (itPair (hb p (pos+2)) (hb p (pos+3))) none 0 0) (by omega) (by omega) (by omega) ?_
     intro v' w5 h1 _ h2 h3
     obtain ⟨a9,k9,rfl⟩:=owns_val h1
     have HQ5:=hide (HQ.out.app_i (itPair (hb p (pos+2)) (hb p (pos+3)),nilS) (setv_nil _ (by show (5:Nat)≠0;omega) (by show (5:Nat)≠6;omega)) (fun g hg=>nil_own g hg) h1 h2 h3)
     have HB5:=hide (h2 R w HB.out (by omega))
     have c5:w5.cell? ⟨R,3,none⟩=some vi:=((h2 _ _ (Below.refl (R+1) w6) (Nat.le_refl _)).cell (p:=⟨R,3,none⟩) (Nat.lt_succ_self _)).trans (RowF.cell HQ.out.b (j:=3) (by omega))
     have z5:w5.frozen? ⟨R,3,none⟩=false:=(RowF.low HQ.out.b (h2 _ _ (Below.refl (R+1) w6) (Nat.le_refl _)) (Nat.lt_succ_self _)).frz 3
     clear h1 h2 h3 HQ)
   |fail)
  have HB6:=hide (HB5.out.setCell (p:=⟨R,3,none⟩) (Nat.le_refl _) (.slice a9 (us.length+1) k9))
  go_end0
  exact ⟨rfl,HB6.out,.inl ⟨⟨pos+4,items++[itPair (hb p (pos+2)) (hb p (pos+3))],opn,done⟩,us++[(itPair (hb p (pos+2)) (hb p (pos+3)),nilS)],.slice a9 (us.length+1) k9,_,_,HR.out,by simp [hit],HQ5.out,by simp,by simp;omega⟩⟩
 ·have HR:=hide (HRn.out h3)
  refine (here_out R p pos 3 false vi vo vd w3 (by omega) (by omega) (by omega) HQ3.out.b (by omega)).mono ?_
  rintro e w4 ⟨rfl,hk4⟩
  have HQ:=hide (HQ3.out.keep hk4)
  have HB:=hide (HB3.out.trans (below_keeps (R:=R) hk4 (by have:=HQ3.out.lt;omega)))
  clear hk4 HQ3 HB3 HRy HRn
  have b2:w4.cell? ⟨R,2,none⟩=some (.bool false):=RowF.cell HQ.out.b (j:=2) (by omega)
  have zb2:w4.frozen? ⟨R,2,none⟩=false:=RowF.frz HQ.out.b 2
  have HBad:=hide (RdB.isBad HQ.out.b)
  have HBb:=hide (HB.out.setCell (p:=⟨R,2,none⟩) (Nat.le_refl _) (.bool true))
  go_wp2_with fail
  refine bodyPost_ret (v:=.tuple #[]) ?_ rfl ⟨rfl,HBb.out,.inr ⟨HR.out,pos,vi,vo,vd,by omega,HBad.out⟩⟩
  simp [results,Tryz.results25,go_sem]
set_option maxHeartbeats 3200000 in
set_option maxRecDepth 100000 in
theorem item_dig (R:Nat) (p:ByteArray) (rd:Rd) (us:List (It × Value)) (vi vo vd:Value) (w:World) (hp:p.size≤200) (hpos:rd.pos<p.size) (hj:RdJ rd) (hu:us.length≤rd.pos∧rd.opn.length≤rd.pos∧rd.done.length≤rd.pos) (hit:us.map Prod.fst=rd.items) (h:QR w R p rd.pos us rd.opn rd.done vi vo vd) (h37:hb p rd.pos=37) (h1:rd.pos+1<p.size) (hdg:isDg (hb p (rd.pos+1))=true):
 Calls Tryz.prog 25 #[.pointer (some ⟨R,0,none⟩)] w fun e w'=>ItR R p rd.pos (rdItem p rd) w e w':=by
 obtain ⟨pos,items,opn,done⟩:=rd
 dsimp only at *
 have hu1:=hu.1
 have hu2:=hu.2.1
 have hu3:=hu.2.2
 have HJ:=hide hj
 clear hu hj
 have hRl:=h.lt
 have HQ:=hide h
 clear h
 go_enter Tryz.func25,Tryz.ntmps25
 go_wp2_with fail
 refine (here_in R p pos 0 false vi vo vd w (by omega) (by omega) (by omega) HQ.out.b (by omega)).mono ?_
 rintro e w1 ⟨rfl,hk1⟩
 rw [Nat.add_zero]
 have HQ1:=hide (HQ.out.keep hk1)
 have HB1:=hide (below_keeps (R:=R) hk1 (by omega))
 clear hk1 HQ
 go_wp2_with fail
 refine (here_in R p pos 1 false vi vo vd w1 (by omega) (by omega) (by omega) HQ1.out.b (by omega)).mono ?_
 rintro e w2 ⟨rfl,hk2⟩
 have HQ:=hide (HQ1.out.keep hk2)
 have HB:=hide (HB1.out.trans (below_keeps (R:=R) hk2 (by have:=HB1.out.size;omega)))
 have hs2:R<w2.heap.size:=HQ.out.lt
 clear hk2 HQ1 HB1
 have hd0:48≤hb p (pos+1)∧hb p (pos+1)≤57:=by simpa [isDg] using hdg
 have HRn:=hide (show (hb p (pos+1)=48∨done.getD (hb p (pos+1)-49).toNat false=false)→rdItem p ⟨pos,items,opn,done⟩=none from fun h3=>by
  rw [rdItem,if_neg (by simp only;omega),if_neg (by simp only;omega),if_pos ⟨h37,h1,hdg⟩,if_pos h3])
 have HRy:=hide (show ¬ (hb p (pos+1)=48∨done.getD (hb p (pos+1)-49).toNat false=false)→rdItem p ⟨pos,items,opn,done⟩=some ⟨pos+2,items++[itBack (hb p (pos+1)-49).toNat],opn,done⟩ from fun h3=>by
  rw [rdItem,if_neg (by simp only;omega),if_neg (by simp only;omega),if_pos ⟨h37,h1,hdg⟩,if_neg h3])
 have b1:(hb p pos==40)=false:=beq_eq_false_iff_ne.2 (by omega)
 have b2:(hb p pos==41)=false:=beq_eq_false_iff_ne.2 (by omega)
 have b3:(hb p pos==37)=true:=beq_iff_eq.2 h37
 have b5:=hd0.1
 have b6:=hd0.2
 clear h37 hdg hd0
 obtain ⟨dn,hdn⟩:∃ dn:Nat,hb p (pos+1)=(dn:Int):=⟨(hb p (pos+1)).toNat,by omega⟩
 rw [hdn] at b5 b6 HRn HRy ⊢
 clear hdn
 have c5:w2.cell? ⟨R,5,none⟩=some vd:=RowF.cell HQ.out.b (j:=5) (by omega)
 obtain ⟨ad,kd,hvd⟩:=owns_val HQ.out.d
 rw [hvd] at c5
 by_cases h48:dn=48
 ·have HR:=hide (HRn.out (.inl (by omega)))
  have hneg:(dn:Int)-49<0:=by omega
  have b2:w2.cell? ⟨R,2,none⟩=some (.bool false):=RowF.cell HQ.out.b (j:=2) (by omega)
  have zb2:w2.frozen? ⟨R,2,none⟩=false:=RowF.frz HQ.out.b 2
  have HBad:=hide (RdB.isBad HQ.out.b)
  have HBb:=hide (HB.out.setCell (p:=⟨R,2,none⟩) (Nat.le_refl _) (.bool true))
  go_wp2_with fail
  refine bodyPost_ret (v:=.tuple #[]) ?_ rfl ⟨rfl,HBb.out,.inr ⟨HR.out,pos,vi,vo,_,by omega,HBad.out⟩⟩
  simp [results,Tryz.results25,go_sem]
 ·have hneg:¬ ((dn:Int)-49<0):=by omega
  obtain ⟨n,hn⟩:∃ n:Nat,(dn:Int)-49=(n:Int):=⟨dn-49,by omega⟩
  have hn2:n≤8:=by omega
  have hdn2:(dn:Int)=(n:Int)+49:=by omega
  rw [hn,Int.toNat_natCast] at HRn HRy
  have h48':¬ ((dn:Int)=48):=by omega
  by_cases hin:n<done.length
  ·obtain ⟨gd,cap,hv2,hcd,hzd,_⟩:=HQ.out.done_cell hin
   have e1:=hvd.symm.trans hv2
   simp only [Value.slice.injEq] at e1
   obtain ⟨rfl,_,rfl⟩:=e1
   have hlt:¬ ((done.length:Int)≤(n:Int)):=by omega
   cases hdd:done.getD n false with
   |false=>
    have HR:=hide (HRn.out (.inr hdd))
    rw [hdd] at hcd
    have b2:w2.cell? ⟨R,2,none⟩=some (.bool false):=RowF.cell HQ.out.b (j:=2) (by omega)
    have zb2:w2.frozen? ⟨R,2,none⟩=false:=RowF.frz HQ.out.b 2
    have HBad:=hide (RdB.isBad HQ.out.b)
    have HBb:=hide (HB.out.setCell (p:=⟨R,2,none⟩) (Nat.le_refl _) (.bool true))
    go_wp2_with fail
    refine bodyPost_ret (v:=.tuple #[]) ?_ rfl ⟨rfl,HBb.out,.inr ⟨HR.out,pos,vi,vo,_,by omega,HBad.out⟩⟩
    simp [results,Tryz.results25,go_sem]
   |true=>
    have HR:=hide (HRy.out (by rw [hdd];rintro (x|x);exact h48' x;cases x))
    rw [hdd] at hcd
    have c1:w2.cell? ⟨R,1,none⟩=some (.int .i64 (pos:Int)):=RowF.cell HQ.out.b (j:=1) (by omega)
    have zc1:w2.frozen? ⟨R,1,none⟩=false:=RowF.frz HQ.out.b 1
    go_upto_region 31 with (fail)
    clear c1 zc1
    have HQ9:=hide (HQ.out.posn (pos+2))
    have HB9:=hide (HB.out.setCell (p:=⟨R,1,none⟩) (Nat.le_refl _) (.int .i64 ((pos+2:Nat):Int)))
    rw [show ((pos+2:Nat):Int)=(pos:Int)+2 by omega] at HQ9 HB9
    clear HQ HB
    have HQ:=HQ9
    have HB:=HB9
    clear HQ9 HB9
    generalize w2.setCell ⟨R,1,none⟩ (.int .i64 ((pos:Int)+2))=w3 at *
    have hs2:R<w3.heap.size:=HQ.out.lt
    have c3:w3.cell? ⟨R,3,none⟩=some vi:=RowF.cell HQ.out.b (j:=3) (by omega)
    go_wp2_with (first
     |(have _z:=HQ
       at_builtin
       clear _z
       refine app_new rfl _ _ 33 91 6 56 _ rfl Tryz.underlying33 Tryz.info91 rfl (by omega) (R+1) vi us.length (itsC us) [.int .i64 4,nilS,.int .u8 0,.int .i64 (n:Int),.int .u8 0,.int .u8 0] HQ.out.i rfl rfl rfl (one_it (itBack n) none 0 0) (by omega) (by omega) (by omega) ?_
       intro v' w5 h1 _ h2 h3
       obtain ⟨a9,k9,rfl⟩:=owns_val h1
       have HQ5:=hide (HQ.out.app_i (itBack n,nilS) (setv_nil _ (by show (4:Nat)≠0;omega) (by show (4:Nat)≠6;omega)) (fun g hg=>nil_own g hg) h1 h2 h3)
       have HB5:=hide (h2 R w HB.out (by omega))
       have c5:w5.cell? ⟨R,3,none⟩=some vi:=((h2 _ _ (Below.refl (R+1) w3) (Nat.le_refl _)).cell (p:=⟨R,3,none⟩) (Nat.lt_succ_self _)).trans (RowF.cell HQ.out.b (j:=3) (by omega))
       have z5:w5.frozen? ⟨R,3,none⟩=false:=(RowF.low HQ.out.b (h2 _ _ (Below.refl (R+1) w3) (Nat.le_refl _)) (Nat.lt_succ_self _)).frz 3
       clear h1 h2 h3 HQ)
     |fail)
    have HB6:=hide (HB5.out.setCell (p:=⟨R,3,none⟩) (Nat.le_refl _) (.slice a9 (us.length+1) k9))
    go_end0
    exact ⟨rfl,HB6.out,.inl ⟨⟨pos+2,items++[itBack n],opn,done⟩,us++[(itBack n,nilS)],.slice a9 (us.length+1) k9,_,_,HR.out,by simp [hit],HQ5.out,by simp,by simp;omega⟩⟩
  ·have hlt:(done.length:Int)≤(n:Int):=by omega
   have HR:=hide (HRn.out (.inr (by rw [List.getD_eq_getElem?_getD,List.getElem?_eq_none (by omega)];rfl)))
   have b2:w2.cell? ⟨R,2,none⟩=some (.bool false):=RowF.cell HQ.out.b (j:=2) (by omega)
   have zb2:w2.frozen? ⟨R,2,none⟩=false:=RowF.frz HQ.out.b 2
   have HBad:=hide (RdB.isBad HQ.out.b)
   have HBb:=hide (HB.out.setCell (p:=⟨R,2,none⟩) (Nat.le_refl _) (.bool true))
   go_wp2_with fail
   refine bodyPost_ret (v:=.tuple #[]) ?_ rfl ⟨rfl,HBb.out,.inr ⟨HR.out,pos,vi,vo,_,by omega,HBad.out⟩⟩
   simp [results,Tryz.results25,go_sem]
end Go.Proofs.YtlgodacccilabaaGreatDoor
