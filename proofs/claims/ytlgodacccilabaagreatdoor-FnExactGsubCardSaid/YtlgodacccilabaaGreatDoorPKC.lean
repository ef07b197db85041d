import Derived.Test.YtlgodacccilabaaGreatDoorJQL
import Derived.Deep.RegionLaw
namespace Go.Proofs.YtlgodacccilabaaGreatDoor
open Go Go.RowKit
set_option linter.unusedVariables false
set_option maxHeartbeats 3200000 in
set_option maxRecDepth 100000 in
theorem item_open1 (R:Nat) (p:ByteArray) (rd:Rd) (us:List (It × Value)) (vi vo vd:Value) (w:World) (hp:p.size≤200) (hpos:rd.pos<p.size) (hj:RdJ rd) (hu:us.length≤rd.pos∧rd.opn.length≤rd.pos∧rd.done.length≤rd.pos) (hit:us.map Prod.fst=rd.items) (h:QR w R p rd.pos us rd.opn rd.done vi vo vd) (h40:hb p rd.pos=40) (h1:rd.pos+1<p.size) (h41:¬ hb p (rd.pos+1)=41):
 Calls Tryz.prog 25 #[.pointer (some ⟨R,0,none⟩)] w fun e w'=>ItR R p rd.pos (rdItem p rd) w e w':=by
 obtain ⟨pos,items,opn,done⟩:=rd
 dsimp only at *
 have hu1:=hu.1
 have hu2:=hu.2.1
 have hu3:=hu.2.2
 have HJ:=hide hj
 clear hu hj
 have hRl:=h.lt
 have HQ:=hide h
 clear h
 go_enter Tryz.func25,Tryz.ntmps25
 go_wp2_with fail
 refine (here_in R p pos 0 false vi vo vd w (by omega) (by omega) (by omega) HQ.out.b (by omega)).mono ?_
 rintro e w1 ⟨rfl,hk1⟩
 rw [Nat.add_zero]
 have HQ1:=hide (HQ.out.keep hk1)
 have HB1:=hide (below_keeps (R:=R) hk1 (by omega))
 clear hk1 HQ
 go_wp2_with fail
 refine (here_in R p pos 1 false vi vo vd w1 (by omega) (by omega) (by omega) HQ1.out.b (by omega)).mono ?_
 rintro e w2 ⟨rfl,hk2⟩
 have HQ:=hide (HQ1.out.keep hk2)
 have HB:=hide (HB1.out.trans (below_keeps (R:=R) hk2 (by have:=HB1.out.size;omega)))
 have hs2:R<w2.heap.size:=HQ.out.lt
 clear hk2 HQ1 HB1
 have HR:=hide (show rdItem p ⟨pos,items,opn,done⟩=some ⟨pos+1,items++[itOpen done.length],opn++[done.length],done++[false]⟩ by
  rw [rdItem,if_pos h40,if_neg (by simp only;rintro ⟨_,x⟩;exact h41 x)])
 have b2:(hb p (pos+1)==41)=false:=beq_eq_false_iff_ne.2 h41
 clear h41
 have b1:(hb p pos==40)=true:=beq_iff_eq.2 h40
 clear h40
 have c5:w2.cell? ⟨R,5,none⟩=some vd:=RowF.cell HQ.out.b (j:=5) (by omega)
 go_upto_region 10 with (first
  |(have _z:=HQ
    at_builtin
    clear _z
    refine app_at rfl _ _ 34 4 1 1 _ rfl Tryz.underlying34 Tryz.info4 rfl (by omega) (R+1) vd done.length (boC done) [.bool false] HQ.out.d rfl rfl rfl (one_b1 false) (by omega) (by omega) (by omega) ?_
    intro v' w5 h1' h2 h3 h4
    obtain ⟨a9,k9,rfl⟩:=owns_val h1'
    have HQ5:=hide (HQ.out.app_d false h1' h2 h3 h4)
    have HB5:=hide (h2 R w HB.out (by omega))
    have c9:w5.cell? ⟨R,5,none⟩=some vd:=((h2 _ _ (Below.refl (R+1) w2) (Nat.le_refl _)).cell (p:=⟨R,5,none⟩) (Nat.lt_succ_self _)).trans (RowF.cell HQ.out.b (j:=5) (by omega))
    have z9:w5.frozen? ⟨R,5,none⟩=false:=(RowF.low HQ.out.b (h2 _ _ (Below.refl (R+1) w2) (Nat.le_refl _)) (Nat.lt_succ_self _)).frz 5
    clear h1' h2 h3 h4 HQ)
  |fail)
 have HB:=hide (HB5.out.setCell (p:=⟨R,5,none⟩) (Nat.le_refl _) (.slice a9 (done.length+1) k9))
 clear c5 c9 z9 HB5
 generalize w5.setCell ⟨R,5,none⟩ (.slice a9 (done.length+1) k9)=w3 at *
 have HQ:=HQ5
 clear HQ5
 have c5:w3.cell? ⟨R,5,none⟩=some (.slice a9 (done.length+1) k9):=RowF.cell HQ.out.b (j:=5) (by omega)
 have hs3:R<w3.heap.size:=HQ.out.lt
 have hvX:∀ g,vi.ownBlock=some g→g≠w3.heap.size:=fun g hg=>by have:=(owns_blt HQ.out.i hg).2;omega
 have kb:Keeps w3 (w3.alloc (.cells #[.int .i64 2,nilS,.int .u8 0,.int .i64 done.length,.int .u8 0,.int .u8 0] 91)) (fun _=>False):=Keeps.of (b_1 w3 _) (Nat.le_refl _) _
 have HQ4:=hide (HQ.out.keep kb)
 have HB4:=hide (HB.out.trans (below_keeps (R:=R) kb (by omega)))
 have HX:=hide (show RowF (w3.alloc (.cells #[.int .i64 2,nilS,.int .u8 0,.int .i64 done.length,.int .u8 0,.int .u8 0] 91)) 91 w3.heap.size 6 (fun j=>#[Value.int .i64 2,nilS,.int .u8 0,.int .i64 done.length,.int .u8 0,.int .u8 0].getD j (.bool false)) from RowF.mk' w3 91 #[.int .i64 2,nilS,.int .u8 0,.int .i64 done.length,.int .u8 0,.int .u8 0])
 clear HQ HB kb
 go_upto_region 15 with (fail)
 clear c5
 generalize w3.alloc (.cells #[.int .i64 2,nilS,.int .u8 0,.int .i64 done.length,.int .u8 0,.int .u8 0] 91)=w4 at *
 generalize w3.heap.size=X at *
 have HQ:=HQ4
 have HB:=HB4
 clear HQ4 HB4
 have HXR:=hide (show ¬ X=R by omega)
 have hs4:R<w4.heap.size:=HQ.out.lt
 have hwr:IntKind.i64.wrap (done.length:Int)=(done.length:Int):=by rw [IntKind.wrap_i64];omega
 have HQd:=hide (HQ.out.keep ((Keeps.refl w4 _).dr1))
 have HBd:=hide (show Below R w w4.drew from HB.out.drew)
 have HXd:=hide (HX.out.keep ((Keeps.refl w4 (fun _=>False)).dr1) (fun x=>x))
 clear HQ HB HX
 have c4:w4.drew.cell? ⟨R,4,none⟩=some vo:=RowF.cell HQd.out.b (j:=4) (by omega)
 have c5:w4.drew.cell? ⟨R,5,none⟩=some (.slice a9 (done.length+1) k9):=RowF.cell HQd.out.b (j:=5) (by omega)
 have c44:(w4.alloc (.cells #[.int .i64 done.length] 3)).cell? ⟨R,4,none⟩=some vo:=((b_1 w4 _).cell (p:=⟨R,4,none⟩) HQd.out.lt).trans c4
 go_region_law (
  rw [if_pos (by rfl)]
  refine app_new_opd _ _ 37 3 1 8 _ rfl Tryz.underlying37 Tryz.infoI3 rfl (by omega) (R+1) vo opn.length (opC opn) [.int .i64 done.length] HQd.out.n rfl rfl rfl (one_n1 _) (by omega) (by omega) (by have:=HQd.out.lt;omega) ?_
  intro v' w6 h1' h2 h3
  obtain ⟨a8,k8,rfl⟩:=owns_val h1'
  have HQ6:=hide (HQd.out.app_n done.length h1' h2 h3)
  have HB6:=hide (h2 R w HBd.out (by omega))
  have hb6:Below (R+1) w4.drew w6:=h2 _ _ (Below.refl _ _) (Nat.le_refl _)
  have HX6:=hide (HXd.out.keep (w':=w6) (S:=fun b=>vo.ownBlock=some b) ⟨hb6.os,hb6.tape,hb6.output,hb6.size,h3⟩ (fun e=>by
   obtain ⟨f9,h9⟩:=owns_rowF HQd.out.n e
   exact RowF.apart HXd.out h9 (by decide) rfl))
  have c9:w6.cell? ⟨R,4,none⟩=some vo:=(hb6.cell (p:=⟨R,4,none⟩) (Nat.lt_succ_self _)).trans (RowF.cell HQd.out.b (j:=4) (by omega))
  have z9:w6.frozen? ⟨R,4,none⟩=false:=(RowF.low HQd.out.b hb6 (Nat.lt_succ_self _)).frz 4
  clear h1' h2 h3 hb6 HQd)
 all_goals
  have HB:=hide (HB6.out.setCell (p:=⟨R,4,none⟩) (Nat.le_refl _) (.slice a8 (opn.length+1) k8))
  have HX:=hide (HX6.out.keep ((Keeps.refl w6 (fun b=>b=R)).setCell (S:=fun b=>b=R) (j:=4) rfl (.slice a8 (opn.length+1) k8)) HXR.out)
  clear c4 c5 c44 c9 z9 HB6 HX6 HXd HBd
  generalize w6.setCell ⟨R,4,none⟩ (.slice a8 (opn.length+1) k8)=w7 at *
  have HQ:=HQ6
  clear HQ6
  have c1:w7.cell? ⟨R,1,none⟩=some (.int .i64 (pos:Int)):=RowF.cell HQ.out.b (j:=1) (by omega)
  have zc1:w7.frozen? ⟨R,1,none⟩=false:=RowF.frz HQ.out.b 1
  go_upto_region 17 with (fail)
  clear c1 zc1
  have HQ9:=hide (HQ.out.posn (pos+1))
  have HB9:=hide (HB.out.setCell (p:=⟨R,1,none⟩) (Nat.le_refl _) (.int .i64 ((pos+1:Nat):Int)))
  rw [show ((pos+1:Nat):Int)=(pos:Int)+1 by omega] at HQ9 HB9
  have HX9:=hide (HX.out.keep ((Keeps.refl w7 (fun b=>b=R)).setCell (S:=fun b=>b=R) (j:=1) rfl (.int .i64 ((pos+1:Nat):Int))) (fun e=>RowF.apart HX.out HQ.out.b (by decide) e))
  rw [show ((pos+1:Nat):Int)=(pos:Int)+1 by omega] at HX9
  clear HX
  have HX:=HX9
  clear HX9
  clear HQ HB
  have HQ:=HQ9
  have HB:=HB9
  clear HQ9 HB9
  generalize w7.setCell ⟨R,1,none⟩ (.int .i64 ((pos:Int)+1))=w8 at *
  have hs2:R<w8.heap.size:=HQ.out.lt
  have x0:w8.cell? ⟨X,0,none⟩=some (.int .i64 2):=RowF.cell HX.out (j:=0) (by omega)
  have x1:w8.cell? ⟨X,1,none⟩=some (nilS):=RowF.cell HX.out (j:=1) (by omega)
  have x2:w8.cell? ⟨X,2,none⟩=some (.int .u8 0):=RowF.cell HX.out (j:=2) (by omega)
  have x3:w8.cell? ⟨X,3,none⟩=some (.int .i64 done.length):=RowF.cell HX.out (j:=3) (by omega)
  have x4:w8.cell? ⟨X,4,none⟩=some (.int .u8 0):=RowF.cell HX.out (j:=4) (by omega)
  have x5:w8.cell? ⟨X,5,none⟩=some (.int .u8 0):=RowF.cell HX.out (j:=5) (by omega)
  have HQd:=hide (HQ.out.keep ((Keeps.refl w8 _).dr1))
  have HBd:=hide (show Below R w w8.drew from HB.out.drew)
  clear HQ HB
  have HQ:=HQd
  have HB:=HBd
  clear HQd HBd
  have c3:w8.drew.cell? ⟨R,3,none⟩=some vi:=RowF.cell HQ.out.b (j:=3) (by omega)
  have c33:(w8.alloc (.cells #[.int .i64 2,nilS,.int .u8 0,.int .i64 done.length,.int .u8 0,.int .u8 0] 91)).cell? ⟨R,3,none⟩=some vi:=((b_1 w8 _).cell (p:=⟨R,3,none⟩) HQ.out.lt).trans c3
  go_region_law (first
   |(have _z:=HQ
     rw [if_pos (by rfl)]
     clear _z
     refine app_new_opd _ _ 33 91 6 56 _ rfl Tryz.underlying33 Tryz.info91 rfl (by omega) (R+1) vi us.length (itsC us) [.int .i64 2,nilS,.int .u8 0,.int .i64 done.length,.int .u8 0,.int .u8 0] HQ.out.i rfl rfl rfl (one_it (itOpen done.length) none 0 0) (by omega) (by omega) (by have:=HQ.out.lt;omega) ?_
     intro v' w5 h1 h2 h3
     obtain ⟨a9,k9,rfl⟩:=owns_val h1
     have HQ5:=hide (HQ.out.app_i (itOpen done.length,nilS) (setv_nil _ (by show (2:Nat)≠0;omega) (by show (2:Nat)≠6;omega)) (fun g hg=>nil_own g hg) h1 h2 h3)
     have HB5:=hide (h2 R w HB.out (by omega))
     have c5:w5.cell? ⟨R,3,none⟩=some vi:=((h2 _ _ (Below.refl (R+1) w8.drew) (Nat.le_refl _)).cell (p:=⟨R,3,none⟩) (Nat.lt_succ_self _)).trans (RowF.cell HQ.out.b (j:=3) (by omega))
     have z5:w5.frozen? ⟨R,3,none⟩=false:=(RowF.low HQ.out.b (h2 _ _ (Below.refl (R+1) w8.drew) (Nat.le_refl _)) (Nat.lt_succ_self _)).frz 3
     clear h1 h2 h3 HQ)
   |fail)
  all_goals
   clear c5 z5
   have HB6:=hide (HB5.out.setCell (p:=⟨R,3,none⟩) (Nat.le_refl _) (.slice a9 (us.length+1) k9))
   go_wp2_with fail
   go_end0
   exact ⟨rfl,HB6.out,.inl ⟨⟨pos+1,items++[itOpen done.length],opn++[done.length],done++[false]⟩,us++[(itOpen done.length,nilS)],.slice a9 (us.length+1) k9,_,_,HR.out,by simp [hit],HQ5.out,by simp,by simp;omega⟩⟩
end Go.Proofs.YtlgodacccilabaaGreatDoor
