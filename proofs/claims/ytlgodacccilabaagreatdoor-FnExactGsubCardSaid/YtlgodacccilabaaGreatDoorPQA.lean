import Derived.Test.YtlgodacccilabaaGreatDoorPQ
import Derived.Deep.RegionLaw
namespace Go.Proofs.YtlgodacccilabaaGreatDoor
open Go Go.RowKit
set_option linter.unusedVariables false
set_option maxHeartbeats 6400000 in
set_option maxRecDepth 100000 in
theorem item_oneA (R:Nat) (p:ByteArray) (rd:Rd) (us:List (It × Value)) (vi vo vd:Value) (w:World) (hp:p.size≤200) (hpos:rd.pos<p.size) (hj:RdJ rd) (hu:us.length≤rd.pos∧rd.opn.length≤rd.pos∧rd.done.length≤rd.pos) (hit:us.map Prod.fst=rd.items) (h:QR w R p rd.pos us rd.opn rd.done vi vo vd) (h40:hb p rd.pos≠40) (h41:hb p rd.pos≠41) (hpc:¬ (hb p rd.pos=37∧rd.pos+1<p.size∧(isDg (hb p (rd.pos+1))=true∨hb p (rd.pos+1)=98∨hb p (rd.pos+1)=102))) (hdo:¬ (hb p rd.pos=36∧¬ rd.pos+1<p.size)) (h1:rd.pos+1<p.size) (h37:hb p rd.pos≠37) (h36:hb p rd.pos≠36):
 Calls Tryz.prog 25 #[.pointer (some ⟨R,0,none⟩)] w fun e w'=>ItR R p rd.pos (rdItem p rd) w e w':=by
 obtain ⟨pos,items,opn,done⟩:=rd
 dsimp only at *
 have hu1:=hu.1
 have hu2:=hu.2.1
 have hu3:=hu.2.2
 have HJ:=hide hj
 clear hu hj
 have hRl:=h.lt
 have HQ:=hide h
 clear h
 go_enter Tryz.func25,Tryz.ntmps25
 go_wp2_with fail
 refine (here_in R p pos 0 false vi vo vd w (by omega) (by omega) (by omega) HQ.out.b (by omega)).mono ?_
 rintro e w1 ⟨rfl,hk1⟩
 rw [Nat.add_zero]
 have HQ1:=hide (HQ.out.keep hk1)
 have HB1:=hide (below_keeps (R:=R) hk1 (by omega))
 clear hk1 HQ
 go_wp2_with fail
 refine (here_in R p pos 1 false vi vo vd w1 (by omega) (by omega) (by omega) HQ1.out.b (by omega)).mono ?_
 rintro e w2 ⟨rfl,hk2⟩
 have HQ:=hide (HQ1.out.keep hk2)
 have HB:=hide (HB1.out.trans (below_keeps (R:=R) hk2 (by have:=HB1.out.size;omega)))
 have hs2:R<w2.heap.size:=HQ.out.lt
 clear hk2 HQ1 HB1
 have HR:=hide (rdItem_one (rd:=⟨pos,items,opn,done⟩) h40 h41 hpc hdo)
 dsimp only at HR
 have b1:(hb p pos==40)=false:=beq_eq_false_iff_ne.2 h40
 have b2:(hb p pos==41)=false:=beq_eq_false_iff_ne.2 h41
 have b3:(hb p pos==37)=false:=beq_eq_false_iff_ne.2 h37
 have b4:(hb p pos==36)=false:=beq_eq_false_iff_ne.2 h36
 clear h37 h36
 clear h40 h41 hpc hdo
 go_upto_region 2 with (fail)
 go_wp2_with fail
 refine (one_any R p pos vi vo vd w2 hpos hp HQ.out.b).mono ?_
 rintro e w3 ⟨hk3,g,rfl,hg3,hor⟩
 have hs3:R<w3.heap.size:=by have:=hk3.size;omega
 have HB3:=hide (HB.out.trans (Below.of (hk3.mono (fun b hb=>by omega)) (by omega)))
 have hvX:∀ g,vi.ownBlock=some g→g≠w3.heap.size:=fun g hg=>by have:=(owns_blt HQ.out.i hg).2;have:=hk3.size;omega
 have kb:Keeps w3 (w3.alloc (.cells #[Value.int .i64 0,.slice (some ⟨g,0,none⟩) 256 256,.int .u8 0,.int .i64 0,.int .u8 0,.int .u8 0] 91)) (fun _=>False):=Keeps.of (b_1 w3 _) (Nat.le_refl _) _
 have HX:=hide (show RowF (w3.alloc (.cells #[Value.int .i64 0,.slice (some ⟨g,0,none⟩) 256 256,.int .u8 0,.int .i64 0,.int .u8 0,.int .u8 0] 91)) 91 w3.heap.size 6 (fun j=>#[Value.int .i64 0,.slice (some ⟨g,0,none⟩) 256 256,.int .u8 0,.int .i64 0,.int .u8 0,.int .u8 0].getD j (.bool false)) from RowF.mk' w3 91 #[Value.int .i64 0,.slice (some ⟨g,0,none⟩) 256 256,.int .u8 0,.int .i64 0,.int .u8 0,.int .u8 0])
 have HB4:=hide (HB3.out.trans (below_keeps (R:=R) kb (by omega)))
 have hgd:∀ g9,(Value.slice (some ⟨g,0,none⟩) 256 256).ownBlock=some g9→R<g9∧vd.ownBlock≠some g9:=fun g9 h9=>by
  have e9:g=g9:=by simpa [Value.ownBlock] using h9
  subst e9
  refine ⟨by omega,fun h8=>?_⟩
  have:=(owns_blt HQ.out.d h8).2
  omega
 have HGD:=hide hgd
 clear hgd HB HB3
 rcases hor with ⟨f,q,hr,hrd,hset,hq⟩|⟨hr,q,hq,hrd⟩
 ·have HQ4:=hide ((HQ.out.setR hk3 hrd).keep kb)
  have HS:=hide (SetF.keep hset kb (fun x=>x))
  have hqp:=rdOne_pos hr
  rw [hr] at HR
  simp only [Option.map_some] at HR
  clear HQ hk3 hrd kb hr hset
  go_upto_region 3 with (fail)
  generalize w3.alloc (.cells #[Value.int .i64 0,.slice (some ⟨g,0,none⟩) 256 256,.int .u8 0,.int .i64 0,.int .u8 0,.int .u8 0] 91)=w4 at *
  obtain ⟨X,hX⟩:∃ X,X=w3.heap.size:=⟨_,rfl⟩
  rw [←hX] at HX hvX ⊢
  have hXR:R<X:=by omega
  clear hX
  by_cases hqs:q<p.size
  ·by_cases hsg:isSign (hb p q)=true
   ·rw [if_pos ⟨hqs,hsg⟩] at HR
    go_wp2_with fail
    refine (here_in R p q 0 false vi vo vd w4 (by omega) (by omega) (by omega) HQ4.out.b (by omega)).mono ?_
    rintro e w5 ⟨rfl,hk5⟩
    rw [Nat.add_zero]
    have HQ5:=hide (HQ4.out.keep hk5)
    have HS5:=hide (SetF.keep HS.out hk5 (fun x=>x))
    have HX5:=hide (HX.out.keep hk5 (fun x=>x))
    have HB5:=hide (HB4.out.trans (below_keeps (R:=R) hk5 (by have:=HX.out.lt;omega)))
    clear HQ4 HS HX HB4 hk5
    rcases sign4 hsg with t0|⟨t0,t1⟩|⟨t0,t1,t2⟩|⟨t0,t1,t2,t3⟩
    all_goals
     have x2:w5.cell? ⟨X,2,none⟩=some (.int .u8 0):=RowF.cell HX5.out (j:=2) (by omega)
     have xz:=HX5.out.frz 2
     go_upto_region 6 with (fail)
     have HQ6:=hide (HQ5.out.putX (j:=2) (x:=.int .u8 (hb p q)) HX5.out hvX)
     have HS6:=hide (SetF.keep HS5.out ((Keeps.refl w5 (fun b=>b=X)).setCell (S:=fun b=>b=X) (j:=2) rfl (.int .u8 (hb p q))) (fun e=>RowF.apart HS5.out HX5.out (by decide) e))
     have HX6:=hide ((HX5.out.set (j:=2) (by omega) (.int .u8 (hb p q))).congr (f':=fun j=>#[Value.int .i64 0,.slice (some ⟨g,0,none⟩) 256 256,.int .u8 (hb p q),.int .i64 0,.int .u8 0,.int .u8 0].getD j (.bool false)) fun j hj=>by
      rcases j with _|_|_|_|_|_|j
      all_goals simp
      all_goals omega)
     have HB6:=hide (HB5.out.setCell (p:=⟨X,2,none⟩) (show R≤X by omega) (.int .u8 (hb p q)))
     clear x2 xz HQ5 HS5 HX5 HB5
     generalize w5.setCell ⟨X,2,none⟩ (.int .u8 (hb p q))=w6 at *
     have c1:w6.cell? ⟨R,1,none⟩=some (.int .i64 (q:Int)):=RowF.cell HQ6.out.b (j:=1) (by omega)
     have zc1:w6.frozen? ⟨R,1,none⟩=false:=RowF.frz HQ6.out.b 1
     go_upto_region 7 with (fail)
     have HQ7:=hide (HQ6.out.posn (q+1))
     have HS7:=hide (SetF.keep HS6.out ((Keeps.refl w6 (fun b=>b=R)).setCell (S:=fun b=>b=R) (j:=1) rfl (.int .i64 ((q+1:Nat):Int))) (fun e=>RowF.apart HS6.out HQ6.out.b (by decide) e))
     have HX7:=hide (HX6.out.keep ((Keeps.refl w6 (fun b=>b=R)).setCell (S:=fun b=>b=R) (j:=1) rfl (.int .i64 ((q+1:Nat):Int))) (fun e=>RowF.apart HX6.out HQ6.out.b (by decide) e))
     have HB7:=hide (HB6.out.setCell (p:=⟨R,1,none⟩) (Nat.le_refl _) (.int .i64 ((q+1:Nat):Int)))
     rw [show ((q+1:Nat):Int)=(q:Int)+1 by omega] at HX7 HB7 HQ7 HS7
     clear c1 zc1 HX6 HB6 HQ6 HS6
     generalize w6.setCell ⟨R,1,none⟩ (.int .i64 ((q:Int)+1))=w7 at *
     have x0:w7.cell? ⟨X,0,none⟩=some (.int .i64 0):=RowF.cell HX7.out (j:=0) (by omega)
     have x1:w7.cell? ⟨X,1,none⟩=some (.slice (some ⟨g,0,none⟩) 256 256):=RowF.cell HX7.out (j:=1) (by omega)
     have x2:w7.cell? ⟨X,2,none⟩=some (.int .u8 (hb p q)):=RowF.cell HX7.out (j:=2) (by omega)
     have x3:w7.cell? ⟨X,3,none⟩=some (.int .i64 0):=RowF.cell HX7.out (j:=3) (by omega)
     have x4:w7.cell? ⟨X,4,none⟩=some (.int .u8 0):=RowF.cell HX7.out (j:=4) (by omega)
     have x5:w7.cell? ⟨X,5,none⟩=some (.int .u8 0):=RowF.cell HX7.out (j:=5) (by omega)
     have HQ:=hide (HQ7.out.keep ((Keeps.refl w7 _).dr1))
     have HSd:=hide (SetF.keep HS7.out ((Keeps.refl w7 (fun _=>False)).dr1) (fun x=>x))
     have HB:=hide (show Below R w w7.drew from HB7.out.drew)
     have hs7:R<w7.heap.size:=HQ7.out.lt
     clear HQ7 HS7 HB7
     have c3:w7.cell? ⟨R,3,none⟩=some vi:=RowF.cell HQ.out.b (j:=3) (by omega)
     have c33:(w7.alloc (.cells #[.int .i64 0,.slice (some ⟨g,0,none⟩) 256 256,.int .u8 (hb p q),.int .i64 0,.int .u8 0,.int .u8 0] 91)).cell? ⟨R,3,none⟩=some vi:=((b_1 w7 _).cell (p:=⟨R,3,none⟩) hs7).trans c3
     try go_wp2_with fail
     go_region_law (first
      |(have _z:=HQ
        rw [if_pos (by rfl)]
        clear _z
        refine app_new_opd _ _ 33 91 6 56 _ rfl Tryz.underlying33 Tryz.info91 rfl (by omega) (R+1) vi us.length (itsC us) [.int .i64 0,.slice (some ⟨g,0,none⟩) 256 256,.int .u8 (hb p q),.int .i64 0,.int .u8 0,.int .u8 0] HQ.out.i rfl rfl rfl (one_it (itOne f (hb p q)) (some ⟨g,0,none⟩) 256 256) (by omega) (by omega) (by have:=HQ.out.lt;omega) ?_
        intro v' w9 h1' h2' h3'
        obtain ⟨a9,k9,rfl⟩:=owns_val h1'
        have HQ9:=hide (HQ.out.app_i (itOne f (hb p q),.slice (some ⟨g,0,none⟩) 256 256) (.inr ⟨g,rfl,HSd.out⟩) HGD.out h1' h2' h3')
        have HB9:=hide (h2' R w HB.out (by omega))
        have c5:w9.cell? ⟨R,3,none⟩=some vi:=((h2' _ _ (Below.refl (R+1) w7.drew) (Nat.le_refl _)).cell (p:=⟨R,3,none⟩) (Nat.lt_succ_self _)).trans (RowF.cell HQ.out.b (j:=3) (by omega))
        have z5:w9.frozen? ⟨R,3,none⟩=false:=(RowF.low HQ.out.b (h2' _ _ (Below.refl (R+1) w7.drew) (Nat.le_refl _)) (Nat.lt_succ_self _)).frz 3
        clear h1' h2' h3' HQ)
      |fail)
     all_goals
      clear c5 z5
      have HB6:=hide (HB9.out.setCell (p:=⟨R,3,none⟩) (Nat.le_refl _) (.slice a9 (us.length+1) k9))
      go_wp2_with fail
      go_end0
      exact ⟨rfl,HB6.out,.inl ⟨⟨q+1,items++[itOne f (hb p q)],opn,done⟩,us++[(itOne f (hb p q),.slice (some ⟨g,0,none⟩) 256 256)],.slice a9 (us.length+1) k9,vo,vd,HR.out,by simp [hit],HQ9.out,by simp;omega,by simp;omega⟩⟩
   ·rw [if_neg (fun x=>hsg x.2)] at HR
    obtain ⟨t0,t1,t2,t3⟩:=sign0 hsg
    clear hsg
    go_wp2_with fail
    refine (here_in R p q 0 false vi vo vd w4 (by omega) (by omega) (by omega) HQ4.out.b (by omega)).mono ?_
    rintro e w5 ⟨rfl,hk5⟩
    rw [Nat.add_zero]
    have HQ5:=hide (HQ4.out.keep hk5)
    have HS5:=hide (SetF.keep HS.out hk5 (fun x=>x))
    have HX5:=hide (HX.out.keep hk5 (fun x=>x))
    have HB5:=hide (HB4.out.trans (below_keeps (R:=R) hk5 (by have:=HX.out.lt;omega)))
    clear HQ4 HS HX HB4 hk5
    go_upto_region 7 with (fail)
    generalize hww:w5=w7 at *
    clear hww
    have HQ7:=HQ5
    have HS7:=HS5
    have HX7:=HX5
    have HB7:=HB5
    clear HQ5 HS5 HX5 HB5
    have x0:w7.cell? ⟨X,0,none⟩=some (.int .i64 0):=RowF.cell HX7.out (j:=0) (by omega)
    have x1:w7.cell? ⟨X,1,none⟩=some (.slice (some ⟨g,0,none⟩) 256 256):=RowF.cell HX7.out (j:=1) (by omega)
    have x2:w7.cell? ⟨X,2,none⟩=some (.int .u8 0):=RowF.cell HX7.out (j:=2) (by omega)
    have x3:w7.cell? ⟨X,3,none⟩=some (.int .i64 0):=RowF.cell HX7.out (j:=3) (by omega)
    have x4:w7.cell? ⟨X,4,none⟩=some (.int .u8 0):=RowF.cell HX7.out (j:=4) (by omega)
    have x5:w7.cell? ⟨X,5,none⟩=some (.int .u8 0):=RowF.cell HX7.out (j:=5) (by omega)
    have HQ:=hide (HQ7.out.keep ((Keeps.refl w7 _).dr1))
    have HSd:=hide (SetF.keep HS7.out ((Keeps.refl w7 (fun _=>False)).dr1) (fun x=>x))
    have HB:=hide (show Below R w w7.drew from HB7.out.drew)
    have hs7:R<w7.heap.size:=HQ7.out.lt
    clear HQ7 HS7 HB7
    have c3:w7.cell? ⟨R,3,none⟩=some vi:=RowF.cell HQ.out.b (j:=3) (by omega)
    have c33:(w7.alloc (.cells #[.int .i64 0,.slice (some ⟨g,0,none⟩) 256 256,.int .u8 0,.int .i64 0,.int .u8 0,.int .u8 0] 91)).cell? ⟨R,3,none⟩=some vi:=((b_1 w7 _).cell (p:=⟨R,3,none⟩) hs7).trans c3
    go_region_law (first
     |(have _z:=HQ
       rw [if_pos (by rfl)]
       clear _z
       refine app_new_opd _ _ 33 91 6 56 _ rfl Tryz.underlying33 Tryz.info91 rfl (by omega) (R+1) vi us.length (itsC us) [.int .i64 0,.slice (some ⟨g,0,none⟩) 256 256,.int .u8 0,.int .i64 0,.int .u8 0,.int .u8 0] HQ.out.i rfl rfl rfl (one_it (itOne f 0) (some ⟨g,0,none⟩) 256 256) (by omega) (by omega) (by have:=HQ.out.lt;omega) ?_
       intro v' w9 h1' h2' h3'
       obtain ⟨a9,k9,rfl⟩:=owns_val h1'
       have HQ9:=hide (HQ.out.app_i (itOne f 0,.slice (some ⟨g,0,none⟩) 256 256) (.inr ⟨g,rfl,HSd.out⟩) HGD.out h1' h2' h3')
       have HB9:=hide (h2' R w HB.out (by omega))
       have c5:w9.cell? ⟨R,3,none⟩=some vi:=((h2' _ _ (Below.refl (R+1) w7.drew) (Nat.le_refl _)).cell (p:=⟨R,3,none⟩) (Nat.lt_succ_self _)).trans (RowF.cell HQ.out.b (j:=3) (by omega))
       have z5:w9.frozen? ⟨R,3,none⟩=false:=(RowF.low HQ.out.b (h2' _ _ (Below.refl (R+1) w7.drew) (Nat.le_refl _)) (Nat.lt_succ_self _)).frz 3
       clear h1' h2' h3' HQ)
     |fail)
    all_goals
     clear c5 z5
     have HB6:=hide (HB9.out.setCell (p:=⟨R,3,none⟩) (Nat.le_refl _) (.slice a9 (us.length+1) k9))
     go_wp2_with fail
     go_end0
     exact ⟨rfl,HB6.out,.inl ⟨⟨q,items++[itOne f 0],opn,done⟩,us++[(itOne f 0,.slice (some ⟨g,0,none⟩) 256 256)],.slice a9 (us.length+1) k9,vo,vd,HR.out,by simp [hit],HQ9.out,by simp;omega,by simp;omega⟩⟩
  ·rw [if_neg (fun x=>hqs x.1)] at HR
   go_wp2_with fail
   refine (here_out R p q 0 false vi vo vd w4 (by omega) (by omega) (by omega) HQ4.out.b (by omega)).mono ?_
   rintro e w5 ⟨rfl,hk5⟩
   have HQ5:=hide (HQ4.out.keep hk5)
   have HS5:=hide (SetF.keep HS.out hk5 (fun x=>x))
   have HX5:=hide (HX.out.keep hk5 (fun x=>x))
   have HB5:=hide (HB4.out.trans (below_keeps (R:=R) hk5 (by have:=HX.out.lt;omega)))
   clear HQ4 HS HX HB4 hk5
   go_upto_region 7 with (fail)
   generalize hww:w5=w7 at *
   clear hww
   have HQ7:=HQ5
   have HS7:=HS5
   have HX7:=HX5
   have HB7:=HB5
   clear HQ5 HS5 HX5 HB5
   have x0:w7.cell? ⟨X,0,none⟩=some (.int .i64 0):=RowF.cell HX7.out (j:=0) (by omega)
   have x1:w7.cell? ⟨X,1,none⟩=some (.slice (some ⟨g,0,none⟩) 256 256):=RowF.cell HX7.out (j:=1) (by omega)
   have x2:w7.cell? ⟨X,2,none⟩=some (.int .u8 0):=RowF.cell HX7.out (j:=2) (by omega)
   have x3:w7.cell? ⟨X,3,none⟩=some (.int .i64 0):=RowF.cell HX7.out (j:=3) (by omega)
   have x4:w7.cell? ⟨X,4,none⟩=some (.int .u8 0):=RowF.cell HX7.out (j:=4) (by omega)
   have x5:w7.cell? ⟨X,5,none⟩=some (.int .u8 0):=RowF.cell HX7.out (j:=5) (by omega)
   have HQ:=hide (HQ7.out.keep ((Keeps.refl w7 _).dr1))
   have HSd:=hide (SetF.keep HS7.out ((Keeps.refl w7 (fun _=>False)).dr1) (fun x=>x))
   have HB:=hide (show Below R w w7.drew from HB7.out.drew)
   have hs7:R<w7.heap.size:=HQ7.out.lt
   clear HQ7 HS7 HB7
   have c3:w7.cell? ⟨R,3,none⟩=some vi:=RowF.cell HQ.out.b (j:=3) (by omega)
   have c33:(w7.alloc (.cells #[.int .i64 0,.slice (some ⟨g,0,none⟩) 256 256,.int .u8 0,.int .i64 0,.int .u8 0,.int .u8 0] 91)).cell? ⟨R,3,none⟩=some vi:=((b_1 w7 _).cell (p:=⟨R,3,none⟩) hs7).trans c3
   go_region_law (first
    |(have _z:=HQ
      rw [if_pos (by rfl)]
      clear _z
      refine app_new_opd _ _ 33 91 6 56 _ rfl Tryz.underlying33 Tryz.info91 rfl (by omega) (R+1) vi us.length (itsC us) [.int .i64 0,.slice (some ⟨g,0,none⟩) 256 256,.int .u8 0,.int .i64 0,.int .u8 0,.int .u8 0] HQ.out.i rfl rfl rfl (one_it (itOne f 0) (some ⟨g,0,none⟩) 256 256) (by omega) (by omega) (by have:=HQ.out.lt;omega) ?_
      intro v' w9 h1' h2' h3'
      obtain ⟨a9,k9,rfl⟩:=owns_val h1'
      have HQ9:=hide (HQ.out.app_i (itOne f 0,.slice (some ⟨g,0,none⟩) 256 256) (.inr ⟨g,rfl,HSd.out⟩) HGD.out h1' h2' h3')
      have HB9:=hide (h2' R w HB.out (by omega))
      have c5:w9.cell? ⟨R,3,none⟩=some vi:=((h2' _ _ (Below.refl (R+1) w7.drew) (Nat.le_refl _)).cell (p:=⟨R,3,none⟩) (Nat.lt_succ_self _)).trans (RowF.cell HQ.out.b (j:=3) (by omega))
      have z5:w9.frozen? ⟨R,3,none⟩=false:=(RowF.low HQ.out.b (h2' _ _ (Below.refl (R+1) w7.drew) (Nat.le_refl _)) (Nat.lt_succ_self _)).frz 3
      clear h1' h2' h3' HQ)
    |fail)
   all_goals
    clear c5 z5
    have HB6:=hide (HB9.out.setCell (p:=⟨R,3,none⟩) (Nat.le_refl _) (.slice a9 (us.length+1) k9))
    go_wp2_with fail
    go_end0
    exact ⟨rfl,HB6.out,.inl ⟨⟨q,items++[itOne f 0],opn,done⟩,us++[(itOne f 0,.slice (some ⟨g,0,none⟩) 256 256)],.slice a9 (us.length+1) k9,vo,vd,HR.out,by simp [hit],HQ9.out,by simp;omega,by simp;omega⟩⟩
 ·have HRb4:=hide (RdB.keep hrd kb (fun x=>x))
  have HI4:=hide (owns_keep (owns_keep HQ.out.i hk3 (by omega)) kb (fun b hb=>hb.elim))
  rw [hr] at HR
  simp only [Option.map_none] at HR
  clear HQ hk3 hrd kb hr
  go_upto_region 3 with (fail)
  generalize w3.alloc (.cells #[Value.int .i64 0,.slice (some ⟨g,0,none⟩) 256 256,.int .u8 0,.int .i64 0,.int .u8 0,.int .u8 0] 91)=w4 at *
  obtain ⟨X,hX⟩:∃ X,X=w3.heap.size:=⟨_,rfl⟩
  rw [←hX] at HX hvX ⊢
  have hXR:R<X:=by omega
  clear hX
  by_cases hqs:q<p.size
  ·by_cases hsg:isSign (hb p q)=true
   ·go_wp2_with fail
    refine (here_in R p q 0 true vi vo vd w4 (by omega) (by omega) (by omega) HRb4.out (by omega)).mono ?_
    rintro e w5 ⟨rfl,hk5⟩
    rw [Nat.add_zero]
    have HRb5:=hide (RdB.keep HRb4.out hk5 (fun x=>x))
    have HI5:=hide (owns_keep HI4.out hk5 (fun b hb=>hb.elim))
    have HX5:=hide (HX.out.keep hk5 (fun x=>x))
    have HB5:=hide (HB4.out.trans (below_keeps (R:=R) hk5 (by have:=HX.out.lt;omega)))
    clear HRb4 HI4 HX HB4 hk5
    rcases sign4 hsg with t0|⟨t0,t1⟩|⟨t0,t1,t2⟩|⟨t0,t1,t2,t3⟩
    all_goals
     have x2:w5.cell? ⟨X,2,none⟩=some (.int .u8 0):=RowF.cell HX5.out (j:=2) (by omega)
     have xz:=HX5.out.frz 2
     go_upto_region 6 with (fail)
     have HRb6:=hide (RdB.keep HRb5.out ((Keeps.refl w5 (fun b=>b=X)).setCell (S:=fun b=>b=X) (j:=2) rfl (.int .u8 (hb p q))) (by omega))
     have HI6:=hide (owns_stay HI5.out (w':=w5.setCell ⟨X,2,none⟩ (.int .u8 (hb p q))) (fun b hb9=>((Keeps.refl w5 (fun b=>b=X)).setCell (S:=fun b=>b=X) (j:=2) rfl (.int .u8 (hb p q))).block b (owns_blt HI5.out hb9).2 (hvX b hb9)))
     have HX6:=hide ((HX5.out.set (j:=2) (by omega) (.int .u8 (hb p q))).congr (f':=fun j=>#[Value.int .i64 0,.slice (some ⟨g,0,none⟩) 256 256,.int .u8 (hb p q),.int .i64 0,.int .u8 0,.int .u8 0].getD j (.bool false)) fun j hj=>by
      rcases j with _|_|_|_|_|_|j
      all_goals simp
      all_goals omega)
     have HB6:=hide (HB5.out.setCell (p:=⟨X,2,none⟩) (show R≤X by omega) (.int .u8 (hb p q)))
     clear x2 xz HRb5 HI5 HX5 HB5
     generalize w5.setCell ⟨X,2,none⟩ (.int .u8 (hb p q))=w6 at *
     have c1:w6.cell? ⟨R,1,none⟩=some (.int .i64 (q:Int)):=RowF.cell HRb6.out (j:=1) (by omega)
     have zc1:w6.frozen? ⟨R,1,none⟩=false:=RowF.frz HRb6.out 1
     go_upto_region 7 with (fail)
     have HRb7:=hide (RdB.pos (at':=q+1) HRb6.out)
     have HI7:=hide (owns_keep HI6.out ((Keeps.refl w6 (fun b=>b=R)).setCell (S:=fun b=>b=R) (j:=1) rfl (.int .i64 ((q+1:Nat):Int))) (by omega))
     have HX7:=hide (HX6.out.keep ((Keeps.refl w6 (fun b=>b=R)).setCell (S:=fun b=>b=R) (j:=1) rfl (.int .i64 ((q+1:Nat):Int))) (fun e=>RowF.apart HX6.out HRb6.out (by decide) e))
     have HB7:=hide (HB6.out.setCell (p:=⟨R,1,none⟩) (Nat.le_refl _) (.int .i64 ((q+1:Nat):Int)))
     rw [show ((q+1:Nat):Int)=(q:Int)+1 by omega] at HX7 HB7 HRb7 HI7
     clear c1 zc1 HX6 HB6 HRb6 HI6
     generalize w6.setCell ⟨R,1,none⟩ (.int .i64 ((q:Int)+1))=w7 at *
     have x0:w7.cell? ⟨X,0,none⟩=some (.int .i64 0):=RowF.cell HX7.out (j:=0) (by omega)
     have x1:w7.cell? ⟨X,1,none⟩=some (.slice (some ⟨g,0,none⟩) 256 256):=RowF.cell HX7.out (j:=1) (by omega)
     have x2:w7.cell? ⟨X,2,none⟩=some (.int .u8 (hb p q)):=RowF.cell HX7.out (j:=2) (by omega)
     have x3:w7.cell? ⟨X,3,none⟩=some (.int .i64 0):=RowF.cell HX7.out (j:=3) (by omega)
     have x4:w7.cell? ⟨X,4,none⟩=some (.int .u8 0):=RowF.cell HX7.out (j:=4) (by omega)
     have x5:w7.cell? ⟨X,5,none⟩=some (.int .u8 0):=RowF.cell HX7.out (j:=5) (by omega)
     have HRb:=hide (RdB.keep HRb7.out ((Keeps.refl w7 (fun _=>False)).dr1) (fun x=>x))
     have HI:=hide (owns_keep HI7.out ((Keeps.refl w7 (fun _=>False)).dr1) (fun b hb=>hb.elim))
     have HB:=hide (show Below R w w7.drew from HB7.out.drew)
     have hs7:R<w7.heap.size:=RowF.lt HRb7.out
     clear HRb7 HI7 HB7
     have c3:w7.cell? ⟨R,3,none⟩=some vi:=RowF.cell HRb.out (j:=3) (by omega)
     have c33:(w7.alloc (.cells #[.int .i64 0,.slice (some ⟨g,0,none⟩) 256 256,.int .u8 (hb p q),.int .i64 0,.int .u8 0,.int .u8 0] 91)).cell? ⟨R,3,none⟩=some vi:=((b_1 w7 _).cell (p:=⟨R,3,none⟩) hs7).trans c3
     try go_wp2_with fail
     go_region_law (first
      |(have _z:=HI
        rw [if_pos (by rfl)]
        clear _z
        refine app_new_opd _ _ 33 91 6 56 _ rfl Tryz.underlying33 Tryz.info91 rfl (by omega) (R+1) vi us.length (itsC us) [.int .i64 0,.slice (some ⟨g,0,none⟩) 256 256,.int .u8 (hb p q),.int .i64 0,.int .u8 0,.int .u8 0] HI.out rfl rfl rfl (one_it (itOne (fun _=>false) (hb p q)) (some ⟨g,0,none⟩) 256 256) (by omega) (by omega) (by have:=hs7;simp;omega) ?_
        intro v' w9 h1' h2' h3'
        obtain ⟨a9,k9,rfl⟩:=owns_val h1'
        have HQ9:=hide (HRb.out.app (v':=.slice a9 (us.length+1) k9) h2')
        have HB9:=hide (h2' R w HB.out (by omega))
        have c5:w9.cell? ⟨R,3,none⟩=some vi:=((h2' _ _ (Below.refl (R+1) w7.drew) (Nat.le_refl _)).cell (p:=⟨R,3,none⟩) (Nat.lt_succ_self _)).trans (RowF.cell HRb.out (j:=3) (by omega))
        have z5:w9.frozen? ⟨R,3,none⟩=false:=(RowF.low HRb.out (h2' _ _ (Below.refl (R+1) w7.drew) (Nat.le_refl _)) (Nat.lt_succ_self _)).frz 3
        clear h1' h2' h3' HI)
      |fail)
     all_goals
      clear c5 z5
      have HB6:=hide (HB9.out.setCell (p:=⟨R,3,none⟩) (Nat.le_refl _) (.slice a9 (us.length+1) k9))
      go_wp2_with fail
      go_end0
      exact ⟨rfl,HB6.out,.inr ⟨HR.out,_,_,_,_,by omega,HQ9.out⟩⟩
   ·obtain ⟨t0,t1,t2,t3⟩:=sign0 hsg
    clear hsg
    go_wp2_with fail
    refine (here_in R p q 0 true vi vo vd w4 (by omega) (by omega) (by omega) HRb4.out (by omega)).mono ?_
    rintro e w5 ⟨rfl,hk5⟩
    rw [Nat.add_zero]
    have HRb5:=hide (RdB.keep HRb4.out hk5 (fun x=>x))
    have HI5:=hide (owns_keep HI4.out hk5 (fun b hb=>hb.elim))
    have HX5:=hide (HX.out.keep hk5 (fun x=>x))
    have HB5:=hide (HB4.out.trans (below_keeps (R:=R) hk5 (by have:=HX.out.lt;omega)))
    clear HRb4 HI4 HX HB4 hk5
    go_upto_region 7 with (fail)
    generalize hww:w5=w7 at *
    clear hww
    have HRb7:=HRb5
    have HI7:=HI5
    have HX7:=HX5
    have HB7:=HB5
    clear HRb5 HI5 HX5 HB5
    have x0:w7.cell? ⟨X,0,none⟩=some (.int .i64 0):=RowF.cell HX7.out (j:=0) (by omega)
    have x1:w7.cell? ⟨X,1,none⟩=some (.slice (some ⟨g,0,none⟩) 256 256):=RowF.cell HX7.out (j:=1) (by omega)
    have x2:w7.cell? ⟨X,2,none⟩=some (.int .u8 0):=RowF.cell HX7.out (j:=2) (by omega)
    have x3:w7.cell? ⟨X,3,none⟩=some (.int .i64 0):=RowF.cell HX7.out (j:=3) (by omega)
    have x4:w7.cell? ⟨X,4,none⟩=some (.int .u8 0):=RowF.cell HX7.out (j:=4) (by omega)
    have x5:w7.cell? ⟨X,5,none⟩=some (.int .u8 0):=RowF.cell HX7.out (j:=5) (by omega)
    have HRb:=hide (RdB.keep HRb7.out ((Keeps.refl w7 (fun _=>False)).dr1) (fun x=>x))
    have HI:=hide (owns_keep HI7.out ((Keeps.refl w7 (fun _=>False)).dr1) (fun b hb=>hb.elim))
    have HB:=hide (show Below R w w7.drew from HB7.out.drew)
    have hs7:R<w7.heap.size:=RowF.lt HRb7.out
    clear HRb7 HI7 HB7
    have c3:w7.cell? ⟨R,3,none⟩=some vi:=RowF.cell HRb.out (j:=3) (by omega)
    have c33:(w7.alloc (.cells #[.int .i64 0,.slice (some ⟨g,0,none⟩) 256 256,.int .u8 0,.int .i64 0,.int .u8 0,.int .u8 0] 91)).cell? ⟨R,3,none⟩=some vi:=((b_1 w7 _).cell (p:=⟨R,3,none⟩) hs7).trans c3
    go_region_law (first
     |(have _z:=HI
       rw [if_pos (by rfl)]
       clear _z
       refine app_new_opd _ _ 33 91 6 56 _ rfl Tryz.underlying33 Tryz.info91 rfl (by omega) (R+1) vi us.length (itsC us) [.int .i64 0,.slice (some ⟨g,0,none⟩) 256 256,.int .u8 0,.int .i64 0,.int .u8 0,.int .u8 0] HI.out rfl rfl rfl (one_it (itOne (fun _=>false) 0) (some ⟨g,0,none⟩) 256 256) (by omega) (by omega) (by have:=hs7;simp;omega) ?_
       intro v' w9 h1' h2' h3'
       obtain ⟨a9,k9,rfl⟩:=owns_val h1'
       have HQ9:=hide (HRb.out.app (v':=.slice a9 (us.length+1) k9) h2')
       have HB9:=hide (h2' R w HB.out (by omega))
       have c5:w9.cell? ⟨R,3,none⟩=some vi:=((h2' _ _ (Below.refl (R+1) w7.drew) (Nat.le_refl _)).cell (p:=⟨R,3,none⟩) (Nat.lt_succ_self _)).trans (RowF.cell HRb.out (j:=3) (by omega))
       have z5:w9.frozen? ⟨R,3,none⟩=false:=(RowF.low HRb.out (h2' _ _ (Below.refl (R+1) w7.drew) (Nat.le_refl _)) (Nat.lt_succ_self _)).frz 3
       clear h1' h2' h3' HI)
     |fail)
    all_goals
     clear c5 z5
     have HB6:=hide (HB9.out.setCell (p:=⟨R,3,none⟩) (Nat.le_refl _) (.slice a9 (us.length+1) k9))
     go_wp2_with fail
     go_end0
     exact ⟨rfl,HB6.out,.inr ⟨HR.out,_,_,_,_,by omega,HQ9.out⟩⟩
  ·go_wp2_with fail
   refine (here_out R p q 0 true vi vo vd w4 (by omega) (by omega) (by omega) HRb4.out (by omega)).mono ?_
   rintro e w5 ⟨rfl,hk5⟩
   have HRb5:=hide (RdB.keep HRb4.out hk5 (fun x=>x))
   have HI5:=hide (owns_keep HI4.out hk5 (fun b hb=>hb.elim))
   have HX5:=hide (HX.out.keep hk5 (fun x=>x))
   have HB5:=hide (HB4.out.trans (below_keeps (R:=R) hk5 (by have:=HX.out.lt;omega)))
   clear HRb4 HI4 HX HB4 hk5
   go_upto_region 7 with (fail)
   generalize hww:w5=w7 at *
   clear hww
   have HRb7:=HRb5
   have HI7:=HI5
   have HX7:=HX5
   have HB7:=HB5
   clear HRb5 HI5 HX5 HB5
   have x0:w7.cell? ⟨X,0,none⟩=some (.int .i64 0):=RowF.cell HX7.out (j:=0) (by omega)
   have x1:w7.cell? ⟨X,1,none⟩=some (.slice (some ⟨g,0,none⟩) 256 256):=RowF.cell HX7.out (j:=1) (by omega)
   have x2:w7.cell? ⟨X,2,none⟩=some (.int .u8 0):=RowF.cell HX7.out (j:=2) (by omega)
   have x3:w7.cell? ⟨X,3,none⟩=some (.int .i64 0):=RowF.cell HX7.out (j:=3) (by omega)
   have x4:w7.cell? ⟨X,4,none⟩=some (.int .u8 0):=RowF.cell HX7.out (j:=4) (by omega)
   have x5:w7.cell? ⟨X,5,none⟩=some (.int .u8 0):=RowF.cell HX7.out (j:=5) (by omega)
   have HRb:=hide (RdB.keep HRb7.out ((Keeps.refl w7 (fun _=>False)).dr1) (fun x=>x))
   have HI:=hide (owns_keep HI7.out ((Keeps.refl w7 (fun _=>False)).dr1) (fun b hb=>hb.elim))
   have HB:=hide (show Below R w w7.drew from HB7.out.drew)
   have hs7:R<w7.heap.size:=RowF.lt HRb7.out
   clear HRb7 HI7 HB7
   have c3:w7.cell? ⟨R,3,none⟩=some vi:=RowF.cell HRb.out (j:=3) (by omega)
   have c33:(w7.alloc (.cells #[.int .i64 0,.slice (some ⟨g,0,none⟩) 256 256,.int .u8 0,.int .i64 0,.int .u8 0,.int .u8 0] 91)).cell? ⟨R,3,none⟩=some vi:=((b_1 w7 _).cell (p:=⟨R,3,none⟩) hs7).trans c3
   go_region_law (first
    |(have _z:=HI
      rw [if_pos (by rfl)]
      clear _z
      refine app_new_opd _ _ 33 91 6 56 _ rfl Tryz.underlying33 Tryz.info91 rfl (by omega) (R+1) vi us.length (itsC us) [.int .i64 0,.slice (some ⟨g,0,none⟩) 256 256,.int .u8 0,.int .i64 0,.int .u8 0,.int .u8 0] HI.out rfl rfl rfl (one_it (itOne (fun _=>false) 0) (some ⟨g,0,none⟩) 256 256) (by omega) (by omega) (by have:=hs7;simp;omega) ?_
      intro v' w9 h1' h2' h3'
      obtain ⟨a9,k9,rfl⟩:=owns_val h1'
      have HQ9:=hide (HRb.out.app (v':=.slice a9 (us.length+1) k9) h2')
      have HB9:=hide (h2' R w HB.out (by omega))
      have c5:w9.cell? ⟨R,3,none⟩=some vi:=((h2' _ _ (Below.refl (R+1) w7.drew) (Nat.le_refl _)).cell (p:=⟨R,3,none⟩) (Nat.lt_succ_self _)).trans (RowF.cell HRb.out (j:=3) (by omega))
      have z5:w9.frozen? ⟨R,3,none⟩=false:=(RowF.low HRb.out (h2' _ _ (Below.refl (R+1) w7.drew) (Nat.le_refl _)) (Nat.lt_succ_self _)).frz 3
      clear h1' h2' h3' HI)
    |fail)
   all_goals
    clear c5 z5
    have HB6:=hide (HB9.out.setCell (p:=⟨R,3,none⟩) (Nat.le_refl _) (.slice a9 (us.length+1) k9))
    go_wp2_with fail
    go_end0
    exact ⟨rfl,HB6.out,.inr ⟨HR.out,_,_,_,_,by omega,HQ9.out⟩⟩
end Go.Proofs.YtlgodacccilabaaGreatDoor
