import Derived.Test.YtlgodacccilabaaGreatDoorJGH2
import Derived.Test.YtlgodacccilabaaGreatDoorQY3
import Derived.Test.YtlgodacccilabaaGreatDoorJQE
namespace Go.Proofs.YtlgodacccilabaaGreatDoor
open Go Go.RowKit Go.Shelf
set_option linter.unusedVariables false
abbrev Im:=Option (It × Nat × List Nat × List Bool)
def itemM (p:ByteArray) (pos:Nat) (opn:List Nat) (done:List Bool):Im:=
 if hb p pos=40 then
  if pos+1<p.size∧hb p (pos+1)=41 then some (itPlace done.length,pos+2,opn,done++[true])
  else some (itOpen done.length,pos+1,opn++[done.length],done++[false])
 else if hb p pos=41 then ecM (pos+1) opn done
 else if hb p pos=37∧pos+1<p.size∧isDg (hb p (pos+1))=true then (bkM p pos done).map (fun r=>(r.1,r.2,opn,done))
 else if hb p pos=37∧pos+1<p.size∧hb p (pos+1)=98 then (blM p (pos+2)).map (fun r=>(r.1,r.2,opn,done))
 else if hb p pos=37∧pos+1<p.size∧hb p (pos+1)=102 then (bdM p (pos+2)).map (fun r=>(r.1,r.2,opn,done))
 else if hb p pos=36∧¬ pos+1<p.size then some (itEnd,pos+1,opn,done)
 else (sgM p pos).map (fun r=>(r.1,r.2,opn,done))
theorem rdItem_eq (p:ByteArray) (rd:Rd):rdItem p rd=(itemM p rd.pos rd.opn rd.done).map (fun r=>⟨r.2.1,rd.items++[r.1],r.2.2.1,r.2.2.2⟩):=by
 unfold rdItem itemM
 split
 ·split<;>rfl
 split
 ·unfold ecM
  cases rd.opn.getLast?<;>rfl
 split
 ·unfold bkM
  split<;>rfl
 split
 ·unfold blM
  by_cases h:rd.pos+3<p.size
  ·rw [if_pos h,if_pos (show rd.pos+2+1<p.size from h)];rfl
  ·rw [if_neg h,if_neg (show ¬ rd.pos+2+1<p.size from h)];rfl
 split
 ·unfold bdM
  by_cases h:rd.pos+2<p.size∧hb p (rd.pos+2)=91
  ·rw [if_pos h,if_pos h,rdSet_st,Option.map_map,Option.map_map];rfl
  ·rw [if_neg h,if_neg h];rfl
 split
 ·rfl
 ·unfold sgM
  rw [Option.map_map,Option.map_map]
  congr 1
  funext r
  simp only [Function.comp]
  split<;>rfl
theorem dol_q {p:ByteArray} {pos:Nat} (h:pos<p.size):((p.extract pos p.size).toList==[36])=decide (pos+1=p.size∧hb p pos=36):=by
 rw [Bool.eq_iff_iff,decide_eq_true_iff,beq_iff_eq,ByteArray.toList_eq]
 have h2:(p.extract pos p.size).data.toList.length=p.size-pos:=ext_size
 have h3:hb (p.extract pos p.size) 0=hb p pos:=hb_ext
 constructor
 ·intro e
  rw [e] at h2
  have h4:(1:Nat)=p.size-pos:=h2
  refine ⟨by omega,?_⟩
  have e2:p.extract pos p.size=⟨[(36:UInt8)].toArray⟩:=ByteArray.ext (Array.toList_inj.1 (by rw [e]))
  rw [←h3,e2,hb_lit]
  rfl
 ·rintro ⟨e1,e2⟩
  have h5:stA p pos [36]=true:=by rw [st_one];exact decide_eq_true ⟨h,e2⟩
  have h6:=(of_decide_eq_true h5).2
  have h7:(⟨[(36:UInt8)].toArray⟩:ByteArray).size=1:=rfl
  rw [h7,ByteArray.extract_extract,show pos+0=pos from rfl,show min (pos+1) p.size=p.size by omega] at h6
  rw [h6]
theorem below_dr {B:Nat} {w w':World} (h:Below B w.drew w'):Below B w w':=⟨h.os,h.tape,h.output,h.size,h.block⟩
theorem RI.below {w w':World} {R:Nat} (k:Keeps w w' (fun b=>b=R)) (h:R<w.heap.size):Below R w w':=k.below (Nat.le_of_lt h) (fun b e=>by omega)
theorem RI.drew {w:World} {R:Nat} {p:ByteArray} {pos:Nat} {us:List Iu} {opn:List Nat} {done:List Bool} {vi vo vc:Value} (h:RI w R p pos us opn done vi vo vc):RI w.drew R p pos us opn done vi vo vc:=h.keep (Keeps.refl w _).dr1
theorem itq_form {w':World} {R:Nat} {p:ByteArray} {us:List Iu} {vi:Value} {e:Ending} {o:Im} (h:ItQ w' R p us vi e o):∃ v b,e=.returned (.tuple #[v,.bool b]):=by
 cases o with
 |none=>exact ⟨_,_,h.choose_spec⟩
 |some r=>
  obtain ⟨it,pos,opn,done⟩:=r
  obtain ⟨fi,ci,vo,vc,he,_⟩:=h
  exact ⟨_,_,he⟩
set_option maxHeartbeats 6400000 in
set_option maxRecDepth 100000 in
theorem pitem_any (R:Nat) (p:ByteArray) (pos:Nat) (us:List Iu) (opn:List Nat) (done:List Bool) (vi vo vc:Value) (w:World) (hps:p.size≤1000) (hs:pos<p.size) (hl:LtT w) (hR:1<R) (hn:opn.length≤500) (hdl:done.length≤500) (hop:∀ n∈opn,n<done.length) (h:RI w R p pos us opn done vi vo vc):
 Calls Tryz.prog 28 #[.pointer (some ⟨R,0,none⟩)] w fun e w'=>ItQ w' R p us vi e (itemM p pos opn done)∧Below R w w':=by
 have c:w.cell? ⟨R,0,none⟩=some (.string (p.extract pos p.size)):=RowF.cell h.q.2 (j:=0) (by omega)
 have z:w.frozen? ⟨R,0,none⟩=false:=RowF.frz h.q.2 0
 have hRl:=h.lt
 obtain ⟨ad0,kd0,rfl⟩:=owns_val h.d
 have HQ:=hide h
 have HL:=hide hl
 have HOp:=hide hop
 have hdq:=dol_q hs
 clear h hl hop
 go_enter Tryz.func28,Tryz.ntmps28
 by_cases h36:pos+1=p.size∧hb p pos=36
 ·rw [decide_eq_true h36] at hdq
  have HV:=hide (show itemM p pos opn done=some (itEnd,pos+1,opn,done) by
   unfold itemM
   rw [if_neg (by rw [h36.2];decide),if_neg (by rw [h36.2];decide),if_neg (by rw [h36.2];intro x;cases x.1),if_neg (by rw [h36.2];intro x;cases x.1),if_neg (by rw [h36.2];intro x;cases x.1),if_pos ⟨h36.2,by omega⟩])
  have hk1:Keeps w (w.setCell ⟨R,0,none⟩ (.string ⟨#[]⟩)) (fun b=>b=R):=(Keeps.refl w (fun b=>b=R)).setCell (g:=R) (j:=0) rfl _
  have h9:=HQ.out.keepR (pos':=pos+1) hk1 ⟨by omega,by rw [ext_empty (by omega)];exact HQ.out.q.2.setR _⟩
  have H1:=hide (And.intro h9 (RI.below hk1 hRl))
  clear h9 hk1
  generalize p.extract pos p.size=rs at c hdq
  go_wp2_with fail
  refine bodyPost_ret (v:=.tuple #[.func (.func 47) #[] #[],.bool true]) ?_ rfl ⟨?_,H1.out.2⟩
  ·simp [results,Tryz.results28,go_sem]
  ·rw [HV.out]
   exact ⟨_,_,_,_,rfl,H1.out.1,.fin rfl,fun b hb=>by simp at hb⟩
 ·rw [decide_eq_false h36] at hdq
  have H36:=hide h36
  generalize p.extract pos p.size=rs at c hdq
  go_wp2_with fail
  refine (takes_q R p pos [40,41] vi vo _ w hps (by simp) HQ.out.q).mono ?_
  rintro e w1 ⟨rfl,hq1,hk1⟩
  clear c z hdq h36
  rw [st_two] at hq1
  rw [st_two]
  by_cases h4:pos+1<p.size∧hb p pos=40∧hb p (pos+1)=41
  ·rw [decide_eq_true (show pos+1<p.size∧hb p pos=(((40:UInt8).toNat:Nat):Int)∧hb p (pos+1)=(((41:UInt8).toNat:Nat):Int) from h4)] at hq1 ⊢
   rw [if_pos rfl] at hq1
   have HV:=hide (show itemM p pos opn done=some (itPlace done.length,pos+2,opn,done++[true]) by unfold itemM;rw [if_pos h4.2.1,if_pos ⟨h4.1,h4.2.2⟩])
   have HX:=hide (HQ.out.keepR hk1 hq1)
   have HXB:=hide (RI.below hk1 hRl)
   have c3:w1.cell? ⟨R,3,none⟩=some (.slice ad0 done.length kd0):=RowF.cell HX.out.q.2 (j:=3) (by omega)
   clear hq1 hk1 h4
   go_upto_region 6 with (first
    |(have _z:=HX
      at_builtin
      clear _z
      refine app_at rfl _ _ 34 4 1 1 _ rfl Tryz.underlying34 Tryz.info4 rfl (by omega) (R+1) (.slice ad0 done.length kd0) done.length (boC done) [.bool true] HX.out.d rfl rfl rfl (one_b1 true) (by omega) (by omega) (by have:=HX.out.lt;omega) ?_
      intro v' w5 h1' h2 h3 h4
      obtain ⟨a9,k9,rfl⟩:=owns_val h1'
      have HQ5:=hide (HX.out.app_d true h1' h2 h3 h4)
      have HB5:=hide (h2 R w HXB.out (by omega))
      have c9:w5.cell? ⟨R,3,none⟩=some (.slice ad0 done.length kd0):=((h2 _ _ (Below.refl (R+1) w1) (Nat.le_refl _)).cell (p:=⟨R,3,none⟩) (Nat.lt_succ_self _)).trans (RowF.cell HX.out.q.2 (j:=3) (by omega))
      have z9:w5.frozen? ⟨R,3,none⟩=false:=(RowF.low HX.out.q.2 (h2 _ _ (Below.refl (R+1) w1) (Nat.le_refl _)) (Nat.lt_succ_self _)).frz 3
      clear h1' h2 h3 h4 HX)
    |fail)
   have HB6:=hide (HB5.out.setCell (p:=⟨R,3,none⟩) (Nat.le_refl _) (.slice a9 (done.length+1) k9))
   clear c3 c9 z9 HB5
   generalize w5.setCell ⟨R,3,none⟩ (.slice a9 (done.length+1) k9)=w6 at HQ5 HB6 ⊢
   have c3:w6.cell? ⟨R,3,none⟩=some (.slice a9 (done.length+1) k9):=RowF.cell HQ5.out.q.2 (j:=3) (by omega)
   go_wp2_with fail
   refine (mk_notePlace (done.length:Int) w6).mono ?_
   rintro e w9 ⟨rfl,hw9⟩
   have HW:=hide hw9
   clear hw9
   go_wp2_with fail
   refine bodyPost_ret (v:=.tuple #[.func (.func 65) #[] #[.pointer (some ⟨w6.heap.size,0,none⟩)],.bool true]) ?_ rfl ⟨?_,?_⟩
   ·simp [results,Tryz.results28,go_sem]
   ·rw [HV.out]
    have h8:=HQ5.out.keep (Keeps.of (b_1 w6 (.cells #[.int .i64 (done.length:Int)] 3)) (Nat.le_refl _) _)
    have h9:=HQ5.out.fresh (iv_place w6 R done.length HQ5.out.lt) (fun b hb=>by
     simp [ptrB] at hb
     simp
     omega)
    rw [←HW.out] at h8 h9
    exact ⟨_,_,_,_,rfl,h8,h9⟩
   ·rw [HW.out]
    exact HB6.out.trans ((b_1 w6 _).mono (Nat.le_of_lt HQ5.out.lt))
  ·rw [decide_eq_false (show ¬ (pos+1<p.size∧hb p pos=(((40:UInt8).toNat:Nat):Int)∧hb p (pos+1)=(((41:UInt8).toNat:Nat):Int)) from h4)] at hq1 ⊢
   rw [if_neg (by simp)] at hq1
   have H4:=hide h4
   have H1:=hide (And.intro (HQ.out.keepR hk1 hq1) (And.intro hk1 (HL.out.keep hk1 (by omega) (by omega))))
   clear hq1 hk1 h4
   go_wp2_with fail
   refine (takes_q R p pos [40] vi vo _ w1 hps (by simp) H1.out.1.q).mono ?_
   rintro e w2 ⟨rfl,hq2,hk2⟩
   rw [st_one] at hq2
   rw [st_one]
   by_cases h40:pos<p.size∧hb p pos=40
   ·rw [decide_eq_true (show pos<p.size∧hb p pos=(((40:UInt8).toNat:Nat):Int) from h40)] at hq2 ⊢
    rw [if_pos rfl] at hq2
    have HV:=hide (show itemM p pos opn done=some (itOpen done.length,pos+1,opn++[done.length],done++[false]) by unfold itemM;rw [if_pos h40.2,if_neg (fun x=>H4.out ⟨x.1,h40.2,x.2⟩)])
    have H2:=hide (And.intro (H1.out.1.keepR hk2 hq2) (RI.below (H1.out.2.1.trans hk2) hRl))
    have c3:w2.cell? ⟨R,3,none⟩=some (.slice ad0 done.length kd0):=RowF.cell H2.out.1.q.2 (j:=3) (by omega)
    have HAd:=hide (fun (W:World) (hW:RI W R p (pos+1) us opn done vi vo (.slice ad0 done.length kd0))=>add_any R p (pos+1) us opn done vi vo (.slice ad0 done.length kd0) done.length W (by omega) hW)
    clear hq2 hk2 h40
    go_wp2_with fail
    go_region_with (go_at_call 49;refine (HAd.out _ H2.out.1.drew).mono ?_;rintro e w3 ⟨rfl,hb3,vo3,hr3⟩;clear c3;have c3:w3.cell? ⟨R,3,none⟩=some (.slice ad0 done.length kd0):=RowF.cell hr3.q.2 (j:=3) (by omega);have HX:=hide hr3;have HXB:=hide (H2.out.2.trans (below_dr hb3));clear hr3 hb3)
    go_upto_region 10 with (first
     |(have _z:=HX
       at_builtin
       clear _z
       refine app_at rfl _ _ 34 4 1 1 _ rfl Tryz.underlying34 Tryz.info4 rfl (by omega) (R+1) (.slice ad0 done.length kd0) done.length (boC done) [.bool false] HX.out.d rfl rfl rfl (one_b1 false) (by omega) (by omega) (by have:=HX.out.lt;omega) ?_
       intro v' w5 h1' h2 h3 h4
       obtain ⟨a9,k9,rfl⟩:=owns_val h1'
       have HQ5:=hide (HX.out.app_d false h1' h2 h3 h4)
       have HB5:=hide (h2 R w HXB.out (by omega))
       have c9:w5.cell? ⟨R,3,none⟩=some (.slice ad0 done.length kd0):=((h2 _ _ (Below.refl (R+1) w3) (Nat.le_refl _)).cell (p:=⟨R,3,none⟩) (Nat.lt_succ_self _)).trans (RowF.cell HX.out.q.2 (j:=3) (by omega))
       have z9:w5.frozen? ⟨R,3,none⟩=false:=(RowF.low HX.out.q.2 (h2 _ _ (Below.refl (R+1) w3) (Nat.le_refl _)) (Nat.lt_succ_self _)).frz 3
       clear h1' h2 h3 h4 HX)
     |fail)
    have HB6:=hide (HB5.out.setCell (p:=⟨R,3,none⟩) (Nat.le_refl _) (.slice a9 (done.length+1) k9))
    clear c3 c9 z9 HB5
    generalize w5.setCell ⟨R,3,none⟩ (.slice a9 (done.length+1) k9)=w6 at HQ5 HB6 ⊢
    have c3:w6.cell? ⟨R,3,none⟩=some (.slice a9 (done.length+1) k9):=RowF.cell HQ5.out.q.2 (j:=3) (by omega)
    go_wp2_with fail
    refine (mk_beginCapture (done.length:Int) w6).mono ?_
    rintro e w9 ⟨rfl,hw9⟩
    have HW:=hide hw9
    clear hw9
    go_wp2_with fail
    refine bodyPost_ret (v:=.tuple #[.func (.func 66) #[] #[.pointer (some ⟨w6.heap.size,0,none⟩)],.bool true]) ?_ rfl ⟨?_,?_⟩
    ·simp [results,Tryz.results28,go_sem]
    ·rw [HV.out]
     have h8:=HQ5.out.keep (Keeps.of (b_1 w6 (.cells #[.int .i64 (done.length:Int)] 3)) (Nat.le_refl _) _)
     have h9:=HQ5.out.fresh (iv_open w6 R done.length HQ5.out.lt) (fun b hb=>by
      simp [ptrB] at hb
      simp
      omega)
     rw [←HW.out] at h8 h9
     exact ⟨_,_,_,_,rfl,h8,h9⟩
    ·rw [HW.out]
     exact HB6.out.trans ((b_1 w6 _).mono (Nat.le_of_lt HQ5.out.lt))
   ·rw [decide_eq_false (show ¬ (pos<p.size∧hb p pos=(((40:UInt8).toNat:Nat):Int)) from h40)] at hq2 ⊢
    rw [if_neg (by simp)] at hq2
    have H2:=hide (And.intro (H1.out.1.keepR hk2 hq2) (And.intro (H1.out.2.1.trans hk2) (H1.out.2.2.keep hk2 (by have:=H1.out.2.1.size;omega) (by omega))))
    have HN40:=hide (show ¬ hb p pos=40 from fun x=>h40 ⟨hs,x⟩)
    clear hq2 hk2 h40 H1
    go_wp2_with fail
    refine (takes_q R p pos [41] vi vo _ w2 hps (by simp) H2.out.1.q).mono ?_
    rintro e w3 ⟨rfl,hq3,hk3⟩
    rw [st_one] at hq3
    rw [st_one]
    by_cases h41:pos<p.size∧hb p pos=41
    ·rw [decide_eq_true (show pos<p.size∧hb p pos=(((41:UInt8).toNat:Nat):Int) from h41)] at hq3 ⊢
     rw [if_pos rfl] at hq3
     have HV:=hide (show itemM p pos opn done=ecM (pos+1) opn done by unfold itemM;rw [if_neg HN40.out,if_pos h41.2])
     have H3:=hide (And.intro (H2.out.1.keepR hk3 hq3) (RI.below (H2.out.2.1.trans hk3) hRl))
     clear hq3 hk3 h41
     go_wp2_with fail
     refine (pend_any R p (pos+1) us opn done vi vo _ w3 (by omega) (by omega) HOp.out H3.out.1).mono ?_
     rintro e w8 ⟨ho,hb8⟩
     have hbo:=H3.out.2.trans hb8
     clear hb8
     have HO:=hide ho
     have HBo:=hide hbo
     clear ho hbo
     obtain ⟨v8,b8,rfl⟩:=itq_form HO.out
     go_wp2_with fail
     refine bodyPost_ret (v:=.tuple #[v8,.bool b8]) ?_ rfl ⟨?_,HBo.out⟩
     ·simp [results,Tryz.results28,go_sem]
     ·rw [HV.out]
      exact HO.out
    ·rw [decide_eq_false (show ¬ (pos<p.size∧hb p pos=(((41:UInt8).toNat:Nat):Int)) from h41)] at hq3 ⊢
     rw [if_neg (by simp)] at hq3
     have H3:=hide (And.intro (H2.out.1.keepR hk3 hq3) (And.intro (H2.out.2.1.trans hk3) (H2.out.2.2.keep hk3 (by have:=H2.out.2.1.size;omega) (by omega))))
     have HN41:=hide (show ¬ hb p pos=41 from fun x=>h41 ⟨hs,x⟩)
     clear hq3 hk3 h41 H2
     have c0:w3.cell? ⟨R,0,none⟩=some (.string (p.extract pos p.size)):=RowF.cell H3.out.1.q.2 (j:=0) (by omega)
     have hsz:(p.extract pos p.size).size=p.size-pos:=ext_size
     have hx0:hb (p.extract pos p.size) 0=hb p pos:=hb_ext
     have hx1:hb (p.extract pos p.size) 1=hb p (pos+1):=hb_ext
     generalize p.extract pos p.size=r3 at c0 hsz hx0 hx1
     have HNx:=hide (And.intro HN40.out HN41.out)
     clear HN40 HN41 HQ HL
     by_cases h2:pos+1<p.size
     ·have hi0:∀ w':World,(Instr.index 9 (.string r3) (.int .i64 0)).run Tryz.prog w'=.ok (.int .u8 (hb p pos)) w':=fun w'=>by
       have:=idx_str r3 (i:=0) w' (by omega) (by omega)
       rw [←hx0]
       simpa using this
      have hi1:∀ w':World,(Instr.index 9 (.string r3) (.int .i64 1)).run Tryz.prog w'=.ok (.int .u8 (hb p (pos+1))) w':=fun w'=>by
       have:=idx_str r3 (i:=1) w' (by omega) (by omega)
       rw [←hx1]
       simpa using this
      have hlen:(2:Int)≤(r3.size:Int):=by omega
      have HSz:=hide (And.intro hsz (And.intro hx0 hx1))
      have hr1:=hb_rng p (pos+1)
      clear hsz hx0 hx1
      by_cases h37:hb p pos=37
      ·go_wp2_with fail
       refine (isDigit_any (hb p (pos+1)) w3).mono ?_
       rintro e w4 ⟨rfl,hw4⟩
       obtain rfl:=hw4.symm
       cases hdg:isDg (hb p (pos+1)) with
       |true=>
        have HV:=hide (show itemM p pos opn done=(bkM p pos done).map (fun r=>(r.1,r.2,opn,done)) by unfold itemM;rw [if_neg HNx.out.1,if_neg HNx.out.2,if_pos ⟨h37,h2,hdg⟩])
        have HDg:=hide hdg
        clear hdg
        go_wp2_with fail
        refine (pheld_any R p pos us opn done vi vo _ w3 hps h2 HDg.out (by omega) H3.out.1).mono ?_
        rintro e w8 ⟨ho1,hk8⟩
        have ho:=ho1.toQ H3.out.1 hk8
        have hbo:=RI.below (H3.out.2.1.trans hk8) hRl
        clear ho1 hk8
        have HO:=hide ho
        have HBo:=hide hbo
        clear ho hbo
        obtain ⟨v8,b8,rfl⟩:=itq_form HO.out
        go_wp2_with fail
        refine bodyPost_ret (v:=.tuple #[v8,.bool b8]) ?_ rfl ⟨?_,HBo.out⟩
        ·simp [results,Tryz.results28,go_sem]
        ·rw [HV.out]
         exact HO.out
       |false=>
        have HDg:=hide hdg
        clear hdg
        go_wp2_with fail
        refine (takes_q R p pos [37,98] vi vo _ w3 hps (by simp) H3.out.1.q).mono ?_
        rintro e w4 ⟨rfl,hq4,hk4⟩
        rw [st_two] at hq4
        rw [st_two]
        by_cases h98:hb p (pos+1)=98
        ·rw [decide_eq_true (show pos+1<p.size∧hb p pos=(((37:UInt8).toNat:Nat):Int)∧hb p (pos+1)=(((98:UInt8).toNat:Nat):Int) from ⟨h2,h37,h98⟩)] at hq4 ⊢
         rw [if_pos rfl] at hq4
         have HV:=hide (show itemM p pos opn done=(blM p (pos+2)).map (fun r=>(r.1,r.2,opn,done)) by unfold itemM;rw [if_neg HNx.out.1,if_neg HNx.out.2,if_neg (fun x=>by rw [HDg.out] at x;cases x.2.2),if_pos ⟨h37,h2,h98⟩])
         have H4:=hide (And.intro (H3.out.1.keepR hk4 hq4) (H3.out.2.1.trans hk4))
         clear hq4 hk4 h98
         go_wp2_with fail
         refine (pbalanced_any R p (pos+2) vi vo _ w4 hps H4.out.1.q).mono ?_
         rintro e w8 ⟨ho1,hk8⟩
         have ho:=ho1.toQ H4.out.1 hk8
         have hbo:=RI.below (H4.out.2.trans hk8) hRl
         clear ho1 hk8
         have HO:=hide ho
         have HBo:=hide hbo
         clear ho hbo
         obtain ⟨v8,b8,rfl⟩:=itq_form HO.out
         go_wp2_with fail
         refine bodyPost_ret (v:=.tuple #[v8,.bool b8]) ?_ rfl ⟨?_,HBo.out⟩
         ·simp [results,Tryz.results28,go_sem]
         ·rw [HV.out]
          exact HO.out
        ·rw [decide_eq_false (show ¬ (pos+1<p.size∧hb p pos=(((37:UInt8).toNat:Nat):Int)∧hb p (pos+1)=(((98:UInt8).toNat:Nat):Int)) from fun x=>h98 x.2.2)] at hq4 ⊢
         rw [if_neg (by simp)] at hq4
         have H4:=hide (And.intro (H3.out.1.keepR hk4 hq4) (And.intro (H3.out.2.1.trans hk4) (H3.out.2.2.keep hk4 (by have:=H3.out.2.1.size;omega) (by omega))))
         have HN98:=hide h98
         clear hq4 hk4 h98
         go_wp2_with fail
         refine (takes_q R p pos [37,102] vi vo _ w4 hps (by simp) H4.out.1.q).mono ?_
         rintro e w5 ⟨rfl,hq5,hk5⟩
         rw [st_two] at hq5
         rw [st_two]
         by_cases h102:hb p (pos+1)=102
         ·rw [decide_eq_true (show pos+1<p.size∧hb p pos=(((37:UInt8).toNat:Nat):Int)∧hb p (pos+1)=(((102:UInt8).toNat:Nat):Int) from ⟨h2,h37,h102⟩)] at hq5 ⊢
          rw [if_pos rfl] at hq5
          have HV:=hide (show itemM p pos opn done=(bdM p (pos+2)).map (fun r=>(r.1,r.2,opn,done)) by unfold itemM;rw [if_neg HNx.out.1,if_neg HNx.out.2,if_neg (fun x=>by rw [HDg.out] at x;cases x.2.2),if_neg (fun x=>HN98.out x.2.2),if_pos ⟨h37,h2,h102⟩])
          have H5:=hide (And.intro (H4.out.1.keepR hk5 hq5) (And.intro (H4.out.2.1.trans hk5) (H4.out.2.2.keep hk5 (by have:=H4.out.2.1.size;omega) (by omega))))
          clear hq5 hk5 h102
          go_wp2_with fail
          refine (pborder_any R p (pos+2) vi vo _ w5 hps H5.out.2.2 hR H5.out.1.q).mono ?_
          rintro e w8 ⟨ho1,hk8⟩
          have ho:=ho1.toQ H5.out.1 hk8
          have hbo:=RI.below (H5.out.2.1.trans hk8) hRl
          clear ho1 hk8
          have HO:=hide ho
          have HBo:=hide hbo
          clear ho hbo
          obtain ⟨v8,b8,rfl⟩:=itq_form HO.out
          go_wp2_with fail
          refine bodyPost_ret (v:=.tuple #[v8,.bool b8]) ?_ rfl ⟨?_,HBo.out⟩
          ·simp [results,Tryz.results28,go_sem]
          ·rw [HV.out]
           exact HO.out
         ·rw [decide_eq_false (show ¬ (pos+1<p.size∧hb p pos=(((37:UInt8).toNat:Nat):Int)∧hb p (pos+1)=(((102:UInt8).toNat:Nat):Int)) from fun x=>h102 x.2.2)] at hq5 ⊢
          rw [if_neg (by simp)] at hq5
          have HV:=hide (show itemM p pos opn done=(sgM p pos).map (fun r=>(r.1,r.2,opn,done)) by unfold itemM;rw [if_neg HNx.out.1,if_neg HNx.out.2,if_neg (fun x=>by rw [HDg.out] at x;cases x.2.2),if_neg (fun x=>HN98.out x.2.2),if_neg (fun x=>h102 x.2.2),if_neg (fun x=>H36.out ⟨by omega,x.1⟩)])
          have H5:=hide (And.intro (H4.out.1.keepR hk5 hq5) (And.intro (H4.out.2.1.trans hk5) (H4.out.2.2.keep hk5 (by have:=H4.out.2.1.size;omega) (by omega))))
          clear hq5 hk5 h102
          go_wp2_with fail
          refine (signed_any R p pos vi vo _ w5 hps H5.out.2.2 hR hs H5.out.1.q).mono ?_
          rintro e w8 ⟨ho1,hk8⟩
          have ho:=ho1.toQ H5.out.1 hk8
          have hbo:=RI.below (H5.out.2.1.trans hk8) hRl
          clear ho1 hk8
          have HO:=hide ho
          have HBo:=hide hbo
          clear ho hbo
          obtain ⟨v8,b8,rfl⟩:=itq_form HO.out
          go_wp2_with fail
          refine bodyPost_ret (v:=.tuple #[v8,.bool b8]) ?_ rfl ⟨?_,HBo.out⟩
          ·simp [results,Tryz.results28,go_sem]
          ·rw [HV.out]
           exact HO.out
      ·go_wp2_with fail
       refine (takes_q R p pos [37,98] vi vo _ w3 hps (by simp) H3.out.1.q).mono ?_
       rintro e w4 ⟨rfl,hq4,hk4⟩
       rw [st_two] at hq4
       rw [st_two]
       rw [decide_eq_false (show ¬ (pos+1<p.size∧hb p pos=(((37:UInt8).toNat:Nat):Int)∧hb p (pos+1)=(((98:UInt8).toNat:Nat):Int)) from fun x=>h37 x.2.1)] at hq4 ⊢
       rw [if_neg (by simp)] at hq4
       have H4:=hide (And.intro (H3.out.1.keepR hk4 hq4) (And.intro (H3.out.2.1.trans hk4) (H3.out.2.2.keep hk4 (by have:=H3.out.2.1.size;omega) (by omega))))
       clear hq4 hk4
       go_wp2_with fail
       refine (takes_q R p pos [37,102] vi vo _ w4 hps (by simp) H4.out.1.q).mono ?_
       rintro e w5 ⟨rfl,hq5,hk5⟩
       rw [st_two] at hq5
       rw [st_two]
       rw [decide_eq_false (show ¬ (pos+1<p.size∧hb p pos=(((37:UInt8).toNat:Nat):Int)∧hb p (pos+1)=(((102:UInt8).toNat:Nat):Int)) from fun x=>h37 x.2.1)] at hq5 ⊢
       rw [if_neg (by simp)] at hq5
       have HV:=hide (show itemM p pos opn done=(sgM p pos).map (fun r=>(r.1,r.2,opn,done)) by unfold itemM;rw [if_neg HNx.out.1,if_neg HNx.out.2,if_neg (fun x=>h37 x.1),if_neg (fun x=>h37 x.1),if_neg (fun x=>h37 x.1),if_neg (fun x=>H36.out ⟨by omega,x.1⟩)])
       have H5:=hide (And.intro (H4.out.1.keepR hk5 hq5) (And.intro (H4.out.2.1.trans hk5) (H4.out.2.2.keep hk5 (by have:=H4.out.2.1.size;omega) (by omega))))
       clear hq5 hk5
       go_wp2_with fail
       refine (signed_any R p pos vi vo _ w5 hps H5.out.2.2 hR hs H5.out.1.q).mono ?_
       rintro e w8 ⟨ho1,hk8⟩
       have ho:=ho1.toQ H5.out.1 hk8
       have hbo:=RI.below (H5.out.2.1.trans hk8) hRl
       clear ho1 hk8
       have HO:=hide ho
       have HBo:=hide hbo
       clear ho hbo
       obtain ⟨v8,b8,rfl⟩:=itq_form HO.out
       go_wp2_with fail
       refine bodyPost_ret (v:=.tuple #[v8,.bool b8]) ?_ rfl ⟨?_,HBo.out⟩
       ·simp [results,Tryz.results28,go_sem]
       ·rw [HV.out]
        exact HO.out
     ·have hlen:¬ (2:Int)≤(r3.size:Int):=by omega
      clear hsz hx0 hx1
      go_wp2_with fail
      refine (takes_q R p pos [37,98] vi vo _ w3 hps (by simp) H3.out.1.q).mono ?_
      rintro e w4 ⟨rfl,hq4,hk4⟩
      rw [st_two] at hq4
      rw [st_two]
      rw [decide_eq_false (show ¬ (pos+1<p.size∧hb p pos=(((37:UInt8).toNat:Nat):Int)∧hb p (pos+1)=(((98:UInt8).toNat:Nat):Int)) from fun x=>h2 x.1)] at hq4 ⊢
      rw [if_neg (by simp)] at hq4
      have H4:=hide (And.intro (H3.out.1.keepR hk4 hq4) (And.intro (H3.out.2.1.trans hk4) (H3.out.2.2.keep hk4 (by have:=H3.out.2.1.size;omega) (by omega))))
      clear hq4 hk4
      go_wp2_with fail
      refine (takes_q R p pos [37,102] vi vo _ w4 hps (by simp) H4.out.1.q).mono ?_
      rintro e w5 ⟨rfl,hq5,hk5⟩
      rw [st_two] at hq5
      rw [st_two]
      rw [decide_eq_false (show ¬ (pos+1<p.size∧hb p pos=(((37:UInt8).toNat:Nat):Int)∧hb p (pos+1)=(((102:UInt8).toNat:Nat):Int)) from fun x=>h2 x.1)] at hq5 ⊢
      rw [if_neg (by simp)] at hq5
      have HV:=hide (show itemM p pos opn done=(sgM p pos).map (fun r=>(r.1,r.2,opn,done)) by unfold itemM;rw [if_neg HNx.out.1,if_neg HNx.out.2,if_neg (fun x=>h2 x.2.1),if_neg (fun x=>h2 x.2.1),if_neg (fun x=>h2 x.2.1),if_neg (fun x=>H36.out ⟨by omega,x.1⟩)])
      have H5:=hide (And.intro (H4.out.1.keepR hk5 hq5) (And.intro (H4.out.2.1.trans hk5) (H4.out.2.2.keep hk5 (by have:=H4.out.2.1.size;omega) (by omega))))
      clear hq5 hk5
      go_wp2_with fail
      refine (signed_any R p pos vi vo _ w5 hps H5.out.2.2 hR hs H5.out.1.q).mono ?_
      rintro e w8 ⟨ho1,hk8⟩
      have ho:=ho1.toQ H5.out.1 hk8
      have hbo:=RI.below (H5.out.2.1.trans hk8) hRl
      clear ho1 hk8
      have HO:=hide ho
      have HBo:=hide hbo
      clear ho hbo
      obtain ⟨v8,b8,rfl⟩:=itq_form HO.out
      go_wp2_with fail
      refine bodyPost_ret (v:=.tuple #[v8,.bool b8]) ?_ rfl ⟨?_,HBo.out⟩
      ·simp [results,Tryz.results28,go_sem]
      ·rw [HV.out]
       exact HO.out
end Go.Proofs.YtlgodacccilabaaGreatDoor
namespace Go.Proofs.YtlgodacccilabaaGreatDoor
open Go Go.RowKit Go.Shelf
set_option linter.unusedVariables false
theorem setL_rng {p:ByteArray}:∀ {k:Nat} {f:Nat→Bool} {at_:Nat} {b:Bool} {g:Nat→Bool} {q:Nat},setL p k f at_ b=some (g,q)→at_<q∧q≤p.size
 |0,_,_,_,_,_,h=>by cases h
 |k+1,f,at_,b,g,q,h=>by
  rw [setL] at h
  split at h
  ·cases h
  rename_i h1
  split at h
  ·cases h;omega
  split at h
  ·split at h
   ·have:=setL_rng h;omega
   ·cases h
  split at h
  ·have:=setL_rng h;omega
  ·have:=setL_rng h;omega
theorem stM_rng {p:ByteArray} {pos q:Nat} {g:Nat→Bool} (h:stM p pos=some (g,q)):pos<q:=by
 unfold stM at h
 split at h
 ·cases hs:setL p (p.size+1) (fun _=>false) (pos+1) true with
  |none=>rw [hs] at h;cases h
  |some r=>
   obtain ⟨g',q'⟩:=r
   rw [hs] at h
   cases h
   have:=setL_rng hs
   omega
 ·exact (setL_rng h).1
theorem rdOne_rng {p:ByteArray} {pos q:Nat} {g:Nat→Bool} (h:rdOne p pos=some (g,q)):pos<q:=by
 unfold rdOne at h
 split at h
 ·have:=stM_rng (pos:=pos+1) h;omega
 split at h
 ·cases h;omega
 split at h
 ·split at h
  ·cases h;omega
  ·cases h
 ·cases h;omega
theorem itemM_rng {p:ByteArray} {pos q:Nat} {opn opn':List Nat} {done done':List Bool} {it:It} (h:itemM p pos opn done=some (it,q,opn',done')):pos<q∧opn'.length≤opn.length+1∧done'.length≤done.length+1:=by
 unfold itemM at h
 split at h
 ·split at h
  ·cases h;simp
  ·cases h;simp
 split at h
 ·unfold ecM at h
  split at h
  ·cases h
  ·cases h;simp;omega
 split at h
 ·unfold bkM at h
  split at h
  ·cases h
  ·cases h;simp
 split at h
 ·unfold blM at h
  split at h
  ·cases h;simp;omega
  ·cases h
 split at h
 ·unfold bdM at h
  split at h
  ·cases hs:stM p (pos+2+1) with
   |none=>rw [hs] at h;cases h
   |some r=>
    obtain ⟨g',q'⟩:=r
    rw [hs] at h
    cases h
    have:=stM_rng hs
    simp
    omega
  ·cases h
 split at h
 ·cases h;simp
 ·unfold sgM at h
  cases hs:rdOne p pos with
  |none=>rw [hs] at h;cases h
  |some r=>
   obtain ⟨g',q'⟩:=r
   rw [hs] at h
   have:=rdOne_rng hs
   simp only [Option.map_some] at h
   split at h
   ·cases h;simp;omega
   ·cases h;simp;omega
theorem Tryz.infoF:(Tryz.prog.info? 97).map (fun i=>(i.zero,i.size,i.bytes))=some (some .nilFunc,1,8):=by kernel_rfl
theorem one_f1 (fi:Nat) (ci:Array Value):∀ v∈[Value.func (.func fi) #[] ci],v.oneCell'=true:=by
 intro v hv
 simp only [List.mem_cons,List.not_mem_nil,or_false] at hv
 subst hv
 rfl
structure RpI (w wr:World) (R:Nat) (p:ByteArray) (T:Option Rd) (rd:Rd) (us:List Iu) (vi vo vc:Value) (k:Nat):Prop where
 ri:RI wr R p rd.pos us rd.opn rd.done vi vo vc
 it:us.map Prod.fst=rd.items
 bl:Below R w wr
 lt:LtT wr
 j:RdJ rd
 l1:us.length≤rd.pos
 l2:rd.opn.length≤rd.pos
 l3:rd.done.length≤rd.pos
 fu:p.size-rd.pos≤k
 val:rdAll p k rd=T
def RpR (w w':World) (R:Nat) (p:ByteArray) (e:Ending):Option Rd→Prop
 |none=>e=.returned (.bool false)∧Below R w w'
 |some rd=>e=.returned (.bool (decide (rd.opn=[]∧rd.done.length≤16)))∧∃ us vi vo vc k,RpI w w' R p (some rd) rd us vi vo vc k
set_option maxHeartbeats 3200000 in
set_option maxRecDepth 100000 in
theorem readPattern_any (R:Nat) (p:ByteArray) (T:Option Rd) (rd0:Rd) (vi0 vo0 vc0:Value) (us0:List Iu) (k0:Nat) (w0 w:World) (hps:p.size≤200) (hR:1<R) (h:RpI w0 w R p T rd0 us0 vi0 vo0 vc0 k0):
 Calls Tryz.prog 19 #[.pointer (some ⟨R,0,none⟩)] w fun e w'=>RpR w0 w' R p e T:=by
 have HI:=hide h
 clear h
 go_enter Tryz.func19,Tryz.ntmps19
 go_wp2_with fail
 go_loopw [] (fun wr=>∃ rd us vi vo vc k,Hid (RpI w0 wr R p T rd us vi vo vc k)) (fun wr=>restSize wr R)
 case atStart=>exact ⟨_,_,_,_,_,_,HI⟩
 case round=>
  clear HI
  obtain ⟨rd,us,vi,vo,vc,k,HI⟩:=hrel
  have c:wr.cell? ⟨R,0,none⟩=some (.string (p.extract rd.pos p.size)):=RowF.cell HI.out.ri.q.2 (j:=0) (by omega)
  by_cases hlt:rd.pos<p.size
  ·have hne:=ext_ne hlt
   generalize p.extract rd.pos p.size=rs at c hne
   go_wp2_with fail
   refine (pitem_any R p rd.pos us rd.opn rd.done vi vo vc wr (by omega) hlt HI.out.lt hR (by have:=HI.out.l2;omega) (by have:=HI.out.l3;omega) (fun n hn=>?_) HI.out.ri).mono ?_
   ·obtain ⟨j,hj1,hj2,hj3⟩:=HI.out.j.opn n hn
    rw [←hj3]
    exact HI.out.j.lt j hj1 (by omega) (by omega)
   rintro e w1 ⟨ho,hb1⟩
   clear c hne
   obtain ⟨k,rfl⟩:∃ k',k=k'+1:=⟨k-1,by have:=HI.out.fu;omega⟩
   have hT:T=((itemM p rd.pos rd.opn rd.done).map (fun r=>(⟨r.2.1,rd.items++[r.1],r.2.2.1,r.2.2.2⟩:Rd))).bind (rdAll p k):=by
    rw [←rdItem_eq,←rdAll_on hlt]
    exact HI.out.val.symm
   cases hm:itemM p rd.pos rd.opn rd.done with
   |none=>
    rw [hm] at ho hT
    obtain ⟨v,rfl⟩:=ho
    have HT:=hide (show T=none from hT)
    have HB:=hide (HI.out.bl.trans hb1)
    clear hT hm hb1
    go_wp2_with fail
    refine bodyPost_ret (results_tmp rfl _ _ _) rfl ?_
    rw [HT.out]
    exact ⟨rfl,HB.out⟩
   |some r=>
    obtain ⟨it,pos',opn',done'⟩:=r
    have hrn:=itemM_rng hm
    have hj':=rdItem_j HI.out.j (R':=⟨pos',rd.items++[it],opn',done'⟩) (by rw [rdItem_eq,hm];rfl)
    rw [hm] at ho hT
    obtain ⟨fi,ci,vo',vc',rfl,hr,hp⟩:=ho
    have c1:w1.cell? ⟨R,1,none⟩=some vi:=RowF.cell hr.q.2 (j:=1) (by omega)
    obtain ⟨ai,ki,rfl⟩:=owns_val hr.i
    have hlt1:=HI.out.lt.low hb1 hR
    have HX:=hide (And.intro hr (And.intro hp (And.intro (HI.out.bl.trans hb1) (And.intro hlt1 (And.intro (show rdAll p k ⟨pos',rd.items++[it],opn',done'⟩=T from hT.symm) (And.intro hrn hj'))))))
    clear hT hm hb1 hr hp hrn hj' hlt1
    go_wp2_with (first
     |(have _z:=HX
       at_builtin
       clear _z
       refine app_at rfl _ _ 73 97 1 8 _ rfl Tryz.underlying73 Tryz.infoF rfl (by omega) (R+1) (.slice ai us.length ki) us.length (fnC us) [.func (.func fi) #[] ci] HX.out.1.i rfl rfl rfl (one_f1 fi ci) (by have:=HI.out.l1;omega) (by omega) (by have:=HX.out.1.lt;omega) ?_
       intro v' w5 h1' h2 h3 h4
       obtain ⟨a9,k9,rfl⟩:=owns_val h1'
       have HQ5:=hide (HX.out.1.app_i (it,fi,ci) HX.out.2.1 h1' h2 h3 h4)
       have HB5:=hide (h2 R w0 HX.out.2.2.1 (by omega))
       have HL5:=hide (HX.out.2.2.2.1.low (h2 _ _ (Below.refl (R+1) w1) (Nat.le_refl _)) (by omega))
       have c9:w5.cell? ⟨R,1,none⟩=some (.slice ai us.length ki):=((h2 _ _ (Below.refl (R+1) w1) (Nat.le_refl _)).cell (p:=⟨R,1,none⟩) (Nat.lt_succ_self _)).trans (RowF.cell HX.out.1.q.2 (j:=1) (by omega))
       have z9:w5.frozen? ⟨R,1,none⟩=false:=(RowF.low HX.out.1.q.2 (h2 _ _ (Below.refl (R+1) w1) (Nat.le_refl _)) (Nat.lt_succ_self _)).frz 1
       clear h1' h2 h3 h4)
     |fail)
    have HE:=hide (show RpI w0 (w5.setCell ⟨R,1,none⟩ (.slice a9 (us.length+1) k9)) R p T ⟨pos',rd.items++[it],opn',done'⟩ (us++[(it,fi,ci)]) (.slice a9 (us.length+1) k9) vo' vc' k from
     ⟨HQ5.out,by rw [List.map_append,HI.out.it];rfl,HB5.out.setCell (p:=⟨R,1,none⟩) (Nat.le_refl _) _,HL5.out.low ((Below.refl R w5).setCell (p:=⟨R,1,none⟩) (Nat.le_refl _) _) hR,HX.out.2.2.2.2.2.2,by simp;have:=HI.out.l1;have:=HX.out.2.2.2.2.2.1;omega,by have:=HI.out.l2;have:=HX.out.2.2.2.2.2.1;show opn'.length≤pos';omega,by have:=HI.out.l3;have:=HX.out.2.2.2.2.2.1;show done'.length≤pos';omega,by have:=HI.out.fu;have:=HX.out.2.2.2.2.2.1;show p.size-pos'≤k;omega,HX.out.2.2.2.2.1⟩)
    clear c1 c9 z9
    go_roundw
    case rel=>exact ⟨_,_,_,_,_,_,HE⟩
    case measure=>
     rw [restSize_pq HE.out.ri.q,restSize_pq HI.out.ri.q]
     have:=HX.out.2.2.2.2.2.1
     show p.size-pos'<p.size-rd.pos
     omega
  ·have hem:=ext_empty (p:=p) (pos:=rd.pos) (by omega)
   rw [hem] at c
   have hT:T=some rd:=HI.out.val.symm.trans (rdAll_end hlt)
   subst hT
   clear hem
   have c3:wr.cell? ⟨R,3,none⟩=some vc:=RowF.cell HI.out.ri.q.2 (j:=3) (by omega)
   have c2:wr.cell? ⟨R,2,none⟩=some vo:=RowF.cell HI.out.ri.q.2 (j:=2) (by omega)
   obtain ⟨ad,kd,rfl⟩:=owns_val HI.out.ri.d
   obtain ⟨ao,ko,rfl⟩:=owns_val HI.out.ri.n
   have HC2:=hide c2
   clear c2
   have hl3:rd.done.length≤200:=by have:=HI.out.l3;have:=HI.out.ri.q.1;omega
   go_wp2_with fail
   refine (isEmpty_any R 2 rd.opn.length ko ao wr (by have:=HI.out.l2;have:=HI.out.ri.q.1;omega) HC2.out).mono ?_
   rintro e w1 ⟨rfl,hw⟩
   obtain rfl:=hw.symm
   by_cases ho0:rd.opn=[]
   ·rw [show decide (rd.opn.length=0)=true by rw [ho0];rfl]
    have hV:decide (rd.opn=[]∧rd.done.length≤16)=decide ((rd.done.length:Int)≤16):=by
     rw [decide_eq_decide]
     constructor
     ·rintro ⟨_,y⟩;omega
     ·intro y;exact ⟨ho0,by omega⟩
    have HV:=hide hV
    clear hV
    clear ho0
    go_wp2_with fail
    refine bodyPost_ret (results_tmp rfl _ _ _) rfl ⟨?_,us,vi,_,_,k,HI.out⟩
    rw [HV.out]
    rfl
   ·rw [show decide (rd.opn.length=0)=false by simp [ho0]]
    have HV:=hide (show decide (rd.opn=[]∧rd.done.length≤16)=false by simp [ho0])
    clear ho0
    go_wp2_with fail
    refine bodyPost_ret (results_tmp rfl _ _ _) rfl ⟨?_,us,vi,_,_,k,HI.out⟩
    rw [HV.out]
    rfl
end Go.Proofs.YtlgodacccilabaaGreatDoor
