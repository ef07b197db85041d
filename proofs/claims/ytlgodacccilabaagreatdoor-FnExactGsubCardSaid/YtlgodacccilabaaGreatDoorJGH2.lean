import Derived.Test.YtlgodacccilabaaGreatDoorQY2
import Derived.Test.YtlgodacccilabaaGreatDoorJGD0
namespace Go.Proofs.YtlgodacccilabaaGreatDoor
open Go Go.RowKit Go.Shelf
set_option linter.unusedVariables false
def blM (p:ByteArray) (pos:Nat):Option (It × Nat):=if pos+1<p.size then some (itPair (hb p pos) (hb p (pos+1)),pos+2) else none
set_option maxHeartbeats 1600000 in
set_option maxRecDepth 100000 in
theorem pbalanced_any (R:Nat) (p:ByteArray) (pos:Nat) (vi vo vc:Value) (w:World) (hps:p.size≤1000) (h:PQ w R p pos vi vo vc):
 Calls Tryz.prog 54 #[.pointer (some ⟨R,0,none⟩)] w fun e w'=>ItO w w' R p vi vo vc e (blM p pos)∧Keeps w w' (fun b=>b=R):=by
 have hRl:R<w.heap.size:=RowF.lt h.2
 have c:w.cell? ⟨R,0,none⟩=some (.string (p.extract pos p.size)):=RowF.cell h.2 (j:=0) (by omega)
 have hsz:(p.extract pos p.size).size=p.size-pos:=ext_size
 generalize p.extract pos p.size=rs at c hsz
 have HS:=hide hsz
 have H:=hide h
 clear h hsz
 go_enter Tryz.func54,Tryz.ntmps54
 by_cases hs:pos+1<p.size
 ·have h1:¬ (rs.size:Int)<2:=by have:=HS.out;omega
  have HV:=hide (show blM p pos=some (itPair (hb p pos) (hb p (pos+1)),pos+2) from if_pos hs)
  go_wp2_with fail
  refine (takeByte_q R p pos vi vo vc w (by omega) hps H.out).mono ?_
  rintro e w1 ⟨rfl,hp1,hk1⟩
  have H1:=hide (And.intro hp1 hk1)
  clear hp1 hk1
  go_wp2_with fail
  refine (takeByte_q R p (pos+1) vi vo vc w1 (by omega) hps H1.out.1).mono ?_
  rintro e w2 ⟨rfl,hp2,hk2⟩
  have H2:=hide (And.intro hp2 (H1.out.2.trans hk2))
  clear hp2 hk2
  go_wp2_with fail
  refine (mk_balanced _ _ w2).mono ?_
  rintro e w3 ⟨rfl,hw⟩
  have HW:=hide hw
  clear hw
  go_wp2_with fail
  refine bodyPost_ret (v:=.tuple #[.func (.func 85) #[] #[.pointer (some ⟨w2.heap.size,0,none⟩),.pointer (some ⟨w2.heap.size+1,0,none⟩)],.bool true]) ?_ rfl ⟨?_,?_⟩
  ·simp [results,Tryz.results54,go_sem]
  ·rw [HV.out]
   refine ⟨_,_,rfl,by rw [HW.out];exact iv_pair w2 R _ _ (Nat.lt_of_lt_of_le hRl H2.out.2.size),fun b hb=>?_,?_⟩
   ·rw [HW.out]
    simp [ptrB] at hb
    have:=H2.out.2.size
    simp
    omega
   ·rw [HW.out]
    exact PQ.keep H2.out.1 (Keeps.of (b_2 w2 _ _) (Nat.le_refl _) (fun _=>False)) (fun x=>x)
  ·rw [HW.out]
   exact H2.out.2.trans (Keeps.of (b_2 w2 _ _) (Nat.le_refl _) _)
 ·have h1:(rs.size:Int)<2:=by have:=HS.out;omega
  go_wp2_with fail
  refine bodyPost_ret (v:=.tuple #[.nilFunc,.bool false]) ?_ rfl ⟨?_,Keeps.refl _ _⟩
  ·simp [results,Tryz.results54,go_sem]
  ·rw [show blM p pos=none from if_neg hs]
   exact ⟨_,rfl⟩
set_option maxHeartbeats 800000 in
theorem within_any (x a b:Int) (w:World):Calls Tryz.prog 34 #[.int .i64 x,.int .i64 a,.int .i64 b] w fun e w'=>e=.returned (.bool (decide (a≤x)&&decide (x≤b)))∧w'=w:=by
 go_enter Tryz.func34,Tryz.ntmps34
 by_cases h1:a≤x
 ·by_cases h2:x≤b
  ·go_wp2
   exact bodyPost_ret (results_tmp rfl _ _ _) rfl ⟨by simp [h1,h2],rfl⟩
  ·go_wp2
   exact bodyPost_ret (results_tmp rfl _ _ _) rfl ⟨by simp [h2],rfl⟩
 ·go_wp2
  exact bodyPost_ret (results_tmp rfl _ _ _) rfl ⟨by rw [decide_eq_false (by omega)];rfl,rfl⟩
end Go.Proofs.YtlgodacccilabaaGreatDoor
namespace Go.Proofs.YtlgodacccilabaaGreatDoor
open Go Go.RowKit Go.Shelf
set_option linter.unusedVariables false
def bkM (p:ByteArray) (pos:Nat) (done:List Bool):Option (It × Nat):=
 if hb p (pos+1)=48∨done.getD (hb p (pos+1)-49).toNat false=false then none else some (itBack (hb p (pos+1)-49).toNat,pos+2)
theorem own_cell {w:World} {B T g n:Nat} {v:Value} {xs:List Value} (h:w.ownsRow B T 1 v n xs) (hv:v.ownBlock=some g) {j:Nat} {u:Value} (hj:xs[j]?=some u):w.cell? ⟨g,j,none⟩=some u:=by
 have h2:=h
 obtain ⟨h1,⟨rfl,h3⟩|⟨g',cap,cur,rfl,hb,hg,hnc,hcm,hcs,htake⟩⟩:=h2
 ·simp [Value.ownBlock] at hv
 ·have e:g'=g:=by simpa [Value.ownBlock] using hv
  subst e
  have:=h.cells (g:=g') rfl j u hj
  rwa [add_none',Nat.zero_add] at this
theorem own_val {w:World} {B T n:Nat} {v:Value} {xs:List Value} (h:w.ownsRow B T 1 v n xs):(v=.slice none 0 0∧n=0)∨∃ g cap,v=.slice (some ⟨g,0,none⟩) n cap∧n≤cap:=by
 obtain ⟨h1,⟨rfl,h3⟩|⟨g',cap,cur,rfl,hb,hg,hnc,hcm,hcs,htake⟩⟩:=h
 ·exact .inl ⟨rfl,h3⟩
 ·exact .inr ⟨g',cap,rfl,hnc⟩
set_option maxHeartbeats 1600000 in
set_option maxRecDepth 100000 in
theorem pheld_any (R:Nat) (p:ByteArray) (pos:Nat) (us:List Iu) (opn:List Nat) (done:List Bool) (vi vo vc:Value) (w:World) (hps:p.size≤1000) (hs:pos+1<p.size) (hd:isDg (hb p (pos+1))=true) (hdl:done.length≤1000) (h:RI w R p pos us opn done vi vo vc):
 Calls Tryz.prog 53 #[.pointer (some ⟨R,0,none⟩)] w fun e w'=>ItO w w' R p vi vo vc e (bkM p pos done)∧Keeps w w' (fun b=>b=R):=by
 have hRl:R<w.heap.size:=RowF.lt h.q.2
 have c:w.cell? ⟨R,0,none⟩=some (.string (p.extract pos p.size)):=RowF.cell h.q.2 (j:=0) (by omega)
 have z:w.frozen? ⟨R,0,none⟩=false:=RowF.frz h.q.2 0
 have hsz:(p.extract pos p.size).size=p.size-pos:=ext_size
 have hx1:hb (p.extract pos p.size) 1=hb p (pos+1):=hb_ext
 have hee:=ext_ext (p:=p) (pos:=pos) (k:=2) (by omega)
 obtain ⟨x,hx⟩:∃ x,hb p (pos+1)=x:=⟨_,rfl⟩
 rw [hx] at hd hx1
 have hxr:48≤x∧x≤57:=by simp [isDg] at hd;omega
 have hq1:PQ (w.setCell ⟨R,0,none⟩ (.string (p.extract (pos+2) p.size))) R p (pos+2) vi vo vc:=⟨by omega,h.q.2.setR _⟩
 have hk1:Keeps w (w.setCell ⟨R,0,none⟩ (.string (p.extract (pos+2) p.size))) (fun b=>b=R):=(Keeps.refl w (fun b=>b=R)).setCell (g:=R) (j:=0) rfl _
 generalize p.extract pos p.size=rs at c hsz hx1 hee
 have hi1:∀ w':World,(Instr.index 9 (.string rs) (.int .i64 1)).run Tryz.prog w'=.ok (.int .u8 x) w':=fun w'=>by
  have:=idx_str rs (i:=1) w' (by omega) (by omega)
  rw [←hx1]
  simpa using this
 have hsl:∀ w':World,(Instr.slice 9 (.string rs) (some (.int .i64 2)) none none).run Tryz.prog w'=.ok (.string (p.extract (pos+2) p.size)) w':=fun w'=>by
  rw [run_slice_string_from_if w' 9 rs .i64 2 Tryz.underlying9,←hee]
  rw [if_pos (by omega)]
  rfl
 have hm:x-48-1=x-49:=by omega
 have H:=hide h
 have H1:=hide (And.intro (h.keepR hk1 hq1) hk1)
 have HX:=hide hx
 clear h hq1 hk1 hsz hx1 hee hd hx
 go_enter Tryz.func53,Tryz.ntmps53
 go_upto_region 3 with fail
 generalize w.setCell ⟨R,0,none⟩ (.string (p.extract (pos+2) p.size))=w1 at H1 ⊢
 clear c z hi1 hsl
 have c3:w1.cell? ⟨R,3,none⟩=some vc:=RowF.cell H1.out.1.q.2 (j:=3) (by omega)
 rcases own_val H1.out.1.d with ⟨rfl,hn0⟩|⟨g,cap,rfl,hnc⟩
 ·have hn:done.length=0:=hn0
  have HV:=hide (show bkM p pos done=none by
   unfold bkM
   rw [HX.out,if_pos]
   by_cases h48:x=48
   ·exact .inl h48
   ·right
    rw [List.getD_eq_getElem?_getD,List.getElem?_eq_none (by omega)]
    rfl)
  go_wp2_with fail
  refine (within_any (x-49) 0 (-1) w1).mono ?_
  rintro e w2 ⟨rfl,hw⟩
  obtain rfl:=hw.symm
  rw [show (decide (0≤x-49)&&decide (x-49≤(-1)))=false by rw [Bool.and_eq_false_iff];simp;omega]
  go_wp2_with fail
  refine bodyPost_ret (v:=.tuple #[.nilFunc,.bool false]) ?_ rfl ⟨?_,H1.out.2⟩
  ·simp [results,Tryz.results53,go_sem]
  ·rw [HV.out]
   exact ⟨_,rfl⟩
 ·by_cases hin:49≤x∧x-49<done.length
  ·obtain ⟨k,hk⟩:∃ k:Nat,x-49=k:=⟨(x-49).toNat,by omega⟩
   have hkl:k<done.length:=by omega
   have hck:w1.cell? ⟨g,k,none⟩=some (.bool done[k]):=own_cell H1.out.1.d rfl (by simp [boC,hkl])
   obtain ⟨b,hbe⟩:∃ b,done[k]=b:=⟨_,rfl⟩
   rw [hbe] at hck
   have HV:=hide (show bkM p pos done=if b=true then some (itBack k,pos+2) else none by
    unfold bkM
    rw [HX.out,hk,Int.toNat_natCast,List.getD_eq_getElem?_getD,List.getElem?_eq_getElem hkl,Option.getD_some,hbe]
    cases b with
    |false=>rw [if_pos (.inr rfl)];rfl
    |true=>rw [if_neg (by intro y;rcases y with y|y;· omega
                          ·cases y)];rfl)
   have hx49:x-49≤(done.length:Int)-1:=by omega
   have hx0:0≤x-49:=by omega
   have hkc:(k:Int)<(done.length:Int):=by omega
   clear hbe
   go_wp2_with fail
   refine (within_any (k:Int) 0 ((done.length:Int)-1) w1).mono ?_
   rintro e w2 ⟨rfl,hw⟩
   obtain rfl:=hw.symm
   rw [show (decide (0≤(k:Int))&&decide ((k:Int)≤(done.length:Int)-1))=true by rw [decide_eq_true (by omega),decide_eq_true (by omega)];rfl]
   cases b with
   |false=>
    go_wp2_with fail
    refine bodyPost_ret (v:=.tuple #[.nilFunc,.bool false]) ?_ rfl ⟨?_,H1.out.2⟩
    ·simp [results,Tryz.results53,go_sem]
    ·rw [HV.out,if_neg (by simp)]
     exact ⟨_,rfl⟩
   |true=>
    go_wp2_with fail
    refine (mk_heldAgain (k:Int) w1).mono ?_
    rintro e w9 ⟨rfl,hw9⟩
    have HW:=hide hw9
    clear hw9
    go_wp2_with fail
    refine bodyPost_ret (v:=.tuple #[.func (.func 83) #[] #[.pointer (some ⟨w1.heap.size,0,none⟩)],.bool true]) ?_ rfl ⟨?_,?_⟩
    ·simp [results,Tryz.results53,go_sem]
    ·rw [HV.out]
     refine ⟨_,_,rfl,by rw [HW.out];exact iv_back w1 R k (Nat.lt_of_lt_of_le hRl H1.out.2.size),fun b hb=>?_,?_⟩
     ·rw [HW.out]
      simp [ptrB] at hb
      have:=H1.out.2.size
      simp
      omega
     ·rw [HW.out]
      exact PQ.keep H1.out.1.q (Keeps.of (b_1 w1 _) (Nat.le_refl _) (fun _=>False)) (fun x=>x)
    ·rw [HW.out]
     exact H1.out.2.trans (Keeps.of (b_1 w1 _) (Nat.le_refl _) _)
  ·have HV:=hide (show bkM p pos done=none by
    unfold bkM
    rw [HX.out,if_pos]
    by_cases h48:x=48
    ·exact .inl h48
    ·right
     rw [List.getD_eq_getElem?_getD,List.getElem?_eq_none (by omega)]
     rfl)
   go_wp2_with fail
   refine (within_any (x-49) 0 ((done.length:Int)-1) w1).mono ?_
   rintro e w2 ⟨rfl,hw⟩
   obtain rfl:=hw.symm
   rw [show (decide (0≤x-49)&&decide (x-49≤((done.length:Int)-1)))=false by rw [Bool.and_eq_false_iff];simp;omega]
   go_wp2_with fail
   refine bodyPost_ret (v:=.tuple #[.nilFunc,.bool false]) ?_ rfl ⟨?_,H1.out.2⟩
   ·simp [results,Tryz.results53,go_sem]
   ·rw [HV.out]
    exact ⟨_,rfl⟩
end Go.Proofs.YtlgodacccilabaaGreatDoor
namespace Go.Proofs.YtlgodacccilabaaGreatDoor
open Go Go.RowKit Go.Shelf
set_option linter.unusedVariables false
theorem RI.lt {w:World} {R:Nat} {p:ByteArray} {pos:Nat} {us:List Iu} {opn:List Nat} {done:List Bool} {vi vo vc:Value} (h:RI w R p pos us opn done vi vo vc):R<w.heap.size:=RowF.lt h.q.2
set_option maxHeartbeats 800000 in
set_option maxRecDepth 100000 in
theorem add_any (R:Nat) (p:ByteArray) (pos:Nat) (us:List Iu) (opn:List Nat) (done:List Bool) (vi vo vc:Value) (x:Nat) (w:World) (hn:opn.length≤1000) (h:RI w R p pos us opn done vi vo vc):
 Calls Tryz.prog 49 #[.pointer (some ⟨R,2,none⟩),.int .i64 (x:Int)] w fun e w'=>e=.returned (.tuple #[])∧Below R w w'∧∃ v',RI w' R p pos us (opn++[x]) done vi v' vc:=by
 have c2:w.cell? ⟨R,2,none⟩=some vo:=RowF.cell h.q.2 (j:=2) (by omega)
 have hRl:=h.lt
 obtain ⟨a0,k0,rfl⟩:=owns_val h.n
 have HQ:=hide h
 clear h
 go_enter Tryz.func49,Tryz.ntmps49
 go_wp2_with (first
  |(have _z:=HQ
    at_builtin
    clear _z
    refine app_at rfl _ _ 37 3 1 8 _ rfl Tryz.underlying37 Tryz.infoI3 rfl (by omega) (R+1) (.slice a0 opn.length k0) opn.length (opC opn) [.int .i64 (x:Int)] HQ.out.n rfl rfl rfl (one_n1 x) (by omega) (by omega) (by omega) ?_
    intro v' w5 h1' h2 h3 h4
    obtain ⟨a9,k9,rfl⟩:=owns_val h1'
    have HQ5:=hide (HQ.out.app_n x h1' h2 h3 h4)
    have HB5:=hide (h2 R w (Below.refl _ _) (by omega))
    have c9:w5.cell? ⟨R,2,none⟩=some (.slice a0 opn.length k0):=((h2 _ _ (Below.refl (R+1) w) (Nat.le_refl _)).cell (p:=⟨R,2,none⟩) (Nat.lt_succ_self _)).trans (RowF.cell HQ.out.q.2 (j:=2) (by omega))
    have z9:w5.frozen? ⟨R,2,none⟩=false:=(RowF.low HQ.out.q.2 (h2 _ _ (Below.refl (R+1) w) (Nat.le_refl _)) (Nat.lt_succ_self _)).frz 2
    clear h1' h2 h3 h4 HQ)
  |fail)
 refine bodyPost_end (v:=.tuple #[]) ?_ rfl ⟨rfl,HB5.out.setCell (p:=⟨R,2,none⟩) (Nat.le_refl _) _,_,HQ5.out⟩
 simp [results,Tryz.results49,go_sem]
def ItQ (w':World) (R:Nat) (p:ByteArray) (us:List Iu) (vi:Value) (e:Ending):Option (It × Nat × List Nat × List Bool)→Prop
 |none=>∃ v,e=.returned (.tuple #[v,.bool false])
 |some (it,pos,opn,done)=>∃ fi ci vo vc,e=.returned (.tuple #[.func (.func fi) #[] ci,.bool true])∧RI w' R p pos us opn done vi vo vc∧ItP w' R vi vo vc it fi ci
theorem ItO.toQ {w w':World} {R:Nat} {p:ByteArray} {pos0:Nat} {us:List Iu} {opn:List Nat} {done:List Bool} {vi vo vc:Value} {e:Ending} {o:Option (It × Nat)} (h:RI w R p pos0 us opn done vi vo vc) (ho:ItO w w' R p vi vo vc e o) (k:Keeps w w' (fun b=>b=R)):
 ItQ w' R p us vi e (o.map (fun r=>(r.1,r.2,opn,done))):=by
 cases o with
 |none=>exact ho
 |some r=>
  obtain ⟨it,pos⟩:=r
  obtain ⟨fi,ci,he,hv,hp,hq⟩:=ho
  exact ⟨fi,ci,vo,vc,he,h.keepR k hq,h.fresh hv hp⟩
def ecM (pos:Nat) (opn:List Nat) (done:List Bool):Option (It × Nat × List Nat × List Bool):=
 match opn.getLast? with
 |none=>none
 |some n=>some (itShut n,pos,opn.dropLast,done.set n true)
set_option maxHeartbeats 1600000 in
set_option maxRecDepth 100000 in
theorem pend_any (R:Nat) (p:ByteArray) (pos:Nat) (us:List Iu) (opn:List Nat) (done:List Bool) (vi vo vc:Value) (w:World) (hn:opn.length≤1000) (hdl:done.length≤1000) (hop:∀ n∈opn,n<done.length) (h:RI w R p pos us opn done vi vo vc):
 Calls Tryz.prog 51 #[.pointer (some ⟨R,0,none⟩)] w fun e w'=>ItQ w' R p us vi e (ecM pos opn done)∧Below R w w':=by
 have c2:w.cell? ⟨R,2,none⟩=some vo:=RowF.cell h.q.2 (j:=2) (by omega)
 have z2:w.frozen? ⟨R,2,none⟩=false:=RowF.frz h.q.2 2
 have hRl:=h.lt
 obtain ⟨a0,k0,rfl⟩:=owns_val h.n
 have HQ:=hide h
 have HC2:=hide (And.intro c2 z2)
 go_enter Tryz.func51,Tryz.ntmps51
 clear h
 go_wp2_with fail
 refine (isEmpty_any R 2 opn.length k0 a0 w hn HC2.out.1).mono ?_
 rintro e w1 ⟨rfl,hw⟩
 obtain rfl:=hw.symm
 by_cases hem:opn=[]
 ·subst hem
  rw [show decide (([]:List Nat).length=0)=true from rfl]
  go_wp2_with fail
  refine bodyPost_ret (v:=.tuple #[.nilFunc,.bool false]) ?_ rfl ⟨⟨_,rfl⟩,Below.refl _ _⟩
  simp [results,Tryz.results51,go_sem]
 ·have hl0:0<opn.length:=List.length_pos_iff.2 hem
  rw [show decide (opn.length=0)=false by simp [hem]]
  obtain ⟨n,hnl⟩:∃ n,opn.getLast?=some n:=⟨opn.getLast hem,List.getLast?_eq_some_getLast hem⟩
  have hnm:n∈opn:=List.mem_of_getLast? hnl
  have hnd:=hop n hnm
  rcases own_val HQ.out.n with ⟨e1,e2⟩|⟨g,cap,e1,hnc⟩
  ·omega
  cases e1
  have hx:w.cell? ⟨g,opn.length-1,none⟩=some (.int .i64 (n:Int)):=own_cell HQ.out.n rfl (by
   rw [opC,List.getElem?_map,←List.getLast?_eq_getElem?,hnl];rfl)
  have HX:=hide hx
  have H1:=hide (HQ.out.cut hem)
  have HB1:=hide ((Below.refl R w).setCell (p:=⟨R,2,none⟩) (Nat.le_refl _) (.slice (some ⟨g,0,none⟩) (opn.length-1) k0))
  clear hx c2 z2
  go_wp2_with fail
  refine (takeLast_any R 2 opn.length k0 g (n:Int) w hl0 hn hnc HC2.out.1 HC2.out.2 HX.out).mono ?_
  rintro e w2 ⟨rfl,hw2⟩
  rw [←hw2] at H1 HB1
  clear hw2
  have c3:w2.cell? ⟨R,3,none⟩=some vc:=RowF.cell H1.out.q.2 (j:=3) (by omega)
  rcases own_val H1.out.d with ⟨e1,e2⟩|⟨gd,capd,rfl,hncd⟩
  ·omega
  have hcd:w2.cell? ⟨gd,n,none⟩=some (.bool done[n]):=own_cell H1.out.d rfl (by simp [boC,hnd])
  obtain ⟨fd,hfd⟩:=owns_rowF H1.out.d (g:=gd) rfl
  have hzd:w2.frozen? ⟨gd,n,none⟩=false:=hfd.frz n
  have H2:=hide (H1.out.set_d (g:=gd) rfl hnd)
  have HB2:=hide (HB1.out.setCell (p:=⟨gd,n,none⟩) (by have:=(owns_blt H1.out.d (g:=gd) rfl).1;show R≤gd;omega) (.bool true))
  have HV:=hide (show ecM pos opn done=some (itShut n,pos,opn.dropLast,done.set n true) by unfold ecM;rw [hnl])
  have hndI:(n:Int)<(done.length:Int):=by omega
  clear hfd hnl hnm hop
  go_upto_region 5 with fail
  generalize w2.setCell ⟨gd,n,none⟩ (.bool true)=w3 at H2 HB2 ⊢
  clear c3 hcd hzd
  go_wp2_with fail
  refine (mk_endCapture (n:Int) w3).mono ?_
  rintro e w9 ⟨rfl,hw9⟩
  have HW:=hide hw9
  clear hw9
  go_wp2_with fail
  refine bodyPost_ret (v:=.tuple #[.func (.func 82) #[] #[.pointer (some ⟨w3.heap.size,0,none⟩)],.bool true]) ?_ rfl ⟨?_,?_⟩
  ·simp [results,Tryz.results51,go_sem]
  ·rw [HV.out]
   have h8:=H2.out.keep (Keeps.of (b_1 w3 (.cells #[.int .i64 (n:Int)] 3)) (Nat.le_refl _) _)
   have h9:=H2.out.fresh (iv_shut w3 R n H2.out.lt) (fun b hb=>by
    simp [ptrB] at hb
    simp
    omega)
   rw [←HW.out] at h8 h9
   exact ⟨_,_,_,_,rfl,h8,h9⟩
  ·rw [HW.out]
   exact HB2.out.trans ((b_1 w3 _).mono (Nat.le_of_lt H2.out.lt))
end Go.Proofs.YtlgodacccilabaaGreatDoor
namespace Go.Proofs.YtlgodacccilabaaGreatDoor
open Go Go.RowKit
set_option linter.unusedVariables false
def arT (v:Nat→Value):Array Value:=#[v 0,v 1,v 2,v 3,v 4,v 5,v 6,v 7,v 8,v 9]
theorem arT_size (v:Nat→Value):(arT v).size=10:=rfl
theorem ten_cases {i:Nat} (h:i<10):i=0∨i=1∨i=2∨i=3∨i=4∨i=5∨i=6∨i=7∨i=8∨i=9:=by omega
theorem arT_at (v:Nat→Value) {i:Nat} (h:i<10):(arT v)[i]?=some (v i):=by
 rcases ten_cases h with rfl|rfl|rfl|rfl|rfl|rfl|rfl|rfl|rfl|rfl<;>rfl
theorem ix_sl (v:Nat→Value) {i:Nat} (h:i<10) (w:World):(Instr.index 48 (.agg (arT v)) (.int .i64 (i:Int))).run Tryz.prog w=.ok (v i) w:=by
 rcases ten_cases h with rfl|rfl|rfl|rfl|rfl|rfl|rfl|rfl|rfl|rfl<;>kernel_rfl
theorem info_hd:(Tryz.prog.info? 109).map (·.size)=some 10:=by kernel_rfl
theorem arT_row {w:World} {g T:Nat} {v:Nat→Value} (h:w.heap[g]?=some (.cells (arT v) T)):RowF w T g 10 v:=⟨arT v,h,by rw [arT_size];exact Nat.le_refl _,fun j hj=>arT_at v hj⟩
def AhV (w:World) (v:Value) (l:List (Nat × Nat)):Prop:=
 ∃ a cap,v=.slice a l.length cap∧l.length≤cap∧(l=[]∨∃ g o N f,a=some ⟨g,o,none⟩∧RowF w 83 g N f∧∀ j x,l[j]?=some x→o+j*2+1<N∧f (o+j*2)=.int .i64 (x.1:Int)∧f (o+j*2+1)=.int .i64 (x.2:Int))
theorem AhV.nil (w:World):AhV w nilS []:=⟨none,0,rfl,Nat.le_refl _,.inl rfl⟩
set_option maxHeartbeats 1600000 in
set_option maxRecDepth 100000 in
theorem named_any (b:Int) (c:Nat) (hb:0≤b∧b<256) (w:World) (hc:c≤16):Calls Tryz.prog 21 #[.int .u8 b,.int .i64 (c:Int)] w fun e w'=>w'=w∧∃ n ok,e=.returned (.tuple #[.int .i64 n,.bool ok])∧
 ((ok=false∧nmd c b.toNat=none)∨(ok=true∧∃ m:Nat,n=m∧nmd c b.toNat=some m)):=by
 by_cases h1:b-48=1∧c=0
 ·have hx1:((b-48)==1)=true:=by rw [h1.1];rfl
  have hx2:((c:Int)==0)=true:=by rw [h1.2];rfl
  have HV:=hide (show nmd c b.toNat=some 0 by unfold nmd;rw [if_pos ⟨by omega,h1.2⟩])
  clear h1
  go_enter Tryz.func21,Tryz.ntmps21
  go_wp2_with fail
  refine bodyPost_ret (v:=.tuple #[.int .i64 0,.bool true]) ?_ rfl ⟨rfl,0,true,rfl,.inr ⟨rfl,0,rfl,HV.out⟩⟩
  simp [results,Tryz.results21,go_sem]
 ·have HV:=hide (show nmd c b.toNat=if 48≤b.toNat∧b.toNat-48≤min c 9 then some (b.toNat-48) else none by unfold nmd;rw [if_neg (by rintro ⟨e1,e2⟩;exact h1 ⟨by omega,e2⟩)])
  have hx:((b-48)==1)=false∨(((b-48)==1)=true∧((c:Int)==0)=false):=by
   by_cases e:b-48=1
   ·exact .inr ⟨by rw [e];rfl,by simp;intro e2;exact h1 ⟨e,e2⟩⟩
   ·exact .inl (by simp [e])
  have HX:=hide hx
  clear hx h1
  by_cases hc9:¬ ((9:Int)<(c:Int))
  ·have hfin:∀ okb,okb=(decide ((0:Int)≤b-48)&&decide (b-48≤((c:Int):Int)))→((okb=false∧nmd c b.toNat=none)∨(okb=true∧∃ m:Nat,b-48=m∧nmd c b.toNat=some m)):=fun okb hok=>by
    rw [HV.out]
    by_cases e:48≤b.toNat∧b.toNat-48≤min c 9
    ·right
     rw [if_pos e]
     refine ⟨?_,b.toNat-48,by omega,rfl⟩
     rw [hok];simp;omega
    ·left
     rw [if_neg e]
     refine ⟨?_,rfl⟩
     rw [hok];simp;omega
   obtain ⟨okb,hO⟩:∃ okb,(decide ((0:Int)≤b-48)&&decide (b-48≤((c:Int):Int)))=okb:=⟨_,rfl⟩
   have H9:=hide (hfin okb hO.symm)
   have HW:=hide (fun w'=>within_any (b-48) 0 ((c:Int):Int) w')
   rw [hO] at HW
   clear hfin hO HV
   go_enter Tryz.func21,Tryz.ntmps21
   rcases HX.out with hbz|⟨hbz,hcz⟩
   all_goals
    go_wp2_with fail
    all_goals
     refine (HW.out _).mono ?_
     rintro e w2 ⟨rfl,hw⟩
     obtain rfl:=hw.symm
     go_wp2_with fail
     refine bodyPost_ret (v:=.tuple #[.int .i64 (b-48),.bool okb]) ?_ rfl ⟨rfl,_,_,rfl,H9.out⟩
     simp [results,Tryz.results21,go_sem]
  ·have hc9:(9:Int)<(c:Int):=by omega
   have hfin:∀ okb,okb=(decide ((0:Int)≤b-48)&&decide (b-48≤(9:Int)))→((okb=false∧nmd c b.toNat=none)∨(okb=true∧∃ m:Nat,b-48=m∧nmd c b.toNat=some m)):=fun okb hok=>by
    rw [HV.out]
    by_cases e:48≤b.toNat∧b.toNat-48≤min c 9
    ·right
     rw [if_pos e]
     refine ⟨?_,b.toNat-48,by omega,rfl⟩
     rw [hok];simp;omega
    ·left
     rw [if_neg e]
     refine ⟨?_,rfl⟩
     rw [hok];simp;omega
   obtain ⟨okb,hO⟩:∃ okb,(decide ((0:Int)≤b-48)&&decide (b-48≤(9:Int)))=okb:=⟨_,rfl⟩
   have H9:=hide (hfin okb hO.symm)
   have HW:=hide (fun w'=>within_any (b-48) 0 (9:Int) w')
   rw [hO] at HW
   clear hfin hO HV
   go_enter Tryz.func21,Tryz.ntmps21
   rcases HX.out with hbz|⟨hbz,hcz⟩
   all_goals
    go_wp2_with fail
    all_goals
     refine (HW.out _).mono ?_
     rintro e w2 ⟨rfl,hw⟩
     obtain rfl:=hw.symm
     go_wp2_with fail
     refine bodyPost_ret (v:=.tuple #[.int .i64 (b-48),.bool okb]) ?_ rfl ⟨rfl,_,_,rfl,H9.out⟩
     simp [results,Tryz.results21,go_sem]
end Go.Proofs.YtlgodacccilabaaGreatDoor
namespace Go.Proofs.YtlgodacccilabaaGreatDoor
open Go Go.RowKit
set_option linter.unusedVariables false
theorem AhV.stay {w w':World} {v:Value} {l:List (Nat × Nat)} (h:AhV w v l) (hb:∀ g N f,RowF w 83 g N f→RowF w' 83 g N f):AhV w' v l:=by
 obtain ⟨a,cap,h1,h2,h3|⟨g,o,N,f,h3,h4,h5⟩⟩:=h
 ·exact ⟨a,cap,h1,h2,.inl h3⟩
 ·exact ⟨a,cap,h1,h2,.inr ⟨g,o,N,f,h3,hb g N f h4,h5⟩⟩
theorem AhV.low {w w':World} {v:Value} {l:List (Nat × Nat)} (h:AhV w v l) (hb:Below w.heap.size w w'):AhV w' v l:=h.stay (fun g N f hr=>hr.low hb hr.lt)
theorem AhV.head {w:World} {v:Value} {x:Nat × Nat} {l:List (Nat × Nat)} (h:AhV w v (x::l)):∃ g o cap,v=.slice (some ⟨g,o,none⟩) (l.length+1) cap∧l.length+1≤cap∧w.cell? ⟨g,o,none⟩=some (.int .i64 (x.1:Int))∧w.cell? ⟨g,o+1,none⟩=some (.int .i64 (x.2:Int))∧
 (cap=1→AhV w (.slice (some ⟨g,o,none⟩) l.length 0) l)∧(cap≠1→AhV w (.slice (some ⟨g,o+2,none⟩) l.length (cap-1)) l):=by
 obtain ⟨a,cap,h1,h2,h3|⟨g,o,N,f,rfl,h4,h5⟩⟩:=h
 ·cases h3
 ·have h0:=h5 0 x rfl
  simp only [Nat.zero_mul,Nat.add_zero] at h0
  have h2':l.length+1≤cap:=h2
  refine ⟨g,o,cap,h1,h2,(h4.cell (by omega)).trans (by rw [h0.2.1]),(h4.cell (by omega)).trans (by rw [h0.2.2]),fun e=>?_,fun e=>?_⟩
  ·have hl:l=[]:=List.eq_nil_of_length_eq_zero (by omega)
   subst hl
   exact ⟨_,_,rfl,Nat.le_refl _,.inl rfl⟩
  ·refine ⟨_,_,rfl,by omega,.inr ⟨g,o+2,N,f,rfl,h4,fun j y hy=>?_⟩⟩
   have:=h5 (j+1) y (by simpa using hy)
   rw [show o+(j+1)*2=o+2+j*2 by omega] at this
   exact this
theorem NxR.next {A:Nat→List (Nat × Nat)} {k:Nat} {x:Int} (h:NxR A k x) (hk:A k=[]):NxR A (k+1) x:=by
 rcases h with ⟨h1,h2⟩|⟨m,h1,h2,h3,h4⟩
 ·exact .inl ⟨h1,fun n hn=>by rcases Nat.lt_or_ge n k with c|c;exact h2 n c;obtain rfl:n=k:=by omega
                              exact hk⟩
 ·exact .inr ⟨m,h1,by omega,h3,fun n hn=>by rcases Nat.lt_or_ge n k with c|c;exact h4 n c;obtain rfl:n=k:=by omega
                                            exact .inl hk⟩
theorem NxR.take {A:Nat→List (Nat × Nat)} {k:Nat} {x:Int} (h:NxR A k x) (hk:A k≠[]) (hx:x= -1∨∃ m:Nat,x=m∧A m≠[]∧((A k).headD (0,0)).1<((A m).headD (0,0)).1):NxR A (k+1) k:=by
 refine .inr ⟨k,rfl,by omega,hk,fun n hn=>?_⟩
 rcases Nat.lt_or_ge n k with c|c
 ·rcases h with ⟨h1,h2⟩|⟨m,h1,h2,h3,h4⟩
  ·exact .inl (h2 n c)
  ·rcases hx with e|⟨m',e,e1,e2⟩
   ·omega
   ·obtain rfl:m'=m:=by omega
    rcases h4 n c with d|d
    ·exact .inl d
    ·exact .inr (by omega)
 ·obtain rfl:n=k:=by omega
  exact .inr (Nat.le_refl _)
theorem NxR.pass {A:Nat→List (Nat × Nat)} {k m:Nat} (h:NxR A k (m:Int)) (hm:¬ ((A k).headD (0,0)).1<((A m).headD (0,0)).1):NxR A (k+1) m:=by
 rcases h with ⟨h1,h2⟩|⟨m',h1,h2,h3,h4⟩
 ·omega
 ·obtain rfl:m=m':=by omega
  refine .inr ⟨m,rfl,by omega,h3,fun n hn=>?_⟩
  rcases Nat.lt_or_ge n k with c|c
  ·exact h4 n c
  ·obtain rfl:n=k:=by omega
   exact .inr (by omega)
set_option maxHeartbeats 6400000 in
set_option maxRecDepth 100000 in
theorem nextSlot_any (sv:Nat→Value) (A:Nat→List (Nat × Nat)) (w:World) (hA:∀ i,i<10→AhV w (sv i) (A i)):
 Calls Tryz.prog 61 #[.agg (arT sv)] w fun e w'=>Below w.heap.size w w'∧∃ x,e=.returned (.int .i64 x)∧NxR A 10 x:=by
 have HR:=hide (show RowF (w.alloc (.cells #[sv 0,sv 1,sv 2,sv 3,sv 4,sv 5,sv 6,sv 7,sv 8,sv 9] 48)) 48 w.heap.size 10 sv from arT_row (heap_alloc_new w _))
 have hb0:=b_1 w (.cells #[sv 0,sv 1,sv 2,sv 3,sv 4,sv 5,sv 6,sv 7,sv 8,sv 9] 48)
 have HA:=hide (fun i hi=>(hA i hi).low hb0)
 have HB:=hide hb0
 have HIX:=hide (show ∀ (i:Nat),i<10→∀ w':World,(Instr.index 48 (.agg #[sv 0,sv 1,sv 2,sv 3,sv 4,sv 5,sv 6,sv 7,sv 8,sv 9]) (.int .i64 (i:Int))).run Tryz.prog w'=.ok (sv i) w' from fun i hi w'=>ix_sl sv hi w')
 have HC:=hide (show ∀ i,i<10→(w.alloc (.cells #[sv 0,sv 1,sv 2,sv 3,sv 4,sv 5,sv 6,sv 7,sv 8,sv 9] 48)).cell? ⟨w.heap.size,i,none⟩=some (sv i) from fun i hi=>RowF.cell HR.out hi)
 clear hA hb0
 dsimp only [arT]
 have c0:(w.alloc (.cells #[sv 0,sv 1,sv 2,sv 3,sv 4,sv 5,sv 6,sv 7,sv 8,sv 9] 48)).cell? ⟨w.heap.size,0,none⟩=some (sv 0):=RowF.cell HR.out (j:=0) (by omega)
 have c1:(w.alloc (.cells #[sv 0,sv 1,sv 2,sv 3,sv 4,sv 5,sv 6,sv 7,sv 8,sv 9] 48)).cell? ⟨w.heap.size,1,none⟩=some (sv 1):=RowF.cell HR.out (j:=1) (by omega)
 have c2:(w.alloc (.cells #[sv 0,sv 1,sv 2,sv 3,sv 4,sv 5,sv 6,sv 7,sv 8,sv 9] 48)).cell? ⟨w.heap.size,2,none⟩=some (sv 2):=RowF.cell HR.out (j:=2) (by omega)
 have c3:(w.alloc (.cells #[sv 0,sv 1,sv 2,sv 3,sv 4,sv 5,sv 6,sv 7,sv 8,sv 9] 48)).cell? ⟨w.heap.size,3,none⟩=some (sv 3):=RowF.cell HR.out (j:=3) (by omega)
 have c4:(w.alloc (.cells #[sv 0,sv 1,sv 2,sv 3,sv 4,sv 5,sv 6,sv 7,sv 8,sv 9] 48)).cell? ⟨w.heap.size,4,none⟩=some (sv 4):=RowF.cell HR.out (j:=4) (by omega)
 have c5:(w.alloc (.cells #[sv 0,sv 1,sv 2,sv 3,sv 4,sv 5,sv 6,sv 7,sv 8,sv 9] 48)).cell? ⟨w.heap.size,5,none⟩=some (sv 5):=RowF.cell HR.out (j:=5) (by omega)
 have c6:(w.alloc (.cells #[sv 0,sv 1,sv 2,sv 3,sv 4,sv 5,sv 6,sv 7,sv 8,sv 9] 48)).cell? ⟨w.heap.size,6,none⟩=some (sv 6):=RowF.cell HR.out (j:=6) (by omega)
 have c7:(w.alloc (.cells #[sv 0,sv 1,sv 2,sv 3,sv 4,sv 5,sv 6,sv 7,sv 8,sv 9] 48)).cell? ⟨w.heap.size,7,none⟩=some (sv 7):=RowF.cell HR.out (j:=7) (by omega)
 have c8:(w.alloc (.cells #[sv 0,sv 1,sv 2,sv 3,sv 4,sv 5,sv 6,sv 7,sv 8,sv 9] 48)).cell? ⟨w.heap.size,8,none⟩=some (sv 8):=RowF.cell HR.out (j:=8) (by omega)
 have c9:(w.alloc (.cells #[sv 0,sv 1,sv 2,sv 3,sv 4,sv 5,sv 6,sv 7,sv 8,sv 9] 48)).cell? ⟨w.heap.size,9,none⟩=some (sv 9):=RowF.cell HR.out (j:=9) (by omega)
 go_enter Tryz.func61,Tryz.ntmps61
 go_wp2_with fail
 clear c0 c1 c2 c3 c4 c5 c6 c7 c8 c9
 generalize w.alloc (.cells #[sv 0,sv 1,sv 2,sv 3,sv 4,sv 5,sv 6,sv 7,sv 8,sv 9] 48)=w0 at *
 go_loopw [3,7] (fun xv iv wr=>∃ (i:Nat) (x:Int),iv=.int .i64 i∧i≤10∧xv=.int .i64 x∧wr.heap=w0.heap∧Hid (Below w.heap.size w wr)∧Hid (NxR A i x)) (fun _ iv _=>11-ivN iv)
 case atStart=>exact ⟨0,-1,rfl,by omega,rfl,rfl,HB,hide (.inl ⟨rfl,fun n hn=>by omega⟩)⟩
 case round=>
  obtain ⟨i,x,rfl,hi9,rfl,hwr,HBr,HN⟩:=hrel
  have HWR:=hide hwr
  clear hwr
  by_cases hi:i<10
  ·have hi2:(i:Int)<10:=by omega
   have hix:=HIX.out i hi
   obtain ⟨l,hl⟩:∃ l,A i=l:=⟨_,rfl⟩
   have hav:=HA.out i hi
   rw [hl] at hav
   have HL:=hide hl
   clear hl
   generalize sv i=vi at hix hav
   cases l with
   |nil=>
    obtain ⟨a,cap,rfl,_⟩:=hav
    dsimp only [List.length_nil] at hix
    have HN2:=hide (HN.out.next HL.out)
    go_wp2_with fail
    go_quiet (fail)
    go_wp2_with fail
    go_roundw
    case rel=>exact ⟨i+1,x,by simp,by omega,rfl,HWR.out,hide (below_drw HBr.out _),HN2⟩
    case measure=>simp [ivN];omega
   |cons y l=>
    obtain ⟨g,o,cap,rfl,hcap,k0,k1,-⟩:=hav.head
    have hne:A i≠[]:=by rw [HL.out];simp
    have hyi:((A i).headD (0,0)).1=y.1:=by rw [HL.out];rfl
    have HNE:=hide (And.intro hne hyi)
    have e0:wr.cell? ⟨g,o,none⟩=some (.int .i64 (y.1:Int)):=(World.cell?_of_block (a:=⟨g,o,none⟩) (by rw [HWR.out])).trans k0
    have hpos:(0:Int)<(l.length:Int)+1:=by omega
    clear k0 k1 hne hyi
    rcases HN.out with ⟨rfl,hall⟩|⟨m,rfl,hm,hnm,hmin⟩
    ·have HN2:=hide (HN.out.take HNE.out.1 (.inl rfl))
     clear HN hall
     go_wp2_with fail
     go_quiet (fail)
     go_wp2_with fail
     go_roundw
     case rel=>exact ⟨i+1,(i:Int),by simp,by omega,rfl,HWR.out,hide (below_drw HBr.out _),HN2⟩
     case measure=>simp [ivN];omega
    ·have hm0:¬ ((m:Int)<0):=by omega
     obtain ⟨lm,hlm⟩:∃ lm,A m=lm:=⟨_,rfl⟩
     have havm:=HA.out m (by omega)
     have hcm:wr.cell? ⟨w.heap.size,m,none⟩=some (sv m):=(World.cell?_of_block (a:=⟨w.heap.size,m,none⟩) (by rw [HWR.out])).trans (HC.out m (by omega))
     have hm10:(m:Int)<10:=by omega
     rw [hlm] at havm hnm
     have HLM:=hide hlm
     clear hlm hmin
     generalize sv m=vm at havm hcm
     cases lm with
     |nil=>exact absurd rfl hnm
     |cons z lm=>
      obtain ⟨g',o',cap',rfl,hcap',k0,k1,-⟩:=havm.head
      have hzm:((A m).headD (0,0)).1=z.1:=by rw [HLM.out];rfl
      have e1:wr.cell? ⟨g',o',none⟩=some (.int .i64 (z.1:Int)):=(World.cell?_of_block (a:=⟨g',o',none⟩) (by rw [HWR.out])).trans k0
      have hnam:A m≠[]:=by rw [HLM.out];simp
      have HNM:=hide (And.intro hnam hzm)
      clear k0 k1 hzm hnam hnm
      by_cases hlt:y.1<z.1
      ·have hlt2:(y.1:Int)<(z.1:Int):=by omega
       have HN2:=hide (HN.out.take HNE.out.1 (.inr ⟨m,rfl,HNM.out.1,by rw [HNE.out.2,HNM.out.2];exact hlt⟩))
       clear HN
       go_wp2_with fail
       go_quiet (fail)
       go_wp2_with fail
       go_roundw
       case rel=>exact ⟨i+1,(i:Int),by simp,by omega,rfl,HWR.out,hide (below_drw HBr.out _),HN2⟩
       case measure=>simp [ivN];omega
      ·have hlt2:¬ ((y.1:Int)<(z.1:Int)):=by omega
       have HN2:=hide (HN.out.pass (by rw [HNE.out.2,HNM.out.2];exact hlt))
       clear HN
       go_wp2_with fail
       go_quiet (fail)
       go_wp2_with fail
       go_roundw
       case rel=>exact ⟨i+1,(m:Int),by simp,by omega,rfl,HWR.out,hide (below_drw HBr.out _),HN2⟩
       case measure=>simp [ivN];omega
  ·obtain rfl:i=10:=by omega
   go_wp2_with fail
   refine bodyPost_ret (v:=.int .i64 x) ?_ rfl ⟨HBr.out,x,rfl,HN.out⟩
   simp [results,Tryz.results61,go_sem]
end Go.Proofs.YtlgodacccilabaaGreatDoor
namespace Go.Proofs.YtlgodacccilabaaGreatDoor
open Go Go.RowKit
set_option linter.unusedVariables false
def lnC (p:Nat) (cnt sz:Nat→Nat):Nat→Nat
 |0=>p
 |k+1=>lnC p cnt sz k+cnt k*sz k
theorem lnC_lnU (h:Nat→List UInt8) (ps:List Pc):∀ k,lnC (pla ps).length (fun i=>(slF i ps 0 0).length) (fun i=>(h i).length) k=lnU h ps k
 |0=>rfl
 |k+1=>by rw [lnC,lnU,lnC_lnU h ps k]
theorem lnC_le {p:Nat} {cnt sz:Nat→Nat} (hp:p≤1048576) (hc:∀ i,i<10→cnt i≤1048576) (hz:∀ i,i<10→sz i≤65536):∀ k,k≤10→lnC p cnt sz k≤1048576+k*68719476736
 |0,_=>by simp [lnC];exact hp
 |k+1,hk=>by
  have h1:=lnC_le hp hc hz k (by omega)
  have h2:cnt k*sz k≤1048576*65536:=Nat.mul_le_mul (hc k (by omega)) (hz k (by omega))
  rw [lnC];omega
def hvV (H:Nat→ByteArray):Nat→Value:=fun i=>.string (H i)
set_option maxHeartbeats 6400000 in
set_option maxRecDepth 100000 in
theorem length_any (R:Nat) (P:ByteArray) (sv:Nat→Value) (cnt:Nat→Nat) (H:Nat→ByteArray) (w:World) (hP:P.size≤1048576) (hcn:∀ i,i<10→cnt i≤1048576) (hH:∀ i,i<10→(H i).size≤65536)
 (hc1:w.cell? ⟨R,1,none⟩=some (.string P)) (hS:∀ i,i<10→w.cell? ⟨R,i+2,none⟩=some (sv i)) (hsv:∀ i,i<10→∃ a cap,sv i=.slice a (cnt i) cap):
 Calls Tryz.prog 38 #[.pointer (some ⟨R,1,none⟩),.agg (arT (hvV H))] w fun e w'=>e=.returned (.int .i64 (lnC P.size cnt (fun i=>(H i).size) 10:Nat))∧Below w.heap.size w w':=by
 have hRl:R<w.heap.size:=block_lt_of_cell hc1
 have HR:=hide (show RowF (w.alloc (.cells #[.string (H 0),.string (H 1),.string (H 2),.string (H 3),.string (H 4),.string (H 5),.string (H 6),.string (H 7),.string (H 8),.string (H 9)] 109)) 109 w.heap.size 10 (hvV H) from arT_row (heap_alloc_new w _))
 have hb0:=b_1 w (.cells #[.string (H 0),.string (H 1),.string (H 2),.string (H 3),.string (H 4),.string (H 5),.string (H 6),.string (H 7),.string (H 8),.string (H 9)] 109)
 have HS:=hide (show ∀ i,i<10→(w.alloc (.cells #[.string (H 0),.string (H 1),.string (H 2),.string (H 3),.string (H 4),.string (H 5),.string (H 6),.string (H 7),.string (H 8),.string (H 9)] 109)).cell? ⟨R,i+2,none⟩=some (sv i) from fun i hi=>(hb0.cell (p:=⟨R,i+2,none⟩) hRl).trans (hS i hi))
 have b1:(w.alloc (.cells #[.string (H 0),.string (H 1),.string (H 2),.string (H 3),.string (H 4),.string (H 5),.string (H 6),.string (H 7),.string (H 8),.string (H 9)] 109)).cell? ⟨R,1,none⟩=some (.string P):=(hb0.cell (p:=⟨R,1,none⟩) hRl).trans hc1
 have HB:=hide hb0
 have HIX:=hide (show ∀ (i:Nat),i<10→∀ w':World,(Instr.index 48 (.agg #[sv 0,sv 1,sv 2,sv 3,sv 4,sv 5,sv 6,sv 7,sv 8,sv 9]) (.int .i64 (i:Int))).run Tryz.prog w'=.ok (sv i) w' from fun i hi w'=>ix_sl sv hi w')
 have HSV:=hide hsv
 have HLE:=hide (lnC_le hP hcn hH)
 have HCN:=hide (And.intro hcn hH)
 clear hS hb0 hc1 hsv hcn hH
 dsimp only [arT,hvV]
 have c0:(w.alloc (.cells #[.string (H 0),.string (H 1),.string (H 2),.string (H 3),.string (H 4),.string (H 5),.string (H 6),.string (H 7),.string (H 8),.string (H 9)] 109)).cell? ⟨R,2,none⟩=some (sv 0):=HS.out 0 (by omega)
 have c1:(w.alloc (.cells #[.string (H 0),.string (H 1),.string (H 2),.string (H 3),.string (H 4),.string (H 5),.string (H 6),.string (H 7),.string (H 8),.string (H 9)] 109)).cell? ⟨R,3,none⟩=some (sv 1):=HS.out 1 (by omega)
 have c2:(w.alloc (.cells #[.string (H 0),.string (H 1),.string (H 2),.string (H 3),.string (H 4),.string (H 5),.string (H 6),.string (H 7),.string (H 8),.string (H 9)] 109)).cell? ⟨R,4,none⟩=some (sv 2):=HS.out 2 (by omega)
 have c3:(w.alloc (.cells #[.string (H 0),.string (H 1),.string (H 2),.string (H 3),.string (H 4),.string (H 5),.string (H 6),.string (H 7),.string (H 8),.string (H 9)] 109)).cell? ⟨R,5,none⟩=some (sv 3):=HS.out 3 (by omega)
 have c4:(w.alloc (.cells #[.string (H 0),.string (H 1),.string (H 2),.string (H 3),.string (H 4),.string (H 5),.string (H 6),.string (H 7),.string (H 8),.string (H 9)] 109)).cell? ⟨R,6,none⟩=some (sv 4):=HS.out 4 (by omega)
 have c5:(w.alloc (.cells #[.string (H 0),.string (H 1),.string (H 2),.string (H 3),.string (H 4),.string (H 5),.string (H 6),.string (H 7),.string (H 8),.string (H 9)] 109)).cell? ⟨R,7,none⟩=some (sv 5):=HS.out 5 (by omega)
 have c6:(w.alloc (.cells #[.string (H 0),.string (H 1),.string (H 2),.string (H 3),.string (H 4),.string (H 5),.string (H 6),.string (H 7),.string (H 8),.string (H 9)] 109)).cell? ⟨R,8,none⟩=some (sv 6):=HS.out 6 (by omega)
 have c7:(w.alloc (.cells #[.string (H 0),.string (H 1),.string (H 2),.string (H 3),.string (H 4),.string (H 5),.string (H 6),.string (H 7),.string (H 8),.string (H 9)] 109)).cell? ⟨R,9,none⟩=some (sv 7):=HS.out 7 (by omega)
 have c8:(w.alloc (.cells #[.string (H 0),.string (H 1),.string (H 2),.string (H 3),.string (H 4),.string (H 5),.string (H 6),.string (H 7),.string (H 8),.string (H 9)] 109)).cell? ⟨R,10,none⟩=some (sv 8):=HS.out 8 (by omega)
 have c9:(w.alloc (.cells #[.string (H 0),.string (H 1),.string (H 2),.string (H 3),.string (H 4),.string (H 5),.string (H 6),.string (H 7),.string (H 8),.string (H 9)] 109)).cell? ⟨R,11,none⟩=some (sv 9):=HS.out 9 (by omega)
 go_enter Tryz.func38,Tryz.ntmps38
 go_wp2_with fail
 clear c0 c1 c2 c3 c4 c5 c6 c7 c8 c9 b1
 generalize w.alloc (.cells #[.string (H 0),.string (H 1),.string (H 2),.string (H 3),.string (H 4),.string (H 5),.string (H 6),.string (H 7),.string (H 8),.string (H 9)] 109)=w0 at *
 go_loopw [5,17] (fun nv iv wr=>∃ (i n:Nat),iv=.int .i64 i∧i≤10∧nv=.int .i64 n∧n≤1048576+i*68719476736∧wr=w0∧Hid (n=lnC P.size cnt (fun i=>(H i).size) i)) (fun _ iv _=>11-ivN iv)
 case atStart=>exact ⟨0,P.size,rfl,by omega,by simp,by omega,rfl,hide rfl⟩
 case round=>
  obtain ⟨i,n,rfl,hi9,rfl,hn9,rfl,HN⟩:=hrel
  by_cases hi:i<10
  ·have hi2:(i:Int)<10:=by omega
   have hix:=HIX.out i hi
   obtain ⟨a,cap,hsi⟩:=HSV.out i hi
   have hh:wr.cell? ⟨w.heap.size,i,none⟩=some (.string (H i)):=RowF.cell HR.out hi
   rw [hsi] at hix
   obtain ⟨p,hp⟩:∃ p,cnt i*(H i).size=p:=⟨_,rfl⟩
   have hmul:(cnt i:Int)*((H i).size:Int)=(p:Int):=by rw [←hp];simp
   have hpl:p≤68719476736:=by
    rw [←hp]
    exact Nat.mul_le_mul (HCN.out.1 i hi) (HCN.out.2 i hi)
   have HN2:=hide (show n+p=lnC P.size cnt (fun i=>(H i).size) (i+1) by rw [lnC,HN.out,←hp])
   clear hsi hp HN
   generalize cnt i=ci at *
   generalize H i=Hi at *
   go_wp2_with fail
   go_roundw
   case rel=>exact ⟨i+1,n+p,by simp,by omega,by simp,by omega,by trivial,HN2⟩
   case measure=>simp [ivN];omega
  ·obtain rfl:i=10:=by omega
   go_wp2_with fail
   refine bodyPost_ret (v:=.int .i64 n) ?_ rfl ⟨by rw [HN.out],HB.out⟩
   simp [results,Tryz.results38,go_sem]
end Go.Proofs.YtlgodacccilabaaGreatDoor
