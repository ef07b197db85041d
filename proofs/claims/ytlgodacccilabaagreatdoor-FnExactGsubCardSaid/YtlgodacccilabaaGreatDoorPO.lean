import Derived.Test.YtlgodacccilabaaGreatDoorJPN
namespace Go.Proofs.YtlgodacccilabaaGreatDoor
open Go Go.RowKit
set_option linter.unusedVariables false
theorem toList_eq {a b:ByteArray}:(a.toList==b.toList)=decide (a=b):=by
 by_cases h:a=b
 ·subst h;simp
 ·rw [decide_eq_false h,beq_eq_false_iff_ne]
  intro e
  rw [ByteArray.toList_eq,ByteArray.toList_eq] at e
  refine h ?_
  cases a
  cases b
  simpa using e
theorem Keeps.drw {w w':World} {S:Nat→Prop} (h:Keeps w w' S):Keeps w w'.drew S:=⟨h.os,h.tape,h.output,h.size,h.block⟩
theorem tryM_sp {s:ByteArray} {pl:Nat→Bool} {u:It} {rest:List It} {at_:Nat} {σ:Ms} (h:(σ.more 1).spent=true):tryM s pl (u::rest) at_ σ=(none,σ.more 1):=by rw [tryM];simp only;rw [if_pos h]
theorem tryM_0 {s:ByteArray} {pl:Nat→Bool} {u:It} {rest:List It} {at_:Nat} {σ:Ms} (h:(σ.more 1).spent=false) (hk:u.kind=0):tryM s pl (u::rest) at_ σ=oneM s u (tryM s pl rest) at_ (σ.more 1):=by rw [tryM];simp only;rw [if_neg (by rw [h];simp),if_pos hk]
theorem tryM_12y {s:ByteArray} {pl:Nat→Bool} {u:It} {rest:List It} {at_ e:Nat} {σ σ':Ms} (h:(σ.more 1).spent=false) (hk:u.kind=1∨u.kind=2) (hr:tryM s pl rest at_ { σ.more 1 with fr:=upd σ.fr u.n at_ }=(some e,σ')):tryM s pl (u::rest) at_ σ=(some e,σ'):=by
 rw [tryM];simp only;rw [if_neg (by rw [h];simp),if_neg (by omega),if_pos hk,hr]
theorem tryM_12n {s:ByteArray} {pl:Nat→Bool} {u:It} {rest:List It} {at_:Nat} {σ σ':Ms} (h:(σ.more 1).spent=false) (hk:u.kind=1∨u.kind=2) (hr:tryM s pl rest at_ { σ.more 1 with fr:=upd σ.fr u.n at_ }=(none,σ')):tryM s pl (u::rest) at_ σ=(none,{ σ' with fr:=upd σ'.fr u.n (σ.fr u.n) }):=by
 rw [tryM];simp only;rw [if_neg (by rw [h];simp),if_neg (by omega),if_pos hk,hr]
theorem tryM_3y {s:ByteArray} {pl:Nat→Bool} {u:It} {rest:List It} {at_ e:Nat} {σ σ':Ms} (h:(σ.more 1).spent=false) (hk:u.kind=3) (hr:tryM s pl rest at_ { σ.more 1 with tt:=upd σ.tt u.n at_ }=(some e,σ')):tryM s pl (u::rest) at_ σ=(some e,σ'):=by
 rw [tryM];simp only;rw [if_neg (by rw [h];simp),if_neg (by omega),if_neg (by omega),if_pos hk,hr]
theorem tryM_3n {s:ByteArray} {pl:Nat→Bool} {u:It} {rest:List It} {at_:Nat} {σ σ':Ms} (h:(σ.more 1).spent=false) (hk:u.kind=3) (hr:tryM s pl rest at_ { σ.more 1 with tt:=upd σ.tt u.n at_ }=(none,σ')):tryM s pl (u::rest) at_ σ=(none,{ σ' with tt:=upd σ'.tt u.n (σ.tt u.n) }):=by
 rw [tryM];simp only;rw [if_neg (by rw [h];simp),if_neg (by omega),if_neg (by omega),if_pos hk,hr]
theorem tryM_4p {s:ByteArray} {pl:Nat→Bool} {u:It} {rest:List It} {at_:Nat} {σ:Ms} (h:(σ.more 1).spent=false) (hk:u.kind=4) (hp:pl u.n=true):tryM s pl (u::rest) at_ σ=(none,σ.more 1):=by
 rw [tryM];simp only;rw [if_neg (by rw [h];simp),if_neg (by omega),if_neg (by omega),if_neg (by omega),if_pos hk,if_pos hp]
theorem tryM_4n {s:ByteArray} {pl:Nat→Bool} {u:It} {rest:List It} {at_:Nat} {σ:Ms} (h:(σ.more 1).spent=false) (hk:u.kind=4) (hp:pl u.n=false) (hn:s.size<at_+(σ.tt u.n-σ.fr u.n)∨s.extract at_ (at_+(σ.tt u.n-σ.fr u.n))≠s.extract (σ.fr u.n) (σ.tt u.n)):tryM s pl (u::rest) at_ σ=(none,σ.more 1):=by
 rw [tryM];simp only;rw [if_neg (by rw [h];simp),if_neg (by omega),if_neg (by omega),if_neg (by omega),if_pos hk,if_neg (by rw [hp];simp),if_pos hn]
theorem tryM_4y {s:ByteArray} {pl:Nat→Bool} {u:It} {rest:List It} {at_:Nat} {σ:Ms} (h:(σ.more 1).spent=false) (hk:u.kind=4) (hp:pl u.n=false) (hn:¬ (s.size<at_+(σ.tt u.n-σ.fr u.n)∨s.extract at_ (at_+(σ.tt u.n-σ.fr u.n))≠s.extract (σ.fr u.n) (σ.tt u.n))):tryM s pl (u::rest) at_ σ=tryM s pl rest (at_+(σ.tt u.n-σ.fr u.n)) (σ.more 1):=by
 rw [tryM];simp only;rw [if_neg (by rw [h];simp),if_neg (by omega),if_neg (by omega),if_neg (by omega),if_pos hk,if_neg (by rw [hp];simp),if_neg hn]
theorem tryM_5 {s:ByteArray} {pl:Nat→Bool} {u:It} {rest:List It} {at_:Nat} {σ:Ms} (h:(σ.more 1).spent=false) (hk:u.kind=5):tryM s pl (u::rest) at_ σ=pairR s u (tryM s pl rest) at_ (σ.more 1):=by
 rw [tryM];simp only;rw [if_neg (by rw [h];simp),if_neg (by omega),if_neg (by omega),if_neg (by omega),if_neg (by omega),if_pos hk,pairR]
theorem tryM_6n {s:ByteArray} {pl:Nat→Bool} {u:It} {rest:List It} {at_:Nat} {σ:Ms} (h:(σ.more 1).spent=false) (hk:u.kind=6) (hn:u.set (hbB s at_).toNat=true∨u.set (hb s at_).toNat=false):tryM s pl (u::rest) at_ σ=(none,σ.more 1):=by
 rw [tryM];simp only;rw [if_neg (by rw [h];simp),if_neg (by omega),if_neg (by omega),if_neg (by omega),if_neg (by omega),if_neg (by omega),if_pos hk,if_pos hn]
theorem tryM_6y {s:ByteArray} {pl:Nat→Bool} {u:It} {rest:List It} {at_:Nat} {σ:Ms} (h:(σ.more 1).spent=false) (hk:u.kind=6) (hn:¬ (u.set (hbB s at_).toNat=true∨u.set (hb s at_).toNat=false)):tryM s pl (u::rest) at_ σ=tryM s pl rest at_ (σ.more 1):=by
 rw [tryM];simp only;rw [if_neg (by rw [h];simp),if_neg (by omega),if_neg (by omega),if_neg (by omega),if_neg (by omega),if_neg (by omega),if_pos hk,if_neg hn]
theorem tryM_7n {s:ByteArray} {pl:Nat→Bool} {u:It} {rest:List It} {at_:Nat} {σ:Ms} (h:(σ.more 1).spent=false) (hk:6<u.kind) (hn:at_≠s.size):tryM s pl (u::rest) at_ σ=(none,σ.more 1):=by
 rw [tryM];simp only;rw [if_neg (by rw [h];simp),if_neg (by omega),if_neg (by omega),if_neg (by omega),if_neg (by omega),if_neg (by omega),if_neg (by omega),if_pos hn]
theorem tryM_7y {s:ByteArray} {pl:Nat→Bool} {u:It} {rest:List It} {at_:Nat} {σ:Ms} (h:(σ.more 1).spent=false) (hk:6<u.kind) (hn:at_=s.size):tryM s pl (u::rest) at_ σ=tryM s pl rest at_ (σ.more 1):=by
 rw [tryM];simp only;rw [if_neg (by rw [h];simp),if_neg (by omega),if_neg (by omega),if_neg (by omega),if_neg (by omega),if_neg (by omega),if_neg (by omega),if_neg (by simp [hn])]
structure ItsOk (t:Pt) (us:List (It × Value)):Prop where
 wf:WF t.caps (us.map Prod.fst)
 caps:t.caps≤16
 len:us.length≤200
 place:t.place=isPl (us.map Prod.fst)
theorem ItsOk.at {t:Pt} {us pre rest:List (It × Value)} {u:It × Value} (h:ItsOk t us) (e:us=pre++u::rest):wfAt t.caps (pre.map Prod.fst) u.1∧us[pre.length]?=some u∧pre.length<us.length∧u∈us:=by
 subst e
 have:=h.wf pre.length (by simp)
 simp at this
 exact ⟨this,by simp,by simp,by simp⟩
def CallT (M:Nat) (s:ByteArray) (t:Pt) (us:List (It × Value)) (vi vp vf vt:Value) (k:Nat) (pre:List It) (nx:Nx):Prop:=
 ∀ (at_:Nat) (ai ki:Int) (σ:Ms) (w:World),ai=at_→ki=k→MS w M s t us vi vp vf vt σ→at_≤s.size→σ.steps≤50000→Cap pre σ at_→
   Calls Tryz.prog 26 #[.pointer (some ⟨M,0,none⟩),.int .i64 ki,.int .i64 ai] w fun e w'=>TrR M s t us vi vp vf vt w (nx at_ σ) e w'
theorem CallT.nx {M:Nat} {s:ByteArray} {t:Pt} {us:List (It × Value)} {vi vp vf vt:Value} {k:Nat} {pre:List It} {nx:Nx} (h:CallT M s t us vi vp vf vt (k+1) pre nx):NxOk M s t us vi vp vf vt k pre nx:=
 fun at_ ai σ w h1 h2 h3 h4 h5=>h at_ ai _ σ w h1 (by omega) h2 h3 h4 h5
set_option maxHeartbeats 1600000 in
set_option maxRecDepth 100000 in
theorem try_nil (M:Nat) (s:ByteArray) (t:Pt) (us:List (It × Value)) (vi vp vf vt:Value) (pre:List It) (hl:us.length≤200):CallT M s t us vi vp vf vt us.length pre (tryM s t.place []):=by
 intro at_ ai ki σ w hai hki hm ha h5 hcap
 subst hai hki
 obtain ⟨a,cap,rfl⟩:=hm.i.form
 have c1:w.cell? ⟨M,1,none⟩=some (.slice a us.length cap):=RowF.cell hm.m (j:=1) (by omega)
 have HM:=hide hm
 clear hm hcap
 have hbb:((us.length:Int)==(us.length:Int))=true:=beq_iff_eq.2 rfl
 go_enter Tryz.func26,Tryz.ntmps26
 go_wp2_with fail
 refine bodyPost_ret (v:=.int .i64 (at_:Int)) ?_ rfl (TrR.mk (r:=(some at_,σ)) rfl rfl (Keeps.refl _ _) HM.out)
 simp [results,Tryz.results26,go_sem]
set_option maxHeartbeats 6400000 in
set_option maxRecDepth 100000 in
theorem try_cons (M:Nat) (s:ByteArray) (t:Pt) (us:List (It × Value)) (vi vp vf vt:Value) (pre rest:List (It × Value)) (u:It) (sv:Value) (e:us=pre++(u,sv)::rest) (hs:s.size≤65536) (ho:ItsOk t us)
 (ih:CallT M s t us vi vp vf vt (pre.length+1) (pre.map Prod.fst++[u]) (tryM s t.place (rest.map Prod.fst))):CallT M s t us vi vp vf vt pre.length (pre.map Prod.fst) (tryM s t.place (u::rest.map Prod.fst)):=by
 intro at_ ai ki σ w hai hki hm ha h5 hcap
 subst hai hki
 obtain ⟨hwf,hat,hlt,hmem⟩:=ho.at e
 have hl200:=ho.len
 have hc16:=ho.caps
 have hpl:=ho.place
 have hpreI:∀ j∈pre.map Prod.fst,j∈us.map Prod.fst:=fun j hj=>by rw [e];simp at hj ⊢;exact .inl hj
 have hlr:rest.length≤200:=by have:=hl200;rw [e] at this;simp at this;omega
 clear e
 have HPL:=hide hpl
 have HPI:=hide hpreI
 have HWF:=hide hwf
 have HMEM:=hide hmem
 clear hpl hpreI hwf hmem ho
 obtain ⟨a,capi,hvi,hcap1,⟨_,hz⟩|⟨gi,rfl,hri⟩⟩:=hm.i
 ·omega
 subst hvi
 generalize hk:pre.length=k at *
 clear hk
 have c1:w.cell? ⟨M,1,none⟩=some (.slice (some ⟨gi,0,none⟩) us.length capi):=RowF.cell hm.m (j:=1) (by omega)
 have c6:w.cell? ⟨M,6,none⟩=some (.int .i64 σ.steps):=RowF.cell hm.m (j:=6) (by omega)
 have z6:w.frozen? ⟨M,6,none⟩=false:=RowF.frz hm.m 6
 have HM:=hide (hm.step (σ.steps+1))
 have HK:=hide (MS.kstep (w:=w) (M:=M) (vf:=vf) (vt:=vt) (σ.steps+1))
 rw [show ((σ.steps+1:Nat):Int)=(σ.steps:Int)+1 by omega] at HM HK
 have hbb:((k:Int)==(us.length:Int))=false:=beq_eq_false_iff_ne.2 (by omega)
 have HC:=hide hcap
 have HI:=hide ih
 have HAT:=hide hat
 clear hm hcap ih hri hat
 go_enter Tryz.func26,Tryz.ntmps26
 go_wp2_with fail
 clear c1 c6 z6
 rw [show ({ σ with steps:=σ.steps+1 }:Ms)=σ.more 1 from rfl] at HM
 generalize w.setCell ⟨M,6,none⟩ (.int .i64 ((σ.steps:Int)+1))=w1 at *
 refine (MS.spentC HM.out).mono ?_
 rintro e w2 ⟨rfl,hw⟩
 obtain rfl:=hw.symm
 cases hsp:(σ.more 1).spent with
 |true=>
  have HR:=hide (tryM_sp (s:=s) (pl:=t.place) (u:=u) (rest:=rest.map Prod.fst) (at_:=at_) hsp)
  go_wp2_with fail
  refine bodyPost_ret (v:=.int .i64 (-1)) ?_ rfl (TrR.mk HR.out rfl HK.out HM.out)
  simp [results,Tryz.results26,go_sem]
 |false=>
  have h51:=spent_no hsp
  have c1:w1.cell? ⟨M,1,none⟩=some (.slice (some ⟨gi,0,none⟩) us.length capi):=RowF.cell HM.out.m (j:=1) (by omega)
  have hri:=HM.out.i.own (b:=gi) rfl
  have i0:=hri.cell (j:=k*6) (by omega)
  have i1:=hri.cell (j:=k*6+1) (by omega)
  have i2:=hri.cell (j:=k*6+2) (by omega)
  have i3:=hri.cell (j:=k*6+3) (by omega)
  have i4:=hri.cell (j:=k*6+4) (by omega)
  have i5:=hri.cell (j:=k*6+5) (by omega)
  rw [show itF us (k*6)=itF us (k*6+0) from rfl,itF_at HAT.out 0 (by omega)] at i0
  rw [itF_at HAT.out 1 (by omega)] at i1
  rw [itF_at HAT.out 2 (by omega)] at i2
  rw [itF_at HAT.out 3 (by omega)] at i3
  rw [itF_at HAT.out 4 (by omega)] at i4
  rw [itF_at HAT.out 5 (by omega)] at i5
  simp only [itC,List.getD_cons_zero,List.getD_cons_succ] at i0 i1 i2 i3 i4 i5
  clear hri
  have hsv:∃ a9 n9 c9,sv=.slice a9 n9 c9:=by
   rcases HM.out.s (u,sv) HMEM.out with ⟨h1,_⟩|⟨g,h1,_⟩
   ·exact ⟨_,_,_,h1⟩
   ·exact ⟨_,_,_,h1⟩
  obtain ⟨a9,n9,c9,hsv9⟩:=hsv
  rw [hsv9] at i1
  have HSV:=hide hsv9
  clear hsv9
  have kb:Keeps w1 (w1.alloc (.cells (boxC u (.slice a9 n9 c9)) 91)) (fun _=>False):=Keeps.of (b_1 w1 _) (Nat.le_refl _) _
  have HM4:=hide (HM.out.low kb)
  have HB:=hide (show BoxF (w1.alloc (.cells (boxC u (.slice a9 n9 c9)) 91)) w1.heap.size u (.slice a9 n9 c9) from RowF.mk' w1 91 (boxC u (.slice a9 n9 c9)))
  have HK4:=hide (HK.out.trans (kb.mono (S':=MW M vf vt) (fun b hb=>hb.elim)))
  clear HM HK kb
  have HM:=HM4
  have HK:=HK4
  clear HM4 HK4
  go_upto_region 7 with (fail)
  clear c1 i0 i1 i2 i3 i4 i5 hw
  generalize w1.alloc (.cells (boxC u (.slice a9 n9 c9)) 91)=w2 at *
  generalize w1.heap.size=X at *
  have c0:w2.cell? ⟨X,0,none⟩=some (.int .i64 u.kind):=RowF.cell HB.out (j:=0) (by omega)
  have c1:w2.cell? ⟨X,1,none⟩=some (.slice a9 n9 c9):=RowF.cell HB.out (j:=1) (by omega)
  have c2:w2.cell? ⟨X,2,none⟩=some (.int .u8 u.sign):=RowF.cell HB.out (j:=2) (by omega)
  have c3:w2.cell? ⟨X,3,none⟩=some (.int .i64 u.n):=RowF.cell HB.out (j:=3) (by omega)
  have c4:w2.cell? ⟨X,4,none⟩=some (.int .u8 u.x):=RowF.cell HB.out (j:=4) (by omega)
  have c5:w2.cell? ⟨X,5,none⟩=some (.int .u8 u.y):=RowF.cell HB.out (j:=5) (by omega)
  have HNR:=hide (tryM_rest s t.place (rest.map Prod.fst))
  have HNS:=hide (tryM_st s t.place (rest.map Prod.fst))
  generalize hnx:tryM s t.place (rest.map Prod.fst)=nx at *
  have HNX:=hide hnx
  clear hnx
  have hlc:(rest.map Prod.fst).length+1≤1000:=by have:=hlr;simp;omega
  by_cases hk0:u.kind=0
  ·have HS:=hide (tryM_0 (s:=s) (pl:=t.place) (rest:=rest.map Prod.fst) (at_:=at_) hsp hk0)
   have HCC:=hide ((HC.out.other (it:=u) (.inl hk0)).le (σ':=σ.more 1) (Nat.le_refl _) rfl rfl)
   rw [HNX.out] at HS
   obtain ⟨g,hg1,hg2⟩:=HM.out.set HMEM.out (.inl hk0)
   have hg3:=HSV.out.symm.trans hg1
   simp only [Value.slice.injEq] at hg3
   obtain ⟨rfl,rfl,rfl⟩:=hg3
   have HG:=hide hg2
   clear hg1 hg2
   have hk0b:((u.kind:Int)==0)=true:=beq_iff_eq.2 (by omega)
   clear hk0
   go_wp2_with fail
   refine (one_try M s t us _ vp vf vt k (pre.map Prod.fst++[u]) nx _ u g at_ (σ.more 1) w2 hs (by omega) hlc HI.out.nx HNR.out HNS.out HM.out HG.out ha h51 HCC.out).mono ?_
   rintro e w3 ⟨rfl,h1,h2⟩
   go_wp2_with fail
   refine bodyPost_ret (v:=.int .i64 (resI (oneM s u nx at_ (σ.more 1)).1)) ?_ rfl (TrR.mk HS.out rfl (HK.out.trans h1) h2)
   simp [results,Tryz.results26,go_sem]
  by_cases hk12:u.kind=1∨u.kind=2
  ·have hn:=(HWF.out.1 hk12).1
   have HCC:=hide (HC.out.open (N:=t.caps) HWF.out hk12)
   obtain ⟨gf,capf,hvf,hob,hrow⟩:=HM.out.f.slot hn
   subst hvf
   have d0:w2.cell? ⟨M,4,none⟩=some (.slice (some ⟨gf,0,none⟩) t.caps capf):=RowF.cell HM.out.m (j:=4) (by omega)
   have d1:=hrow.cell (j:=u.n) hn
   clear hrow
   have HK12:=hide hk12
   have hk0b:((u.kind:Int)==0)=false:=beq_eq_false_iff_ne.2 (by omega)
   have hs12:((u.kind:Int)==1)=true∨(((u.kind:Int)==1)=false∧((u.kind:Int)==2)=true):=by
    rcases hk12 with h|h
    ·exact .inl (beq_iff_eq.2 (by omega))
    ·exact .inr ⟨beq_eq_false_iff_ne.2 (by omega),beq_iff_eq.2 (by omega)⟩
   clear hk12 hk0
   rcases hs12 with hk1b|⟨hk1b,hk2b⟩
   all_goals
    go_wp2_with fail
    go_quiet (fail)
    have HM:=hide (HM.out.low ((Keeps.refl _ _).drewN nq))
    have HB:=hide (show BoxF (w2.drewN nq) X u (.slice a9 n9 c9) from RowF.keep HB.out ((Keeps.refl w2 (fun _=>False)).drewN nq) (fun x=>x))
    have HK:=hide (HK.out.drewN nq)
    generalize w2.drewN nq=w3 at *
    clear c0 c1 c2 c3 c4 c5 d0 d1
    go_wp2_with fail
    have c3:w3.cell? ⟨X,3,none⟩=some (.int .i64 u.n):=RowF.cell HB.out (j:=3) (by omega)
    have d0:w3.cell? ⟨M,4,none⟩=some (.slice (some ⟨gf,0,none⟩) t.caps capf):=RowF.cell HM.out.m (j:=4) (by omega)
    have d1:=(HM.out.f.own hob).cell (j:=u.n) (by omega)
    have d2:=(HM.out.f.own hob).frz u.n
    go_region
    clear c3 d0 d1 d2
    have HK4:=hide ((HK.out.setCell (g:=gf) (j:=u.n) (.inr (.inl rfl)) (.int .i64 (at_:Int))).drw)
    have HB4:=hide (HB.out.keep HM.out (((Keeps.refl w3 _).setCell (g:=gf) (j:=u.n) (.inr (.inl rfl)) (.int .i64 (at_:Int))).drw))
    have HM4:=hide ((HM.out.setF hob hn at_).low ((Keeps.refl _ _).drw))
    clear HM HB HK
    generalize (w3.setCell ⟨gf,u.n,none⟩ (.int .i64 (at_:Int))).drew=w4 at *
    go_wp2_with fail
    refine (HI.out at_ _ _ { σ.more 1 with fr:=upd σ.fr u.n at_ } w4 rfl (by omega) HM4.out ha h51 (HCC.out.le (Nat.le_refl _) rfl rfl)).mono ?_
    rintro e w5 ⟨rfl,h1,h2⟩
    have HM5:=hide h2
    have HB5:=hide (HB4.out.keep HM4.out h1)
    have HK5:=hide (HK4.out.trans h1)
    clear h1 h2 HM4 HB4 HK4
    obtain ⟨r,hr⟩:∃ r,nx at_ { σ.more 1 with fr:=upd σ.fr u.n at_ }=r:=⟨_,rfl⟩
    rw [hr] at HM5 ⊢
    have HRR:=hide hr
    clear hr
    obtain ⟨o,τ⟩:=r
    cases o with
    |some e=>
     have HS:=hide (tryM_12y (s:=s) (pl:=t.place) (rest:=rest.map Prod.fst) (at_:=at_) hsp HK12.out (by rw [HNX.out];exact HRR.out))
     simp only [resI] at *
     have he0:¬ ((e:Int)<0):=by omega
     go_wp2_with fail
     refine bodyPost_ret (v:=.int .i64 (e:Int)) ?_ rfl (TrR.mk HS.out rfl HK5.out HM5.out)
     simp [results,Tryz.results26,go_sem]
    |none=>
     have HS:=hide (tryM_12n (s:=s) (pl:=t.place) (rest:=rest.map Prod.fst) (at_:=at_) hsp HK12.out (by rw [HNX.out];exact HRR.out))
     simp only [resI] at *
     have c3:w5.cell? ⟨X,3,none⟩=some (.int .i64 u.n):=RowF.cell HB5.out (j:=3) (by omega)
     have d0:w5.cell? ⟨M,4,none⟩=some (.slice (some ⟨gf,0,none⟩) t.caps capf):=RowF.cell HM5.out.m (j:=4) (by omega)
     have d1:=(HM5.out.f.own hob).cell (j:=u.n) (by omega)
     have d2:=(HM5.out.f.own hob).frz u.n
     go_wp2_with fail
     go_region
     have HM6:=hide ((HM5.out.setF hob hn (σ.fr u.n)).low ((Keeps.refl _ _).drw))
     have HK6:=hide ((HK5.out.setCell (g:=gf) (j:=u.n) (.inr (.inl rfl)) (.int .i64 (σ.fr u.n:Int))).drw)
     clear c3 d0 d1 d2
     go_wp2_with fail
     refine bodyPost_ret (v:=.int .i64 (-1)) ?_ rfl (TrR.mk HS.out rfl HK6.out HM6.out)
     simp [results,Tryz.results26,go_sem]
  by_cases hk3:u.kind=3
  ·have hn:=(HWF.out.2.1 hk3).1
   have HCC:=hide (HC.out.shut (N:=t.caps) HWF.out hk3)
   obtain ⟨gf,capf,hvf,hob,hrow⟩:=HM.out.t.slot hn
   subst hvf
   have d0:w2.cell? ⟨M,5,none⟩=some (.slice (some ⟨gf,0,none⟩) t.caps capf):=RowF.cell HM.out.m (j:=5) (by omega)
   have d1:=hrow.cell (j:=u.n) hn
   clear hrow
   have HK12:=hide hk3
   have hk0b:((u.kind:Int)==0)=false:=beq_eq_false_iff_ne.2 (by omega)
   have hk1b:((u.kind:Int)==1)=false:=beq_eq_false_iff_ne.2 (by omega)
   have hk2b:((u.kind:Int)==2)=false:=beq_eq_false_iff_ne.2 (by omega)
   have hk3b:((u.kind:Int)==3)=true:=beq_iff_eq.2 (by omega)
   clear hk12 hk0 hk3
   go_wp2_with fail
   go_quiet (fail)
   have HM:=hide (HM.out.low ((Keeps.refl _ _).drewN nq))
   have HB:=hide (show BoxF (w2.drewN nq) X u (.slice a9 n9 c9) from RowF.keep HB.out ((Keeps.refl w2 (fun _=>False)).drewN nq) (fun x=>x))
   have HK:=hide (HK.out.drewN nq)
   generalize w2.drewN nq=w3 at *
   clear c0 c1 c2 c3 c4 c5 d0 d1
   go_wp2_with fail
   have c3:w3.cell? ⟨X,3,none⟩=some (.int .i64 u.n):=RowF.cell HB.out (j:=3) (by omega)
   have d0:w3.cell? ⟨M,5,none⟩=some (.slice (some ⟨gf,0,none⟩) t.caps capf):=RowF.cell HM.out.m (j:=5) (by omega)
   have d1:=(HM.out.t.own hob).cell (j:=u.n) (by omega)
   have d2:=(HM.out.t.own hob).frz u.n
   go_region
   clear c3 d0 d1 d2
   have HK4:=hide ((HK.out.setCell (g:=gf) (j:=u.n) (.inr (.inr rfl)) (.int .i64 (at_:Int))).drw)
   have HB4:=hide (HB.out.keep HM.out (((Keeps.refl w3 _).setCell (g:=gf) (j:=u.n) (.inr (.inr rfl)) (.int .i64 (at_:Int))).drw))
   have HM4:=hide ((HM.out.setT hob hn at_).low ((Keeps.refl _ _).drw))
   clear HM HB HK
   generalize (w3.setCell ⟨gf,u.n,none⟩ (.int .i64 (at_:Int))).drew=w4 at *
   go_wp2_with fail
   refine (HI.out at_ _ _ { σ.more 1 with tt:=upd σ.tt u.n at_ } w4 rfl (by omega) HM4.out ha h51 (HCC.out.le (Nat.le_refl _) rfl rfl)).mono ?_
   rintro e w5 ⟨rfl,h1,h2⟩
   have HM5:=hide h2
   have HB5:=hide (HB4.out.keep HM4.out h1)
   have HK5:=hide (HK4.out.trans h1)
   clear h1 h2 HM4 HB4 HK4
   obtain ⟨r,hr⟩:∃ r,nx at_ { σ.more 1 with tt:=upd σ.tt u.n at_ }=r:=⟨_,rfl⟩
   rw [hr] at HM5 ⊢
   have HRR:=hide hr
   clear hr
   obtain ⟨o,τ⟩:=r
   cases o with
   |some e=>
    have HS:=hide (tryM_3y (s:=s) (pl:=t.place) (rest:=rest.map Prod.fst) (at_:=at_) hsp HK12.out (by rw [HNX.out];exact HRR.out))
    simp only [resI] at *
    have he0:¬ ((e:Int)<0):=by omega
    go_wp2_with fail
    refine bodyPost_ret (v:=.int .i64 (e:Int)) ?_ rfl (TrR.mk HS.out rfl HK5.out HM5.out)
    simp [results,Tryz.results26,go_sem]
   |none=>
    have HS:=hide (tryM_3n (s:=s) (pl:=t.place) (rest:=rest.map Prod.fst) (at_:=at_) hsp HK12.out (by rw [HNX.out];exact HRR.out))
    simp only [resI] at *
    have c3:w5.cell? ⟨X,3,none⟩=some (.int .i64 u.n):=RowF.cell HB5.out (j:=3) (by omega)
    have d0:w5.cell? ⟨M,5,none⟩=some (.slice (some ⟨gf,0,none⟩) t.caps capf):=RowF.cell HM5.out.m (j:=5) (by omega)
    have d1:=(HM5.out.t.own hob).cell (j:=u.n) (by omega)
    have d2:=(HM5.out.t.own hob).frz u.n
    go_wp2_with fail
    go_region
    have HM6:=hide ((HM5.out.setT hob hn (σ.tt u.n)).low ((Keeps.refl _ _).drw))
    have HK6:=hide ((HK5.out.setCell (g:=gf) (j:=u.n) (.inr (.inr rfl)) (.int .i64 (σ.tt u.n:Int))).drw)
    clear c3 d0 d1 d2
    go_wp2_with fail
    refine bodyPost_ret (v:=.int .i64 (-1)) ?_ rfl (TrR.mk HS.out rfl HK6.out HM6.out)
    simp [results,Tryz.results26,go_sem]
  by_cases hk4:u.kind=4
  ·have hn:=(HWF.out.2.2 hk4).1
   obtain ⟨gp,capp,hvp,hobp,hrow⟩:=HM.out.p.slot hn
   subst hvp
   have d0:w2.cell? ⟨M,2,none⟩=some (.slice (some ⟨gp,0,none⟩) t.caps capp):=RowF.cell HM.out.m (j:=2) (by omega)
   have d1:=hrow.cell (j:=u.n) hn
   clear hrow
   have HK12:=hide hk4
   have hk0b:((u.kind:Int)==0)=false:=beq_eq_false_iff_ne.2 (by omega)
   have hk1b:((u.kind:Int)==1)=false:=beq_eq_false_iff_ne.2 (by omega)
   have hk2b:((u.kind:Int)==2)=false:=beq_eq_false_iff_ne.2 (by omega)
   have hk3b:((u.kind:Int)==3)=false:=beq_eq_false_iff_ne.2 (by omega)
   have hk4b:((u.kind:Int)==4)=true:=beq_iff_eq.2 (by omega)
   clear hk12 hk0 hk3 hk4
   go_wp2_with fail
   go_quiet (fail)
   have HM:=hide (HM.out.low ((Keeps.refl _ _).drewN nq))
   have HB:=hide (show BoxF (w2.drewN nq) X u (.slice a9 n9 c9) from RowF.keep HB.out ((Keeps.refl w2 (fun _=>False)).drewN nq) (fun x=>x))
   have HK:=hide (HK.out.drewN nq)
   generalize w2.drewN nq=w3 at *
   clear c0 c1 c2 c3 c4 c5 d0 d1
   cases hp:t.place u.n with
   |true=>
    have HS:=hide (tryM_4p (s:=s) (pl:=t.place) (rest:=rest.map Prod.fst) (at_:=at_) hsp HK12.out hp)
    go_wp2_with fail
    refine bodyPost_ret (v:=.int .i64 (-1)) ?_ rfl (TrR.mk HS.out rfl HK.out HM.out)
    simp [results,Tryz.results26,go_sem]
   |false=>
    have hbk:=Cap.back HC.out HWF.out HK12.out HPI.out (by rw [←HPL.out,hp];simp)
    have hb1:=hbk.1
    have hb2:=hbk.2
    clear hbk
    obtain ⟨gf,capf,hvf,hobf,_⟩:=HM.out.f.slot hn
    subst hvf
    obtain ⟨gt,capt,hvt,hobt,_⟩:=HM.out.t.slot hn
    subst hvt
    have c3:w3.cell? ⟨X,3,none⟩=some (.int .i64 u.n):=RowF.cell HB.out (j:=3) (by omega)
    have d0:w3.cell? ⟨M,0,none⟩=some (.string s):=RowF.cell HM.out.m (j:=0) (by omega)
    have d4:w3.cell? ⟨M,4,none⟩=some (.slice (some ⟨gf,0,none⟩) t.caps capf):=RowF.cell HM.out.m (j:=4) (by omega)
    have d5:w3.cell? ⟨M,5,none⟩=some (.slice (some ⟨gt,0,none⟩) t.caps capt):=RowF.cell HM.out.m (j:=5) (by omega)
    have f1:w3.cell? ⟨gf,u.n,none⟩=some (.int .i64 (σ.fr u.n)):=(HM.out.f.own hobf).cell (j:=u.n) (by omega)
    have f2:w3.cell? ⟨gt,u.n,none⟩=some (.int .i64 (σ.tt u.n)):=(HM.out.t.own hobt).cell (j:=u.n) (by omega)
    have hTs:(s.extract (σ.fr u.n) (σ.tt u.n)).size=σ.tt u.n-σ.fr u.n:=by rw [ByteArray.size_extract];omega
    have HS4n:=hide (fun hn=>tryM_4n (s:=s) (pl:=t.place) (u:=u) (rest:=rest.map Prod.fst) (at_:=at_) (σ:=σ) hsp HK12.out hp hn)
    have HS4y:=hide (fun hn=>tryM_4y (s:=s) (pl:=t.place) (u:=u) (rest:=rest.map Prod.fst) (at_:=at_) (σ:=σ) hsp HK12.out hp hn)
    rw [HNX.out] at HS4y
    rw [←hTs] at HS4n HS4y
    have hsl:∀ w':World,(Instr.slice 9 (.string s) (some (.int .i64 (σ.fr u.n:Int))) (some (.int .i64 (σ.tt u.n:Int))) none).run Tryz.prog w'=.ok (.string (s.extract (σ.fr u.n) (σ.tt u.n))) w':=fun w'=>by
     rw [run_slice_string w' 9 s .i64 .i64 _ _ Tryz.underlying9 (by omega) (by omega) (by omega),Int.toNat_natCast,Int.toNat_natCast]
    have hT9:(s.extract (σ.fr u.n) (σ.tt u.n)).size≤65536:=by omega
    clear hTs
    generalize hT:s.extract (σ.fr u.n) (σ.tt u.n)=T at *
    clear hT
    go_wp2_with fail
    go_quiet (fail)
    have HM:=hide (HM.out.low ((Keeps.refl _ _).drewN nq))
    have HB:=hide (show BoxF (w3.drewN nq) X u (.slice a9 n9 c9) from RowF.keep HB.out ((Keeps.refl w3 (fun _=>False)).drewN nq) (fun x=>x))
    have HK:=hide (HK.out.drewN nq)
    generalize w3.drewN nq=w4 at *
    clear c3 d0 d4 d5 f1 f2 hsl
    have d0:w4.cell? ⟨M,0,none⟩=some (.string s):=RowF.cell HM.out.m (j:=0) (by omega)
    by_cases hbig:s.size<at_+T.size
    ·have hbig2:(s.size:Int)<(at_:Int)+(T.size:Int):=by omega
     have HS:=hide (HS4n.out (.inl hbig))
     go_wp2_with fail
     refine bodyPost_ret (v:=.int .i64 (-1)) ?_ rfl (TrR.mk HS.out rfl HK.out HM.out)
     simp [results,Tryz.results26,go_sem]
    ·have hbig2:¬ ((s.size:Int)<(at_:Int)+(T.size:Int)):=by omega
     have hsl2:∀ w':World,(Instr.slice 9 (.string s) (some (.int .i64 (at_:Int))) (some (.int .i64 ((at_:Int)+(T.size:Int)))) none).run Tryz.prog w'=.ok (.string (s.extract at_ (at_+T.size))) w':=fun w'=>by
      rw [run_slice_string w' 9 s .i64 .i64 _ _ Tryz.underlying9 (by omega) (by omega) (by omega),Int.toNat_natCast,show ((at_:Int)+(T.size:Int)).toNat=at_+T.size by omega]
     by_cases hEq:s.extract at_ (at_+T.size)=T
     ·have HS:=hide (HS4y.out (by rintro (h|h);exact hbig h;exact h hEq))
      rw [hEq] at hsl2
      clear hEq
      go_wp2_with fail
      refine (HI.out (at_+T.size) _ _ (σ.more 1) _ (by omega) (by omega) HM.out (by omega) h51 ((HC.out.other (it:=u) (.inr (by have:=HK12.out;omega))).le (by omega) rfl rfl)).mono ?_
      rintro e w5 ⟨rfl,h1,h2⟩
      go_wp2_with fail
      refine bodyPost_ret (v:=.int .i64 (resI (nx (at_+T.size) (σ.more 1)).1)) ?_ rfl (TrR.mk HS.out rfl (HK.out.trans h1) h2)
      simp [results,Tryz.results26,go_sem]
     ·have HS:=hide (HS4n.out (.inr hEq))
      have hEb:((s.extract at_ (at_+T.size)).toList==T.toList)=false:=by
       rw [toList_eq]
       exact decide_eq_false hEq
      clear hEq
      go_wp2_with fail
      refine bodyPost_ret (v:=.int .i64 (-1)) ?_ rfl (TrR.mk HS.out rfl HK.out HM.out)
      simp [results,Tryz.results26,go_sem]
  by_cases hk5:u.kind=5
  ·have HS:=hide (tryM_5 (s:=s) (pl:=t.place) (rest:=rest.map Prod.fst) (at_:=at_) hsp hk5)
   rw [HNX.out] at HS
   have HCC:=hide ((HC.out.other (it:=u) (.inr (by omega))).le (σ':=σ.more 1) (Nat.le_refl _) rfl rfl)
   have hk0b:((u.kind:Int)==0)=false:=beq_eq_false_iff_ne.2 (by omega)
   have hk1b:((u.kind:Int)==1)=false:=beq_eq_false_iff_ne.2 (by omega)
   have hk2b:((u.kind:Int)==2)=false:=beq_eq_false_iff_ne.2 (by omega)
   have hk3b:((u.kind:Int)==3)=false:=beq_eq_false_iff_ne.2 (by omega)
   have hk4b:((u.kind:Int)==4)=false:=beq_eq_false_iff_ne.2 (by omega)
   have hk5b:((u.kind:Int)==5)=true:=beq_iff_eq.2 (by omega)
   clear hk12 hk0 hk3 hk4 hk5
   go_wp2_with fail
   refine (pair_any M s t us _ vp vf vt k (pre.map Prod.fst++[u]) nx u a9 n9 c9 at_ (σ.more 1) w2 hs (by omega) HI.out.nx HM.out ha h51 HCC.out).mono ?_
   rintro e w3 ⟨rfl,h1,h2⟩
   go_wp2_with fail
   refine bodyPost_ret (v:=.int .i64 (resI (pairR s u nx at_ (σ.more 1)).1)) ?_ rfl (TrR.mk HS.out rfl (HK.out.trans h1) h2)
   simp [results,Tryz.results26,go_sem]
  by_cases hk6:u.kind=6
  ·have HEn:=hide (fun hn=>tryM_6n (s:=s) (pl:=t.place) (u:=u) (rest:=rest.map Prod.fst) (at_:=at_) (σ:=σ) hsp hk6 hn)
   have HEy:=hide (fun hn=>tryM_6y (s:=s) (pl:=t.place) (u:=u) (rest:=rest.map Prod.fst) (at_:=at_) (σ:=σ) hsp hk6 hn)
   rw [HNX.out] at HEy
   have HCC:=hide ((HC.out.other (it:=u) (.inr (by omega))).le (σ':=σ.more 1) (Nat.le_refl _) rfl rfl)
   obtain ⟨g,hg1,hg2⟩:=HM.out.set HMEM.out (.inr hk6)
   have hg3:=HSV.out.symm.trans hg1
   simp only [Value.slice.injEq] at hg3
   obtain ⟨rfl,rfl,rfl⟩:=hg3
   have HG:=hide hg2
   clear hg1 hg2
   have hk0b:((u.kind:Int)==0)=false:=beq_eq_false_iff_ne.2 (by omega)
   have hk1b:((u.kind:Int)==1)=false:=beq_eq_false_iff_ne.2 (by omega)
   have hk2b:((u.kind:Int)==2)=false:=beq_eq_false_iff_ne.2 (by omega)
   have hk3b:((u.kind:Int)==3)=false:=beq_eq_false_iff_ne.2 (by omega)
   have hk4b:((u.kind:Int)==4)=false:=beq_eq_false_iff_ne.2 (by omega)
   have hk5b:((u.kind:Int)==5)=false:=beq_eq_false_iff_ne.2 (by omega)
   have hk6b:((u.kind:Int)==6)=true:=beq_iff_eq.2 (by omega)
   clear hk12 hk0 hk3 hk4 hk5 hk6
   have d0:w2.cell? ⟨M,0,none⟩=some (.string s):=RowF.cell HM.out.m (j:=0) (by omega)
   clear c2 c3 c4 c5
   have b0:0≤hbB s at_:=by unfold hbB;split;exact (hb_rng s _).1;omega
   have b1:hbB s at_<256:=by unfold hbB;split;exact (hb_rng s _).2;omega
   have b2:=(hb_rng s at_).1
   have b3:=(hb_rng s at_).2
   by_cases hpos:0<at_
   ·by_cases hend:at_<s.size
    ·have e0:=RowF.cell HG.out (j:=(hbB s at_).toNat) (by omega)
     have e1:=RowF.cell HG.out (j:=(hb s at_).toNat) (by omega)
     have hat0:0<(at_:Int):=by omega
     have hi1:∀ w':World,(Instr.index 9 (.string s) (.int .i64 ((at_:Int)-1))).run Tryz.prog w'=.ok (.int .u8 (hbB s at_)) w':=fun w'=>by
      rw [idx_str s (i:=(at_:Int)-1) w' (by omega) (by omega),show ((at_:Int)-1).toNat=at_-1 by omega,hbB,if_pos hpos]
     have hat1:(at_:Int)<(s.size:Int):=by omega
     have hi2:∀ w':World,(Instr.index 9 (.string s) (.int .i64 (at_:Int))).run Tryz.prog w'=.ok (.int .u8 (hb s at_)) w':=fun w'=>by
      rw [idx_str s (i:=(at_:Int)) w' (by omega) (by omega),Int.toNat_natCast]
     cases hq0:u.set (hbB s at_).toNat with
     |true=>
      have HS:=hide (HEn.out (.inl hq0))
      go_wp2_with fail
      refine bodyPost_ret (v:=.int .i64 (-1)) ?_ rfl (TrR.mk HS.out rfl HK.out HM.out)
      simp [results,Tryz.results26,go_sem]
     |false=>
      cases hq1:u.set (hb s at_).toNat with
      |false=>
       have HS:=hide (HEn.out (.inr hq1))
       go_wp2_with fail
       refine bodyPost_ret (v:=.int .i64 (-1)) ?_ rfl (TrR.mk HS.out rfl HK.out HM.out)
       simp [results,Tryz.results26,go_sem]
      |true=>
       have HS:=hide (HEy.out (by rw [hq0,hq1];simp))
       go_wp2_with fail
       refine (HI.out at_ _ _ (σ.more 1) _ rfl (by omega) HM.out ha h51 HCC.out).mono ?_
       rintro e w5 ⟨rfl,h1,h2⟩
       go_wp2_with fail
       refine bodyPost_ret (v:=.int .i64 (resI (nx at_ (σ.more 1)).1)) ?_ rfl (TrR.mk HS.out rfl (HK.out.trans h1) h2)
       simp [results,Tryz.results26,go_sem]
    ·have e0:=RowF.cell HG.out (j:=(hbB s at_).toNat) (by omega)
     have e1:=RowF.cell HG.out (j:=(hb s at_).toNat) (by omega)
     have hat0:0<(at_:Int):=by omega
     have hi1:∀ w':World,(Instr.index 9 (.string s) (.int .i64 ((at_:Int)-1))).run Tryz.prog w'=.ok (.int .u8 (hbB s at_)) w':=fun w'=>by
      rw [idx_str s (i:=(at_:Int)-1) w' (by omega) (by omega),show ((at_:Int)-1).toNat=at_-1 by omega,hbB,if_pos hpos]
     have hat1:¬ ((at_:Int)<(s.size:Int)):=by omega
     have hH0:hb s at_=0:=hb_out (by omega)
     rw [hH0] at e1 b2 b3
     rw [hH0] at HEn HEy
     clear hH0
     simp only [Int.toNat_zero] at e0 e1 HEn HEy
     cases hq0:u.set (hbB s at_).toNat with
     |true=>
      have HS:=hide (HEn.out (.inl hq0))
      go_wp2_with fail
      refine bodyPost_ret (v:=.int .i64 (-1)) ?_ rfl (TrR.mk HS.out rfl HK.out HM.out)
      simp [results,Tryz.results26,go_sem]
     |false=>
      cases hq1:u.set 0 with
      |false=>
       have HS:=hide (HEn.out (.inr hq1))
       go_wp2_with fail
       refine bodyPost_ret (v:=.int .i64 (-1)) ?_ rfl (TrR.mk HS.out rfl HK.out HM.out)
       simp [results,Tryz.results26,go_sem]
      |true=>
       have HS:=hide (HEy.out (by rw [hq0,hq1];simp))
       go_wp2_with fail
       refine (HI.out at_ _ _ (σ.more 1) _ rfl (by omega) HM.out ha h51 HCC.out).mono ?_
       rintro e w5 ⟨rfl,h1,h2⟩
       go_wp2_with fail
       refine bodyPost_ret (v:=.int .i64 (resI (nx at_ (σ.more 1)).1)) ?_ rfl (TrR.mk HS.out rfl (HK.out.trans h1) h2)
       simp [results,Tryz.results26,go_sem]
   ·by_cases hend:at_<s.size
    ·have e0:=RowF.cell HG.out (j:=(hbB s at_).toNat) (by omega)
     have e1:=RowF.cell HG.out (j:=(hb s at_).toNat) (by omega)
     have hat0:¬ (0<(at_:Int)):=by omega
     have hB0:hbB s at_=0:=by rw [hbB,if_neg hpos]
     rw [hB0] at e0 b0 b1
     have hat1:(at_:Int)<(s.size:Int):=by omega
     have hi2:∀ w':World,(Instr.index 9 (.string s) (.int .i64 (at_:Int))).run Tryz.prog w'=.ok (.int .u8 (hb s at_)) w':=fun w'=>by
      rw [idx_str s (i:=(at_:Int)) w' (by omega) (by omega),Int.toNat_natCast]
     rw [hB0] at HEn HEy
     clear hB0
     simp only [Int.toNat_zero] at e0 e1 HEn HEy
     cases hq0:u.set 0 with
     |true=>
      have HS:=hide (HEn.out (.inl hq0))
      go_wp2_with fail
      refine bodyPost_ret (v:=.int .i64 (-1)) ?_ rfl (TrR.mk HS.out rfl HK.out HM.out)
      simp [results,Tryz.results26,go_sem]
     |false=>
      cases hq1:u.set (hb s at_).toNat with
      |false=>
       have HS:=hide (HEn.out (.inr hq1))
       go_wp2_with fail
       refine bodyPost_ret (v:=.int .i64 (-1)) ?_ rfl (TrR.mk HS.out rfl HK.out HM.out)
       simp [results,Tryz.results26,go_sem]
      |true=>
       have HS:=hide (HEy.out (by rw [hq0,hq1];simp))
       go_wp2_with fail
       refine (HI.out at_ _ _ (σ.more 1) _ rfl (by omega) HM.out ha h51 HCC.out).mono ?_
       rintro e w5 ⟨rfl,h1,h2⟩
       go_wp2_with fail
       refine bodyPost_ret (v:=.int .i64 (resI (nx at_ (σ.more 1)).1)) ?_ rfl (TrR.mk HS.out rfl (HK.out.trans h1) h2)
       simp [results,Tryz.results26,go_sem]
    ·have e0:=RowF.cell HG.out (j:=(hbB s at_).toNat) (by omega)
     have e1:=RowF.cell HG.out (j:=(hb s at_).toNat) (by omega)
     have hat0:¬ (0<(at_:Int)):=by omega
     have hB0:hbB s at_=0:=by rw [hbB,if_neg hpos]
     rw [hB0] at e0 b0 b1
     have hat1:¬ ((at_:Int)<(s.size:Int)):=by omega
     have hH0:hb s at_=0:=hb_out (by omega)
     rw [hH0] at e1 b2 b3
     rw [hB0] at HEn HEy
     rw [hH0] at HEn HEy
     clear hB0
     clear hH0
     simp only [Int.toNat_zero] at e0 e1 HEn HEy
     cases hq0:u.set 0 with
     |true=>
      have HS:=hide (HEn.out (.inl hq0))
      go_wp2_with fail
      refine bodyPost_ret (v:=.int .i64 (-1)) ?_ rfl (TrR.mk HS.out rfl HK.out HM.out)
      simp [results,Tryz.results26,go_sem]
     |false=>
      have HS:=hide (HEn.out (.inr hq0))
      go_wp2_with fail
      refine bodyPost_ret (v:=.int .i64 (-1)) ?_ rfl (TrR.mk HS.out rfl HK.out HM.out)
      simp [results,Tryz.results26,go_sem]
  have hk0b:((u.kind:Int)==0)=false:=beq_eq_false_iff_ne.2 (by first |omega|(have:=hk12;omega))
  have hk1b:((u.kind:Int)==1)=false:=beq_eq_false_iff_ne.2 (by first |omega|(have:=hk12;omega))
  have hk2b:((u.kind:Int)==2)=false:=beq_eq_false_iff_ne.2 (by first |omega|(have:=hk12;omega))
  have hk3b:((u.kind:Int)==3)=false:=beq_eq_false_iff_ne.2 (by first |omega|(have:=hk12;omega))
  have hk4b:((u.kind:Int)==4)=false:=beq_eq_false_iff_ne.2 (by first |omega|(have:=hk12;omega))
  have hk5b:((u.kind:Int)==5)=false:=beq_eq_false_iff_ne.2 (by first |omega|(have:=hk12;omega))
  have hk6b:((u.kind:Int)==6)=false:=beq_eq_false_iff_ne.2 (by first |omega|(have:=hk12;omega))
  have d0:w2.cell? ⟨M,0,none⟩=some (.string s):=RowF.cell HM.out.m (j:=0) (by omega)
  have hk7:6<u.kind:=by omega
  have HCC:=hide ((HC.out.other (it:=u) (.inr (by omega))).le (σ':=σ.more 1) (Nat.le_refl _) rfl rfl)
  have HEn:=hide (fun hn=>tryM_7n (s:=s) (pl:=t.place) (u:=u) (rest:=rest.map Prod.fst) (at_:=at_) (σ:=σ) hsp hk7 hn)
  have HEy:=hide (fun hn=>tryM_7y (s:=s) (pl:=t.place) (u:=u) (rest:=rest.map Prod.fst) (at_:=at_) (σ:=σ) hsp hk7 hn)
  rw [HNX.out] at HEy
  clear hk12 hk0 hk3 hk4 hk5 hk6 hk7 c1 c2 c3 c4 c5
  by_cases hend:at_=s.size
  ·have HS:=hide (HEy.out hend)
   have hnb:((at_:Int) !=(s.size:Int))=false:=by rw [hend];simp
   clear hend
   go_wp2_with fail
   refine (HI.out at_ _ _ (σ.more 1) _ rfl (by omega) HM.out ha h51 HCC.out).mono ?_
   rintro e w5 ⟨rfl,h1,h2⟩
   go_wp2_with fail
   refine bodyPost_ret (v:=.int .i64 (resI (nx at_ (σ.more 1)).1)) ?_ rfl (TrR.mk HS.out rfl (HK.out.trans h1) h2)
   simp [results,Tryz.results26,go_sem]
  ·have HS:=hide (HEn.out hend)
   have hnb:((at_:Int) !=(s.size:Int))=true:=by simp;omega
   clear hend
   go_wp2_with fail
   refine bodyPost_ret (v:=.int .i64 (-1)) ?_ rfl (TrR.mk HS.out rfl HK.out HM.out)
   simp [results,Tryz.results26,go_sem]
theorem try_any (M:Nat) (s:ByteArray) (t:Pt) (us:List (It × Value)) (vi vp vf vt:Value) (hs:s.size≤65536) (ho:ItsOk t us):
 ∀ (rest pre:List (It × Value)),us=pre++rest→CallT M s t us vi vp vf vt pre.length (pre.map Prod.fst) (tryM s t.place (rest.map Prod.fst))
 | [],pre,e=>by
   rw [List.append_nil] at e
   subst e
   exact try_nil M s t us vi vp vf vt _ ho.len
 |(u,sv)::rest,pre,e=>by
  have ih:=try_any M s t us vi vp vf vt hs ho rest (pre++[(u,sv)]) (by rw [e];simp)
  refine try_cons M s t us vi vp vf vt pre rest u sv e hs ho ?_
  simpa using ih
end Go.Proofs.YtlgodacccilabaaGreatDoor
