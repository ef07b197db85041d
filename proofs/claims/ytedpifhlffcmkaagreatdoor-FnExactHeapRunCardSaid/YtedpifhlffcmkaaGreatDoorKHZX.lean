import Derived.Test.YtedpifhlffcmkaaGreatDoorKHZW
namespace Go.Proofs.YtedpifhlffcmkaaGreatDoor
open Go Go.RowKit
set_option maxHeartbeats 6400000
set_option maxRecDepth 100000
set_option linter.unusedVariables false
variable {L:PM} {R base hand k q:Nat} {S:Nat->Prop} {h:Hp} {root:List Bool} {w:World}
attribute [local go_sem] bD
theorem jS:∀ (l:List Bool) (i:Nat),(bV i l).Pairwise (·< ·)
 | [],i=>by simp [bV]
 |a::l,i=>by
  rw [bV,List.pairwise_append]
  refine ⟨by split<;>simp,jS l (i+1),fun x hx y hy=>?_⟩
  have h2:=(oF l (i+1) y).1 hy
  split at hx
  ·simp at hx;omega
  ·simp at hx
theorem oG:∀ (a b:List Nat),a.Pairwise (·< ·)->b.Pairwise (·< ·)->(∀ n,n∈a↔n∈b)->a=b
 | [],[],_,_,_=>rfl
 | [],y::b,_,_,h=>absurd ((h y).2 (List.mem_cons_self ..)) (by simp)
 |x::a,[],_,_,h=>absurd ((h x).1 (List.mem_cons_self ..)) (by simp)
 |x::a,y::b,ha,hb,h=>by
  rw [List.pairwise_cons] at ha hb
  have hxy:x=y:=by
   rcases List.mem_cons.1 ((h x).1 (List.mem_cons_self ..)) with c|c
   ·exact c
   ·have h1:=hb.1 x c
    rcases List.mem_cons.1 ((h y).2 (List.mem_cons_self ..)) with d|d
    ·exact d.symm
    ·have h2:=ha.1 y d;omega
  subst hxy
  rw [oG a b ha.2 hb.2 (fun n=>?_)]
  have hn:=h n
  rw [List.mem_cons,List.mem_cons] at hn
  constructor
  ·intro c
   have h3:=ha.1 n c
   exact (hn.1 (.inr c)).resolve_left (by omega)
  ·intro c
   have h3:=hb.1 n c
   exact (hn.2 (.inr c)).resolve_left (by omega)
theorem um {l:List Nat} {z:Nat} (up:l.Pairwise (·< ·)) (b:JH l z q):mF l z q=true↔z∈l:=by
 unfold mF
 rw [decide_eq_true_eq]
 constructor
 ·exact fun e=>List.mem_of_getElem? e
 ·intro e
  obtain ⟨p,hp⟩:=List.mem_iff_getElem?.1 e
  rcases Nat.lt_trichotomy p q with c|c|c
  ·have:=b.lo p z hp c;omega
  ·rw [<-c];exact hp
  ·have hq:q<l.length:=Nat.lt_trans c (List.getElem?_eq_some_iff.1 hp).1
   obtain ⟨m,hm⟩:∃ m,l[q]?=some m:=⟨_,List.getElem?_eq_getElem hq⟩
   have h1:=b.hi q m hm (Nat.le_refl _)
   have h2:=List.pairwise_iff_getElem.1 up q p hq (List.getElem?_eq_some_iff.1 hp).1 c
   rw [(List.getElem?_eq_some_iff.1 hm).2,(List.getElem?_eq_some_iff.1 hp).2] at h2
   omega
theorem vM {z:Nat} (hz:z<root.length) (b:JH (bV 0 root) z q) (hm:z∈bV 0 root):(bV 0 root).eraseIdx q=bV 0 (root.set z false):=by
 have up:=jS root 0
 refine oG _ _ (up.sublist (List.eraseIdx_sublist _ _)) (jS _ _) (fun n=>?_)
 have hq:=(um up b).2 hm
 unfold mF at hq
 rw [decide_eq_true_eq] at hq
 rw [List.mem_eraseIdx_iff_getElem?,bZ,List.getElem?_set]
 constructor
 ·rintro ⟨p,hp,hn⟩
  have hne:z≠n:=by
   intro c
   subst c
   have h1:=(List.getElem?_eq_some_iff.1 hn).1
   have h2:=(List.getElem?_eq_some_iff.1 hq).1
   have e1:=(List.getElem?_eq_some_iff.1 hn).2
   have e2:=(List.getElem?_eq_some_iff.1 hq).2
   rcases Nat.lt_or_ge p q with c|c
   ·have:=List.pairwise_iff_getElem.1 up p q h1 h2 c
    omega
   ·have:=List.pairwise_iff_getElem.1 up q p h2 h1 (by omega)
    omega
  rw [if_neg hne]
  exact bZ.1 (List.mem_of_getElem? hn)
 ·intro c
  split at c
  ·simp at c
  ·rename_i d
   obtain ⟨p,hp⟩:=List.mem_iff_getElem?.1 (bZ.2 c)
   refine ⟨p,fun e=>?_,hp⟩
   rw [e,hq] at hp
   simp at hp
   exact d hp
theorem uY {z:Nat} (hz:z<root.length) (b:JH (bV 0 root) z q) (hm:z ∉ bV 0 root):(bV 0 root).take q++z::(bV 0 root).drop q=bV 0 (root.set z true):=by
 have up:=jS root 0
 refine oG _ _ ?_ (jS _ _) (fun n=>?_)
 ·rw [List.pairwise_append,List.pairwise_cons]
  refine ⟨up.sublist (List.take_sublist _ _),⟨fun y hy=>?_,up.sublist (List.drop_sublist _ _)⟩,fun x hx y hy=>?_⟩
  ·obtain ⟨p,hp⟩:=List.mem_iff_getElem?.1 hy
   rw [List.getElem?_drop] at hp
   have h1:=b.hi _ y hp (by omega)
   rcases Nat.eq_or_lt_of_le h1 with c|c
   ·subst c;exact absurd (List.mem_of_getElem? hp) hm
   ·exact c
  ·obtain ⟨p,hp⟩:=List.mem_iff_getElem?.1 hx
   rw [List.getElem?_take] at hp
   split at hp
   ·rename_i c
    have h1:=b.lo p x hp c
    rcases List.mem_cons.1 hy with d|d
    ·omega
    ·obtain ⟨p2,hp2⟩:=List.mem_iff_getElem?.1 d
     rw [List.getElem?_drop] at hp2
     have h2:=b.hi _ y hp2 (by omega)
     omega
   ·cases hp
 ·rw [List.mem_append,List.mem_cons,bZ,List.getElem?_set]
  have h3:n∈bV 0 root↔n∈(bV 0 root).take q∨n∈(bV 0 root).drop q:=by
   conv=>lhs;rw [<-List.take_append_drop q (bV 0 root)]
   rw [List.mem_append]
  have h4:=bZ (l:=root) (n:=n)
  split
  ·rename_i c
   exact ⟨fun _=>rfl,fun _=>.inr (.inl c.symm)⟩
  ·rename_i c
   rw [<-h4,h3]
   constructor
   ·rintro (d|d|d)
    ·exact .inl d
    ·exact absurd d.symm c
    ·exact .inr d
   ·rintro (d|d)
    ·exact .inl d
    ·exact .inr (.inr d)
theorem l6 {z:Nat} {bb:Bool} (h:root[z]?=some bb):root.set z bb=root:=by
 refine List.ext_getElem? (fun n=>?_)
 rw [List.getElem?_set]
 split
 ·rename_i c
  subst c
  rw [if_pos (List.getElem?_eq_some_iff.1 h).1,h]
 ·rfl
theorem jm (x:PW base S h L R hand w) (ok:FK k h root hand) (hk:k<=5000) (b:Ja h) (A B:Int) (code:Int) (h':Hp) (hyes:dH h hand A->(B=0∨B=1)->code=0/\h'=h.Eb (bV 0 (dx root A.toNat B))) (hrng:dH h hand A->¬ (B=0∨B=1)->code=2/\h'=h) (hno:¬ dH h hand A->code=3/\h'=h):
 Calls Tryz.prog 51 #[.pointer (some ⟨R,0,none⟩),.int .i64 A,.int .i64 B] w (gG base S L.H w (.int .i64 code) h'):=by
 have HYES:=ah hyes
 have HRNG:=ah hrng
 have HNO:=ah hno
 clear hyes hno hrng
 have HD:=ah (iU x.p ok.g ok.g.s.len x.r ok.hd ok.g.s.rt)
 have HX:=ah x
 have HOK:=ah ok
 have HBN:=ah b
 have hl9:=ok.g.s.len
 have sJ:=ok.g.i.ps
 clear x ok b
 go_enter Tryz.func51,Tryz.ntmps51
 go_wp2_with fail
 refine HD.o.mono ?_
 rintro e1 w1 ⟨F,sn,rfl,hsl,hrF,hF1,hsn,hb1⟩
 have HRF:=ah hrF
 have HB1:=ah hb1
 have hN:sn.length<=1000000:=by omega
 have h1s:1<=sn.length:=by omega
 have HIF:=ah (jM hsl hsn)
 have HSN:=ah hsn
 have HW1:=ah (HX.o.hole hb1 hF1 hrF.lt)
 have hFl:=hrF.lt
 have HSL:=ah hsl
 clear hrF hb1 hsn HD hsl
 have HH:=ah (gB HRF.o h1s hN A)
 cases hA:fZ sn A with
 |false=>
  rw [hA] at HH
  obtain ⟨rfl,rfl⟩:=HNO.o (fun c=>by rw [(HIF.o A).2 c] at hA;cases hA)
  clear hA HNO HYES HRNG
  go_wp2_with fail
  refine HH.o.mono ?_
  rintro e2 w2 ⟨rfl,rfl⟩
  go_wp2
  go_ret
  exact gG.same HX.o.p HB1.o
 |true=>
  rw [hA] at HH
  have hcd:=(HIF.o _).1 hA
  have HWI:=ah (dY w1 B 0 1)
  by_cases hB:B=0∨B=1
  ·rw [show (decide ((0:Int)<=B)&&decide (B<=1))=true by simp;omega] at HWI
   obtain ⟨n,rfl,hn1,hn2,hn3⟩:=g_ hA
   obtain ⟨rfl,rfl⟩:=HYES.o hcd hB
   obtain ⟨px,py,G,aP,rP⟩:=id HW1.o.p
   have hro:=aP.li 10 (by simp [b_])
   obtain ⟨Aa,cap,hrv⟩:=aF hro
   have hrv':L.li 10=.slice Aa h.roots.length cap:=hrv
   have hlr:=HOK.o.l
   have hrr:=HOK.o.o
   have hrlen:h.roots.length<=5001:=HOK.o.g.s.rt
   have hro2:w1.ownsRow base 67 1 (.slice Aa h.roots.length cap) (h.roots.map (cO L.tb 10)).length (h.roots.map (cO L.tb 10)):=by rw [List.length_map,<-hrv'];exact hro
   have hcapr:h.roots.length<=cap:=by
    rcases hro2.2 with ⟨d1,d2⟩|⟨g9,cap9,cur9,d1,_,_,d4,_⟩
    ·rw [List.length_map] at d2;omega
    ·simp only [Value.slice.injEq] at d1;rw [List.length_map] at d4;omega
   have hup:h.roots.Pairwise (·< ·):=by rw [hrr];exact jS _ _
   have hcs:∀ p m:Nat,h.roots[p]?=some m->∃ g,Aa=some ⟨g,0,none⟩/\w1.cell? ⟨g,p,none⟩=some (.iface 127 (.pointer (some ⟨L.tb m,0,none⟩)))/\w1.cell? ⟨L.tb m,1,none⟩=some (.int .i64 (m:Int)):=by
    intro p m hm
    obtain ⟨A2,cap2,e1,e2,e3⟩:=aP.EM (k:=10) (by simp [b_])
    have e4:=e1.symm.trans hrv'
    simp only [Value.slice.injEq] at e4
    obtain ⟨g,e5,e6,e7⟩:=e3 p m hm
    obtain ⟨om,hom,-⟩:=HOK.o.g.i.ls m (.inl (List.mem_of_getElem? hm))
    exact ⟨g,e4.1.symm.trans e5,e7,(aP.ob m om hom).cell (j:=1) (by omega)⟩
   have HBS:=ah (zJ hup hrlen hcapr hcs n)
   have r0:w1.cell? ⟨R,0,none⟩=some (.pointer (some ⟨L.H,0,none⟩)):=HW1.o.r.cell (j:=0) (by omega)
   have c10:w1.cell? ⟨L.H,10,none⟩=some (.slice Aa h.roots.length cap):=by rw [aP.hp.cell (j:=10) (by omega)];exact congrArg some hrv'
   have z10:=aP.hp.Jv 10
   have HAP:=ah aP
   have HRP:=ah rP
   have HRV:=ah hrv'
   have HRO:=ah hro2
   have HRR:=ah (And.intro hlr hrr)
   have hnl:n<root.length:=by have:=HSL.o;omega
   have fn:=HRF.o.cell (j:=n) hn2
   rw [lU hn3] at fn
   have hni:(n:Int)<(sn.length:Int):=by omega
   have hHl:=aP.hp.lt
   have hFH:F≠L.H:=fun c=>HRF.o.apart aP.hp (by decide) c
   have hHF:L.H≠F:=fun c=>hFH c.symm
   have HON:Hq (∀ u∈h.roots.map (cO L.tb 10),u.oneCell'=true):=ah (fun u hu=>by
    obtain ⟨m,_,rfl⟩:=List.mem_map.1 hu
    rfl)
   have HUP:=ah hup
   clear hA HNO HYES HRNG hcd aP rP hro hrv hrv' hro2 hcs hlr hrr hn3 hup
   go_wp2_with fail
   refine HH.o.mono ?_
   rintro e2 w2 ⟨rfl,rfl⟩
   go_wp2_with fail
   refine HWI.o.mono ?_
   rintro e3 w3 ⟨rfl,rfl⟩
   go_wp2_with fail
   refine HBS.o.mono ?_
   rintro e4 w4 ⟨q,rfl,hq,rfl⟩
   have HQ:=ah hq
   have hqle:=hq.le
   have HHM:=ah (um HUP.o hq)
   cases hhit:mF h.roots n q with
   |true=>
    have hmem:=HHM.o.1 hhit
    rcases hB with hB|hB
    ·subst hB
     have HDR:Hq (h.roots.eraseIdx q=bV 0 (dx root n 0)):=ah (by
      have e1:=HRR.o.2
      have:=vM hnl (q:=q) (by rw [<-e1];exact HQ.o) (by rw [<-e1];exact hmem)
      rw [<-e1] at this
      exact this)
     have hql:q<h.roots.length:=by
      unfold mF at hhit
      rw [decide_eq_true_eq] at hhit
      exact (List.getElem?_eq_some_iff.1 hhit).1
     have HDL:=ah (wG HRO.o HON.o (by rw [List.length_map];omega) (i:=q) (by rw [List.length_map];exact hql))
     rw [List.length_map] at HDL
     clear hhit hmem hq
     go_wp2_with fail
     refine HDL.o.mono ?_
     rintro e5 w5 ⟨v5,rfl,ho5,hk5,hob5⟩
     obtain ⟨a5,k5,hv5⟩:=aF ho5
     subst hv5
     have hh5:=HAP.o.hp.keep hk5 (fun e=>ak HRO.o HAP.o.hp (by decide) e)
     have c105:w5.cell? ⟨L.H,10,none⟩=some (.slice Aa h.roots.length cap):=by rw [hh5.cell (j:=10) (by omega)];exact congrArg some HRV.o
     have z105:=hh5.Jv 10
     have H5:=ah (And.intro ho5 (And.intro hk5 hob5))
     clear ho5 hk5 hob5 hh5 c10 z10
     go_wp2
     go_ret
     obtain ⟨g1,g2,g3⟩:=H5.o
     have hel:(h.roots.map (cO L.tb 10)).eraseIdx q=(h.roots.eraseIdx q).map (cO L.tb 10):=by rw [List.eraseIdx_eq_take_drop_succ,List.eraseIdx_eq_take_drop_succ,List.map_append,List.map_take,List.map_drop]
     have hl1:(h.roots.eraseIdx q).length=h.roots.length-1:=by rw [List.length_eraseIdx_of_lt hql]
     obtain ⟨-,p2,p3⟩:=HAP.o.Gm (h':=fM (h.wk px py) 10 (h.roots.eraseIdx q)) (G':=G) (w1:=w5) 10 (by simp [b_]) (by rw [HRV.o];exact g2) (.slice a5 (h.roots.length-1) k5) (by rw [jO (by simp [iZ]),hl1,<-hel];exact g1) (fun g hg=>.inl (by rw [HRV.o,<-g3];exact hg)) (gJ _ 10 _) (fun j hj hn=>gV (by simp [iZ]) hj hn _) (jf (by simp [iZ]) _ _)
     show gG base S L.H w _ (h.Eb (bV 0 (dx root n 0))) _ _
     rw [<-HDR.o]
     exact gG.mk' (L':={ L with li:=fun j=>if j=10 then .slice a5 (h.roots.length-1) k5 else L.li j }) HB1.o (fun b e=>e.1) rfl ⟨px,py,G,p2,HRP.o.same rfl rfl rfl rfl rfl rfl (fun _=>Iff.rfl)⟩ p3
    ·subst hB
     have HDR:Hq (h.Eb (bV 0 (dx root n 1))=h):=ah (by
      have e1:=HRR.o.2
      rw [e1] at hmem
      have e2:dx root n 1=root:=l6 (bZ.1 hmem)
      rw [e2,<-e1]
      rfl)
     clear hhit hmem hq
     go_wp2
     go_ret
     show gG base S L.H w _ (h.Eb (bV 0 (dx root n 1))) _ _
     rw [HDR.o]
     exact gG.same HX.o.p HB1.o
   |false=>
    have hmem:n ∉ h.roots:=fun c=>by rw [HHM.o.2 c] at hhit;cases hhit
    rcases hB with hB|hB
    ·subst hB
     have HDR:Hq (h.Eb (bV 0 (dx root n 0))=h):=ah (by
      have e1:=HRR.o.2
      have e2:dx root n 0=root:=l6 (by
       cases hb9:root[n]? with
       |none=>have:=List.getElem?_eq_none_iff.1 hb9;omega
       |some bb=>
        cases bb with
        |false=>rfl
        |true=>rw [e1] at hmem;exact absurd (bZ.2 hb9) hmem)
      rw [e2,<-e1]
      rfl)
     clear hhit hmem hq
     go_wp2
     go_ret
     show gG base S L.H w _ (h.Eb (bV 0 (dx root n 0))) _ _
     rw [HDR.o]
     exact gG.same HX.o.p HB1.o
    ·subst hB
     have HDR:Hq (h.roots.take q++n::h.roots.drop q=bV 0 (dx root n 1)):=ah (by
      have e1:=HRR.o.2
      have:=uY hnl (q:=q) (by rw [<-e1];exact HQ.o) (by rw [<-e1];exact hmem)
      rw [<-e1] at this
      exact this)
     have HBV:Hq (Below w4.heap.size w4 (w4.alloc (.cells #[.iface 127 (.pointer (some ⟨L.tb n,0,none⟩))] 67)).drew):=ah (aJ w4 _).drew
     have HKV:=ah (Keeps.of HBV.o (Nat.le_refl _) (fun c=>(Value.slice Aa h.roots.length cap).ownBlock=some c))
     have HIN:=ah (yG (i:=q) (vb:=w4.heap.size) (x:=.iface 127 (.pointer (some ⟨L.tb n,0,none⟩))) (aj HRO.o (Keeps.of HBV.o (Nat.le_refl _) (fun _=>False)) (fun _ _ e=>e)) HON.o (by rw [List.length_map];omega) rfl ⟨#[.iface 127 (.pointer (some ⟨L.tb n,0,none⟩))],Array.getElem?_push_size ..,rfl,fun j hj=>by rw [show j=0 by omega];rfl⟩ (fun e=>by have:=(au HRO.o e).lt;omega) (by rw [List.length_map];exact hqle) (Nat.le_trans HAP.o.bs HBV.o.size))
     clear hhit hmem hq
     go_wp2_with fail
     go_region_with (
      (go_at_call 79
       refine HIN.o.mono ?_
       rintro e5 w5 ⟨v5,rfl,ho5,hk5,hob5⟩
       obtain ⟨a5,k5,hv5⟩:=aF ho5
       subst hv5
       have H5:=ah (And.intro ho5 (And.intro (HKV.o.trans hk5) hob5))
       have hh5:=HAP.o.hp.keep H5.o.2.1 (fun e=>ak HRO.o HAP.o.hp (by decide) e)
       have t1:w5.cell? ⟨L.H,10,none⟩=some (.slice Aa h.roots.length cap):=by rw [hh5.cell (j:=10) (by omega)];exact congrArg some HRV.o
       have z105:=hh5.Jv 10
       have t2:w5.cell? ⟨F,n,none⟩=some (.pointer (some ⟨L.tb n,0,none⟩)):=(World.cell?_of_block (a:=⟨F,n,none⟩) (H5.o.2.1.block F hFl (fun e=>ak HRO.o HRF.o (by decide) e))).trans fn
       clear ho5 hk5 hob5 hh5))
     all_goals
      go_wp2
      go_ret
      obtain ⟨g1,g2,g3⟩:=H5.o
      have hel:(h.roots.map (cO L.tb 10)).take q++(.iface 127 (.pointer (some ⟨L.tb n,0,none⟩)))::(h.roots.map (cO L.tb 10)).drop q=(h.roots.take q++n::h.roots.drop q).map (cO L.tb 10):=by rw [List.map_append,List.map_cons,List.map_take,List.map_drop];rfl
      have hl1:(h.roots.take q++n::h.roots.drop q).length=h.roots.length+1:=by rw [List.length_append,List.length_cons,List.length_take,List.length_drop];omega
      rw [hel,List.length_map] at g1
      obtain ⟨-,p2,p3⟩:=HAP.o.Gm (h':=fM (h.wk px py) 10 (h.roots.take q++n::h.roots.drop q)) (G':=G) (w1:=w5) 10 (by simp [b_]) (by rw [HRV.o];exact g2) (.slice a5 (h.roots.length+1) k5) (by rw [jO (by simp [iZ]),hl1];exact g1) (fun g hg=>(g3 g (by rw [List.length_map];exact hg)).imp (fun e=>by rw [HRV.o];exact e) (fun e=>Nat.le_trans HBV.o.size e)) (gJ _ 10 _) (fun j hj hn=>gV (by simp [iZ]) hj hn _) (jf (by simp [iZ]) _ _)
      show gG base S L.H w _ (h.Eb (bV 0 (dx root n 1))) _ _
      rw [<-HDR.o]
      exact gG.mk' (L':={ L with li:=fun j=>if j=10 then .slice a5 (h.roots.length+1) k5 else L.li j }) HB1.o (fun b e=>e.1) rfl ⟨px,py,G,p2,HRP.o.same rfl rfl rfl rfl rfl rfl (fun _=>Iff.rfl)⟩ p3
  ·rw [show (decide ((0:Int)<=B)&&decide (B<=1))=false by simp;omega] at HWI
   obtain ⟨rfl,rfl⟩:=HRNG.o hcd hB
   clear hA HNO HYES HRNG hcd hB
   go_wp2_with fail
   refine HH.o.mono ?_
   rintro e2 w2 ⟨rfl,rfl⟩
   go_wp2_with fail
   refine HWI.o.mono ?_
   rintro e3 w3 ⟨rfl,rfl⟩
   go_wp2
   go_ret
   exact gG.same HX.o.p HB1.o
end Go.Proofs.YtedpifhlffcmkaaGreatDoor
