import Derived.Test.YtedpifhlffcmkaaGreatDoorKHYY0
import Derived.BigQuiet
namespace Go.Proofs.YtedpifhlffcmkaaGreatDoor
open Go Go.RowKit
set_option maxHeartbeats 6400000
set_option maxRecDepth 100000
set_option linter.unusedVariables false
variable {G G':Gh} {L:PM} {S:Nat->Prop} {base cap g i:Nat} {h h':Hp} {w w1:World} {x y:List Nat}
theorem JR.fewer (a:JR base S h G L w) (hob:∀ m o,h'.ob m=some o->h.ob m=some o) (hl:∀ k,b_ k->dh h' G k=dh h G k) (hc:∀ i,i<19->iY h G L i=iY h' G L i):JR base S h' G L w:=
 ⟨a.hp.congr hc,fun n o e=>a.ob n o (hob n o e),fun n o e=>a.en n o (hob n o e),fun n o e=>a.mp n o (hob n o e),fun k hk=>by rw [hl k hk];exact a.li k hk,fun n m o o' e e'=>a.ij n m o o' (hob _ _ e) (hob _ _ e'),fun n m o o' g e e'=>a.ei n m o o' g (hob _ _ e) (hob _ _ e'),fun n m o o' g e e'=>a.mi n m o o' g (hob _ _ e) (hob _ _ e'),a.lj,a.bH,fun n o e=>a.bt n o (hob _ _ e),fun n o g e=>a.bm n o g (hob _ _ e),a.bs,a.sH,fun n o e=>a.st n o (hob _ _ e),fun n o g e=>a.se n o g (hob _ _ e),fun n o g e=>a.sm n o g (hob _ _ e),a.sl,a.up⟩
theorem JR.lin (a:JR base S h G L w) (k:Nat) (hk:b_ k) (kk:Keeps w w1 (fun b=>(L.li k).ownBlock=some b)) (hown:w1.ownsRow base (uV k) 1 (L.li k) (dh h' G' k).length ((dh h' G' k).map (cO L.tb k)))
 (hob:∀ n,h'.ob n=h.ob n) (hls:∀ j,b_ j->j≠k->dh h' G' j=dh h G j) (hc:∀ i,i<19->iY h G L i=iY h' G' L i):JR base S h' G' L w1/\Keeps w w1 S:=by
 have he:=fE hk
 have hR:∀ {T g N:Nat} {f:Nat->Value},aD w T g N f->T≠uV k->¬ ((L.li k).ownBlock=some g):=fun h1 h3 h5=>ak (a.li k hk) h1 (Ne.symm h3) h5
 refine ⟨⟨(a.hp.keep kk (hR a.hp (Ne.symm he.1))).congr hc,fun n o e=>?_,fun n o e=>?_,fun n o e=>?_,fun j hj=>?_,?_,?_,?_,a.lj,a.bH,?_,?_,Nat.le_trans a.bs kk.size,a.sH,?_,?_,?_,a.sl,fun b hb=>a.up b (Nat.le_trans kk.size hb)⟩,kk.mono (fun b e=>a.sl k b hk e)⟩
 ·rw [hob] at e;exact (a.ob n o e).keep kk (hR (a.ob n o e) (Ne.symm he.2.1))
 ·rw [hob] at e;exact aj (a.en n o e) kk (fun g hg=>hR (au (a.en n o e) hg) (Ne.symm he.2.2))
 ·rw [hob] at e;exact (a.mp n o e).keep kk (fun b hb y=>(a.mp n o e).apart (au (a.li k hk) y) hb)
 ·by_cases c:j=k
  ·subst c;exact hown
  ·rw [hls j hj c]
   exact aj (a.li j hj) kk (fun g hg e=>c (a.lj j k g hj hk hg e))
 ·intro n m o o';rw [hob,hob];exact a.ij n m o o'
 ·intro n m o o' g;rw [hob,hob];exact a.ei n m o o' g
 ·intro n m o o' g;rw [hob,hob];exact a.mi n m o o' g
 ·intro n o;rw [hob];exact a.bt n o
 ·intro n o g;rw [hob];exact a.bm n o g
 ·intro n o;rw [hob];exact a.st n o
 ·intro n o g;rw [hob];exact a.se n o g
 ·intro n o g;rw [hob];exact a.sm n o g
theorem JR.oset (a:JR base S h G L w) (hv:L.li 7=.slice (some ⟨g,0,none⟩) G.Jt.length cap) (hi:i<G.Jt.length) (n:Nat):
 JR base S h { G with Jt:=G.Jt.set i n } L (w.setCell ⟨g,i,none⟩ (.iface 127 (.pointer (some ⟨L.tb n,0,none⟩))))/\Keeps w (w.setCell ⟨g,i,none⟩ (.iface 127 (.pointer (some ⟨L.tb n,0,none⟩)))) S:=by
 have ha:=a.li 7 (by simp [b_])
 rw [hv] at ha
 have h1:=aH ha (i:=i) (by show i<G.Jt.length*1;omega) (.iface 127 (.pointer (some ⟨L.tb n,0,none⟩)))
 refine a.lin (h':=h) (G':={ G with Jt:=G.Jt.set i n }) 7 (by simp [b_]) (Keeps.setCell (S:=fun b=>(L.li 7).ownBlock=some b) (Keeps.refl w _) (by rw [hv];simp [Value.ownBlock]) _) ?_ (fun _=>rfl) (fun j hj hn=>by rcases hj with rfl|rfl|rfl|rfl|rfl|rfl|rfl|rfl|rfl<;>first |rfl|exact absurd rfl hn) (aS _ rfl rfl rfl rfl rfl rfl rfl rfl rfl rfl rfl rfl rfl rfl rfl rfl rfl rfl rfl)
 show World.ownsRow _ base _ 1 _ (G.Jt.set i n).length ((G.Jt.set i n).map (cO L.tb 7))
 rw [List.length_set,List.map_set,hv]
 exact h1
theorem BR (c w:Nat):((c:Int) !=(w:Int))=(c !=w):=by
 rw [Bool.eq_iff_iff]
 simp
 omega
theorem Ag (a:JR base S (h.wk x y) G L w) (gd:Gd h) (hs:h.state=2) (sw:Jm G h h.D7) (hol:G.Jt.length<=20000):
 Calls Tryz.prog 129 #[.pointer (some ⟨L.H,0,none⟩)] w fun e w'=>e=.returned (.tuple #[])/\∃ L',JD L L'/\(∃ G',JR base S (h.Ec.wk x y) G' L' w'/\(h.Ec.state=2->Jm G' h.Ec h.Ec.D7)/\(h.Ec.state=0->JO G' h.Ec)/\(h.Ec.state=2∨h.Ec.state=0)/\G'.ag=G.ag/\G'.Jt.length<=G.Jt.length)/\Keeps w w' S:=by
 have hsl:=sw.sl
 have hks:=sw.ks
 obtain ⟨A,cap,hv,hcap,hget⟩:=a.EM (k:=7) (by simp [b_])
 have hv':L.li 7=.slice A G.Jt.length cap:=hv
 have c7:w.cell? ⟨L.H,7,none⟩=some (.slice A G.Jt.length cap):=by
  have:=a.hp.cell (j:=7) (by omega)
  rw [this]
  exact congrArg some hv'
 have c9:w.cell? ⟨L.H,9,none⟩=some (.int .i64 (G.Ee:Int)):=a.hp.cell (j:=9) (by omega)
 have HA:=ah a
 have HV:=ah hv'
 have HGD:=ah gd
 have HSW:=ah sw
 have HST:=ah hs
 have HGT:=ah hget
 have hHl:=a.hp.lt
 clear a hv hv' gd sw hs hget
 go_enter Tryz.func129,Tryz.ntmps129
 go_wp2_with fail
 go_quiet (fail)
 go_upto_if 12 with (fail)
 have HB1:=ah (ay (Below.refl w.heap.size w) nq)
 have HA1:=ah (HA.o.low HB1.o)
 generalize w.drewN nq=w1 at *
 go_cut [] (fun wc=>Hq (∃ L1,JD L L1/\(∃ q G1 c,JR base S (q.wk x y) G1 L1 wc/\Jr h q G1 c/\G1.ag=G.ag/\G1.Jt.length=G.Jt.length/\q.bytes<=300000)/\Keeps w wc S))
 case first=>
  by_cases hlt:G.Ee<G.Jt.length
  ·obtain ⟨n,he⟩:∃ n,G.Jt[G.Ee]?=some n:=⟨_,List.getElem?_eq_getElem hlt⟩
   obtain ⟨g,rfl,hglt,hgc⟩:=HGT.o G.Ee n he
   have hgc':w1.cell? ⟨g,G.Ee,none⟩=some (.iface 127 (.pointer (some ⟨L.tb n,0,none⟩))):=(HB1.o.cell (p:=⟨g,G.Ee,none⟩) hglt).trans hgc
   have d7:w1.cell? ⟨L.H,7,none⟩=some (.slice (some ⟨g,0,none⟩) G.Jt.length cap):=(HB1.o.cell (p:=⟨L.H,7,none⟩) hHl).trans c7
   have d9:w1.cell? ⟨L.H,9,none⟩=some (.int .i64 (G.Ee:Int)):=(HB1.o.cell (p:=⟨L.H,9,none⟩) hHl).trans c9
   obtain ⟨o,ho⟩:=(HSW.o.next he).2.1
   have HE:=ah he
   have HO:=ah ho
   have hlti:(G.Ee:Int)<(G.Jt.length:Int):=by omega
   have hNum:=HGD.o.n.free ho
   have HNU:=ah (show 1<=h.live/\40+40*o.es.length<=h.bytes from ⟨hNum.2.1,hNum.1⟩)
   clear hgc ho he c7 c9 hNum
   go_wp2_with fail
   go_quiet (fail)
   have HB2:=ah (ay (Below.refl w1.heap.size w1) nq)
   have HA2:=ah (HA1.o.low HB2.o)
   have e9:(w1.drewN nq).cell? ⟨L.H,9,none⟩=some (.int .i64 (G.Ee:Int)):=HA2.o.hp.cell (j:=9) (by omega)
   have z9:=HA2.o.hp.Jv 9
   have Q0:=ah (HA2.o.num (h':=h.wk x y) (G':={ G with Ee:=G.Ee+1 }) 9 (.int .i64 ((G.Ee:Int)+1)) (by decide) (fun _=>rfl) ⟨rfl,rfl,rfl,rfl,rfl,rfl,rfl⟩ ⟨rfl,rfl⟩ (aS _ rfl rfl rfl rfl rfl rfl rfl rfl rfl rfl rfl rfl rfl rfl rfl rfl rfl rfl rfl))
   generalize w1.drewN nq=w2 at *
   clear hgc' d7 d9
   go_upto_region 3 with (fail)
   generalize w2.setCell ⟨L.H,9,none⟩ (.int .i64 ((G.Ee:Int)+1))=w3 at *
   clear e9 z9
   have t0:w3.cell? ⟨L.tb n,0,none⟩=some (.int .i64 (o.col:Int)):=(Q0.o.1.ob n o HO.o).cell (j:=0) (by omega)
   have c1:w3.cell? ⟨L.H,1,none⟩=some (.int .i64 (h.white:Int)):=Q0.o.1.hp.cell (j:=1) (by omega)
   have hm1:=n_ (L.tb n)
   have hm2:=fK (L.tb n)
   have HHD:=ah (fun w9=>d_ w9 (L.tb n))
   have HIW:=ah (fun (m:Nat)=>jy (w3.drewN m) (L.tb n) o.col t0)
   cases hwc:eP o.col with
   |false=>
    rw [hwc] at HIW
    have HM:=ah (Jr.kept HST.o HSW.o HE.o HO.o (by rw [hwc];rfl))
    clear hwc
    go_quiet ((go_at_call 154;exact Calls.quiet_of_same (HIW.o _)))
    have HB4:=ah (ay (Below.refl w3.heap.size w3) nq)
    have HA4:=ah (Q0.o.1.low HB4.o)
    generalize w3.drewN nq=w4 at *
    clear t0 c1
    have t0:w4.cell? ⟨L.tb n,0,none⟩=some (.int .i64 (o.col:Int)):=(HA4.o.ob n o HO.o).cell (j:=0) (by omega)
    have y0:=(HA4.o.ob n o HO.o).Jv 0
    have c1:w4.cell? ⟨L.H,1,none⟩=some (.int .i64 (h.white:Int)):=HA4.o.hp.cell (j:=1) (by omega)
    have Q5:=ah (HA4.o.JE n 0 (.int .i64 (h.white:Int)) (fun o=>{ o with col:=h.white }) (by decide) HO.o ⟨rfl,rfl⟩ (bK _ rfl rfl rfl rfl rfl rfl rfl rfl rfl rfl rfl rfl rfl))
    go_wp2_with fail
    go_cut [] (fun wc=>wc=(w4.setCell ⟨L.tb n,0,none⟩ (.int .i64 (h.white:Int))).drewN 1)
    case first=>
     go_region_with (go_at_call 181;refine (HHD.o _).mono ?_;rintro e9 w9 ⟨rfl,rfl⟩)
     all_goals
      go_wp2_with fail
      go_meet
      rfl
    case rest=>
    obtain rfl:=hcut
    have HB5:=ah (ay (Below.refl (w4.setCell ⟨L.tb n,0,none⟩ (.int .i64 (h.white:Int))).heap.size (w4.setCell ⟨L.tb n,0,none⟩ (.int .i64 (h.white:Int)))) 1)
    have HA5:=ah (Q5.o.1.low HB5.o)
    have HK5:=ah (Q5.o.2.trans (Keeps.of HB5.o (Nat.le_refl _) S))
    generalize (w4.setCell ⟨L.tb n,0,none⟩ (.int .i64 (h.white:Int))).drewN 1=w5 at *
    clear t0 y0 c1 hm1 hm2
    have hrg:=au (HA5.o.li 7 (by simp [b_])) (g:=g) (by rw [HV.out];simp [Value.ownBlock])
    have d7:w5.cell? ⟨L.H,7,none⟩=some (.slice (some ⟨g,0,none⟩) G.Jt.length cap):=by
     have:=HA5.o.hp.cell (j:=7) (by omega)
     rw [this]
     exact congrArg some HV.out
    have d8:w5.cell? ⟨L.H,8,none⟩=some (.int .i64 (G.kept:Int)):=HA5.o.hp.cell (j:=8) (by omega)
    have hkl:G.kept<G.Jt.length:=by omega
    have hkli:(G.kept:Int)<(G.Jt.length:Int):=by omega
    obtain ⟨m9,hm9⟩:∃ m9,G.Jt[G.kept]?=some m9:=⟨_,List.getElem?_eq_getElem hkl⟩
    have hck:w5.cell? ⟨g,G.kept,none⟩=some (.iface 127 (.pointer (some ⟨L.tb m9,0,none⟩))):=by
     obtain ⟨A1,cap1,hv1,-,hg1⟩:=HA5.o.EM (k:=7) (by simp [b_])
     have h9:=hv1.symm.trans HV.out
     simp only [Value.slice.injEq] at h9
     obtain ⟨g1,hA1,-,hc1⟩:=hg1 G.kept m9 hm9
     rw [hA1] at h9
     simp only [Option.some.injEq,Addr.mk.injEq] at h9
     obtain ⟨⟨rfl,-⟩,-⟩:=h9
     exact hc1
    have yk:=hrg.Jv G.kept
    have Q6:=ah (HA5.o.oset HV.out hkl n)
    have hHg:L.H≠g:=fun e=>HA5.o.hp.apart hrg (by decide) e
    clear hrg hm9
    go_wp2_with fail
    go_cut [] (fun wc=>wc=(w5.setCell ⟨g,G.kept,none⟩ (.iface 127 (.pointer (some ⟨L.tb n,0,none⟩)))).drewN 1)
    case first=>
     go_region
     all_goals
      go_wp2_with fail
      go_meet
      rfl
    case rest=>
    obtain rfl:=hcut
    have HB6:=ah (ay (Below.refl (w5.setCell ⟨g,G.kept,none⟩ (.iface 127 (.pointer (some ⟨L.tb n,0,none⟩)))).heap.size (w5.setCell ⟨g,G.kept,none⟩ (.iface 127 (.pointer (some ⟨L.tb n,0,none⟩))))) 1)
    have HA6:=ah (Q6.o.1.low HB6.o)
    have HK6:=ah (Q6.o.2.trans (Keeps.of HB6.o (Nat.le_refl _) S))
    generalize (w5.setCell ⟨g,G.kept,none⟩ (.iface 127 (.pointer (some ⟨L.tb n,0,none⟩)))).drewN 1=w6 at *
    clear d7 d8 hck yk
    have e8:w6.cell? ⟨L.H,8,none⟩=some (.int .i64 (G.kept:Int)):=HA6.o.hp.cell (j:=8) (by omega)
    have z8:=HA6.o.hp.Jv 8
    have Q7:=ah (HA6.o.num (h':=(h.wk x y).upd n fun o=>{ o with col:=h.white }) (G':={ G with Ee:=G.Ee+1,kept:=G.kept+1,Jt:=G.Jt.set G.kept n }) 8 (.int .i64 ((G.kept:Int)+1)) (by decide) (fun _=>rfl) ⟨rfl,rfl,rfl,rfl,rfl,rfl,rfl⟩ ⟨rfl,rfl⟩ (aS _ rfl rfl rfl rfl rfl rfl rfl rfl rfl rfl rfl rfl rfl rfl rfl rfl rfl rfl rfl))
    go_wp2_with fail
    go_meet
    exact ⟨L,JD.refl L,⟨{ h.upd n (fun o=>{ o with col:=h.white }) with D7:=n+1 },{ G with Ee:=G.Ee+1,kept:=G.kept+1,Jt:=G.Jt.set G.kept n },n+1,Q7.o.1.aux h.again (n+1),HM.o,rfl,List.length_set ..,by have:=HGD.o.s.JQ;show h.bytes<=300000;omega⟩,((((Keeps.of HB1.o (Nat.le_refl _) S).trans (Keeps.of HB2.o (Nat.le_refl _) S)).trans Q0.o.2).trans ((Keeps.of HB4.o (Nat.le_refl _) S).trans HK5.o)).trans (HK6.o.trans Q7.o.2)⟩
   |true=>
    rw [hwc] at HIW
    have hne:=BR o.col h.white
    cases hcc:(o.col !=h.white) with
    |false=>
     rw [hcc] at hne
     have HM:=ah (Jr.kept HST.o HSW.o HE.o HO.o (by rw [hwc,hcc];rfl))
     clear hwc hcc
     go_quiet ((first |(go_at_call 154;exact Calls.quiet_of_same (HIW.o _))|(go_at_call 181;exact Calls.quiet_of_same (HHD.o _))))
     clear hne
     have HB4:=ah (ay (Below.refl w3.heap.size w3) nq)
     have HA4:=ah (Q0.o.1.low HB4.o)
     generalize w3.drewN nq=w4 at *
     clear t0 c1
     have t0:w4.cell? ⟨L.tb n,0,none⟩=some (.int .i64 (o.col:Int)):=(HA4.o.ob n o HO.o).cell (j:=0) (by omega)
     have y0:=(HA4.o.ob n o HO.o).Jv 0
     have c1:w4.cell? ⟨L.H,1,none⟩=some (.int .i64 (h.white:Int)):=HA4.o.hp.cell (j:=1) (by omega)
     have Q5:=ah (HA4.o.JE n 0 (.int .i64 (h.white:Int)) (fun o=>{ o with col:=h.white }) (by decide) HO.o ⟨rfl,rfl⟩ (bK _ rfl rfl rfl rfl rfl rfl rfl rfl rfl rfl rfl rfl rfl))
     go_wp2_with fail
     go_cut [] (fun wc=>wc=(w4.setCell ⟨L.tb n,0,none⟩ (.int .i64 (h.white:Int))).drewN 1)
     case first=>
      go_region_with (go_at_call 181;refine (HHD.o _).mono ?_;rintro e9 w9 ⟨rfl,rfl⟩)
      all_goals
       go_wp2_with fail
       go_meet
       rfl
     case rest=>
     obtain rfl:=hcut
     have HB5:=ah (ay (Below.refl (w4.setCell ⟨L.tb n,0,none⟩ (.int .i64 (h.white:Int))).heap.size (w4.setCell ⟨L.tb n,0,none⟩ (.int .i64 (h.white:Int)))) 1)
     have HA5:=ah (Q5.o.1.low HB5.o)
     have HK5:=ah (Q5.o.2.trans (Keeps.of HB5.o (Nat.le_refl _) S))
     generalize (w4.setCell ⟨L.tb n,0,none⟩ (.int .i64 (h.white:Int))).drewN 1=w5 at *
     clear t0 y0 c1 hm1 hm2
     have hrg:=au (HA5.o.li 7 (by simp [b_])) (g:=g) (by rw [HV.out];simp [Value.ownBlock])
     have d7:w5.cell? ⟨L.H,7,none⟩=some (.slice (some ⟨g,0,none⟩) G.Jt.length cap):=by
      have:=HA5.o.hp.cell (j:=7) (by omega)
      rw [this]
      exact congrArg some HV.out
     have d8:w5.cell? ⟨L.H,8,none⟩=some (.int .i64 (G.kept:Int)):=HA5.o.hp.cell (j:=8) (by omega)
     have hkl:G.kept<G.Jt.length:=by omega
     have hkli:(G.kept:Int)<(G.Jt.length:Int):=by omega
     obtain ⟨m9,hm9⟩:∃ m9,G.Jt[G.kept]?=some m9:=⟨_,List.getElem?_eq_getElem hkl⟩
     have hck:w5.cell? ⟨g,G.kept,none⟩=some (.iface 127 (.pointer (some ⟨L.tb m9,0,none⟩))):=by
      obtain ⟨A1,cap1,hv1,-,hg1⟩:=HA5.o.EM (k:=7) (by simp [b_])
      have h9:=hv1.symm.trans HV.out
      simp only [Value.slice.injEq] at h9
      obtain ⟨g1,hA1,-,hc1⟩:=hg1 G.kept m9 hm9
      rw [hA1] at h9
      simp only [Option.some.injEq,Addr.mk.injEq] at h9
      obtain ⟨⟨rfl,-⟩,-⟩:=h9
      exact hc1
     have yk:=hrg.Jv G.kept
     have Q6:=ah (HA5.o.oset HV.out hkl n)
     have hHg:L.H≠g:=fun e=>HA5.o.hp.apart hrg (by decide) e
     clear hrg hm9
     go_wp2_with fail
     go_cut [] (fun wc=>wc=(w5.setCell ⟨g,G.kept,none⟩ (.iface 127 (.pointer (some ⟨L.tb n,0,none⟩)))).drewN 1)
     case first=>
      go_region
      all_goals
       go_wp2_with fail
       go_meet
       rfl
     case rest=>
     obtain rfl:=hcut
     have HB6:=ah (ay (Below.refl (w5.setCell ⟨g,G.kept,none⟩ (.iface 127 (.pointer (some ⟨L.tb n,0,none⟩)))).heap.size (w5.setCell ⟨g,G.kept,none⟩ (.iface 127 (.pointer (some ⟨L.tb n,0,none⟩))))) 1)
     have HA6:=ah (Q6.o.1.low HB6.o)
     have HK6:=ah (Q6.o.2.trans (Keeps.of HB6.o (Nat.le_refl _) S))
     generalize (w5.setCell ⟨g,G.kept,none⟩ (.iface 127 (.pointer (some ⟨L.tb n,0,none⟩)))).drewN 1=w6 at *
     clear d7 d8 hck yk
     have e8:w6.cell? ⟨L.H,8,none⟩=some (.int .i64 (G.kept:Int)):=HA6.o.hp.cell (j:=8) (by omega)
     have z8:=HA6.o.hp.Jv 8
     have Q7:=ah (HA6.o.num (h':=(h.wk x y).upd n fun o=>{ o with col:=h.white }) (G':={ G with Ee:=G.Ee+1,kept:=G.kept+1,Jt:=G.Jt.set G.kept n }) 8 (.int .i64 ((G.kept:Int)+1)) (by decide) (fun _=>rfl) ⟨rfl,rfl,rfl,rfl,rfl,rfl,rfl⟩ ⟨rfl,rfl⟩ (aS _ rfl rfl rfl rfl rfl rfl rfl rfl rfl rfl rfl rfl rfl rfl rfl rfl rfl rfl rfl))
     go_wp2_with fail
     go_meet
     exact ⟨L,JD.refl L,⟨{ h.upd n (fun o=>{ o with col:=h.white }) with D7:=n+1 },{ G with Ee:=G.Ee+1,kept:=G.kept+1,Jt:=G.Jt.set G.kept n },n+1,Q7.o.1.aux h.again (n+1),HM.o,rfl,List.length_set ..,by have:=HGD.o.s.JQ;show h.bytes<=300000;omega⟩,((((Keeps.of HB1.o (Nat.le_refl _) S).trans (Keeps.of HB2.o (Nat.le_refl _) S)).trans Q0.o.2).trans ((Keeps.of HB4.o (Nat.le_refl _) S).trans HK5.o)).trans (HK6.o.trans Q7.o.2)⟩
    |true=>
     rw [hcc] at hne
     have HM:=ah (Jr.freed HST.o HSW.o HE.o HO.o (by rw [hwc,hcc];rfl))
     clear hwc hcc
     go_quiet ((first |(go_at_call 154;exact Calls.quiet_of_same (HIW.o _))|(go_at_call 181;exact Calls.quiet_of_same (HHD.o _))))
     have HB4:=ah (ay (Below.refl w3.heap.size w3) nq)
     have HA4:=ah (Q0.o.1.low HB4.o)
     generalize w3.drewN nq=w4 at *
     have HFR:=ah (vV HA4.o (n:=n) (o:=o) HO.o HNU.o.1 (by have:=HGD.o.s.fr;show h.live<=20000;omega) HNU.o.2 (by have:=HGD.o.s.JQ;show h.bytes<=300000;omega) (by have:=HGD.o.s.fr;show h.freed.length<=20000;omega))
     clear t0 c1 hne
     go_wp2_with fail
     refine (HHD.o _).mono ?_
     rintro e5 w5 ⟨rfl,rfl⟩
     go_wp2_with fail
     refine HFR.o.mono ?_
     rintro e6 w6 ⟨rfl,L6,hl6,ha6,hk6⟩
     have H6:=ah (And.intro hl6 (And.intro ha6 hk6))
     clear hl6 ha6 hk6
     go_wp2_with fail
     go_meet
     refine ⟨L6,H6.o.1,⟨_,_,_,?_,HM.o,rfl,rfl,?_⟩,(((Keeps.of HB1.o (Nat.le_refl _) S).trans (Keeps.of HB2.o (Nat.le_refl _) S)).trans Q0.o.2).trans ((Keeps.of HB4.o (Nat.le_refl _) S).trans H6.o.2.2)⟩
     ·refine (H6.o.2.1.fewer (h':=Hp.wk { h with objs:=h.objs.set n none,live:=h.live-1,bytes:=h.bytes-o.size,freed:=h.freed++[n],D7:=n+1 } x y) ?_ (fun j hj=>by rcases hj with rfl|rfl|rfl|rfl|rfl|rfl|rfl|rfl|rfl<;>rfl) ?_)
      ·intro m o' e
       show h.ob m=some o'
       have e':(((h.objs.set n none)[m]?).join:Option Ob)=some o':=e
       rw [List.getElem?_set] at e'
       split at e'
       ·split at e'<;>simp at e'
       ·exact e'
      ·have hle:(h.objs.set n none).length=h.objs.length:=List.length_set ..
       intro i hi
       unfold iY
       simp only [Hp.wk,hle]
       rfl
     ·have:=HGD.o.s.JQ
      show h.bytes-o.size<=300000
      omega
  ·have hlt':¬ ((G.Ee:Int)<(G.Jt.length:Int)):=by omega
   have HM:=ah (Jr.fin HST.o (HGD.o.i.s2 HST.o).2.2.1 HSW.o (by omega))
   clear hlt
   go_wp2_with fail
   go_meet
   exact ⟨L,JD.refl L,⟨h,G,h.D7,HA1.o,HM.o,rfl,rfl,by have:=HGD.o.s.JQ;omega⟩,Keeps.of HB1.o (Nat.le_refl _) S⟩
 case rest=>
 rename World=>w2
 obtain ⟨L1,pl1,⟨q,G1,c,ha1,hm1,hag,hob,hby⟩,hk1⟩:=hcut.out
 obtain ⟨H1,tb1,es1,mp1,li1⟩:=L1
 obtain rfl:H1=L.H:=pl1.H
 obtain ⟨A2,cap2,hv2,hcap2,-⟩:=ha1.EM (k:=7) (by simp [b_])
 have hsl2:=hm1.x.sl
 have hks2:=hm1.x.ks
 have hol2:G1.Jt.length<=20000:=by omega
 have c7':w2.cell? ⟨L.H,7,none⟩=some (.slice A2 G1.Jt.length cap2):=by
  have:=ha1.hp.cell (j:=7) (by omega)
  rw [this]
  exact congrArg some hv2
 have c9':w2.cell? ⟨L.H,9,none⟩=some (.int .i64 (G1.Ee:Int)):=ha1.hp.cell (j:=9) (by omega)
 have P1:=ah (And.intro pl1 (And.intro ha1 hk1))
 have HM:=ah hm1
 have HAG:=ah (And.intro hag hob)
 clear hcut pl1 ha1 hk1 hm1 hag hob hv2 hcap2 c7 c9 HA HA1 HB1 HGT
 go_wp2_with fail
 go_quiet (fail)
 have HB2:=ah (ay (Below.refl w2.heap.size w2) nq)
 have HA2:=ah (P1.o.2.1.low HB2.o)
 generalize w2.drewN nq=w3 at *
 clear c7' c9'
 by_cases hlast:G1.Ee=G1.Jt.length
 ·have hq:((G1.Ee:Int)==(G1.Jt.length:Int))=true:=by rw [hlast];simp
  have HLA:=ah (HM.o.x.last hlast HM.o.l)
  have HEC:=ah (zq HA2.o (by omega) hol2 hby)
  have HEQ:Hq (h.Ec={ q with D7:=q.objs.length,state:=0,limit:=max (2*q.bytes) 4096,D6:=0 }):=ah (by
   rw [HM.o.e,HLA.o.1]
   unfold Hp.close
   rw [if_neg (by show ¬ q.objs.length<q.objs.length;omega)])
  clear hlast
  go_wp2_with fail
  refine HEC.o.mono ?_
  rintro e4 w4 ⟨rfl,L4,hl4,ha4,hk4⟩
  have H4:=ah (And.intro hl4 (And.intro ha4 hk4))
  clear hl4 ha4 hk4
  go_wp2
  go_end0
  refine ⟨rfl,L4,P1.o.1.trans H4.o.1,⟨{ G1 with Jt:=G1.Jt.take G1.kept },?_,?_,?_,?_,HAG.o.1,?_⟩,(P1.o.2.2.trans (Keeps.of HB2.o (Nat.le_refl _) S)).trans H4.o.2.2⟩
  ·rw [HEQ.o];exact H4.o.2.1.aux q.again q.objs.length
  ·rw [HEQ.o];intro c;cases c
  ·rw [HEQ.o];intro _;exact HLA.o.2.of (fun n=>Iff.rfl)
  ·rw [HEQ.o];exact .inr rfl
  ·have h9:=HAG.o.2
   show (G1.Jt.take G1.kept).length<=G.Jt.length
   rw [List.length_take]
   omega
 ·have hq:((G1.Ee:Int)==(G1.Jt.length:Int))=false:=by simp;omega
  obtain ⟨n,hn⟩:∃ n,G1.Jt[G1.Ee]?=some n:=⟨_,List.getElem?_eq_getElem (by omega)⟩
  obtain ⟨x1,x2,x3,x4⟩:=HM.o.x.next hn
  have hnl:n<q.objs.length:=by obtain ⟨o,ho⟩:=x2;exact Hp.Es ho
  have HEQ:Hq (h.Ec={ q with D7:=n }):=ah (by
   rw [HM.o.e,x3]
   unfold Hp.close
   rw [if_pos hnl])
  have HX4:=ah x4
  clear hlast x1 x2 x3 x4 hn hnl
  go_wp2
  go_end0
  refine ⟨rfl,_,P1.o.1,⟨G1,?_,?_,?_,?_,HAG.o.1,Nat.le_of_eq HAG.o.2⟩,P1.o.2.2.trans (Keeps.of HB2.o (Nat.le_refl _) S)⟩
  ·rw [HEQ.o];exact HA2.o.aux q.again n
  ·rw [HEQ.o];intro _;exact ⟨HX4.o.ks,HX4.o.sl,HX4.o.ku,HX4.o.kl,HX4.o.du,HX4.o.dl⟩
  ·rw [HEQ.o];intro c;have h9:=HM.o.s;rw [show Hp.state { q with D7:=n }=q.state from rfl,h9] at c;cases c
  ·rw [HEQ.o];exact .inl HM.o.s
end Go.Proofs.YtedpifhlffcmkaaGreatDoor
