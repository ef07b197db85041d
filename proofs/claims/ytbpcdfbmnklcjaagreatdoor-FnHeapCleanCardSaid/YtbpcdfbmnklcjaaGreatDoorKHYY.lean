import Derived.Test.YtbpcdfbmnklcjaaGreatDoorKHYY0
import Derived.BigQuiet
namespace Go.Proofs.YtbpcdfbmnklcjaaGreatDoor
open Go Go.RowKit
set_option maxHeartbeats 6400000
set_option maxRecDepth 100000
set_option linter.unusedVariables false
variable {G G':Gh} {L:PM} {S:Nat->Prop} {base cap i:Nat} {h h':Hp} {w w1:World} {x y:List Nat}
theorem M0.fewer (a:M0 base S h G L w) (b:∀ m o,h'.ob m=some o->h.ob m=some o) (c:∀ k,eF k->eU h' G k=eU h G k) (d:∀ i,i<19->kK h G L i=kK h' G L i):M0 base S h' G L w:=
 ⟨a.hp.congr d,fun n o e=>a.ob n o (b n o e),fun n o e=>a.en n o (b n o e),fun n o e=>a.mp n o (b n o e),fun k hk=>by rw [c k hk];exact a.li k hk,fun n m o o' e e'=>a.ij n m o o' (b _ _ e) (b _ _ e'),fun n m o o' g e e'=>a.ei n m o o' g (b _ _ e) (b _ _ e'),fun n m o o' g e e'=>a.mi n m o o' g (b _ _ e) (b _ _ e'),a.lj,a.bH,fun n o e=>a.bt n o (b _ _ e),fun n o g e=>a.bm n o g (b _ _ e),a.bs,a.sH,fun n o e=>a.st n o (b _ _ e),fun n o g e=>a.se n o g (b _ _ e),fun n o g e=>a.sm n o g (b _ _ e),a.sl,a.up⟩
theorem M0.lin (a:M0 base S h G L w) (k:Nat) (hk:eF k) (kk:Keeps w w1 (fun b=>(L.li k).ownBlock=some b)) (hown:w1.ownsRow base (xQ k) 1 (L.li k) (eU h' G' k).length ((eU h' G' k).map (eP L.tb k)))
 (d:∀ n,h'.ob n=h.ob n) (p:∀ j,eF j->j≠k->eU h' G' j=eU h G j) (s:∀ i,i<19->kK h G L i=kK h' G' L i):M0 base S h' G' L w1/\Keeps w w1 S:=by
 have q:=iH hk;have r:∀ {T g N:Nat} {f:Nat->Value},aD w T g N f->T≠xQ k->¬ ((L.li k).ownBlock=some g):=fun h1 h3 h5=>ak (a.li k hk) h1 (Ne.symm h3) h5;refine ⟨⟨(a.hp.keep kk (r a.hp (Ne.symm q.1))).congr s,fun n o e=>?_,fun n o e=>?_,fun n o e=>?_,fun j hj=>?_,?_,?_,?_,a.lj,a.bH,?_,?_,aI a.bs kk.size,a.sH,?_,?_,?_,a.sl,fun b hb=>a.up b (aI kk.size hb)⟩,kk.mono (fun b e=>a.sl k b hk e)⟩
 ·rw [d] at e;exact (a.ob n o e).keep kk (r (a.ob n o e) (Ne.symm q.2.1))
 ·rw [d] at e;exact aj (a.en n o e) kk (fun g hg=>r (ay (a.en n o e) hg) (Ne.symm q.2.2))
 ·rw [d] at e;exact (a.mp n o e).keep kk (fun b hb y=>(a.mp n o e).apart (ay (a.li k hk) y) hb)
 ·by_cases c:j=k
  ·subst c;exact hown
  ·rw [p j hj c]
   exact aj (a.li j hj) kk (fun g hg e=>c (a.lj j k g hj hk hg e))
 ·intro n m o l;rw [d,d];exact a.ij n m o l
 ·intro n m o l g;rw [d,d];exact a.ei n m o l g
 ·intro n m o l g;rw [d,d];exact a.mi n m o l g
 ·intro n o;rw [d];exact a.bt n o
 ·intro n o g;rw [d];exact a.bm n o g
 ·intro n o;rw [d];exact a.st n o
 ·intro n o g;rw [d];exact a.se n o g
 ·intro n o g;rw [d];exact a.sm n o g
theorem M0.oset (a:M0 base S h G L w) {g:Nat} (c:L.li 7=.slice (some ⟨g,0,none⟩) G.Ns.length cap) (hi:i<G.Ns.length) (n:Nat):
 M0 base S h { G with Ns:=G.Ns.set i n } L (w.setCell ⟨g,i,none⟩ (.iface 127 (.pointer (some ⟨L.tb n,0,none⟩))))/\Keeps w (w.setCell ⟨g,i,none⟩ (.iface 127 (.pointer (some ⟨L.tb n,0,none⟩)))) S:=by
 have d:=a.li 7 (by simp [eF]);rw [c] at d;have e:=aL d (i:=i) (by show i<G.Ns.length*1;omega) (.iface 127 (.pointer (some ⟨L.tb n,0,none⟩)));refine a.lin (h':=h) (G':={ G with Ns:=G.Ns.set i n }) 7 (by simp [eF]) (Keeps.setCell (S:=fun b=>(L.li 7).ownBlock=some b) (Keeps.refl w _) (by rw [c];simp [Value.ownBlock]) _) ?_ (fun _=>rfl) (fun j hj hn=>by rcases hj with rfl|rfl|rfl|rfl|rfl|rfl|rfl|rfl|rfl<;>first |rfl|exact absurd rfl hn) (bJ _ rfl rfl rfl rfl rfl rfl rfl rfl rfl rfl rfl rfl rfl rfl rfl rfl rfl rfl rfl);show World.ownsRow _ base _ 1 _ (G.Ns.set i n).length ((G.Ns.set i n).map (eP L.tb 7));rw [bX,List.map_set,c];exact e
theorem EA (c w:Nat):((c:Int) !=(w:Int))=(c !=w):=by
 rw [Bool.eq_iff_iff];simp;omega
theorem BA (a:M0 base S (h.wk x y) G L w) (gd:Gd h) (hs:h.state=2) (sw:Nh G h h.G9) (g7:G.Ns.length<=20000):
 Calls Tryz.prog 129 #[.pointer (some ⟨L.H,0,none⟩)] w fun e w'=>e=.returned (.tuple #[])/\∃ L',Nf L L'/\(∃ G',M0 base S (h.Hg.wk x y) G' L' w'/\(h.Hg.state=2->Nh G' h.Hg h.Hg.G9)/\(h.Hg.state=0->MX G' h.Hg)/\(h.Hg.state=2∨h.Hg.state=0)/\G'.ag=G.ag/\G'.Ns.length<=G.Ns.length)/\Keeps w w' S:=by
 have g6:=sw.sl;have g8:=sw.ks;obtain ⟨A,cap,hv,g2,a3⟩:=a.II (k:=7) (by simp [eF]);have a6:L.li 7=.slice A G.Ns.length cap:=hv;have c7:w.cell? ⟨L.H,7,none⟩=some (.slice A G.Ns.length cap):=by
  have:=a.hp.c 7;rw [this];exact congrArg some a6
 have c9:w.cell? ⟨L.H,9,none⟩=some (.int .i64 (G.Ht:Int)):=a.hp.c 9;have HA:=ah a;have HV:=ah a6;have t:=ah gd;have U:=ah sw;have V:=ah hs;have e7:=ah a3;have d6:=a.hp.lt;clear a hv a6 gd sw hs a3;go_enter Tryz.func129,Tryz.ntmps129;go_wp2_with fail;go_quiet (fail)
 go_upto_if 12 with (fail)
 have v:=ah (aC (aT w.heap.size w) nq);have b4:=ah (HA.o.low v.o);generalize w.drewN nq=w1 at *
 go_cut [] (fun wc=>Hq (∃ L1,Nf L L1/\(∃ q f c,M0 base S (q.wk x y) f L1 wc/\M9 h q f c/\f.ag=G.ag/\f.Ns.length=G.Ns.length/\q.bytes<=300000)/\Keeps w wc S))
 case first=>
  by_cases c0:G.Ht<G.Ns.length
  ·obtain ⟨n,he⟩:∃ n,G.Ns[G.Ht]?=some n:=⟨_,aN c0⟩
   obtain ⟨g,rfl,d0,d2⟩:=e7.o G.Ht n he;have d1:w1.cell? ⟨g,G.Ht,none⟩=some (.iface 127 (.pointer (some ⟨L.tb n,0,none⟩))):=(v.o.cell (p:=⟨g,G.Ht,none⟩) d0).trans d2;have d7:w1.cell? ⟨L.H,7,none⟩=some (.slice (some ⟨g,0,none⟩) G.Ns.length cap):=(v.o.cell (p:=⟨L.H,7,none⟩) d6).trans c7;have d9:w1.cell? ⟨L.H,9,none⟩=some (.int .i64 (G.Ht:Int)):=(v.o.cell (p:=⟨L.H,9,none⟩) d6).trans c9;obtain ⟨o,ho⟩:=(U.o.next he).2.1;have HE:=ah he;have W:=ah ho;have f8:(G.Ht:Int)<(G.Ns.length:Int):=by omega
   have T:=t.o.n.free ho;have e2:=ah (show 1<=h.live/\40+40*o.es.length<=h.bytes from ⟨T.2.1,T.1⟩);clear d2 ho he c7 c9 T;go_wp2_with fail;go_quiet (fail);have B:=ah (aC (aT w1.heap.size w1) nq);have M:=ah (b4.o.low B.o);have e9:(w1.drewN nq).cell? ⟨L.H,9,none⟩=some (.int .i64 (G.Ht:Int)):=M.o.hp.c 9;have z9:=M.o.hp.ME 9;have Q0:=ah (M.o.num (h':=h.wk x y) (G':={ G with Ht:=G.Ht+1 }) 9 (.int .i64 ((G.Ht:Int)+1)) (by decide) (fun _=>rfl) ⟨rfl,rfl,rfl,rfl,rfl,rfl,rfl⟩ ⟨rfl,rfl⟩ (bJ _ rfl rfl rfl rfl rfl rfl rfl rfl rfl rfl rfl rfl rfl rfl rfl rfl rfl rfl rfl));generalize w1.drewN nq=w2 at *;clear d1 d7 d9;go_upto_region 3 with (fail)
   generalize w2.setCell ⟨L.H,9,none⟩ (.int .i64 ((G.Ht:Int)+1))=w3 at *;clear e9 z9;have t0:w3.cell? ⟨L.tb n,0,none⟩=some (.int .i64 (o.col:Int)):=(Q0.o.1.ob n o W.o).c 0;have c1:w3.cell? ⟨L.H,1,none⟩=some (.int .i64 (h.white:Int)):=Q0.o.1.hp.c 1;have E:=rD (L.tb n);have b9:=iO (L.tb n);have Y:=ah (fun w9=>gV w9 (L.tb n));have X:=ah (fun (m:Nat)=>lY (w3.drewN m) (L.tb n) o.col t0);cases hwc:fU o.col with
   |false=>
    rw [hwc] at X;have F:=ah (M9.kept V.o U.o HE.o W.o (by rw [hwc];rfl));clear hwc;go_quiet ((go_at_call 154;exact Calls.quiet_of_same (X.o _)));have z:=ah (aC (aT w3.heap.size w3) nq);have d:=ah (Q0.o.1.low z.o);generalize w3.drewN nq=w4 at *;clear t0 c1;have t0:w4.cell? ⟨L.tb n,0,none⟩=some (.int .i64 (o.col:Int)):=(d.o.ob n o W.o).c 0;have y0:=(d.o.ob n o W.o).ME 0;have c1:w4.cell? ⟨L.H,1,none⟩=some (.int .i64 (h.white:Int)):=d.o.hp.c 1;have Q5:=ah (d.o.Mk n 0 (.int .i64 (h.white:Int)) (fun o=>{ o with col:=h.white }) (by decide) W.o ⟨rfl,rfl⟩ (dz _ rfl rfl rfl rfl rfl rfl rfl rfl rfl rfl rfl rfl rfl));go_wp2_with fail
    go_cut [] (fun wc=>wc=(w4.setCell ⟨L.tb n,0,none⟩ (.int .i64 (h.white:Int))).drewN 1)
    case first=>
     go_region_with (go_at_call 181;refine (Y.o _).mono ?_;rintro e9 w9 ⟨rfl,rfl⟩)
     all_goals
      go_wp2_with fail;go_meet;rfl
    case rest=>
    obtain rfl:=hcut;have a0:=ah (aC (aT (w4.setCell ⟨L.tb n,0,none⟩ (.int .i64 (h.white:Int))).heap.size (w4.setCell ⟨L.tb n,0,none⟩ (.int .i64 (h.white:Int)))) 1);have b:=ah (Q5.o.1.low a0.o);have b3:=ah (Q5.o.2.trans (Keeps.of a0.o (au _) S));generalize (w4.setCell ⟨L.tb n,0,none⟩ (.int .i64 (h.white:Int))).drewN 1=C at *;clear t0 y0 c1 E b9;have D:=ay (b.o.li 7 (by simp [eF])) (g:=g) (by rw [HV.out];simp [Value.ownBlock]);have d7:C.cell? ⟨L.H,7,none⟩=some (.slice (some ⟨g,0,none⟩) G.Ns.length cap):=by
     have:=b.o.hp.c 7;rw [this];exact congrArg some HV.out
    have d8:C.cell? ⟨L.H,8,none⟩=some (.int .i64 (G.kept:Int)):=b.o.hp.c 8;have Q:G.kept<G.Ns.length:=by omega
    have c4:(G.kept:Int)<(G.Ns.length:Int):=by omega
    obtain ⟨m9,P⟩:∃ m9,G.Ns[G.kept]?=some m9:=⟨_,aN Q⟩
    have a8:C.cell? ⟨g,G.kept,none⟩=some (.iface 127 (.pointer (some ⟨L.tb m9,0,none⟩))):=by
     obtain ⟨A1,e1,a5,-,a7⟩:=b.o.II (k:=7) (by simp [eF]);have N:=a5.symm.trans HV.out;simp only [Value.slice.injEq] at N;obtain ⟨g1,b1,-,b0⟩:=a7 G.kept m9 P;rw [b1] at N;simp only [Option.some.injEq,Addr.mk.injEq] at N;obtain ⟨⟨rfl,-⟩,-⟩:=N;exact b0
    have yk:=D.ME G.kept;have Q6:=ah (b.o.oset HV.out Q n);have f2:L.H≠g:=fun e=>b.o.hp.apart D (by decide) e;clear D P;go_wp2_with fail
    go_cut [] (fun wc=>wc=(C.setCell ⟨g,G.kept,none⟩ (.iface 127 (.pointer (some ⟨L.tb n,0,none⟩)))).drewN 1)
    case first=>
     go_region
     all_goals
      go_wp2_with fail;go_meet;rfl
    case rest=>
    obtain rfl:=hcut;have Z:=ah (aC (aT (C.setCell ⟨g,G.kept,none⟩ (.iface 127 (.pointer (some ⟨L.tb n,0,none⟩)))).heap.size (C.setCell ⟨g,G.kept,none⟩ (.iface 127 (.pointer (some ⟨L.tb n,0,none⟩))))) 1);have J:=ah (Q6.o.1.low Z.o);have b2:=ah (Q6.o.2.trans (Keeps.of Z.o (au _) S));generalize (C.setCell ⟨g,G.kept,none⟩ (.iface 127 (.pointer (some ⟨L.tb n,0,none⟩)))).drewN 1=w6 at *;clear d7 d8 a8 yk;have e8:w6.cell? ⟨L.H,8,none⟩=some (.int .i64 (G.kept:Int)):=J.o.hp.c 8;have z8:=J.o.hp.ME 8;have Q7:=ah (J.o.num (h':=(h.wk x y).upd n fun o=>{ o with col:=h.white }) (G':={ G with Ht:=G.Ht+1,kept:=G.kept+1,Ns:=G.Ns.set G.kept n }) 8 (.int .i64 ((G.kept:Int)+1)) (by decide) (fun _=>rfl) ⟨rfl,rfl,rfl,rfl,rfl,rfl,rfl⟩ ⟨rfl,rfl⟩ (bJ _ rfl rfl rfl rfl rfl rfl rfl rfl rfl rfl rfl rfl rfl rfl rfl rfl rfl rfl rfl));go_wp2_with fail;go_meet;exact ⟨L,Nf.refl L,⟨{ h.upd n (fun o=>{ o with col:=h.white }) with G9:=n+1 },{ G with Ht:=G.Ht+1,kept:=G.kept+1,Ns:=G.Ns.set G.kept n },n+1,Q7.o.1.aux h.again (n+1),F.o,rfl,bX ..,by have:=t.o.s.Nn;show h.bytes<=300000;omega⟩,((((Keeps.of v.o (au _) S).trans (Keeps.of B.o (au _) S)).trans Q0.o.2).trans ((Keeps.of z.o (au _) S).trans b3.o)).trans (b2.o.trans Q7.o.2)⟩
   |true=>
    rw [hwc] at X;have a1:=EA o.col h.white;cases hcc:(o.col !=h.white) with
    |false=>
     rw [hcc] at a1;have F:=ah (M9.kept V.o U.o HE.o W.o (by rw [hwc,hcc];rfl));clear hwc hcc;go_quiet ((first |(go_at_call 154;exact Calls.quiet_of_same (X.o _))|(go_at_call 181;exact Calls.quiet_of_same (Y.o _))));clear a1;have z:=ah (aC (aT w3.heap.size w3) nq);have d:=ah (Q0.o.1.low z.o);generalize w3.drewN nq=w4 at *;clear t0 c1;have t0:w4.cell? ⟨L.tb n,0,none⟩=some (.int .i64 (o.col:Int)):=(d.o.ob n o W.o).c 0;have y0:=(d.o.ob n o W.o).ME 0;have c1:w4.cell? ⟨L.H,1,none⟩=some (.int .i64 (h.white:Int)):=d.o.hp.c 1;have Q5:=ah (d.o.Mk n 0 (.int .i64 (h.white:Int)) (fun o=>{ o with col:=h.white }) (by decide) W.o ⟨rfl,rfl⟩ (dz _ rfl rfl rfl rfl rfl rfl rfl rfl rfl rfl rfl rfl rfl));go_wp2_with fail
     go_cut [] (fun wc=>wc=(w4.setCell ⟨L.tb n,0,none⟩ (.int .i64 (h.white:Int))).drewN 1)
     case first=>
      go_region_with (go_at_call 181;refine (Y.o _).mono ?_;rintro e9 w9 ⟨rfl,rfl⟩)
      all_goals
       go_wp2_with fail;go_meet;rfl
     case rest=>
     obtain rfl:=hcut;have a0:=ah (aC (aT (w4.setCell ⟨L.tb n,0,none⟩ (.int .i64 (h.white:Int))).heap.size (w4.setCell ⟨L.tb n,0,none⟩ (.int .i64 (h.white:Int)))) 1);have b:=ah (Q5.o.1.low a0.o);have b3:=ah (Q5.o.2.trans (Keeps.of a0.o (au _) S));generalize (w4.setCell ⟨L.tb n,0,none⟩ (.int .i64 (h.white:Int))).drewN 1=C at *;clear t0 y0 c1 E b9;have D:=ay (b.o.li 7 (by simp [eF])) (g:=g) (by rw [HV.out];simp [Value.ownBlock]);have d7:C.cell? ⟨L.H,7,none⟩=some (.slice (some ⟨g,0,none⟩) G.Ns.length cap):=by
      have:=b.o.hp.c 7;rw [this];exact congrArg some HV.out
     have d8:C.cell? ⟨L.H,8,none⟩=some (.int .i64 (G.kept:Int)):=b.o.hp.c 8;have Q:G.kept<G.Ns.length:=by omega
     have c4:(G.kept:Int)<(G.Ns.length:Int):=by omega
     obtain ⟨m9,P⟩:∃ m9,G.Ns[G.kept]?=some m9:=⟨_,aN Q⟩
     have a8:C.cell? ⟨g,G.kept,none⟩=some (.iface 127 (.pointer (some ⟨L.tb m9,0,none⟩))):=by
      obtain ⟨A1,e1,a5,-,a7⟩:=b.o.II (k:=7) (by simp [eF]);have N:=a5.symm.trans HV.out;simp only [Value.slice.injEq] at N;obtain ⟨g1,b1,-,b0⟩:=a7 G.kept m9 P;rw [b1] at N;simp only [Option.some.injEq,Addr.mk.injEq] at N;obtain ⟨⟨rfl,-⟩,-⟩:=N;exact b0
     have yk:=D.ME G.kept;have Q6:=ah (b.o.oset HV.out Q n);have f2:L.H≠g:=fun e=>b.o.hp.apart D (by decide) e;clear D P;go_wp2_with fail
     go_cut [] (fun wc=>wc=(C.setCell ⟨g,G.kept,none⟩ (.iface 127 (.pointer (some ⟨L.tb n,0,none⟩)))).drewN 1)
     case first=>
      go_region
      all_goals
       go_wp2_with fail;go_meet;rfl
     case rest=>
     obtain rfl:=hcut;have Z:=ah (aC (aT (C.setCell ⟨g,G.kept,none⟩ (.iface 127 (.pointer (some ⟨L.tb n,0,none⟩)))).heap.size (C.setCell ⟨g,G.kept,none⟩ (.iface 127 (.pointer (some ⟨L.tb n,0,none⟩))))) 1);have J:=ah (Q6.o.1.low Z.o);have b2:=ah (Q6.o.2.trans (Keeps.of Z.o (au _) S));generalize (C.setCell ⟨g,G.kept,none⟩ (.iface 127 (.pointer (some ⟨L.tb n,0,none⟩)))).drewN 1=w6 at *;clear d7 d8 a8 yk;have e8:w6.cell? ⟨L.H,8,none⟩=some (.int .i64 (G.kept:Int)):=J.o.hp.c 8;have z8:=J.o.hp.ME 8;have Q7:=ah (J.o.num (h':=(h.wk x y).upd n fun o=>{ o with col:=h.white }) (G':={ G with Ht:=G.Ht+1,kept:=G.kept+1,Ns:=G.Ns.set G.kept n }) 8 (.int .i64 ((G.kept:Int)+1)) (by decide) (fun _=>rfl) ⟨rfl,rfl,rfl,rfl,rfl,rfl,rfl⟩ ⟨rfl,rfl⟩ (bJ _ rfl rfl rfl rfl rfl rfl rfl rfl rfl rfl rfl rfl rfl rfl rfl rfl rfl rfl rfl));go_wp2_with fail;go_meet;exact ⟨L,Nf.refl L,⟨{ h.upd n (fun o=>{ o with col:=h.white }) with G9:=n+1 },{ G with Ht:=G.Ht+1,kept:=G.kept+1,Ns:=G.Ns.set G.kept n },n+1,Q7.o.1.aux h.again (n+1),F.o,rfl,bX ..,by have:=t.o.s.Nn;show h.bytes<=300000;omega⟩,((((Keeps.of v.o (au _) S).trans (Keeps.of B.o (au _) S)).trans Q0.o.2).trans ((Keeps.of z.o (au _) S).trans b3.o)).trans (b2.o.trans Q7.o.2)⟩
    |true=>
     rw [hcc] at a1;have F:=ah (M9.freed V.o U.o HE.o W.o (by rw [hwc,hcc];rfl));clear hwc hcc;go_quiet ((first |(go_at_call 154;exact Calls.quiet_of_same (X.o _))|(go_at_call 181;exact Calls.quiet_of_same (Y.o _))));have z:=ah (aC (aT w3.heap.size w3) nq);have d:=ah (Q0.o.1.low z.o);generalize w3.drewN nq=w4 at *;have f5:=ah (xU d.o (n:=n) (o:=o) W.o e2.o.1 (by have:=t.o.s.fr;show h.live<=20000;omega) e2.o.2 (by have:=t.o.s.Nn;show h.bytes<=300000;omega) (by have:=t.o.s.fr;show h.freed.length<=20000;omega));clear t0 c1 a1;go_wp2_with fail;refine (Y.o _).mono ?_;rintro e5 C ⟨rfl,rfl⟩;go_wp2_with fail;refine f5.o.mono ?_;rintro e6 w6 ⟨rfl,L6,c2,d4,c5⟩;have H6:=ah (And.intro c2 (And.intro d4 c5));clear c2 d4 c5;go_wp2_with fail;go_meet;refine ⟨L6,H6.o.1,⟨_,_,_,?_,F.o,rfl,rfl,?_⟩,(((Keeps.of v.o (au _) S).trans (Keeps.of B.o (au _) S)).trans Q0.o.2).trans ((Keeps.of z.o (au _) S).trans H6.o.2.2)⟩
     ·refine (H6.o.2.1.fewer (h':=Hp.wk { h with objs:=h.objs.set n none,live:=h.live-1,bytes:=h.bytes-o.size,freed:=h.freed++[n],G9:=n+1 } x y) ?_ (fun j hj=>by rcases hj with rfl|rfl|rfl|rfl|rfl|rfl|rfl|rfl|rfl<;>rfl) ?_)
      ·intro m o' e
       show h.ob m=some o';have e':(((h.objs.set n none)[m]?).join:Option Ob)=some o':=e;rw [gD] at e';split at e'
       ·split at e'<;>simp at e'
       ·exact e'
      ·have f0:(h.objs.set n none).length=h.objs.length:=bX ..
       intro i hi;unfold kK;simp only [Hp.wk,f0];rfl
     ·have:=t.o.s.Nn
      show h.bytes-o.size<=300000;omega
  ·have f9:¬ ((G.Ht:Int)<(G.Ns.length:Int)):=by omega
   have F:=ah (M9.fin V.o (t.o.i.s2 V.o).2.2.1 U.o (by omega));clear c0;go_wp2_with fail;go_meet;exact ⟨L,Nf.refl L,⟨h,G,h.G9,b4.o,F.o,rfl,rfl,by have:=t.o.s.Nn;omega⟩,Keeps.of v.o (au _) S⟩
 case rest=>
 rename World=>w2;obtain ⟨L1,a4,⟨q,f,c,R,E,d3,b7,f1⟩,c8⟩:=hcut.out;obtain ⟨H1,g3,g9,g4,g5⟩:=L1;obtain rfl:H1=L.H:=a4.H;obtain ⟨A2,e0,b5,a9,-⟩:=R.II (k:=7) (by simp [eF]);have f7:=E.x.sl;have g0:=E.x.ks;have b6:f.Ns.length<=20000:=by omega
 have f4:w2.cell? ⟨L.H,7,none⟩=some (.slice A2 f.Ns.length e0):=by
  have:=R.hp.c 7;rw [this];exact congrArg some b5
 have f3:w2.cell? ⟨L.H,9,none⟩=some (.int .i64 (f.Ht:Int)):=R.hp.c 9;have P1:=ah (And.intro a4 (And.intro R c8));have F:=ah E;have a2:=ah (And.intro d3 b7);clear hcut a4 R c8 E d3 b7 b5 a9 c7 c9 HA b4 v e7;go_wp2_with fail;go_quiet (fail);have B:=ah (aC (aT w2.heap.size w2) nq);have M:=ah (P1.o.2.1.low B.o);generalize w2.drewN nq=w3 at *;clear f4 f3;by_cases r:f.Ht=f.Ns.length
 ·have hq:((f.Ht:Int)==(f.Ns.length:Int))=true:=by rw [r];simp
  have e3:=ah (F.o.x.last r F.o.l);have f6:=ah (CY M.o (by omega) b6 f1);have u:Hq (h.Hg={ q with G9:=q.objs.length,state:=0,limit:=max (2*q.bytes) 4096,G6:=0 }):=ah (by
   rw [F.o.e,e3.o.1];unfold Hp.close;rw [if_neg (by show ¬ q.objs.length<q.objs.length;omega)])
  clear r;go_wp2_with fail;refine f6.o.mono ?_;rintro e4 w4 ⟨rfl,L4,c3,d5,c6⟩;have H4:=ah (And.intro c3 (And.intro d5 c6));clear c3 d5 c6;go_wp2;go_end0;refine ⟨rfl,L4,P1.o.1.trans H4.o.1,⟨{ f with Ns:=f.Ns.take f.kept },?_,?_,?_,?_,a2.o.1,?_⟩,(P1.o.2.2.trans (Keeps.of B.o (au _) S)).trans H4.o.2.2⟩
  ·rw [u.o];exact H4.o.2.1.aux q.again q.objs.length
  ·rw [u.o];intro c;cases c
  ·rw [u.o];intro _;exact e3.o.2.of (fun n=>Iff.rfl)
  ·rw [u.o];exact .inr rfl
  ·have N:=a2.o.2
   show (f.Ns.take f.kept).length<=G.Ns.length;rw [bf];omega
 ·have hq:((f.Ht:Int)==(f.Ns.length:Int))=false:=by simp;omega
  obtain ⟨n,hn⟩:∃ n,f.Ns[f.Ht]?=some n:=⟨_,aN (by omega)⟩
  obtain ⟨x1,x2,x3,x4⟩:=F.o.x.next hn;have b8:n<q.objs.length:=by obtain ⟨o,ho⟩:=x2;exact Hp.Ia ho
  have u:Hq (h.Hg={ q with G9:=n }):=ah (by
   rw [F.o.e,x3];unfold Hp.close;rw [if_pos b8])
  have K:=ah x4;clear r x1 x2 x3 x4 hn b8;go_wp2;go_end0;refine ⟨rfl,_,P1.o.1,⟨f,?_,?_,?_,?_,a2.o.1,aO a2.o.2⟩,P1.o.2.2.trans (Keeps.of B.o (au _) S)⟩
  ·rw [u.o];exact M.o.aux q.again n
  ·rw [u.o];intro _;exact ⟨K.o.ks,K.o.sl,K.o.ku,K.o.kl,K.o.du,K.o.dl⟩
  ·rw [u.o];intro c;have N:=F.o.s;rw [show Hp.state { q with G9:=n }=q.state from rfl,N] at c;cases c
  ·rw [u.o];exact .inl F.o.s
end Go.Proofs.YtbpcdfbmnklcjaaGreatDoor
