import Derived.Test.YtbpcdfbmnklcjaaGreatDoorKHYY0
import Derived.BigQuiet
namespace Go.Proofs.YtbpcdfbmnklcjaaGreatDoor
open Go Go.RowKit
set_option maxHeartbeats 6400000
set_option maxRecDepth 100000
set_option linter.unusedVariables false
variable {G G':Gh} {L:PM} {S:Nat->Prop} {base cap i:Nat} {h h':Hp} {w w1:World} {x y:List Nat}
theorem MV.fewer (a:MV base S h G L w) (b:∀ m o,h'.ob m=some o->h.ob m=some o) (c:∀ k,eF k->eU h' G k=eU h G k) (d:∀ i,i<19->kI h G L i=kI h' G L i):MV base S h' G L w:=
 ⟨a.hp.congr d,fun n o e=>a.ob n o (b n o e),fun n o e=>a.en n o (b n o e),fun n o e=>a.mp n o (b n o e),fun k hk=>by rw [c k hk];exact a.li k hk,fun n m o o' e e'=>a.ij n m o o' (b _ _ e) (b _ _ e'),fun n m o o' g e e'=>a.ei n m o o' g (b _ _ e) (b _ _ e'),fun n m o o' g e e'=>a.mi n m o o' g (b _ _ e) (b _ _ e'),a.lj,a.bH,fun n o e=>a.bt n o (b _ _ e),fun n o g e=>a.bm n o g (b _ _ e),a.bs,a.sH,fun n o e=>a.st n o (b _ _ e),fun n o g e=>a.se n o g (b _ _ e),fun n o g e=>a.sm n o g (b _ _ e),a.sl,a.up⟩
theorem MV.lin (a:MV base S h G L w) (k:Nat) (hk:eF k) (kk:Keeps w w1 (fun b=>(L.li k).ownBlock=some b)) (hown:w1.ownsRow base (yJ k) 1 (L.li k) (eU h' G' k).length ((eU h' G' k).map (eP L.tb k)))
 (d:∀ n,h'.ob n=h.ob n) (p:∀ j,eF j->j≠k->eU h' G' j=eU h G j) (s:∀ i,i<19->kI h G L i=kI h' G' L i):MV base S h' G' L w1/\Keeps w w1 S:=by
 have q:=iG hk;have r:∀ {T g N:Nat} {f:Nat->Value},aD w T g N f->T≠yJ k->¬ ((L.li k).ownBlock=some g):=fun h1 h3 h5=>ak (a.li k hk) h1 (Ne.symm h3) h5;refine ⟨⟨(a.hp.keep kk (r a.hp (Ne.symm q.1))).congr s,fun n o e=>?_,fun n o e=>?_,fun n o e=>?_,fun j hj=>?_,?_,?_,?_,a.lj,a.bH,?_,?_,aI a.bs kk.size,a.sH,?_,?_,?_,a.sl,fun b hb=>a.up b (aI kk.size hb)⟩,kk.mono (fun b e=>a.sl k b hk e)⟩
 ·rw [d] at e;exact (a.ob n o e).keep kk (r (a.ob n o e) (Ne.symm q.2.1))
 ·rw [d] at e;exact aj (a.en n o e) kk (fun g hg=>r (ay (a.en n o e) hg) (Ne.symm q.2.2))
 ·rw [d] at e;exact (a.mp n o e).keep kk (fun b hb y=>(a.mp n o e).apart (ay (a.li k hk) y) hb)
 ·by_cases c:j=k
  ·subst c;exact hown
  ·rw [p j hj c]
   exact aj (a.li j hj) kk (fun g hg e=>c (a.lj j k g hj hk hg e))
 ·intro n m o l;rw [d,d];exact a.ij n m o l
 ·intro n m o l g;rw [d,d];exact a.ei n m o l g
 ·intro n m o l g;rw [d,d];exact a.mi n m o l g
 ·intro n o;rw [d];exact a.bt n o
 ·intro n o g;rw [d];exact a.bm n o g
 ·intro n o;rw [d];exact a.st n o
 ·intro n o g;rw [d];exact a.se n o g
 ·intro n o g;rw [d];exact a.sm n o g
theorem MV.oset (a:MV base S h G L w) {g:Nat} (c:L.li 7=.slice (some ⟨g,0,none⟩) G.Nl.length cap) (hi:i<G.Nl.length) (n:Nat):
 MV base S h { G with Nl:=G.Nl.set i n } L (w.setCell ⟨g,i,none⟩ (.iface 127 (.pointer (some ⟨L.tb n,0,none⟩))))/\Keeps w (w.setCell ⟨g,i,none⟩ (.iface 127 (.pointer (some ⟨L.tb n,0,none⟩)))) S:=by
 have d:=a.li 7 (by simp [eF]);rw [c] at d;have e:=aL d (i:=i) (by show i<G.Nl.length*1;omega) (.iface 127 (.pointer (some ⟨L.tb n,0,none⟩)));refine a.lin (h':=h) (G':={ G with Nl:=G.Nl.set i n }) 7 (by simp [eF]) (Keeps.setCell (S:=fun b=>(L.li 7).ownBlock=some b) (Keeps.refl w _) (by rw [c];simp [Value.ownBlock]) _) ?_ (fun _=>rfl) (fun j hj hn=>by rcases hj with rfl|rfl|rfl|rfl|rfl|rfl|rfl|rfl|rfl<;>first |rfl|exact absurd rfl hn) (bJ _ rfl rfl rfl rfl rfl rfl rfl rfl rfl rfl rfl rfl rfl rfl rfl rfl rfl rfl rfl);show World.ownsRow _ base _ 1 _ (G.Nl.set i n).length ((G.Nl.set i n).map (eP L.tb 7));rw [bN,List.map_set,c];exact e
theorem EI (c w:Nat):((c:Int) !=(w:Int))=(c !=w):=by
 rw [Bool.eq_iff_iff];simp;omega
theorem Bt (a:MV base S (h.wk x y) G L w) (gd:Gd h) (hs:h.state=2) (sw:Mk G h h.G5) (g9:G.Nl.length<=20000):
 Calls Tryz.prog 129 #[.pointer (some ⟨L.H,0,none⟩)] w fun e w'=>e=.returned (.tuple #[])/\∃ L',MS L L'/\(∃ G',MV base S (h.G_.wk x y) G' L' w'/\(h.G_.state=2->Mk G' h.G_ h.G_.G5)/\(h.G_.state=0->Ng G' h.G_)/\(h.G_.state=2∨h.G_.state=0)/\G'.ag=G.ag/\G'.Nl.length<=G.Nl.length)/\Keeps w w' S:=by
 have g8:=sw.sl;have h0:=sw.ks;obtain ⟨A,cap,hv,g4,a5⟩:=a.IC (k:=7) (by simp [eF]);have a8:L.li 7=.slice A G.Nl.length cap:=hv;have c7:w.cell? ⟨L.H,7,none⟩=some (.slice A G.Nl.length cap):=by
  have:=a.hp.c 7;rw [this];exact congrArg some a8
 have c9:w.cell? ⟨L.H,9,none⟩=some (.int .i64 (G.Hl:Int)):=a.hp.c 9;have HA:=ah a;have HV:=ah a8;have u:=ah gd;have W:=ah sw;have X:=ah hs;have f1:=ah a5;have e1:=a.hp.lt;clear a hv a8 gd sw hs a5;go_enter Tryz.func129,Tryz.ntmps129;go_wp2_with fail;go_quiet (fail)
 go_upto_if 12 with (fail)
 have z:=ah (aC (aG w.heap.size w) nq);have b6:=ah (HA.o.low z.o);generalize w.drewN nq=w1 at *
 go_cut [] (fun wc=>Hq (∃ L1,MS L L1/\(∃ q r c,MV base S (q.wk x y) r L1 wc/\Nc h q r c/\r.ag=G.ag/\r.Nl.length=G.Nl.length/\q.bytes<=300000)/\Keeps w wc S))
 case first=>
  by_cases c3:G.Hl<G.Nl.length
  ·obtain ⟨n,he⟩:∃ n,G.Nl[G.Hl]?=some n:=⟨_,aN c3⟩
   obtain ⟨g,rfl,d2,d4⟩:=f1.o G.Hl n he;have d3:w1.cell? ⟨g,G.Hl,none⟩=some (.iface 127 (.pointer (some ⟨L.tb n,0,none⟩))):=(z.o.cell (p:=⟨g,G.Hl,none⟩) d2).trans d4;have d7:w1.cell? ⟨L.H,7,none⟩=some (.slice (some ⟨g,0,none⟩) G.Nl.length cap):=(z.o.cell (p:=⟨L.H,7,none⟩) e1).trans c7;have d9:w1.cell? ⟨L.H,9,none⟩=some (.int .i64 (G.Hl:Int)):=(z.o.cell (p:=⟨L.H,9,none⟩) e1).trans c9;obtain ⟨o,ho⟩:=(W.o.next he).2.1;have HE:=ah he;have Y:=ah ho;have g0:(G.Hl:Int)<(G.Nl.length:Int):=by omega
   have V:=u.o.n.free ho;have e7:=ah (show 1<=h.live/\40+40*o.es.length<=h.bytes from ⟨V.2.1,V.1⟩);clear d4 ho he c7 c9 V;go_wp2_with fail;go_quiet (fail);have C:=ah (aC (aG w1.heap.size w1) nq);have N:=ah (b6.o.low C.o);have e9:(w1.drewN nq).cell? ⟨L.H,9,none⟩=some (.int .i64 (G.Hl:Int)):=N.o.hp.c 9;have z9:=N.o.hp.Nq 9;have Q0:=ah (N.o.num (h':=h.wk x y) (G':={ G with Hl:=G.Hl+1 }) 9 (.int .i64 ((G.Hl:Int)+1)) (by decide) (fun _=>rfl) ⟨rfl,rfl,rfl,rfl,rfl,rfl,rfl⟩ ⟨rfl,rfl⟩ (bJ _ rfl rfl rfl rfl rfl rfl rfl rfl rfl rfl rfl rfl rfl rfl rfl rfl rfl rfl rfl));generalize w1.drewN nq=w2 at *;clear d3 d7 d9;go_upto_region 3 with (fail)
   generalize w2.setCell ⟨L.H,9,none⟩ (.int .i64 ((G.Hl:Int)+1))=w3 at *;clear e9 z9;have t0:w3.cell? ⟨L.tb n,0,none⟩=some (.int .i64 (o.col:Int)):=(Q0.o.1.ob n o Y.o).c 0;have c1:w3.cell? ⟨L.H,1,none⟩=some (.int .i64 (h.white:Int)):=Q0.o.1.hp.c 1;have F:=rz (L.tb n);have c2:=iO (L.tb n);have a0:=ah (fun w9=>gQ w9 (L.tb n));have Z:=ah (fun (m:Nat)=>lC (w3.drewN m) (L.tb n) o.col t0);cases hwc:gu o.col with
   |false=>
    rw [hwc] at Z;have J:=ah (Nc.kept X.o W.o HE.o Y.o (by rw [hwc];rfl));clear hwc;go_quiet ((go_at_call 154;exact Calls.quiet_of_same (Z.o _)));have B:=ah (aC (aG w3.heap.size w3) nq);have f:=ah (Q0.o.1.low B.o);generalize w3.drewN nq=w4 at *;clear t0 c1;have t0:w4.cell? ⟨L.tb n,0,none⟩=some (.int .i64 (o.col:Int)):=(f.o.ob n o Y.o).c 0;have y0:=(f.o.ob n o Y.o).Nq 0;have c1:w4.cell? ⟨L.H,1,none⟩=some (.int .i64 (h.white:Int)):=f.o.hp.c 1;have Q5:=ah (f.o.M0 n 0 (.int .i64 (h.white:Int)) (fun o=>{ o with col:=h.white }) (by decide) Y.o ⟨rfl,rfl⟩ (dx _ rfl rfl rfl rfl rfl rfl rfl rfl rfl rfl rfl rfl rfl));go_wp2_with fail
    go_cut [] (fun wc=>wc=(w4.setCell ⟨L.tb n,0,none⟩ (.int .i64 (h.white:Int))).drewN 1)
    case first=>
     go_region_with (go_at_call 181;refine (a0.o _).mono ?_;rintro e9 w9 ⟨rfl,rfl⟩)
     all_goals
      go_wp2_with fail;go_meet;rfl
    case rest=>
    obtain rfl:=hcut;have a2:=ah (aC (aG (w4.setCell ⟨L.tb n,0,none⟩ (.int .i64 (h.white:Int))).heap.size (w4.setCell ⟨L.tb n,0,none⟩ (.int .i64 (h.white:Int)))) 1);have b:=ah (Q5.o.1.low a2.o);have b5:=ah (Q5.o.2.trans (Keeps.of a2.o (au _) S));generalize (w4.setCell ⟨L.tb n,0,none⟩ (.int .i64 (h.white:Int))).drewN 1=D at *;clear t0 y0 c1 F c2;have E:=ay (b.o.li 7 (by simp [eF])) (g:=g) (by rw [HV.out];simp [Value.ownBlock]);have d7:D.cell? ⟨L.H,7,none⟩=some (.slice (some ⟨g,0,none⟩) G.Nl.length cap):=by
     have:=b.o.hp.c 7;rw [this];exact congrArg some HV.out
    have d8:D.cell? ⟨L.H,8,none⟩=some (.int .i64 (G.kept:Int)):=b.o.hp.c 8;have T:G.kept<G.Nl.length:=by omega
    have c6:(G.kept:Int)<(G.Nl.length:Int):=by omega
    obtain ⟨m9,R⟩:∃ m9,G.Nl[G.kept]?=some m9:=⟨_,aN T⟩
    have b0:D.cell? ⟨g,G.kept,none⟩=some (.iface 127 (.pointer (some ⟨L.tb m9,0,none⟩))):=by
     obtain ⟨A1,e3,a7,-,a9⟩:=b.o.IC (k:=7) (by simp [eF]);have Q:=a7.symm.trans HV.out;simp only [Value.slice.injEq] at Q;obtain ⟨g1,b3,-,b2⟩:=a9 G.kept m9 R;rw [b3] at Q;simp only [Option.some.injEq,Addr.mk.injEq] at Q;obtain ⟨⟨rfl,-⟩,-⟩:=Q;exact b2
    have yk:=E.Nq G.kept;have Q6:=ah (b.o.oset HV.out T n);have f4:L.H≠g:=fun e=>b.o.hp.apart E (by decide) e;clear E R;go_wp2_with fail
    go_cut [] (fun wc=>wc=(D.setCell ⟨g,G.kept,none⟩ (.iface 127 (.pointer (some ⟨L.tb n,0,none⟩)))).drewN 1)
    case first=>
     go_region
     all_goals
      go_wp2_with fail;go_meet;rfl
    case rest=>
    obtain rfl:=hcut;have a1:=ah (aC (aG (D.setCell ⟨g,G.kept,none⟩ (.iface 127 (.pointer (some ⟨L.tb n,0,none⟩)))).heap.size (D.setCell ⟨g,G.kept,none⟩ (.iface 127 (.pointer (some ⟨L.tb n,0,none⟩))))) 1);have K:=ah (Q6.o.1.low a1.o);have b4:=ah (Q6.o.2.trans (Keeps.of a1.o (au _) S));generalize (D.setCell ⟨g,G.kept,none⟩ (.iface 127 (.pointer (some ⟨L.tb n,0,none⟩)))).drewN 1=w6 at *;clear d7 d8 b0 yk;have e8:w6.cell? ⟨L.H,8,none⟩=some (.int .i64 (G.kept:Int)):=K.o.hp.c 8;have z8:=K.o.hp.Nq 8;have Q7:=ah (K.o.num (h':=(h.wk x y).upd n fun o=>{ o with col:=h.white }) (G':={ G with Hl:=G.Hl+1,kept:=G.kept+1,Nl:=G.Nl.set G.kept n }) 8 (.int .i64 ((G.kept:Int)+1)) (by decide) (fun _=>rfl) ⟨rfl,rfl,rfl,rfl,rfl,rfl,rfl⟩ ⟨rfl,rfl⟩ (bJ _ rfl rfl rfl rfl rfl rfl rfl rfl rfl rfl rfl rfl rfl rfl rfl rfl rfl rfl rfl));go_wp2_with fail;go_meet;exact ⟨L,MS.refl L,⟨{ h.upd n (fun o=>{ o with col:=h.white }) with G5:=n+1 },{ G with Hl:=G.Hl+1,kept:=G.kept+1,Nl:=G.Nl.set G.kept n },n+1,Q7.o.1.aux h.again (n+1),J.o,rfl,bN ..,by have:=u.o.s.Nh;show h.bytes<=300000;omega⟩,((((Keeps.of z.o (au _) S).trans (Keeps.of C.o (au _) S)).trans Q0.o.2).trans ((Keeps.of B.o (au _) S).trans b5.o)).trans (b4.o.trans Q7.o.2)⟩
   |true=>
    rw [hwc] at Z;have a3:=EI o.col h.white;cases hcc:(o.col !=h.white) with
    |false=>
     rw [hcc] at a3;have J:=ah (Nc.kept X.o W.o HE.o Y.o (by rw [hwc,hcc];rfl));clear hwc hcc;go_quiet ((first |(go_at_call 154;exact Calls.quiet_of_same (Z.o _))|(go_at_call 181;exact Calls.quiet_of_same (a0.o _))));clear a3;have B:=ah (aC (aG w3.heap.size w3) nq);have f:=ah (Q0.o.1.low B.o);generalize w3.drewN nq=w4 at *;clear t0 c1;have t0:w4.cell? ⟨L.tb n,0,none⟩=some (.int .i64 (o.col:Int)):=(f.o.ob n o Y.o).c 0;have y0:=(f.o.ob n o Y.o).Nq 0;have c1:w4.cell? ⟨L.H,1,none⟩=some (.int .i64 (h.white:Int)):=f.o.hp.c 1;have Q5:=ah (f.o.M0 n 0 (.int .i64 (h.white:Int)) (fun o=>{ o with col:=h.white }) (by decide) Y.o ⟨rfl,rfl⟩ (dx _ rfl rfl rfl rfl rfl rfl rfl rfl rfl rfl rfl rfl rfl));go_wp2_with fail
     go_cut [] (fun wc=>wc=(w4.setCell ⟨L.tb n,0,none⟩ (.int .i64 (h.white:Int))).drewN 1)
     case first=>
      go_region_with (go_at_call 181;refine (a0.o _).mono ?_;rintro e9 w9 ⟨rfl,rfl⟩)
      all_goals
       go_wp2_with fail;go_meet;rfl
     case rest=>
     obtain rfl:=hcut;have a2:=ah (aC (aG (w4.setCell ⟨L.tb n,0,none⟩ (.int .i64 (h.white:Int))).heap.size (w4.setCell ⟨L.tb n,0,none⟩ (.int .i64 (h.white:Int)))) 1);have b:=ah (Q5.o.1.low a2.o);have b5:=ah (Q5.o.2.trans (Keeps.of a2.o (au _) S));generalize (w4.setCell ⟨L.tb n,0,none⟩ (.int .i64 (h.white:Int))).drewN 1=D at *;clear t0 y0 c1 F c2;have E:=ay (b.o.li 7 (by simp [eF])) (g:=g) (by rw [HV.out];simp [Value.ownBlock]);have d7:D.cell? ⟨L.H,7,none⟩=some (.slice (some ⟨g,0,none⟩) G.Nl.length cap):=by
      have:=b.o.hp.c 7;rw [this];exact congrArg some HV.out
     have d8:D.cell? ⟨L.H,8,none⟩=some (.int .i64 (G.kept:Int)):=b.o.hp.c 8;have T:G.kept<G.Nl.length:=by omega
     have c6:(G.kept:Int)<(G.Nl.length:Int):=by omega
     obtain ⟨m9,R⟩:∃ m9,G.Nl[G.kept]?=some m9:=⟨_,aN T⟩
     have b0:D.cell? ⟨g,G.kept,none⟩=some (.iface 127 (.pointer (some ⟨L.tb m9,0,none⟩))):=by
      obtain ⟨A1,e3,a7,-,a9⟩:=b.o.IC (k:=7) (by simp [eF]);have Q:=a7.symm.trans HV.out;simp only [Value.slice.injEq] at Q;obtain ⟨g1,b3,-,b2⟩:=a9 G.kept m9 R;rw [b3] at Q;simp only [Option.some.injEq,Addr.mk.injEq] at Q;obtain ⟨⟨rfl,-⟩,-⟩:=Q;exact b2
     have yk:=E.Nq G.kept;have Q6:=ah (b.o.oset HV.out T n);have f4:L.H≠g:=fun e=>b.o.hp.apart E (by decide) e;clear E R;go_wp2_with fail
     go_cut [] (fun wc=>wc=(D.setCell ⟨g,G.kept,none⟩ (.iface 127 (.pointer (some ⟨L.tb n,0,none⟩)))).drewN 1)
     case first=>
      go_region
      all_goals
       go_wp2_with fail;go_meet;rfl
     case rest=>
     obtain rfl:=hcut;have a1:=ah (aC (aG (D.setCell ⟨g,G.kept,none⟩ (.iface 127 (.pointer (some ⟨L.tb n,0,none⟩)))).heap.size (D.setCell ⟨g,G.kept,none⟩ (.iface 127 (.pointer (some ⟨L.tb n,0,none⟩))))) 1);have K:=ah (Q6.o.1.low a1.o);have b4:=ah (Q6.o.2.trans (Keeps.of a1.o (au _) S));generalize (D.setCell ⟨g,G.kept,none⟩ (.iface 127 (.pointer (some ⟨L.tb n,0,none⟩)))).drewN 1=w6 at *;clear d7 d8 b0 yk;have e8:w6.cell? ⟨L.H,8,none⟩=some (.int .i64 (G.kept:Int)):=K.o.hp.c 8;have z8:=K.o.hp.Nq 8;have Q7:=ah (K.o.num (h':=(h.wk x y).upd n fun o=>{ o with col:=h.white }) (G':={ G with Hl:=G.Hl+1,kept:=G.kept+1,Nl:=G.Nl.set G.kept n }) 8 (.int .i64 ((G.kept:Int)+1)) (by decide) (fun _=>rfl) ⟨rfl,rfl,rfl,rfl,rfl,rfl,rfl⟩ ⟨rfl,rfl⟩ (bJ _ rfl rfl rfl rfl rfl rfl rfl rfl rfl rfl rfl rfl rfl rfl rfl rfl rfl rfl rfl));go_wp2_with fail;go_meet;exact ⟨L,MS.refl L,⟨{ h.upd n (fun o=>{ o with col:=h.white }) with G5:=n+1 },{ G with Hl:=G.Hl+1,kept:=G.kept+1,Nl:=G.Nl.set G.kept n },n+1,Q7.o.1.aux h.again (n+1),J.o,rfl,bN ..,by have:=u.o.s.Nh;show h.bytes<=300000;omega⟩,((((Keeps.of z.o (au _) S).trans (Keeps.of C.o (au _) S)).trans Q0.o.2).trans ((Keeps.of B.o (au _) S).trans b5.o)).trans (b4.o.trans Q7.o.2)⟩
    |true=>
     rw [hcc] at a3;have J:=ah (Nc.freed X.o W.o HE.o Y.o (by rw [hwc,hcc];rfl));clear hwc hcc;go_quiet ((first |(go_at_call 154;exact Calls.quiet_of_same (Z.o _))|(go_at_call 181;exact Calls.quiet_of_same (a0.o _))));have B:=ah (aC (aG w3.heap.size w3) nq);have f:=ah (Q0.o.1.low B.o);generalize w3.drewN nq=w4 at *;have f7:=ah (xg f.o (n:=n) (o:=o) Y.o e7.o.1 (by have:=u.o.s.fr;show h.live<=20000;omega) e7.o.2 (by have:=u.o.s.Nh;show h.bytes<=300000;omega) (by have:=u.o.s.fr;show h.freed.length<=20000;omega));clear t0 c1 a3;go_wp2_with fail;refine (a0.o _).mono ?_;rintro e5 D ⟨rfl,rfl⟩;go_wp2_with fail;refine f7.o.mono ?_;rintro e6 w6 ⟨rfl,L6,c4,d6,c8⟩;have H6:=ah (P.intro c4 (P.intro d6 c8));clear c4 d6 c8;go_wp2_with fail;go_meet;refine ⟨L6,H6.o.1,⟨_,_,_,?_,J.o,rfl,rfl,?_⟩,(((Keeps.of z.o (au _) S).trans (Keeps.of C.o (au _) S)).trans Q0.o.2).trans ((Keeps.of B.o (au _) S).trans H6.o.2.2)⟩
     ·refine (H6.o.2.1.fewer (h':=Hp.wk { h with objs:=h.objs.set n none,live:=h.live-1,bytes:=h.bytes-o.size,freed:=h.freed++[n],G5:=n+1 } x y) ?_ (fun j hj=>by rcases hj with rfl|rfl|rfl|rfl|rfl|rfl|rfl|rfl|rfl<;>rfl) ?_)
      ·d m o' e
       show h.ob m=some o';have e':(((h.objs.set n none)[m]?).join:Option Ob)=some o':=e;rw [bY] at e';split at e'
       ·split at e'<;>simp at e'
       ·exact e'
      ·have f2:(h.objs.set n none).length=h.objs.length:=bN ..
       d i hi
       unfold kI;simp only [Hp.wk,f2];rfl
     ·have:=u.o.s.Nh
      show h.bytes-o.size<=300000;omega
  ·have g2:¬ ((G.Hl:Int)<(G.Nl.length:Int)):=by omega
   have J:=ah (Nc.fin X.o (u.o.i.s2 X.o).2.2.1 W.o (by omega));clear c3;go_wp2_with fail;go_meet;exact ⟨L,MS.refl L,⟨h,G,h.G5,b6.o,J.o,rfl,rfl,by have:=u.o.s.Nh;omega⟩,Keeps.of z.o (au _) S⟩
 case rest=>
 rename World=>w2;obtain ⟨L1,a6,⟨q,r,c,U,F,d5,b9,f3⟩,d1⟩:=hcut.out;obtain ⟨H1,g5,h1,g6,g7⟩:=L1;obtain rfl:H1=L.H:=a6.H;obtain ⟨A2,e2,b7,b1,-⟩:=U.IC (k:=7) (by simp [eF]);have f9:=F.x.sl;have g3:=F.x.ks;have b8:r.Nl.length<=20000:=by omega
 have f6:w2.cell? ⟨L.H,7,none⟩=some (.slice A2 r.Nl.length e2):=by
  have:=U.hp.c 7;rw [this];exact congrArg some b7
 have f5:w2.cell? ⟨L.H,9,none⟩=some (.int .i64 (r.Hl:Int)):=U.hp.c 9;have P1:=ah (P.intro a6 (P.intro U d1));have J:=ah F;have a4:=ah (P.intro d5 b9);clear hcut a6 U d1 F d5 b9 b7 b1 c7 c9 HA b6 z f1;go_wp2_with fail;go_quiet (fail);have C:=ah (aC (aG w2.heap.size w2) nq);have N:=ah (P1.o.2.1.low C.o);generalize w2.drewN nq=w3 at *;clear f6 f5;by_cases t:r.Hl=r.Nl.length
 ·have hq:((r.Hl:Int)==(r.Nl.length:Int))=true:=by rw [t];simp
  have f0:=ah (J.o.x.last t J.o.l);have f8:=ah (CS N.o (by omega) b8 f3);have v:Hq (h.G_={ q with G5:=q.objs.length,state:=0,limit:=max (2*q.bytes) 4096,GY:=0 }):=ah (by
   rw [J.o.e,f0.o.1];unfold Hp.close;rw [if_neg (by show ¬ q.objs.length<q.objs.length;omega)])
  clear t;go_wp2_with fail;refine f8.o.mono ?_;rintro e4 w4 ⟨rfl,L4,c5,e0,d0⟩;have H4:=ah (P.intro c5 (P.intro e0 d0));clear c5 e0 d0;go_wp2;go_end0;refine ⟨rfl,L4,P1.o.1.trans H4.o.1,⟨{ r with Nl:=r.Nl.take r.kept },?_,?_,?_,?_,a4.o.1,?_⟩,(P1.o.2.2.trans (Keeps.of C.o (au _) S)).trans H4.o.2.2⟩
  ·rw [v.o];exact H4.o.2.1.aux q.again q.objs.length
  ·rw [v.o];d c;cases c
  ·rw [v.o];d _;exact f0.o.2.of (fun n=>Iff.rfl)
  ·rw [v.o];exact .inr rfl
  ·have Q:=a4.o.2
   show (r.Nl.take r.kept).length<=G.Nl.length;rw [bX];omega
 ·have hq:((r.Hl:Int)==(r.Nl.length:Int))=false:=by simp;omega
  obtain ⟨n,hn⟩:∃ n,r.Nl[r.Hl]?=some n:=⟨_,aN (by omega)⟩
  obtain ⟨x1,x2,x3,x4⟩:=J.o.x.next hn;have c0:n<q.objs.length:=by obtain ⟨o,ho⟩:=x2;exact Hp.Hy ho
  have v:Hq (h.G_={ q with G5:=n }):=ah (by
   rw [J.o.e,x3];unfold Hp.close;rw [if_pos c0])
  have M:=ah x4;clear t x1 x2 x3 x4 hn c0;go_wp2;go_end0;refine ⟨rfl,_,P1.o.1,⟨r,?_,?_,?_,?_,a4.o.1,aO a4.o.2⟩,P1.o.2.2.trans (Keeps.of C.o (au _) S)⟩
  ·rw [v.o];exact N.o.aux q.again n
  ·rw [v.o];d _;exact ⟨M.o.ks,M.o.sl,M.o.ku,M.o.kl,M.o.du,M.o.dl⟩
  ·rw [v.o];d c;have Q:=J.o.s;rw [show Hp.state { q with G5:=n }=q.state from rfl,Q] at c;cases c
  ·rw [v.o];exact .inl J.o.s
end Go.Proofs.YtbpcdfbmnklcjaaGreatDoor
