import Derived.Test.YtbpcdfbmnklcjaaGreatDoorKHSJ2
namespace Go.Proofs.YtbpcdfbmnklcjaaGreatDoor
open Go Go.RowKit
set_option maxHeartbeats 6400000
set_option maxRecDepth 100000
set_option linter.unusedVariables false
variable {S:Nat->Prop} {base:Nat} {h:Hp} {w:World}
theorem Sm.skipped {h:Hp} (s:Sm h):Sm h.skipped:=⟨s.len,s.nu,s.fp,s.fr,s.Nn,s.cr,s.lim,s.rt,s.es⟩
theorem qM {L:SM} (a:MV base S h L w) (s:Sm h) (nm:mg h) (hp:1<=h.objs.length) (e8:h.G9<=h.objs.length) (e2:h.white<=1):
 Calls Tryz.prog 64 #[.pointer (some ⟨L.H,0,none⟩)] w fun e w'=>e=.returned (.tuple #[])/\∃ L',L'.H=L.H/\MV base S h.Hg L' w'/\Keeps w w' S:=by
 have f4:=s.len;have g6:=ah (sV a s.len hp (by omega));have P:=ah s.skipped;have d7:Hq (mg h.skipped):=ah nm;have k4:h.skipped.G9<=h.skipped.objs.length:=h.Jh _ e8;have k3:h.skipped.objs.length<=5001:=f4;have f3:1<=h.skipped.objs.length:=hp;have g4:Hq (h.skipped.white<=1):=ah e2;have HE:Hq (¬ (h.skipped.G9<h.skipped.objs.length/\h.skipped.ob h.skipped.G9=none)):=ah (h.Jf h.G9);have HD:Hq (h.Hg=h.skipped.G_.skipped.close):=ah rfl;clear a s nm f4 hp e8 e2;go_enter Tryz.func64,Tryz.ntmps64;go_wp2_with fail;refine g6.o.mono ?_;rintro e9 w1 ⟨rfl,g2,f7⟩;have a5:=ah g2;have g7:=ah f7;clear g2 f7 g6;generalize h.skipped=q at *;obtain ⟨go,W,c9,d3,-⟩:=a5.o.slot f3;have c0:w1.cell? ⟨L.H,0,none⟩=some (.slice (some ⟨go,0,none⟩) q.objs.length W):=by
  have:=a5.o.hp.c 0;rw [this];exact congrArg some c9
 have Y:w1.cell? ⟨L.H,14,none⟩=some (.int .i64 (q.G9:Int)):=a5.o.hp.c 14;have J:=ah c9;clear c9;go_wp2_with fail;go_quiet (fail);have e1:=ah (aC (aT w1.heap.size w1) nq);have T:=ah (a5.o.low e1.o);have d8:=ah (g7.o.trans (Keeps.of e1.o (au _) S));generalize w1.drewN nq=w2 at *;clear c0 Y a5 g7 e1
 go_upto_if 14 with (fail)
 go_cut [] (fun wc=>∃ L2,L2.H=L.H/\Hq (MV base S q.G_ L2 wc/\Keeps w wc S))
 case first=>
  by_cases G:q.G9<q.objs.length
  ·have M:decide ((q.G9:Int)<(q.objs.length:Int))=true:=by simp;omega
   obtain ⟨o,ho⟩:∃ o,q.ob q.G9=some o:=by
    cases e:q.ob q.G9 with
    |none=>exact absurd ⟨G,e⟩ HE.o
    |some o=>exact ⟨o,rfl⟩
   have k6:(q.G9:Int)<(q.objs.length:Int):=by omega
   have c0:w2.cell? ⟨L.H,0,none⟩=some (.slice (some ⟨go,0,none⟩) q.objs.length W):=by
    have:=T.o.hp.c 0;rw [this];exact congrArg some J.o
   have Y:w2.cell? ⟨L.H,14,none⟩=some (.int .i64 (q.G9:Int)):=T.o.hp.c 14;obtain ⟨g1,k1,b4,-,V⟩:=T.o.slot f3;have i1:g1=go:=by
    have h9:=b4.symm.trans J.o;simp only [Value.slice.injEq,Option.some.injEq,Addr.mk.injEq] at h9;exact h9.1.1
   subst i1;have i3:=V q.G9 G;have HO:=ah ho;have Z:Hq (q.G_=if fU o.col&&o.col !=q.white then { q with objs:=q.objs.set q.G9 none,live:=q.live-1,bytes:=q.bytes-o.size,freed:=q.freed++[q.G9],G9:=q.G9+1 } else { q.upd q.G9 (fun o=>{ o with col:=q.white }) with G9:=q.G9+1 }):=ah (by unfold Hp.G_;rw [ho]);clear b4 V ho;go_wp2_with fail;go_quiet (fail);have d9:=ah (aC (aT w2.heap.size w2) nq);have l:=ah (T.o.low d9.o);have K:=ah (d8.o.trans (Keeps.of d9.o (au _) S));generalize w2.drewN nq=w3 at *;clear c0 Y i3 d9 M;obtain ⟨r3,f0⟩:=l.o.ob q.G9 o HO.o;have d1:w3.cell? ⟨L.ob q.G9,1,none⟩=some (.int .i64 (o.col:Int)):=f0.c 1;have d6:w3.cell? ⟨L.H,6,none⟩=some (.int .i64 (q.white:Int)):=l.o.hp.c 6;have A:=ah (fun (w9:World) h=>gW w9 (L.ob q.G9) o.col h);clear f0;by_cases p:(fU o.col&&o.col !=q.white)=true
   ·simp only [Bool.and_eq_true] at p
    have v:fU o.col=true:=p.1;have h6:((o.col:Int) !=(q.white:Int))=true:=by
     have:=p.2;simp at this ⊢;omega
    have b0:=ah (show (fU o.col&&o.col !=q.white)=true by simp [p]);rw [v] at A;clear p v;go_wp2_with fail;go_quiet ((go_at_call 91;exact Calls.quiet_of_same (A.o _ (by assumption))));have f:=ah (aC (aT w3.heap.size w3) nq);have b:=ah (l.o.low f.o);have y:=ah (K.o.trans (Keeps.of f.o (au _) S));generalize w3.drewN nq=w4 at *;clear d1 d6 f A l K;obtain ⟨r4,n⟩:=b.o.ob q.G9 o HO.o;obtain ⟨E,b6,f8,i4,-⟩:=b.o.ents HO.o;have i2:=P.o.es q.G9 o HO.o;have U:=d7.o.free HO.o;have l1:=P.o.Nn;have l0:q.freed.length<=10000:=by have:=P.o.fr;omega
    have a9:Hq (FB base q L q.G9 g1 w4 (uE q L) (kY r4 5 o.col false o.mode (L.es q.G9) o.fin) L.ob (L.li 15) q.freed w4):=ah ⟨b.o.hp,n,b.o.oo,b.o.li 15 (by simp [eO]),Keeps.refl _ _,fun g e=>.inl e,b.o.bs⟩;have j2:=ah f8;have g9:=ah U;clear n f8 U;have f2:w4.cell? ⟨L.ob q.G9,2,none⟩=some (.bool false):=a9.o.hO.c 2;have y2:=a9.o.hO.ME 2;have a7:=ah (a9.o.LZ 2 (by decide) (.bool true));go_upto_region 5 with (fail)
    generalize w4.setCell ⟨L.ob q.G9,2,none⟩ (.bool true)=w5 at *;clear f2 y2 a9;have f2:w5.cell? ⟨L.H,2,none⟩=some (.int .i64 (q.live:Int)):=a7.o.hH.c 2;have y2:=a7.o.hH.ME 2;have k7:q.live<=10000:=by have:=P.o.fr;omega
    have Q:=ah (a7.o.setH 2 (by decide) (.int .i64 ((q.live:Int)-1)));go_upto_region 6 with (fail)
    generalize w5.setCell ⟨L.H,2,none⟩ (.int .i64 ((q.live:Int)-1))=w6 at *;clear f2 y2 a7;have f1:w6.cell? ⟨L.H,1,none⟩=some (.int .i64 (q.bytes:Int)):=Q.o.hH.c 1;have y1:=Q.o.hH.ME 1;have k0:w6.cell? ⟨L.ob q.G9,0,none⟩=some (.int .i64 5):=Q.o.hO.c 0;have k5:w6.cell? ⟨L.ob q.G9,5,none⟩=some (.slice E o.es.length b6):=by
     rw [<-j2.o];exact Q.o.hO.c 5
    have g5:=ah (sP w6.drew (L.ob q.G9) E o.es.length b6 i2 k0 k5);have h4:IntKind.i64.wrap ((q.bytes:Int)-(40+40*(o.es.length:Int)))=(q.bytes:Int)-(40+40*(o.es.length:Int)):=IntWalk.i64_in _ (by omega);have u:=ah ((Q.o.setH 1 (by decide) (.int .i64 ((q.bytes:Int)-(40+40*(o.es.length:Int))))).low (Below.drew (aT _ _)));go_wp2_with fail
    go_cut [] (fun wc=>wc=(w6.setCell ⟨L.H,1,none⟩ (.int .i64 ((q.bytes:Int)-(40+40*(o.es.length:Int))))).drew)
    case first=>
     go_region_with (go_at_call 58;refine g5.o.mono ?_;rintro e9 w9 ⟨rfl,h5⟩;obtain rfl:=h5.symm)
     all_goals
      go_wp2_with fail;go_meet;rfl
    case rest=>
    obtain rfl:=hcut;generalize (w6.setCell ⟨L.H,1,none⟩ (.int .i64 ((q.bytes:Int)-(40+40*(o.es.length:Int))))).drew=w7 at *;clear f1 y1 k0 k5 g5 Q h4;obtain ⟨af,cf,d2⟩:=aF u.o.li;have i9:w7.cell? ⟨L.H,15,none⟩=some (.slice af q.freed.length cf):=by
     have:=u.o.hH.c 15;rw [this];exact congrArg some d2
    have h2:=u.o.hH.ME 15;have N:w7.cell? ⟨L.H,14,none⟩=some (.int .i64 (q.G9:Int)):=u.o.hH.c 14;have i7:=u.o.hH.lt;have a0:=ah d2;clear d2;go_wp2_with fail
    go_cut [] (fun wc=>∃ v',Hq (FB base q L q.G9 g1 w4 (fun i=>if i=15 then v' else (fun i=>if i=1 then .int .i64 ((q.bytes:Int)-(40+40*(o.es.length:Int))) else (fun i=>if i=2 then .int .i64 ((q.live:Int)-1) else uE q L i) i) i) (fun i=>if i=2 then .bool true else kY r4 5 o.col false o.mode (L.es q.G9) o.fin i) L.ob v' (q.freed++[q.G9]) wc))
    case first=>
     go_region_law (
      refine kW (wr:=w7) _ _ rfl base (.slice af q.freed.length cf) q.freed q.G9 (by have:=u.o.li;rw [a0.o] at this;exact this) rfl rfl (by omega) u.o.bs ?_;intro v' C c7 e4 e3;obtain ⟨a8,k8,rfl⟩:=aF c7;have H8:=ah (u.o.LH (by rw [a0.o];exact e4) c7 (by rw [a0.o];exact e3) u.o.kk.size);have j9:C.cell? ⟨L.H,15,none⟩=some (.slice af q.freed.length cf):=by
       have:=H8.o.hH.c 15;rw [this];exact congrArg some a0.o
      have j6:=H8.o.hH.ME 15;clear c7 e4 e3)
     all_goals
      go_wp2_with fail;go_meet;exact ⟨.slice a8 (q.freed.length+1) k8,(by
       have h9:=H8.o.setH 15 (by decide) (.slice a8 (q.freed++[q.G9]).length k8);have e9:(q.freed++[q.G9]).length=q.freed.length+1:=by simp
       rw [e9] at h9;exact h9)⟩
    case rest=>
    obtain ⟨v',D⟩:=hcut;rename World=>C;clear i9 h2 N u a0 i7;have e0:C.cell? ⟨L.H,0,none⟩=some (.slice (some ⟨g1,0,none⟩) q.objs.length W):=by
     have:=D.o.hH.c 0;rw [this];exact congrArg some J.o
    have N:C.cell? ⟨L.H,14,none⟩=some (.int .i64 (q.G9:Int)):=D.o.hH.c 14;have e6:C.cell? ⟨L.H,6,none⟩=some (.int .i64 (q.white:Int)):=D.o.hH.c 6;have b5:L.oS.ownBlock=some g1:=by rw [J.o];simp [Value.ownBlock]
    have a6:=ay D.o.oo b5;have eg:=a6.c (q.G9);have yg:=a6.ME q.G9;have i6:=D.o.hH.lt;have i0:=a6.lt;clear a6 b5;go_wp2_with fail
    go_region
    have e5:(C.setCell ⟨g1,q.G9,none⟩ (.pointer (some ⟨C.heap.size,0,none⟩))).heap.size=C.heap.size:=by simp
    have a2:=ah ((D.o.LU J.o G C.heap.size).low ((aU _ (.cells #[.int .i64 0,.int .i64 (q.white:Int),.bool true,.int .i64 0,.int .i64 0,.slice none 0 0,.slice none 0 0,.int .i64 0,.int .i64 0,.slice none 0 0,.pointer none,.int .i64 0,.int .i64 0,.int .u64 0,.string { data:=#[] },.int .i64 0,.int .i64 0,.int .i64 0,.int .i64 0,.pointer none,.pointer none,.int .i64 0,.bool false,.pointer none,.pointer none] 101)).drew));have g3:Hq (∃ rx,aD ((C.setCell ⟨g1,q.G9,none⟩ (.pointer (some ⟨C.heap.size,0,none⟩))).alloc (.cells #[.int .i64 0,.int .i64 (q.white:Int),.bool true,.int .i64 0,.int .i64 0,.slice none 0 0,.slice none 0 0,.int .i64 0,.int .i64 0,.slice none 0 0,.pointer none,.int .i64 0,.int .i64 0,.int .u64 0,.string { data:=#[] },.int .i64 0,.int .i64 0,.int .i64 0,.int .i64 0,.pointer none,.pointer none,.int .i64 0,.bool false,.pointer none,.pointer none] 101)).drew 101 C.heap.size 25 (kY rx 0 q.white true 0 (.slice none 0 0) false)):=ah (by
     have h9:=aD.mk' (C.setCell ⟨g1,q.G9,none⟩ (.pointer (some ⟨C.heap.size,0,none⟩))) 101 #[.int .i64 0,.int .i64 (q.white:Int),.bool true,.int .i64 0,.int .i64 0,.slice none 0 0,.slice none 0 0,.int .i64 0,.int .i64 0,.slice none 0 0,.pointer none,.int .i64 0,.int .i64 0,.int .u64 0,.string { data:=#[] },.int .i64 0,.int .i64 0,.int .i64 0,.int .i64 0,.pointer none,.pointer none,.int .i64 0,.bool false,.pointer none,.pointer none];rw [e5] at h9;refine ⟨fun j=>(#[.int .i64 0,.int .i64 (q.white:Int),.bool true,.int .i64 0,.int .i64 0,.slice none 0 0,.slice none 0 0,.int .i64 0,.int .i64 0,.slice none 0 0,.pointer none,.int .i64 0,.int .i64 0,.int .u64 0,.string { data:=#[] },.int .i64 0,.int .i64 0,.int .i64 0,.int .i64 0,.pointer none,.pointer none,.int .i64 0,.bool false,.pointer none,.pointer none]:Array Value).getD j (.bool false),aD.congr (show aD _ _ _ 25 _ from h9) (fun j hj=>?_)⟩;have:j=0∨j=1∨j=2∨j=3∨j=4∨j=5∨j=22∨(j≠0/\j≠1/\j≠2/\j≠3/\j≠4/\j≠5/\j≠22):=by omega
     rcases this with rfl|rfl|rfl|rfl|rfl|rfl|rfl|⟨t0,t1,t2,t3,t4,t5,h3⟩
     ·rfl
     ·rfl
     ·rfl
     ·rfl
     ·rfl
     ·rfl
     ·rfl
     ·simp [kY,t0,t1,t2,t3,t4,t5,h3])
    have j1:Hq (w4.heap.size<=C.heap.size):=ah D.o.kk.size;generalize ((C.setCell ⟨g1,q.G9,none⟩ (.pointer (some ⟨C.heap.size,0,none⟩))).alloc (.cells #[.int .i64 0,.int .i64 (q.white:Int),.bool true,.int .i64 0,.int .i64 0,.slice none 0 0,.slice none 0 0,.int .i64 0,.int .i64 0,.slice none 0 0,.pointer none,.int .i64 0,.int .i64 0,.int .u64 0,.string { data:=#[] },.int .i64 0,.int .i64 0,.int .i64 0,.int .i64 0,.pointer none,.pointer none,.int .i64 0,.bool false,.pointer none,.pointer none] 101)).drew=w9 at *;clear e0 N e6 eg yg i6 i0 D e5;generalize C.heap.size=X at *;have N:w9.cell? ⟨L.H,14,none⟩=some (.int .i64 (q.G9:Int)):=a2.o.hH.c 14;have k2:=a2.o.hH.ME 14;obtain ⟨rx,c8⟩:=g3.o;have a1:=ah (a2.o.setH 14 (by decide) (.int .i64 ((q.G9:Int)+1)));have j0:Hq (aD (w9.setCell ⟨L.H,14,none⟩ (.int .i64 ((q.G9:Int)+1))) 101 X 25 (kY rx 0 q.white true 0 (.slice none 0 0) false)):=ah (c8.other (fun e=>c8.apart a2.o.hH (by decide) e));have j4:Hq ((q.bytes:Int)-(40+40*(o.es.length:Int))=((q.bytes-o.size:Nat):Int)):=ah (by have:=g9.o.1;unfold Ob.size at this ⊢;omega);have j3:Hq ((q.live:Int)-1=((q.live-1:Nat):Int)):=ah (by have:=g9.o.2.1;omega);have g8:=ah (b.o.freed (h':={ q with objs:=q.objs.set q.G9 none,live:=q.live-1,bytes:=q.bytes-o.size,freed:=q.freed++[q.G9],G9:=q.G9+1 }) HO.o (v':=v') (X:=X) (c:=q.white) (rx:=rx) J.o a1.o.kk rfl
     (fun k hk h15=>by rcases hk with rfl|rfl|rfl|rfl|rfl|rfl|rfl<;>first |rfl|exact absurd rfl h15) rfl rfl
     (a1.o.hH.congr (bV _ rfl (congrArg (Value.int .i64) j4.o) (congrArg (Value.int .i64) j3.o) rfl rfl rfl rfl rfl rfl rfl rfl rfl rfl rfl rfl rfl rfl rfl))
     a1.o.oo j0.o (by have:=g4.o;rcases (by omega:q.white=0∨q.white=1) with z|z<;>rw [z]<;>rfl) j1.o a1.o.li a1.o.vv)
    clear c8 g3 a2;go_wp2_with fail;go_meet;exact ⟨{ L with ob:=fun m=>if m=q.G9 then X else L.ob m,li:=fun j=>if j=15 then v' else L.li j },rfl,by rw [Z.o,if_pos b0.o];exact g8.o.1,y.o.trans g8.o.2⟩
   ·have b0:=ah p
    rcases qc o.col with ⟨v,_⟩|⟨v,_,_⟩
    ·have h6:((o.col:Int) !=(q.white:Int))=false:=by
      rw [v] at p;simp at p ⊢;omega
     rw [v] at A;clear p v;go_wp2_with fail;go_quiet ((go_at_call 91;exact Calls.quiet_of_same (A.o _ (by assumption))));have f:=ah (aC (aT w3.heap.size w3) nq);have b:=ah (l.o.low f.o);have y:=ah (K.o.trans (Keeps.of f.o (au _) S));generalize w3.drewN nq=w4 at *;clear d1 d6 f A;obtain ⟨r4,n⟩:=b.o.ob q.G9 o HO.o;have f1:w4.cell? ⟨L.ob q.G9,1,none⟩=some (.int .i64 (o.col:Int)):=n.c 1;have y1:=n.ME 1;have f6:w4.cell? ⟨L.H,6,none⟩=some (.int .i64 (q.white:Int)):=b.o.hp.c 6;have B:=ah (b.o.Mk q.G9 1 (.int .i64 (q.white:Int)) (fun o=>{ o with col:=q.white }) (by decide) HO.o ⟨rfl,rfl⟩ (fun r i=>by
      unfold kY;by_cases x:i=1
      ·subst x;simp
      ·simp [x]))
     clear n;go_upto_region 10 with (fail)
     generalize w4.setCell ⟨L.ob q.G9,1,none⟩ (.int .i64 (q.white:Int))=w5 at *;have N:w5.cell? ⟨L.H,14,none⟩=some (.int .i64 (q.G9:Int)):=B.o.1.hp.c 14;have h1:=B.o.1.hp.ME 14;have a3:=ah (B.o.1.num (h':={ q.upd q.G9 (fun o=>{ o with col:=q.white }) with G9:=q.G9+1 }) 14 (.int .i64 ((q.G9:Int)+1)) (by decide) rfl ⟨rfl,rfl,rfl,rfl,rfl,rfl,rfl⟩ rfl (bV _ rfl rfl rfl rfl rfl rfl rfl rfl rfl rfl rfl rfl rfl rfl rfl rfl rfl rfl));clear f1 y1 f6;go_wp2_with fail;go_meet;exact ⟨L,rfl,by rw [Z.o,if_neg b0.o];exact a3.o.1,(y.o.trans B.o.2).trans a3.o.2⟩
    ·rw [v] at A
     clear p v;go_wp2_with fail;go_quiet ((go_at_call 91;exact Calls.quiet_of_same (A.o _ (by assumption))));have f:=ah (aC (aT w3.heap.size w3) nq);have b:=ah (l.o.low f.o);have y:=ah (K.o.trans (Keeps.of f.o (au _) S));generalize w3.drewN nq=w4 at *;clear d1 d6 f A;obtain ⟨r4,n⟩:=b.o.ob q.G9 o HO.o;have f1:w4.cell? ⟨L.ob q.G9,1,none⟩=some (.int .i64 (o.col:Int)):=n.c 1;have y1:=n.ME 1;have f6:w4.cell? ⟨L.H,6,none⟩=some (.int .i64 (q.white:Int)):=b.o.hp.c 6;have B:=ah (b.o.Mk q.G9 1 (.int .i64 (q.white:Int)) (fun o=>{ o with col:=q.white }) (by decide) HO.o ⟨rfl,rfl⟩ (fun r i=>by
      unfold kY;by_cases x:i=1
      ·subst x;simp
      ·simp [x]))
     clear n;go_upto_region 10 with (fail)
     generalize w4.setCell ⟨L.ob q.G9,1,none⟩ (.int .i64 (q.white:Int))=w5 at *;have N:w5.cell? ⟨L.H,14,none⟩=some (.int .i64 (q.G9:Int)):=B.o.1.hp.c 14;have h1:=B.o.1.hp.ME 14;have a3:=ah (B.o.1.num (h':={ q.upd q.G9 (fun o=>{ o with col:=q.white }) with G9:=q.G9+1 }) 14 (.int .i64 ((q.G9:Int)+1)) (by decide) rfl ⟨rfl,rfl,rfl,rfl,rfl,rfl,rfl⟩ rfl (bV _ rfl rfl rfl rfl rfl rfl rfl rfl rfl rfl rfl rfl rfl rfl rfl rfl rfl rfl));clear f1 y1 f6;go_wp2_with fail;go_meet;exact ⟨L,rfl,by rw [Z.o,if_neg b0.o];exact a3.o.1,(y.o.trans B.o.2).trans a3.o.2⟩
  ·have M:decide ((q.G9:Int)<(q.objs.length:Int))=false:=by simp;omega
   have Z:Hq (q.G_=q):=ah (by
    unfold Hp.G_;have:q.ob q.G9=none:=by
     cases e:q.ob q.G9 with
     |none=>rfl
     |some o=>exact absurd (Hp.Ia e) G
    rw [this])
   go_wp2_with fail;go_meet;exact ⟨L,rfl,by rw [Z.o];exact T.o,d8.o⟩
 case rest=>
 obtain ⟨L2,i5,H2⟩:=hcut;obtain ⟨j5,c2,b9,d4,c6,b8⟩:=L2;obtain rfl:j5=L.H:=i5;have d0:q.G_.objs.length=q.objs.length:=by
  unfold Hp.G_;split
  ·split
   ·simp
   ·simp [Hp.upd]
  ·rfl
 have e7:q.G_.G9<=10000:=by
  unfold Hp.G_;split
  ·split
   ·show q.G9+1<=10000
    omega
   ·show q.G9+1<=10000
    omega
  ·omega
 have f9:q.G_.bytes<=200000:=aI d7.o.G_.2.2 P.o.Nn;have b7:=ah (sV H2.o.1 (by omega) (by omega) e7);clear P d7 g4 HE J T d8 d3;rename World=>wc;generalize q.G_=r at *;go_wp2_with fail;refine b7.o.mono ?_;rintro e9 w3 ⟨rfl,g0,f5⟩;have l:=ah g0;have K:=ah (H2.o.2.trans f5);clear g0 f5 b7 H2;have h8:r.skipped.objs.length=q.objs.length:=d0;have j8:r.skipped.bytes<=200000:=f9;have j7:r.skipped.G9<=30000:=by
  rcases Nat.lt_or_ge r.objs.length r.G9 with d|d
  ·have:r.skip r.G9=r.G9:=Hp.Ju (fun x=>by omega)
   show r.skip r.G9<=_;omega
  ·have:=r.Jh r.G9 d
   show r.skip r.G9<=_;omega
 generalize r.skipped=t at *;obtain ⟨i8,d5,b3,h0,-⟩:=l.o.slot (by omega);have c0:w3.cell? ⟨L.H,0,none⟩=some (.slice (some ⟨i8,0,none⟩) t.objs.length d5):=by
  have:=l.o.hp.c 0;rw [this];exact congrArg some b3
 have Y:w3.cell? ⟨L.H,14,none⟩=some (.int .i64 (t.G9:Int)):=l.o.hp.c 14;clear b3;go_wp2_with fail;go_quiet (fail);have f:=ah (aC (aT w3.heap.size w3) nq);have b:=ah (l.o.low f.o);have y:=ah (K.o.trans (Keeps.of f.o (au _) S));generalize w3.drewN nq=w4 at *;clear c0 Y l K f;by_cases G:t.G9<t.objs.length
 ·have M:decide ((t.G9:Int) ≥ (t.objs.length:Int))=false:=by simp;omega
  have b1:Hq (t.close=t):=ah (by unfold Hp.close;rw [if_pos G]);go_wp2;go_end0;exact ⟨rfl,⟨L.H,c2,b9,d4,c6,b8⟩,rfl,by rw [HD.o,b1.o];exact b.o,y.o⟩
 ·have M:decide ((t.G9:Int) ≥ (t.objs.length:Int))=true:=by simp;omega
  have b1:Hq (t.close={ t with state:=0,limit:=max (2*t.bytes) 4096,G6:=0 }):=ah (by unfold Hp.close;rw [if_neg G]);have c5:=b.o.hp.c 5;have z5:=b.o.hp.ME 5;have R:=ah (b.o.num (h':={ t with state:=0 }) 5 (.int .i64 0) (by decide) rfl ⟨rfl,rfl,rfl,rfl,rfl,rfl,rfl⟩ rfl (bV _ rfl rfl rfl rfl rfl rfl rfl rfl rfl rfl rfl rfl rfl rfl rfl rfl rfl rfl));go_upto_region 14 with (fail)
  generalize w4.setCell ⟨L.H,5,none⟩ (.int .i64 0)=w5 at *;clear c5 z5;have c1:w5.cell? ⟨L.H,1,none⟩=some (.int .i64 (t.bytes:Int)):=R.o.1.hp.c 1;have c3:=R.o.1.hp.c 3;have z3:=R.o.1.hp.ME 3;have F:=ah (R.o.1.num (h':={ t with state:=0,limit:=2*t.bytes }) 3 (.int .i64 (2*(t.bytes:Int))) (by decide) rfl ⟨rfl,rfl,rfl,rfl,rfl,rfl,rfl⟩ rfl (bV _ rfl rfl rfl (congrArg (Value.int .i64) (by show (2*(t.bytes:Int))=((2*t.bytes:Nat):Int);omega)) rfl rfl rfl rfl rfl rfl rfl rfl rfl rfl rfl rfl rfl rfl));go_upto_region 15 with (fail)
  generalize w5.setCell ⟨L.H,3,none⟩ (.int .i64 (2*(t.bytes:Int)))=w6 at *;clear c1 c3 z3;have c3:w6.cell? ⟨L.H,3,none⟩=some (.int .i64 (2*(t.bytes:Int))):=by
   have:=F.o.1.hp.c 3;rw [this];exact congrArg some (congrArg (Value.int .i64) (by show ((2*t.bytes:Nat):Int)=_;omega))
  have z3:=F.o.1.hp.ME 3;by_cases k9:2*t.bytes<4096
  ·have h7:(2*(t.bytes:Int))<4096:=by omega
   have b2:=ah (F.o.1.num (h':={ t with state:=0,limit:=4096 }) 3 (.int .i64 4096) (by decide) rfl ⟨rfl,rfl,rfl,rfl,rfl,rfl,rfl⟩ rfl (bV _ rfl rfl rfl rfl rfl rfl rfl rfl rfl rfl rfl rfl rfl rfl rfl rfl rfl rfl));go_upto_region 17 with (fail)
   generalize w6.setCell ⟨L.H,3,none⟩ (.int .i64 4096)=w7 at *;clear c3 z3;have c4:=b2.o.1.hp.c 4;have z4:=b2.o.1.hp.ME 4;have a4:=ah (b2.o.1.num (h':={ t with state:=0,limit:=4096,G6:=0 }) 4 (.int .i64 0) (by decide) rfl ⟨rfl,rfl,rfl,rfl,rfl,rfl,rfl⟩ rfl (bV _ rfl rfl rfl rfl rfl rfl rfl rfl rfl rfl rfl rfl rfl rfl rfl rfl rfl rfl));go_wp2;go_end0;exact ⟨rfl,⟨L.H,c2,b9,d4,c6,b8⟩,rfl,by rw [HD.o,b1.o,show max (2*t.bytes) 4096=4096 by omega];exact a4.o.1,(((y.o.trans R.o.2).trans F.o.2).trans b2.o.2).trans a4.o.2⟩
  ·have h7:¬ (2*(t.bytes:Int))<4096:=by omega
   go_upto_region 17 with (fail)
   clear c3 z3;have c4:=F.o.1.hp.c 4;have z4:=F.o.1.hp.ME 4;have a4:=ah (F.o.1.num (h':={ t with state:=0,limit:=2*t.bytes,G6:=0 }) 4 (.int .i64 0) (by decide) rfl ⟨rfl,rfl,rfl,rfl,rfl,rfl,rfl⟩ rfl (bV _ rfl rfl rfl rfl rfl rfl rfl rfl rfl rfl rfl rfl rfl rfl rfl rfl rfl rfl));go_wp2;go_end0;exact ⟨rfl,⟨L.H,c2,b9,d4,c6,b8⟩,rfl,by rw [HD.o,b1.o,show max (2*t.bytes) 4096=2*t.bytes by omega];exact a4.o.1,((y.o.trans R.o.2).trans F.o.2).trans a4.o.2⟩
end Go.Proofs.YtbpcdfbmnklcjaaGreatDoor
