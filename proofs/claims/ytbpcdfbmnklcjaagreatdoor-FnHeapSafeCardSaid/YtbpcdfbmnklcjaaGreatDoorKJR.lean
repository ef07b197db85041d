import Derived.Test.YtbpcdfbmnklcjaaGreatDoorKJQ1
import Derived.Test.YtbpcdfbmnklcjaaGreatDoorKJO
import Derived.Test.YtbpcdfbmnklcjaaGreatDoorKJR0
namespace Go.Proofs.YtbpcdfbmnklcjaaGreatDoor
open Go Go.RowKit
set_option maxHeartbeats 6400000
set_option maxRecDepth 100000
set_option linter.unusedVariables false
section
variable {n:Nat} {v:Value} {w w1:World}
theorem iy.up {f:Nat->Nat} (h:iy w.heap.size w v n f) (hb:Below w.heap.size w w1):iy w1.heap.size w1 v n f:=by
 rcases h.keep (Keeps.of hb (au _) (fun _=>False)) (au _) (fun _ e=>e.elim) with c|⟨b,o,a,i,g,d⟩
 ·exact .inl c
 ·exact .inr ⟨b,o,a,i,aW g hb.size,d⟩
theorem uj {f:Nat->Nat} (h:iy w.heap.size w v n f) (h9:n<=9223372036854775807):
 Calls Tryz.prog 3 #[v] w fun e w'=>e=.returned (.bool true)/\Below w.heap.size w w':=by
 obtain ⟨a,k9,rfl⟩:=h.form;by_cases hn:n<=1048576
 case neg=>
  have g8:((n:Int) > 1048576):=by omega
  clear h;go_enter Tryz.func3,Tryz.ntmps3;go_wp2;go_ret;exact ⟨rfl,aG _ _⟩
 have g8:¬ ((n:Int) > 1048576):=by omega
 have HC:=ah (fun (w1:World) (hb:Below w.heap.size w w1)=>h.up hb);have HD:=ah (fun (w1:World) (hb:Below w.heap.size w w1)=>Dh (h.up hb) hn);have a0:=ah (vB f n);unfold Gy at HD;generalize c7:gQ f n=ops at *;clear c7 h;go_enter Tryz.func3,Tryz.ntmps3;go_wp2_with fail;refine (HD.o w (aG _ _)).mono ?_;rintro e w1 ⟨j2,rfl,a9,d8⟩;obtain ⟨a1,k1,rfl⟩:=aF a9;have H1:=ah (And.intro a9 d8);clear a9 d8;go_wp2_with fail;refine (HD.o w1 H1.o.2).mono ?_;rintro e R ⟨j1,rfl,d1,x⟩;have H2:=ah (And.intro d1 (H1.o.2.trans (x.mono H1.o.2.size)));have F:=ah x;clear d1 x;go_wp2_with fail;refine (yU (qO H2.o.1) (by have:=a0.o.2;omega)).mono ?_;rintro e w3 ⟨U,aA,kA,fs,rfl,c9⟩;have B:=aU w3 (.cells #[.int .i64 (Bt ops),.slice aA (dZ ops).length kA] 27);have W:=ah (show Below w.heap.size w _/\J7 _ R.heap.size (.slice aA (dZ ops).length kA) (dZ ops) fs/\aD _ 27 w3.heap.size 2 _/\Below w1.heap.size w1 _ from
  ⟨(H2.o.2.trans (U.mono H2.o.2.size)).trans (B.mono (aI H2.o.2.size U.size)),c9.keep (Keeps.of B (au _) (fun _=>False)) (fun _ e=>e.elim),xO w3 (Bt ops) aA (dZ ops).length kA,(F.o.trans (U.mono F.o.size)).trans (B.mono (aI F.o.size U.size))⟩)
 clear U c9 B H2 F;go_upto_region 5 with (fail)
 generalize w3.alloc (.cells #[.int .i64 (Bt ops),.slice aA (dZ ops).length kA] 27)=w4 at *;generalize w3.heap.size=PW at *;go_wp2_with fail;refine (HD.o w4 W.o.1).mono ?_;rintro e w5 ⟨j0,rfl,d0,G⟩;have H5:=ah (And.intro d0 G);clear d0 G;go_wp2_with fail;refine (Ak (qO H5.o.1) (by have:=a0.o.2;omega) (fun o ho=>by have:=a0.o.1 o ho;omega)).mono ?_;rintro e w6 ⟨d7,aB,kB,e2,rfl,c8,i1⟩;have B:=aU w6 (.cells #[.int .i64 (Bt ops),.slice aB (dZ ops).length kB] 27);have T:=H5.o.2.trans (d7.mono H5.o.2.size);have Q:=ah (show Below w4.heap.size w4 _/\J7 _ w5.heap.size (.slice aB (dZ ops).length kB) (dZ ops) e2/\aD _ 27 w6.heap.size 2 _ from
  ⟨T.trans (B.mono T.size),c8.keep (Keeps.of B (au _) (fun _=>False)) (fun _ e=>e.elim),xO w6 (Bt ops) aB (dZ ops).length kB⟩)
 clear d7 c8 B T H5 i1;go_upto_region 6 with (fail)
 generalize w6.alloc (.cells #[.int .i64 (Bt ops),.slice aB (dZ ops).length kB] 27)=w7 at *;generalize w6.heap.size=PG at *;generalize w5.heap.size=B5 at *;generalize R.heap.size=B2 at *;have a2:Hq (LK w7 ops a1 k1 PW PG aA kA aB kB fs e2):=ah (by
  have d9:PW<w4.heap.size:=W.o.2.2.1.lt;have g3:=Keeps.of Q.o.1 (au _) (fun _=>False);have g4:=Keeps.of (W.o.2.2.2.trans (Q.o.1.mono W.o.2.2.2.size)) (au _) (fun _=>False);exact ⟨qO (aj H1.o.1 g4 (fun _ _ e=>e)),(W.o.2.2.1.low Q.o.1 d9).c 1,Q.o.2.2.c 1,⟨aW d9 Q.o.1.size,Q.o.2.2.lt⟩,⟨_,W.o.2.1.keep g3 (fun _ e=>e.elim)⟩,⟨_,Q.o.2.1⟩⟩)
 have g0:Hq (Below w.heap.size w w7):=ah (W.o.1.trans (Q.o.1.mono W.o.1.size));have p0:w7.cell? ⟨PW,0,none⟩=some (.int .i64 (Bt ops)):=(W.o.2.2.1.low Q.o.1 W.o.2.2.1.lt).c 0;have q0:w7.cell? ⟨PG,0,none⟩=some (.int .i64 (Bt ops)):=Q.o.2.2.c 0;have p1:=a2.o.p1;have q1:=a2.o.q1;have g2:((((w7.alloc (.cells #[.int .i64 0] 3)).alloc (.cells #[.bool false] 4)).alloc (.cells #[.slice (some ⟨w7.heap.size,0,none⟩) 1 1,.slice (some ⟨w7.heap.size+1,0,none⟩) 1 1,.slice none 0 0] 34)).alloc (.cells #[] 4)).cell? ⟨PG,1,none⟩=some (.slice aB (dZ ops).length kB):=((SL.new w7 ops).bl.cell (p:=⟨PG,1,none⟩) a2.o.pl.2).trans q1;have e5:=ah (SL.new w7 ops);have j6:(dZ ops).length<=5000:=(wu ops).1;clear H1 W Q HC HD a0;go_upto_region 10 with (fail)
 clear p0 p1 q0 q1;generalize (((w7.alloc (.cells #[.int .i64 0] 3)).alloc (.cells #[.bool false] 4)).alloc (.cells #[.slice (some ⟨w7.heap.size,0,none⟩) 1 1,.slice (some ⟨w7.heap.size+1,0,none⟩) 1 1,.slice none 0 0] 34)).alloc (.cells #[] 4)=w8 at *;generalize w7.heap.size+1+1=P at *;generalize P+1=GG at *;generalize hm:(dZ ops).length=m at *;have HM:=ah hm;clear hm;go_wp2_with fail;clear g2;go_loopw [7,46] (fun gv iv ws=>∃ (i gl gc:Nat) (ga:Option Addr) (gn:List Bool) (b:Bk) (mv rv ev:Value),i<=m/\iv=.int .i64 (i:Int)/\gv=.slice ga gl gc/\Hq (gn.length=gl/\SL w7 P ops i (.slice ga gl gc) gn b mv rv ev ws)) (fun _ iv _=>m-bF iv)
 case atStart=>exact ⟨0,0,0,_,[],_,_,_,_,by omega,rfl,rfl,rfl,e5.o⟩
 case round=>
  clear e5;obtain ⟨i,gl,gc,ga,gn,b,mv,rv,ev,j9,rfl,rfl,HJ⟩:=hrel;by_cases h7:i<m
  ·have h8:((i:Int)<(m:Int)):=by omega
   obtain ⟨o,an,gO,gA,gB,af,E,cf,D,rd⟩:=a2.o.at (i:=i) (by rw [HM.o];exact h7);obtain ⟨X,M,L,N,J,K,fl⟩:=an;have e1:=rd.e1;have eA:=rd.eA;have eB:=rd.eB;subst e1 eA eB;have y:=ah rd;have j5:ops.length<=5000:=rd.ol;have k7:fl.length<=10000:=rd.fl;have j8:i<ops.length:=rd.il;clear rd;have c1:=y.o.c wr HJ.o.2.bl;have b0:wr.cell? ⟨gB,i*7,none⟩=some (.int .i64 X):=c1.b0;have b1:wr.cell? ⟨gB,i*7+1,none⟩=some (.int .i64 M):=c1.b1;have b2:wr.cell? ⟨gB,i*7+2,none⟩=some (.int .i64 L):=c1.b2;have b3:wr.cell? ⟨gB,i*7+3,none⟩=some (.int .i64 N):=c1.b3;have b4:wr.cell? ⟨gB,i*7+4,none⟩=some (.int .i64 J):=c1.b4;have b5:wr.cell? ⟨gB,i*7+5,none⟩=some (.int .i64 K):=c1.b5;have b6:wr.cell? ⟨gB,i*7+6,none⟩=some (.slice E fl.length D):=c1.b6;clear c1;have HE:=ah (show aD _ 36 wr.heap.size 7 (GA X M L N J K (.slice E fl.length D)) from aD.mk' wr 36 #[.int .i64 X,.int .i64 M,.int .i64 L,.int .i64 N,.int .i64 J,.int .i64 K,.slice E fl.length D]);have a3:=ah (And.intro HJ.o.1 (HJ.o.2.low (aU wr (.cells #[.int .i64 X,.int .i64 M,.int .i64 L,.int .i64 N,.int .i64 J,.int .i64 K,.slice E fl.length D] 36))));clear HJ;go_upto_region 13 with (fail)
   clear b0 b1 b2 b3 b4 b5 b6;generalize wr.alloc (.cells #[.int .i64 X,.int .i64 M,.int .i64 L,.int .i64 N,.int .i64 J,.int .i64 K,.slice E fl.length D] 36)=R at *;generalize wr.heap.size=Y at *;have e0:R.cell? ⟨Y,0,none⟩=some (.int .i64 X):=HE.o.c 0;have e6:R.cell? ⟨Y,6,none⟩=some (.slice E fl.length D):=HE.o.c 6;have c2:=y.o.c R a3.o.2.bl;have p1:R.cell? ⟨PW,1,none⟩=some (.slice (some ⟨gA,0,none⟩) m kA):=by have:=c2.p1;rw [HM.o] at this;exact this
   have f0:R.cell? ⟨gA,i*7,none⟩=some (.int .i64 X):=c2.A0;have f6:R.cell? ⟨gA,i*7+6,none⟩=some (.slice af fl.length cf):=c2.A6;clear c2;go_wp2_with fail;go_quiet (fail);have q:=ah (And.intro a3.o.1 (a3.o.2.low (aC (aG _ _) nq)));have a5:=ah (show aD (R.drewN nq) 36 Y 7 _ from HE.o);clear e0 e6 p1 f0 f6 a3 HE;generalize R.drewN nq=w3 at *;have e0:w3.cell? ⟨Y,0,none⟩=some (.int .i64 X):=a5.o.c 0;by_cases hc:X=0
   ·subst hc
    have c3:=y.o.c w3 q.o.2.bl;have o0:w3.cell? ⟨gO,i*4,none⟩=some (.int .i64 o.1):=c3.o0;have o1:w3.cell? ⟨gO,i*4+1,none⟩=some (.int .i64 o.2.1):=c3.o1;have o2:w3.cell? ⟨gO,i*4+2,none⟩=some (.int .i64 o.2.2.1):=c3.o2;have o3:w3.cell? ⟨gO,i*4+3,none⟩=some (.int .i64 o.2.2.2):=c3.o3;clear c3;have h6:((i:Int)<(ops.length:Int)):=by omega
    have c4:=ah (show (cK (cZ (ops.take i)).2 o.1 o.2.1 o.2.2.1 o.2.2.2).1.code=0 by rw [y.o.hx]);have HY:=ah (q.o.2.bs.yes (by omega) c4.o);have f9:=ah (show (cZ (ops.take i)).2.h.objs.length<=5001 from aI q.o.2.bs.ok.b.len (by omega));have f8:=ah (Cu o.1 o.2.1 o.2.2.1 o.2.2.2 q.o.2.bk q.o.2.bl.size HY.o.1 HY.o.2.1 HY.o.2.2.1 (by have:=f9.o;omega) (aI q.o.2.el (by omega)));go_wp2_with fail;refine f8.o.mono ?_;intro e w4 ha;obtain ⟨rfl,j3,c5,e3,S,k4,z4⟩:=q.o.2.act y.o.ho (by omega) c4.o ha;have HF:=ah (show FZ fl gn _ _ from by rw [y.o.hx] at z4;exact z4);have f7:=ah (a5.o.keep k4 (q.o.2.bk.ap a5.o (by decide) (by decide) (by decide) (by decide)));have V:=ah (And.intro q.o.1 S);have b8:(b.act o.1 o.2.1 o.2.2.1 o.2.2.2).modes.length=(b.act o.1 o.2.1 o.2.2.1 o.2.2.2).roots.length/\1<=(b.act o.1 o.2.1 o.2.2.1 o.2.2.2).roots.length/\(b.act o.1 o.2.1 o.2.2.1 o.2.2.2).roots.length<=5002:=by
     have h1:=S.bs.bk.ml;have h2:=S.bs.ok.l;have h3:=S.bs.ok.b.len;have h5:=(aJ.1 S.bs.ok.r0).1;rw [S.bs.bk.rt];omega
    have i5:=ah (show ∀ e∈(b.act o.1 o.2.1 o.2.2.1 o.2.2.2).edges,e.t<(b.act o.1 o.2.1 o.2.2.1 o.2.2.2).roots.length/\e.key<(b.act o.1 o.2.1 o.2.2.1 o.2.2.2).roots.length/\e.val<(b.act o.1 o.2.1 o.2.2.1 o.2.2.2).roots.length from fun e he=>by
     have:=S.bs.bk.rg e he;rw [S.bs.bk.rt,S.bs.ok.l];exact this)
    obtain ⟨c0,b9,rfl⟩:=aF S.bk.m;generalize b.act o.1 o.2.1 o.2.2.1 o.2.2.2=b4 at *;clear S k4 z4 ha f8 HY c4 f9 q a5 o0 o1 o2 o3 e0 h6;have f2:=ah V.o.2.bs.gl;go_wp2_with fail;go_loopw [7] (fun gv ws=>∃ (k C:Nat) (H:Option Addr) (g1:List Bool),gv=.slice H k C/\k<=b4.modes.length/\Hq (g1.length=k/\SL w7 P ops (i+1) (.slice H k C) g1 b4 (.slice c0 b4.modes.length b9) c5 e3 ws/\FZ fl g1 b4 (cZ (ops.take (i+1))).2/\aD ws 36 Y 7 (GA 0 M L N J K (.slice E fl.length D)))) (fun gv _=>b4.modes.length-FY gv)
    case atStart=>exact ⟨gl,gc,ga,gn,rfl,by have:=f2.o;have:=V.o.1;omega,V.o.1,V.o.2,HF.o,f7.o⟩
    case round=>
     clear V HF f7 f2;obtain ⟨k,C,H,g1,rfl,k5,s⟩:=hrel;have r0:wr.cell? ⟨P,0,none⟩=some (.slice c0 b4.modes.length b9):=s.o.2.1.bk.r.c 0;by_cases d2:k<b4.modes.length
     ·have g9:((k:Int)<(b4.modes.length:Int)):=by omega
      have i2:w7.heap.size<=wr.heap.size:=s.o.2.1.bl.size;go_wp2_with (first
       |(at_builtin
         refine fE rfl (.tmp 90) (.tmp 91) 31 4 1 1 (.bool false) rfl Tryz.underlying31 je rfl (by decide) w7.heap.size (.slice H k C) k (iQ g1) [.bool false] (by have:=s.o.2.1.g;rw [s.o.1] at this;exact this) rfl rfl rfl (fun u hu=>by simp at hu;subst hu;rfl) (by omega) (by decide) i2 ?_;intro v' w6 k1 k2 k3 k4;obtain ⟨a6,k6,g6⟩:=aF k1;subst g6;have x:=k2 w7.heap.size wr (aG _ _) (au _);have b7:Keeps wr w6 (fun c=>(Value.slice H k C).ownBlock=some c):=⟨x.os,x.tape,x.output,x.size,fun b hb hn=>k3 b hb hn⟩
         have Q:=ah (s.o.2.1.push (by rw [s.o.1];exact d2) (by rw [s.o.1];exact k1) b7 (fun g e=>by
          by_cases c:(Value.slice H k C).ownBlock=some g
          ·exact .inl c
          ·right
           rcases Nat.lt_or_ge g wr.heap.size with d|d
           ·exact absurd e (k4 g d c)
           ·exact d))
         have i7:=ah (s.o.2.2.2.keep b7 (fun c=>ak s.o.2.1.g s.o.2.2.2 (by decide) c));clear k1 k2 k3 k4 x b7)
       |go_in)
      go_wp2;go_roundw
      ·exact ⟨k+1,k6,a6,g1++[false],rfl,by omega,by rw [aT,s.o.1];rfl,Q.o,s.o.2.2.1.push,i7.o⟩
      ·simp [FY];omega
     ·have g9:¬ ((k:Int)<(b4.modes.length:Int)):=by omega
      have d5:k=b4.modes.length:=by omega
      have e7:=ah (xB s.o.2.1.bk s.o.2.1.bl.size i5.o b8.1 b8.2.1 (by omega) (aI s.o.2.1.el (by omega)));have f3:=ah d5;clear d5 d2;go_wp2_with fail;refine e7.o.mono ?_;rintro e w5 ⟨sn,sG,i9,rfl,a7,j4,c6,g7,G⟩;have f1:=ah (s.o.2.1.low G);have f5:=ah (s.o.2.2.2.low G s.o.2.2.2.lt);have f4:=ah s.o.2.2.1;have a4:=ah s.o.1;obtain ⟨gG,rfl,k0,d4⟩:=s.o.2.1.at (by have:=a4.o;have:=f3.o;omega);have d3:gG≠sG:=by have:=d4.lt;omega
      have e4:=ah (And.intro a7 c6);have i6:=ah d3;clear s e7 a7 c6 g7 G d4 r0 d3;have e6:w5.cell? ⟨Y,6,none⟩=some (.slice E fl.length D):=f5.o.c 6;go_wp2_with fail;clear e6 f5;go_loopw [98] (fun jv ws=>∃ j:Nat,j<=fl.length/\jv=.int .i64 (j:Int)/\Hq (SL w7 P ops (i+1) (.slice (some ⟨gG,0,none⟩) k C) (Bu g1 (fl.take j)) b4 (.slice c0 b4.modes.length b9) c5 e3 ws/\aD ws 4 sG b4.roots.length (eG sn))) (fun jv _=>fl.length-bF jv)
      case atStart=>exact ⟨0,by omega,rfl,f1.o,e4.o.2⟩
      case round=>
       clear f1;obtain ⟨j,j7,rfl,Z⟩:=hrel;by_cases h0:j<fl.length
       ·have h4:((j:Int)<(fl.length:Int)):=by omega
        obtain ⟨z,hz⟩:∃ z,fl[j]?=some z:=⟨_,aN h0⟩
        obtain ⟨gf,i3,d6⟩:=y.o.f j z hz;subst i3;have fz:=d6 wr Z.o.1.bl;obtain ⟨z1,z2,z3,z4,z5⟩:=f4.o.2 z (aX hz);have A:=Z.o.1.row;have i0:=A.1;rw [ru,a4.o] at A;have a8:z<k:=by rw [f3.o];exact z2
        have cg:wr.cell? ⟨gG,z,none⟩=some (.bool false):=by
         rw [A.2.cell (j:=z) a8];unfold eG;rw [Fx f4.o.1 hz z3 (by rw [a4.o];exact a8)]
        have zg:=A.2.ME z;have g5:z<b4.roots.length:=by rw [<-b8.1];exact z2
        have cs:wr.cell? ⟨sG,z,none⟩=some (.bool false):=by rw [Z.o.2.cell (j:=z) g5,Fj e4.o.1 z4]
        have e8:=ah (Z.o.1.mark (by rw [ru,a4.o];exact a8) z5);have i4:=ah (Z.o.2.keep e8.o.2 (fun c=>i6.o c.symm));have HZ:=ah hz;have y1:¬ ((z:Int)<1):=by omega
        have y2:¬ ((z:Int) ≥ (k:Int)):=by omega
        have y3:((z:Int)<(k:Int)):=by omega
        have y4:((z:Int)<(b4.roots.length:Int)):=by omega
        clear A i0 d6 hz z3 z4 z5 z2 Z;go_wp2;go_roundw
        ·exact ⟨j+1,by omega,by simp,by rw [yC HZ.o,Az];exact e8.o.1,i4.o⟩
        ·simp [bF];omega
       ·have h4:¬ ((j:Int)<(fl.length:Int)):=by omega
        have e9:=ah (And.intro (Z.o.1.row).1 Z.o.1);clear Z;go_wp2;go_roundw
        ·exact ⟨i+1,k,C,_,_,b4,_,_,_,by omega,by simp,rfl,e9.o.1.symm,e9.o.2⟩
        ·simp [bF];omega
   ·have k8:(X !=0)=true:=by simp [hc]
    have HN:=ah (q.o.2.no y.o.ho (by omega) (by rw [y.o.hx];exact hc));clear hc;go_wp2;go_roundw
    ·exact ⟨i+1,gl,gc,ga,gn,b,mv,rv,ev,by omega,by simp,rfl,q.o.1,HN.o⟩
    ·simp [bF];omega
  ·have h8:¬ ((i:Int)<(m:Int)):=by omega
   have i8:=ah (g0.o.trans (HJ.o.2.bl.mono g0.o.size));go_wp2;go_ret;exact ⟨rfl,i8.o⟩
end
end Go.Proofs.YtbpcdfbmnklcjaaGreatDoor
namespace Go.Proofs.YtbpcdfbmnklcjaaGreatDoor
open Go.ChangeShapes Go.WideShapes Go.ChangeAt Go Go.RowKit Go.ChangeMaps Go.WideElems Go.Joins Go.Deep
set_option maxRecDepth 100000
set_option linter.unusedVariables false
section
variable {W:World} {cap fuel n:Nat}
theorem zZ:Tryz.prog.readableRec 22=true/\22<Tryz.prog.types.size:=⟨by kernel_rfl,by decide+kernel⟩
theorem xD {H:Type} {enc:TypeId × Value->H} {sp:Nat->Bool} {hd:Bool} {a:Option Addr} {x:DataW H × List MemPlace} (h:DataW.trod enc Tryz.prog W 0 sp hd fuel 22 [.slice a n cap]=some x):
 n<=9223372036854775807/\∃ f,iy W.heap.size W (.slice a n cap) n f:=by
 obtain ⟨r,h⟩:=Bn Tryz.underlying22 (show Tryz.prog.cellsOf 5=1 by kernel_rfl) (by omega) h;refine ⟨aI r (by decide+kernel),?_⟩;rcases h with rfl|⟨b,o,m,rfl,hb,k,g⟩
 ·exact ⟨fun _=>0,.inl ⟨rfl,_,_,rfl⟩⟩
 ·have key:∀ i,∃ z:Nat,i<n->z<=255/\W.cell? ⟨b,o+i,none⟩=some (.int .u8 (z:Int)):=by
   intro i;by_cases hi:i<n
   ·obtain ⟨u,y,t,d,e⟩:=g i hi
    obtain ⟨l,s,_,j⟩:=DataW.trod_int Tryz.underlying5 e;subst s;have q:IntKind.u8.min=0:=by decide
    have p:IntKind.u8.max=255:=by decide
    simp only [Lit.wf,Bool.and_eq_true,decide_eq_true_eq,q,p] at j;have c:=d 0 (by omega);rw [Nat.mul_one,Nat.add_zero] at c;refine ⟨l.toNat,fun _=>⟨by omega,?_⟩⟩;rw [Int.toNat_of_nonneg j.1];exact c
   ·exact ⟨0,fun h=>absurd h hi⟩
  exact ⟨fun i=>Classical.choose (key i),.inr ⟨b,o,cap,rfl,hb,fun i hi=>Classical.choose_spec (key i) hi⟩⟩
theorem oM (H:Type) (a:TypeId × Value->H) (W:World) (base:Nat) (args:Array Value) (C B:List (DataW H)) (b:List MemPlace)
 (d:∀ (j:Nat) t v,Tryz.f3.params[j]?=some t->args[j]?=some v->Value.okWide Tryz.prog W .any base t v)
 (z:DataW.Whole a Tryz.prog Tryz.f3.params.toList Rows.fnHeapSafeSpec.vars false W args.toList C B b):
 Calls Tryz.prog 3 args W fun e W'=>∃ v,e=.returned v/\Rows.fnHeapSafeSpec.post a Tryz.prog Tryz.f3 false true false false W args v W':=by
 have i:=z;obtain ⟨p,q,l,k,rfl,G,F⟩:=z;have hA:DataW.TrodAll a Tryz.prog W 0 (fun _=>true) true Tryz.f3.params.toList args.toList C p:=l;have A:DataW.TrodVars a Tryz.prog W (fun _=>true) ["loop.example/g00002/impl.errNumWhole"] B q:=k;rw [Tryz.params3] at hA d;obtain ⟨w,E,d0,M,m,N,u,rfl,rfl,L,r0⟩:=trodAll_cons hA;obtain ⟨rfl,rfl,rfl⟩:=trodAll_nil r0;obtain rfl:args=#[w]:=by cases args;simp_all
 obtain ⟨P,rfl⟩:=AV A;have r:=i.lt;obtain ⟨fuel,y⟩:=L;clear l k;obtain ⟨D,c,g,rfl⟩:=okWide_slice Tryz.underlying22 (d 0 22 w rfl rfl);have s:DataW.trod a Tryz.prog W 0 (fun _=>true) true fuel 22 [.slice D c g]=some (d0,m):=y;obtain ⟨K,f,J⟩:=xD s;refine (uj J K).mono fun e W' ⟨he,hb⟩=>?_;subst he;have o:∀ (sp:Nat->Bool),(∀ x∈m,sp x.block=true)->DataW.Trod a Tryz.prog W' 0 sp true 22 (.slice D c g) d0 m:=fun sp hsp=>by
  exact ⟨fuel,DataW.trod_stays (kids_book Tryz.laidOut zZ.1) (book_sized zZ.1) (fun h=>by cases h) ⟨zZ.2,book_self 22⟩ y (fun x hx=>hb.same (r x (by simp [hx]))) hsp⟩
 refine ⟨_,rfl,Bo i (pa:=m++[]) (pv:=q) (fun _ _ _=>trodAll_cons_mk (shut_bool Tryz.underlying4 _) trodAll_mk0) (fun sp hsp=>trodAll_cons_mk (o sp (fun x hx=>hsp x (by simp [hx]))) trodAll_mk0)
  (fun sp hsp=>qA Tryz.laidOut hb Fg (fun x hx=>hsp x (by simp [hx])) A) (by simp) hb (ok_one (by kernel_rfl) rfl (okWide_bool_mk Tryz.underlying4 _))⟩
end
end Go.Proofs.YtbpcdfbmnklcjaaGreatDoor
