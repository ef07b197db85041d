import Derived.Test.YtbpcdfbmnklcjaaGreatDoorKJO0
namespace Go.Proofs.YtbpcdfbmnklcjaaGreatDoor
open Go Go.RowKit
set_option maxHeartbeats 6400000
set_option maxRecDepth 100000
set_option linter.unusedVariables false
variable {P base:Nat} {b:Bk} {ev mv rv:Value} {w:World}
theorem xq (h:Mf base w P b mv rv ev) (hb:base<=w.heap.size) (b6:∀ e∈b.edges,e.t<b.roots.length/\e.key<b.roots.length/\e.val<b.roots.length) (hm:b.modes.length=b.roots.length) (h1:1<=b.roots.length) (hl:b.roots.length<=10000) (f7:b.edges.length<=10000):
 Calls Tryz.prog 10 #[.pointer (some ⟨P,0,none⟩)] w (GR base b w):=by
 obtain ⟨am,cm,rfl⟩:=aF h.m;obtain ⟨ar,cr,rfl⟩:=aF h.o;obtain ⟨ae,ce,rfl⟩:=aF h.e;obtain ⟨gr,rfl,d6,g0,b8⟩:=iW h.o h1;have HZ:=ah (fun g (c:Zk P (.slice am b.modes.length cm) (.slice (some ⟨gr,0,none⟩) b.roots.length cr) (.slice ae b.edges.length ce) g)=>(h.zl c).2);have HH:=ah h;have c4:=ah b8;have d8:=ah b6;have HM:=ah hm;have c6:Hq (World.ownsRow (w.alloc (.cells #[] 4)) w.heap.size 4 1 (.slice (some ⟨w.heap.size,0,none⟩) 0 0) 0 []):=ah ⟨rfl,.inr ⟨w.heap.size,0,#[],rfl,au _,heap_alloc_new w _,by decide,by decide,rfl,rfl⟩⟩;have U:=ah (aU w (.cells #[] 4));have r1:w.cell? ⟨P,1,none⟩=some (.slice (some ⟨gr,0,none⟩) b.roots.length cr):=h.r.c 1;have d0:(w.alloc (.cells #[] 4)).cell? ⟨P,1,none⟩=some (.slice (some ⟨gr,0,none⟩) b.roots.length cr):=((aU w _).cell (p:=⟨P,1,none⟩) h.r.lt).trans r1;obtain ⟨i0,c1,b0,a9,a8⟩:=info_parts jc;have R:=ah (L.intro c1 (L.intro b0 (L.intro a9 a8)));clear h b8 b6 hm c1 b0 a9 a8;go_enter Tryz.func10,Tryz.ntmps10;go_wp2_with (first
  |(at_builtin
    refine jf _ rfl (.tmp 8) (.tmp 12) 31 rfl w.heap.size 4 i0 (.bool a) 1 1 Tryz.underlying31 R.o.1 R.o.2.1 R.o.2.2.1 R.o.2.2.2 rfl (by decide) (.slice (some ⟨w.heap.size,0,none⟩) 0 0) 0 [] rfl c6.o ⟨gr,0,none⟩ b.roots.length cr (iZ b.roots) rfl (by simp [iZ]) (fun j u hj=>?_) (fun u hu=>?_) (by unfold maxLen;omega) (by omega) U.o.size h1 ?_
    ·rw [bL,Nat.zero_add]
     have c0:j<b.roots.length:=by have:=(aJ.1 hj).1;simpa [iZ] using this
     have h9:=c4.o j b.roots[j] (aN c0);rw [(U.o).cell (p:=⟨gr,j,none⟩) d6,h9];simp [iZ,c0] at hj;rw [hj]
    ·simp only [iZ,List.mem_map] at hu
     obtain ⟨c,_,rfl⟩:=hu;rfl
    d1 v' w1 M b1 d3
    rw [Nat.zero_add,List.nil_append] at M;obtain ⟨G',c3,d2⟩:=aF M;subst d2;obtain ⟨G,rfl,g2,a3,b7⟩:=iW M h1;have c2:Below w.heap.size w w1:=(U.o).grown b1 (U.o).size (fun g hg=>by simp [Value.ownBlock] at hg;omega);have H1:=ah (L.intro M c2);clear M b1 d3 b7 c2)
  |go_in)
 clear r1 d0 c6 U c4 R;have H0:=ah (show Mj base w P b (.slice am b.modes.length cm) (.slice (some ⟨gr,0,none⟩) b.roots.length cr) (.slice ae b.edges.length ce) G b.roots w1 from
  ⟨HH.o.low H1.o.2,uF H1.o.1,H1.o.2,(H1.o.1.lt G (by simp [Value.ownBlock])).1⟩)
 have HG:=ah H1.o.1;have S0:Hq (Sn b b.roots):=ah ⟨rfl,fun n c=>c,fun n c S x=>x.1 n c⟩;clear HH H1
 go_loopg [4] (2*b.roots.count a+1) (fun k av ws=>∃ (ag:Bool) (sn:List Bool),av=.bool ag/\Hq (k=2*sn.count a+(if ag then 1 else 0)/\Sn b sn/\Mj base w P b (.slice am b.modes.length cm) (.slice (some ⟨gr,0,none⟩) b.roots.length cr) (.slice ae b.edges.length ce) G sn ws/\(ag=a->Fb b sn)))
 case atStart=>exact ⟨d,b.roots,rfl,rfl,S0.o,H0.o,fun c=>by cases c⟩
 case round=>
  clear H0 S0;obtain ⟨ag,sn,rfl,HJ⟩:=hrel;cases ag with
  |a=>
   go_wp2;go_ret;exact ⟨sn,G,c3,rfl,HJ.o.2.2.2 trivial,a3,HJ.o.2.2.1.r,HJ.o.2.2.1.g,HJ.o.2.2.1.b⟩
  |d=>
   have r2:wr.cell? ⟨P,2,none⟩=some (.slice ae b.edges.length ce):=HJ.o.2.2.1.k.r.c 2;go_wp2;clear r2;go_loopw [4,20] (fun av jv ws=>∃ (j:Nat) (ag:Bool) (s1:List Bool),j<=b.edges.length/\jv=.int .i64 (j:Int)/\av=.bool ag/\Hq (Ml b sn s1 j ag/\Mj base w P b (.slice am b.modes.length cm) (.slice (some ⟨gr,0,none⟩) b.roots.length cr) (.slice ae b.edges.length ce) G s1 ws)) (fun _ jv _=>b.edges.length-bF jv)
   case atStart=>exact ⟨0,a,sn,by omega,rfl,rfl,⟨HJ.o.2.1,fun _=>⟨rfl,fun q e c=>by omega⟩,fun c=>by cases c⟩,HJ.o.2.2.1⟩
   case round=>
    obtain ⟨j,ag,s1,f9,rfl,rfl,V⟩:=hrel;by_cases d4:j<b.edges.length
    ·obtain ⟨e,he⟩:∃ e,b.edges[j]?=some e:=⟨_,aN d4⟩
     have d5:(j:Int)<(b.edges.length:Int):=by omega
     obtain ⟨ge,rfl,e6,f0,f1,f2,f3,f4,z3⟩:=V.o.2.k.ed he;have HE:=ah (Bl wr e.t e.num e.key e.val e.ob);have c5:=ah (aU wr (.cells #[.int .i64 (e.t:Int),.int .i64 e.num,.int .i64 (e.key:Int),.int .i64 (e.val:Int),.bool e.ob] 80));have z:=ah (L.intro V.o.1 (V.o.2.low c5.o));have y:=ah (L.intro he (W he));obtain ⟨ht,hk,hv⟩:=d8.o e (W he);clear V he c5;go_upto_region 8 with (fail)
     clear f0 f1 f2 f3 f4 z3;generalize wr.alloc (.cells #[.int .i64 (e.t:Int),.int .i64 e.num,.int .i64 (e.key:Int),.int .i64 (e.val:Int),.bool e.ob] 80)=w2 at *;generalize wr.heap.size=Y at *;have e0:w2.cell? ⟨Y,0,none⟩=some (.int .i64 (e.t:Int)):=HE.o.c 0;have e2:w2.cell? ⟨Y,2,none⟩=some (.int .i64 (e.key:Int)):=HE.o.c 2;have e3:w2.cell? ⟨Y,3,none⟩=some (.int .i64 (e.val:Int)):=HE.o.c 3;have Z:w2.cell? ⟨Y,4,none⟩=some (.bool e.ob):=HE.o.c 4;have e9:(e.t:Int)<(b.roots.length:Int):=by omega
     have f8:(e.key:Int)<(b.roots.length:Int):=by omega
     have e8:(e.val:Int)<(b.roots.length:Int):=by omega
     have b5:=z.o.1.s.l;obtain ⟨bt,a5⟩:∃ bt,s1.getD e.t a=bt:=⟨_,rfl⟩
     obtain ⟨bk,a6⟩:∃ bk,s1.getD e.key a=bk:=⟨_,rfl⟩
     obtain ⟨bv,a4⟩:∃ bv,s1.getD e.val a=bv:=⟨_,rfl⟩
     have HT:=ah (kg (by omega) a5);have a0:=ah (kg (by omega) a6);have HV:=ah (kg (by omega) a4);have st:w2.cell? ⟨G,e.t,none⟩=some (.bool bt):=by rw [z.o.2.r.cell (j:=e.t) ht];unfold eG;rw [a5]
     have sk:w2.cell? ⟨G,e.key,none⟩=some (.bool bk):=by rw [z.o.2.r.cell (j:=e.key) hk];unfold eG;rw [a6]
     have sv:w2.cell? ⟨G,e.val,none⟩=some (.bool bv):=by rw [z.o.2.r.cell (j:=e.val) hv];unfold eG;rw [a4]
     have zk:=z.o.2.r.Nq e.key;have zv:=z.o.2.r.Nq e.val;have C:=ah b5;clear a5 a6 a4 b5;cases bt with
     |a=>
      have v:Hq (yO b s1 e):=ah (fun c=>by rw [HT.o] at c;cases c);go_wp2;go_roundw
      ·exact ⟨j+1,ag,s1,by omega,by simp,rfl,z.o.1.no y.o.1 v.o,z.o.2⟩
      ·simp [bF];omega
     |d=>
     by_cases N:e.val=0
     ·have b2:((e.val:Int)==0)=d:=by rw [N];rfl
      have v:Hq (yO b s1 e):=ah (fun _ c=>(c N).elim);clear N;go_wp2;go_roundw
      ·exact ⟨j+1,ag,s1,by omega,by simp,rfl,z.o.1.no y.o.1 v.o,z.o.2⟩
      ·simp [bF];omega
     ·have b2:((e.val:Int)==0)=a:=jF.2 (by omega)
      have F:=ah N;clear N;have b3:e.t<b.modes.length:=by rw [HM.o];exact ht
      obtain ⟨m,a2⟩:∃ m,b.modes[e.t]?=some m:=⟨_,aN b3⟩
      obtain ⟨gm,rfl,g1,fm⟩:=z.o.2.k.md a2;have r0:w2.cell? ⟨P,0,none⟩=some (.slice (some ⟨gm,0,none⟩) b.modes.length cm):=z.o.2.k.r.c 0;have f6:(e.t:Int)<(b.modes.length:Int):=by omega
      have A:=ah a2;clear a2 b3;go_wp2;go_quiet (fail);have i:=ah (L.intro z.o.1 (z.o.2.low (aC (c7 _ _) nq)));have T:=ah (show aD (w2.drewN nq) 80 Y 5 _ from HE.o);have c9:(w2.drewN nq).cell? ⟨G,e.key,none⟩=some (.bool bk):=sk;have c8:(w2.drewN nq).cell? ⟨G,e.val,none⟩=some (.bool bv):=sv;clear e0 e2 e3 Z st sk sv zk zv z HE r0 fm;generalize w2.drewN nq=w3 at *;have e2:w3.cell? ⟨Y,2,none⟩=some (.int .i64 (e.key:Int)):=T.o.c 2;have e3:w3.cell? ⟨Y,3,none⟩=some (.int .i64 (e.val:Int)):=T.o.c 3;have Z:w3.cell? ⟨Y,4,none⟩=some (.bool e.ob):=T.o.c 4;have zk:=i.o.2.r.Nq e.key;have zv:=i.o.2.r.Nq e.val;have f5:=y.o.2;have J:=ah (i.o.1.s.c e.t HT.o);by_cases X:m=0
      ·subst X
       cases eob:e.ob with
       |d=>
        rw [eob] at Z;have D:=ah eob;clear eob;cases bk with
        |a=>
         have H:=ah (show Ml b sn (s1.set e.key d) j d/\Mj base w P b _ _ _ G (s1.set e.key d) _ from ⟨i.o.1.set a0.o (DW y.o.2 J.o F.o A.o D.o),i.o.2.set HZ.o C.o hk⟩);have e1:=ah (T.o.keep (Keeps.setCell (S:=fun q=>q=G) (Keeps.refl w3 _) (g:=G) (j:=e.key) rfl (.bool d)) (fun c=>T.o.apart i.o.2.r (by decide) c));go_upto_region 13 with (fail)
         clear e2 e3 Z zk zv c9 c8;generalize w3.setCell ⟨G,e.key,none⟩ (.bool d)=w4 at *;have e3:w4.cell? ⟨Y,3,none⟩=some (.int .i64 (e.val:Int)):=e1.o.c 3;obtain ⟨b4,a7⟩:∃ b4,(s1.set e.key d).getD e.val a=b4:=⟨_,rfl⟩
         have a1:e.val<(s1.set e.key d).length:=by rw [bN,C.o];exact hv
         have d7:=ah (kg a1 a7);have e7:w4.cell? ⟨G,e.val,none⟩=some (.bool b4):=by rw [H.o.2.r.cell (j:=e.val) hv];unfold eG;rw [a7]
         have zv:=H.o.2.r.Nq e.val;have d9:=ah (show (s1.set e.key d).length=b.roots.length by rw [bN];exact C.o);clear a7 a1;cases b4 with
         |d=>
          go_wp2;go_roundw
          ·exact ⟨j+1,d,_,by omega,by simp,rfl,H.o.1.go,H.o.2⟩
          ·simp [bF];omega
         |a=>
          have B:=ah (nG y.o.2 J.o F.o A.o (by decide) (.inl rfl));go_wp2;go_roundw
          ·exact ⟨j+1,d,_,by omega,by simp,rfl,(H.o.1.set d7.o B.o).go,H.o.2.set HZ.o d9.o hv⟩
          ·simp [bF];omega
        |d=>
         cases bv with
         |d=>
          have v:Hq (yO b s1 e):=ah (fun _ _ m' hm'=>⟨fun _ _=>a0.o,fun _ _=>HV.out⟩);go_wp2;go_roundw
          ·exact ⟨j+1,ag,s1,by omega,by simp,rfl,i.o.1.no y.o.1 v.o,i.o.2⟩
          ·simp [bF];omega
         |a=>
          have B:=ah (nG y.o.2 J.o F.o A.o (by decide) (.inl rfl));go_wp2;go_roundw
          ·exact ⟨j+1,d,_,by omega,by simp,rfl,(i.o.1.set HV.out B.o).go,i.o.2.set HZ.o C.o hv⟩
          ·simp [bF];omega
       |a=>
        rw [eob] at Z;have D:=ah eob;clear eob;cases bv with
        |d=>
         have v:Hq (yO b s1 e):=ah (fun _ _ m' hm'=>⟨fun c=>(by rw [D.o] at c;cases c),fun _ _=>HV.out⟩);go_wp2;go_roundw
         ·exact ⟨j+1,ag,s1,by omega,by simp,rfl,i.o.1.no y.o.1 v.o,i.o.2⟩
         ·simp [bF];omega
        |a=>
         have B:=ah (nG y.o.2 J.o F.o A.o (by decide) (.inl rfl));go_wp2;go_roundw
         ·exact ⟨j+1,d,_,by omega,by simp,rfl,(i.o.1.set HV.out B.o).go,i.o.2.set HZ.o C.o hv⟩
         ·simp [bF];omega
      ·have e5:(m==0)=a:=jF.2 X
       have K:=ah X;clear X;by_cases E:m<2
       ·have b9:decide (m<2)=d:=decide_eq_true E
        have Q:=ah E;clear E;cases eob:e.ob with
        |d=>
         rw [eob] at Z;have D:=ah eob;clear eob;cases bk with
         |a=>
          have v:Hq (yO b s1 e):=ah (fun _ _ m' hm'=>(by
           rw [A.o] at hm';cases hm';refine ⟨fun _ c=>(K.o c).elim,fun _ c=>?_⟩;rcases c with c|c|c
           ·exact (K.o c).elim
           ·rw [D.o] at c;cases c
           ·rw [a0.o] at c;cases c))
          go_wp2;go_roundw
          ·exact ⟨j+1,ag,s1,by omega,by simp,rfl,i.o.1.no y.o.1 v.o,i.o.2⟩
          ·simp [bF];omega
         |d=>
          cases bv with
          |d=>
           have v:Hq (yO b s1 e):=ah (fun _ _ m' hm'=>(by
            rw [A.o] at hm';cases hm';exact ⟨fun _ c=>(K.o c).elim,fun _ _=>HV.out⟩))
           go_wp2;go_roundw
           ·exact ⟨j+1,ag,s1,by omega,by simp,rfl,i.o.1.no y.o.1 v.o,i.o.2⟩
           ·simp [bF];omega
          |a=>
           have B:=ah (nG y.o.2 J.o F.o A.o Q.o (.inr (.inr (i.o.1.s.c e.key a0.o))));go_wp2;go_roundw
           ·exact ⟨j+1,d,_,by omega,by simp,rfl,(i.o.1.set HV.out B.o).go,i.o.2.set HZ.o C.o hv⟩
           ·simp [bF];omega
        |a=>
         rw [eob] at Z;have D:=ah eob;clear eob;cases bv with
         |d=>
          have v:Hq (yO b s1 e):=ah (fun _ _ m' hm'=>(by
           rw [A.o] at hm';cases hm';exact ⟨fun _ c=>(K.o c).elim,fun _ _=>HV.out⟩))
          go_wp2;go_roundw
          ·exact ⟨j+1,ag,s1,by omega,by simp,rfl,i.o.1.no y.o.1 v.o,i.o.2⟩
          ·simp [bF];omega
         |a=>
          have B:=ah (nG y.o.2 J.o F.o A.o Q.o (.inr (.inl D.o)));go_wp2;go_roundw
          ·exact ⟨j+1,d,_,by omega,by simp,rfl,(i.o.1.set HV.out B.o).go,i.o.2.set HZ.o C.o hv⟩
          ·simp [bF];omega
       ·have b9:decide (m<2)=a:=decide_eq_false E
        have Q:=ah E;clear E;cases eob:e.ob with
        |d=>
         rw [eob] at Z;clear eob;have v:Hq (yO b s1 e):=ah (fun _ _ m' hm'=>(by
          rw [A.o] at hm';cases hm';exact ⟨fun _ c=>(K.o c).elim,fun c=>(Q.o c).elim⟩))
         go_wp2;go_roundw
         ·exact ⟨j+1,ag,s1,by omega,by simp,rfl,i.o.1.no y.o.1 v.o,i.o.2⟩
         ·simp [bF];omega
        |a=>
         rw [eob] at Z;clear eob;have v:Hq (yO b s1 e):=ah (fun _ _ m' hm'=>(by
          rw [A.o] at hm';cases hm';exact ⟨fun _ c=>(K.o c).elim,fun c=>(Q.o c).elim⟩))
         go_wp2;go_roundw
         ·exact ⟨j+1,ag,s1,by omega,by simp,rfl,i.o.1.no y.o.1 v.o,i.o.2⟩
         ·simp [bF];omega
    ·have d5:¬ ((j:Int)<(b.edges.length:Int)):=by omega
     obtain rfl:j=b.edges.length:=by omega
     go_wp2
     go_roundg (2*s1.count a+(if ag then 1 else 0))
     case measure=>
      rw [HJ.o.1];cases ag with
      |a=>rw [(V.o.1.f rfl).1];simp
      |d=>have:=V.o.1.t rfl;simp;omega
     case rel=>
      refine ⟨ag,s1,rfl,rfl,V.o.1.s,V.o.2,fun c=>⟨V.o.1.s,fun e he=>?_⟩⟩;obtain ⟨q,hq⟩:=List.mem_iff_getElem?.1 he;exact (V.o.1.f c).2 q e (aJ.1 hq).1 hq
end Go.Proofs.YtbpcdfbmnklcjaaGreatDoor
