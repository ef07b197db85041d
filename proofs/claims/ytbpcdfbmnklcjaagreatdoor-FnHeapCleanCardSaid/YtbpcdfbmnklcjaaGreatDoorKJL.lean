import Derived.Test.YtbpcdfbmnklcjaaGreatDoorKJO0
namespace Go.Proofs.YtbpcdfbmnklcjaaGreatDoor
open Go Go.RowKit
set_option maxHeartbeats 6400000
set_option maxRecDepth 100000
set_option linter.unusedVariables false
variable {P base:Nat} {b:Bk} {ev mv rv:Value} {w:World}
theorem xB (h:Nj base w P b mv rv ev) (hb:base<=w.heap.size) (b3:∀ e∈b.edges,e.t<b.roots.length/\e.key<b.roots.length/\e.val<b.roots.length) (hm:b.modes.length=b.roots.length) (h1:1<=b.roots.length) (hl:b.roots.length<=10000) (e8:b.edges.length<=10000):
 Calls Tryz.prog 10 #[.pointer (some ⟨P,0,none⟩)] w (GK base b w):=by
 obtain ⟨am,cm,rfl⟩:=aF h.m;obtain ⟨ar,cr,rfl⟩:=aF h.o;obtain ⟨ae,ce,rfl⟩:=aF h.e;obtain ⟨gr,rfl,d2,f6,b6⟩:=jd h.o h1;have HZ:=ah (fun g (c:Zk P (.slice am b.modes.length cm) (.slice (some ⟨gr,0,none⟩) b.roots.length cr) (.slice ae b.edges.length ce) g)=>(h.zl c).2);have HH:=ah h;have c2:=ah b6;have d4:=ah b3;have HM:=ah hm;have c4:Hq (World.ownsRow (w.alloc (.cells #[] 4)) w.heap.size 4 1 (.slice (some ⟨w.heap.size,0,none⟩) 0 0) 0 []):=ah ⟨rfl,.inr ⟨w.heap.size,0,#[],rfl,au _,heap_alloc_new w _,by decide,by decide,rfl,rfl⟩⟩;have Q:=ah (aU w (.cells #[] 4));have r1:w.cell? ⟨P,1,none⟩=some (.slice (some ⟨gr,0,none⟩) b.roots.length cr):=h.r.c 1;have c7:(w.alloc (.cells #[] 4)).cell? ⟨P,1,none⟩=some (.slice (some ⟨gr,0,none⟩) b.roots.length cr):=((aU w _).cell (p:=⟨P,1,none⟩) h.r.lt).trans r1;obtain ⟨i0,b9,a8,a7,a6⟩:=info_parts je;have M:=ah (And.intro b9 (And.intro a8 (And.intro a7 a6)));clear h b6 b3 hm b9 a8 a7 a6;go_enter Tryz.func10,Tryz.ntmps10;go_wp2_with (first
  |(at_builtin
    refine jf _ rfl (.tmp 8) (.tmp 12) 31 rfl w.heap.size 4 i0 (.bool false) 1 1 Tryz.underlying31 M.o.1 M.o.2.1 M.o.2.2.1 M.o.2.2.2 rfl (by decide) (.slice (some ⟨w.heap.size,0,none⟩) 0 0) 0 [] rfl c4.o ⟨gr,0,none⟩ b.roots.length cr (iQ b.roots) rfl (by simp [iQ]) (fun j u hj=>?_) (fun u hu=>?_) (by unfold maxLen;omega) (by omega) Q.o.size h1 ?_
    ·rw [bL,Nat.zero_add]
     have b8:j<b.roots.length:=by have:=(aJ.1 hj).1;simpa [iQ] using this
     have h9:=c2.o j b.roots[j] (aN b8);rw [(Q.o).cell (p:=⟨gr,j,none⟩) d2,h9];simp [iQ,b8] at hj;rw [hj]
    ·simp only [iQ,List.mem_map] at hu
     obtain ⟨c,_,rfl⟩:=hu;rfl
    intro v' w1 J a9 c9;rw [Nat.zero_add,List.nil_append] at J;obtain ⟨G',c1,c8⟩:=aF J;subst c8;obtain ⟨G,rfl,f8,a1,b5⟩:=jd J h1;have c0:Below w.heap.size w w1:=(Q.o).grown a9 (Q.o).size (fun g hg=>by simp [Value.ownBlock] at hg;omega);have H1:=ah (And.intro J c0);clear J a9 c9 b5 c0)
  |go_in)
 clear r1 c7 c4 Q c2 M;have H0:=ah (show Mr base w P b (.slice am b.modes.length cm) (.slice (some ⟨gr,0,none⟩) b.roots.length cr) (.slice ae b.edges.length ce) G b.roots w1 from
  ⟨HH.o.low H1.o.2,uJ H1.o.1,H1.o.2,(H1.o.1.lt G (by simp [Value.ownBlock])).1⟩)
 have HG:=ah H1.o.1;have S0:Hq (Sn b b.roots):=ah ⟨rfl,fun n c=>c,fun n c S x=>x.1 n c⟩;clear HH H1
 go_loopg [4] (2*b.roots.count false+1) (fun k av ws=>∃ (ag:Bool) (sn:List Bool),av=.bool ag/\Hq (k=2*sn.count false+(if ag then 1 else 0)/\Sn b sn/\Mr base w P b (.slice am b.modes.length cm) (.slice (some ⟨gr,0,none⟩) b.roots.length cr) (.slice ae b.edges.length ce) G sn ws/\(ag=false->FI b sn)))
 case atStart=>exact ⟨true,b.roots,rfl,rfl,S0.o,H0.o,fun c=>by cases c⟩
 case round=>
  clear H0 S0;obtain ⟨ag,sn,rfl,Z⟩:=hrel;cases ag with
  |false=>
   go_wp2;go_ret;exact ⟨sn,G,c1,rfl,Z.o.2.2.2 trivial,a1,Z.o.2.2.1.r,Z.o.2.2.1.g,Z.o.2.2.1.b⟩
  |true=>
   have r2:wr.cell? ⟨P,2,none⟩=some (.slice ae b.edges.length ce):=Z.o.2.2.1.k.r.c 2;go_wp2;clear r2;go_loopw [4,20] (fun av jv ws=>∃ (j:Nat) (ag:Bool) (s1:List Bool),j<=b.edges.length/\jv=.int .i64 (j:Int)/\av=.bool ag/\Hq (Mw b sn s1 j ag/\Mr base w P b (.slice am b.modes.length cm) (.slice (some ⟨gr,0,none⟩) b.roots.length cr) (.slice ae b.edges.length ce) G s1 ws)) (fun _ jv _=>b.edges.length-bF jv)
   case atStart=>exact ⟨0,false,sn,by omega,rfl,rfl,⟨Z.o.2.1,fun _=>⟨rfl,fun q e c=>by omega⟩,fun c=>by cases c⟩,Z.o.2.2.1⟩
   case round=>
    obtain ⟨j,ag,s1,f5,rfl,rfl,R⟩:=hrel;by_cases d0:j<b.edges.length
    ·obtain ⟨e,he⟩:∃ e,b.edges[j]?=some e:=⟨_,aN d0⟩
     have d1:(j:Int)<(b.edges.length:Int):=by omega
     obtain ⟨ge,rfl,d8,f0,f1,f2,f3,f4,z3⟩:=R.o.2.k.ed he;have HE:=ah (Bg wr e.t e.num e.key e.val e.ob);have c3:=ah (aU wr (.cells #[.int .i64 (e.t:Int),.int .i64 e.num,.int .i64 (e.key:Int),.int .i64 (e.val:Int),.bool e.ob] 80));have v:=ah (And.intro R.o.1 (R.o.2.low c3.o));have i:=ah (And.intro he (aX he));obtain ⟨ht,hk,W⟩:=d4.o e (aX he);clear R he c3;go_upto_region 8 with (fail)
     clear f0 f1 f2 f3 f4 z3;generalize wr.alloc (.cells #[.int .i64 (e.t:Int),.int .i64 e.num,.int .i64 (e.key:Int),.int .i64 (e.val:Int),.bool e.ob] 80)=w2 at *;generalize wr.heap.size=Y at *;have e0:w2.cell? ⟨Y,0,none⟩=some (.int .i64 (e.t:Int)):=HE.o.c 0;have e2:w2.cell? ⟨Y,2,none⟩=some (.int .i64 (e.key:Int)):=HE.o.c 2;have e3:w2.cell? ⟨Y,3,none⟩=some (.int .i64 (e.val:Int)):=HE.o.c 3;have U:w2.cell? ⟨Y,4,none⟩=some (.bool e.ob):=HE.o.c 4;have e5:(e.t:Int)<(b.roots.length:Int):=by omega
     have e9:(e.key:Int)<(b.roots.length:Int):=by omega
     have e1:(e.val:Int)<(b.roots.length:Int):=by omega
     have b2:=v.o.1.s.l;obtain ⟨bt,a3⟩:∃ bt,s1.getD e.t false=bt:=⟨_,rfl⟩
     obtain ⟨bk,a4⟩:∃ bk,s1.getD e.key false=bk:=⟨_,rfl⟩
     obtain ⟨bv,a2⟩:∃ bv,s1.getD e.val false=bv:=⟨_,rfl⟩
     have HT:=ah (j_ (by omega) a3);have V:=ah (j_ (by omega) a4);have HV:=ah (j_ (by omega) a2);have st:w2.cell? ⟨G,e.t,none⟩=some (.bool bt):=by rw [v.o.2.r.cell (j:=e.t) ht];unfold eG;rw [a3]
     have sk:w2.cell? ⟨G,e.key,none⟩=some (.bool bk):=by rw [v.o.2.r.cell (j:=e.key) hk];unfold eG;rw [a4]
     have sv:w2.cell? ⟨G,e.val,none⟩=some (.bool bv):=by rw [v.o.2.r.cell (j:=e.val) W];unfold eG;rw [a2]
     have zk:=v.o.2.r.ME e.key;have zv:=v.o.2.r.ME e.val;have A:=ah b2;clear a3 a4 a2 b2;cases bt with
     |false=>
      have d:Hq (yQ b s1 e):=ah (fun c=>by rw [HT.o] at c;cases c);go_wp2;go_roundw
      ·exact ⟨j+1,ag,s1,by omega,by simp,rfl,v.o.1.no i.o.1 d.o,v.o.2⟩
      ·simp [bF];omega
     |true=>
     by_cases K:e.val=0
     ·have b0:((e.val:Int)==0)=true:=by rw [K];rfl
      have d:Hq (yQ b s1 e):=ah (fun _ c=>(c K).elim);clear K;go_wp2;go_roundw
      ·exact ⟨j+1,ag,s1,by omega,by simp,rfl,v.o.1.no i.o.1 d.o,v.o.2⟩
      ·simp [bF];omega
     ·have b0:((e.val:Int)==0)=false:=jH.2 (by omega)
      have D:=ah K;clear K;have b1:e.t<b.modes.length:=by rw [HM.o];exact ht
      obtain ⟨m,a0⟩:∃ m,b.modes[e.t]?=some m:=⟨_,aN b1⟩
      obtain ⟨gm,rfl,f7,fm⟩:=v.o.2.k.md a0;have r0:w2.cell? ⟨P,0,none⟩=some (.slice (some ⟨gm,0,none⟩) b.modes.length cm):=v.o.2.k.r.c 0;have e7:(e.t:Int)<(b.modes.length:Int):=by omega
      have y:=ah a0;clear a0 b1;go_wp2;go_quiet (fail);have a:=ah (And.intro v.o.1 (v.o.2.low (aC (aT _ _) nq)));have N:=ah (show aD (w2.drewN nq) 80 Y 5 _ from HE.o);have c6:(w2.drewN nq).cell? ⟨G,e.key,none⟩=some (.bool bk):=sk;have c5:(w2.drewN nq).cell? ⟨G,e.val,none⟩=some (.bool bv):=sv;clear e0 e2 e3 U st sk sv zk zv v HE r0 fm;generalize w2.drewN nq=w3 at *;have e2:w3.cell? ⟨Y,2,none⟩=some (.int .i64 (e.key:Int)):=N.o.c 2;have e3:w3.cell? ⟨Y,3,none⟩=some (.int .i64 (e.val:Int)):=N.o.c 3;have U:w3.cell? ⟨Y,4,none⟩=some (.bool e.ob):=N.o.c 4;have zk:=a.o.2.r.ME e.key;have zv:=a.o.2.r.ME e.val;have e6:=i.o.2;have F:=ah (a.o.1.s.c e.t HT.o);by_cases T:m=0
      ·subst T
       cases eob:e.ob with
       |true=>
        rw [eob] at U;have B:=ah eob;clear eob;cases bk with
        |false=>
         have E:=ah (show Mw b sn (s1.set e.key true) j true/\Mr base w P b _ _ _ G (s1.set e.key true) _ from ⟨a.o.1.set V.o (D6 i.o.2 F.o D.o y.o B.o),a.o.2.set HZ.o A.o hk⟩);have d6:=ah (N.o.keep (Keeps.setCell (S:=fun q=>q=G) (Keeps.refl w3 _) (g:=G) (j:=e.key) rfl (.bool true)) (fun c=>N.o.apart a.o.2.r (by decide) c));go_upto_region 13 with (fail)
         clear e2 e3 U zk zv c6 c5;generalize w3.setCell ⟨G,e.key,none⟩ (.bool true)=w4 at *;have e3:w4.cell? ⟨Y,3,none⟩=some (.int .i64 (e.val:Int)):=d6.o.c 3;obtain ⟨b4,a5⟩:∃ b4,(s1.set e.key true).getD e.val false=b4:=⟨_,rfl⟩
         have X:e.val<(s1.set e.key true).length:=by rw [bX,A.o];exact W
         have d3:=ah (j_ X a5);have d9:w4.cell? ⟨G,e.val,none⟩=some (.bool b4):=by rw [E.o.2.r.cell (j:=e.val) W];unfold eG;rw [a5]
         have zv:=E.o.2.r.ME e.val;have d5:=ah (show (s1.set e.key true).length=b.roots.length by rw [bX];exact A.o);clear a5 X;cases b4 with
         |true=>
          go_wp2;go_roundw
          ·exact ⟨j+1,true,_,by omega,by simp,rfl,E.o.1.go,E.o.2⟩
          ·simp [bF];omega
         |false=>
          have z:=ah (nS i.o.2 F.o D.o y.o (by decide) (.inl rfl));go_wp2;go_roundw
          ·exact ⟨j+1,true,_,by omega,by simp,rfl,(E.o.1.set d3.o z.o).go,E.o.2.set HZ.o d5.o W⟩
          ·simp [bF];omega
        |true=>
         cases bv with
         |true=>
          have d:Hq (yQ b s1 e):=ah (fun _ _ m' hm'=>⟨fun _ _=>V.o,fun _ _=>HV.out⟩);go_wp2;go_roundw
          ·exact ⟨j+1,ag,s1,by omega,by simp,rfl,a.o.1.no i.o.1 d.o,a.o.2⟩
          ·simp [bF];omega
         |false=>
          have z:=ah (nS i.o.2 F.o D.o y.o (by decide) (.inl rfl));go_wp2;go_roundw
          ·exact ⟨j+1,true,_,by omega,by simp,rfl,(a.o.1.set HV.out z.o).go,a.o.2.set HZ.o A.o W⟩
          ·simp [bF];omega
       |false=>
        rw [eob] at U;have B:=ah eob;clear eob;cases bv with
        |true=>
         have d:Hq (yQ b s1 e):=ah (fun _ _ m' hm'=>⟨fun c=>(by rw [B.o] at c;cases c),fun _ _=>HV.out⟩);go_wp2;go_roundw
         ·exact ⟨j+1,ag,s1,by omega,by simp,rfl,a.o.1.no i.o.1 d.o,a.o.2⟩
         ·simp [bF];omega
        |false=>
         have z:=ah (nS i.o.2 F.o D.o y.o (by decide) (.inl rfl));go_wp2;go_roundw
         ·exact ⟨j+1,true,_,by omega,by simp,rfl,(a.o.1.set HV.out z.o).go,a.o.2.set HZ.o A.o W⟩
         ·simp [bF];omega
      ·have d7:(m==0)=false:=jH.2 T
       have H:=ah T;clear T;by_cases C:m<2
       ·have b7:decide (m<2)=true:=decide_eq_true C
        have L:=ah C;clear C;cases eob:e.ob with
        |true=>
         rw [eob] at U;have B:=ah eob;clear eob;cases bk with
         |false=>
          have d:Hq (yQ b s1 e):=ah (fun _ _ m' hm'=>(by
           rw [y.o] at hm';cases hm';refine ⟨fun _ c=>(H.o c).elim,fun _ c=>?_⟩;rcases c with c|c|c
           ·exact (H.o c).elim
           ·rw [B.o] at c;cases c
           ·rw [V.o] at c;cases c))
          go_wp2;go_roundw
          ·exact ⟨j+1,ag,s1,by omega,by simp,rfl,a.o.1.no i.o.1 d.o,a.o.2⟩
          ·simp [bF];omega
         |true=>
          cases bv with
          |true=>
           have d:Hq (yQ b s1 e):=ah (fun _ _ m' hm'=>(by
            rw [y.o] at hm';cases hm';exact ⟨fun _ c=>(H.o c).elim,fun _ _=>HV.out⟩))
           go_wp2;go_roundw
           ·exact ⟨j+1,ag,s1,by omega,by simp,rfl,a.o.1.no i.o.1 d.o,a.o.2⟩
           ·simp [bF];omega
          |false=>
           have z:=ah (nS i.o.2 F.o D.o y.o L.o (.inr (.inr (a.o.1.s.c e.key V.o))));go_wp2;go_roundw
           ·exact ⟨j+1,true,_,by omega,by simp,rfl,(a.o.1.set HV.out z.o).go,a.o.2.set HZ.o A.o W⟩
           ·simp [bF];omega
        |false=>
         rw [eob] at U;have B:=ah eob;clear eob;cases bv with
         |true=>
          have d:Hq (yQ b s1 e):=ah (fun _ _ m' hm'=>(by
           rw [y.o] at hm';cases hm';exact ⟨fun _ c=>(H.o c).elim,fun _ _=>HV.out⟩))
          go_wp2;go_roundw
          ·exact ⟨j+1,ag,s1,by omega,by simp,rfl,a.o.1.no i.o.1 d.o,a.o.2⟩
          ·simp [bF];omega
         |false=>
          have z:=ah (nS i.o.2 F.o D.o y.o L.o (.inr (.inl B.o)));go_wp2;go_roundw
          ·exact ⟨j+1,true,_,by omega,by simp,rfl,(a.o.1.set HV.out z.o).go,a.o.2.set HZ.o A.o W⟩
          ·simp [bF];omega
       ·have b7:decide (m<2)=false:=decide_eq_false C
        have L:=ah C;clear C;cases eob:e.ob with
        |true=>
         rw [eob] at U;clear eob;have d:Hq (yQ b s1 e):=ah (fun _ _ m' hm'=>(by
          rw [y.o] at hm';cases hm';exact ⟨fun _ c=>(H.o c).elim,fun c=>(L.o c).elim⟩))
         go_wp2;go_roundw
         ·exact ⟨j+1,ag,s1,by omega,by simp,rfl,a.o.1.no i.o.1 d.o,a.o.2⟩
         ·simp [bF];omega
        |false=>
         rw [eob] at U;clear eob;have d:Hq (yQ b s1 e):=ah (fun _ _ m' hm'=>(by
          rw [y.o] at hm';cases hm';exact ⟨fun _ c=>(H.o c).elim,fun c=>(L.o c).elim⟩))
         go_wp2;go_roundw
         ·exact ⟨j+1,ag,s1,by omega,by simp,rfl,a.o.1.no i.o.1 d.o,a.o.2⟩
         ·simp [bF];omega
    ·have d1:¬ ((j:Int)<(b.edges.length:Int)):=by omega
     obtain rfl:j=b.edges.length:=by omega
     go_wp2
     go_roundg (2*s1.count false+(if ag then 1 else 0))
     case measure=>
      rw [Z.o.1];cases ag with
      |false=>rw [(R.o.1.f rfl).1];simp
      |true=>have:=R.o.1.t rfl;simp;omega
     case rel=>
      refine ⟨ag,s1,rfl,rfl,R.o.1.s,R.o.2,fun c=>⟨R.o.1.s,fun e he=>?_⟩⟩;obtain ⟨q,hq⟩:=List.mem_iff_getElem?.1 he;exact (R.o.1.f c).2 q e (aJ.1 hq).1 hq
end Go.Proofs.YtbpcdfbmnklcjaaGreatDoor
