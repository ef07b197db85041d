import Derived.Test.YtbpcdfbmnklcjaaGreatDoorKHSD
namespace Go.Proofs.YtbpcdfbmnklcjaaGreatDoor
open Go Go.RowKit
set_option maxHeartbeats 6400000
set_option maxRecDepth 100000
set_option linter.unusedVariables false
section
variable {S:Nat->Prop} {base n:Nat} {o:Ob} {w:World}
theorem qY {q:Hp} {L:SM} (a:MW base S q L w) (Y:q.objs.length<=5001) (W:1<=q.objs.length) (ho:q.ob n=some o) (c0:o.es.length<=5000) (K:vV q o.es):
 Calls Tryz.prog 96 #[.pointer (some ⟨L.H,0,none⟩),.pointer (some ⟨L.ob n,0,none⟩)] w fun e w'=>e=.returned (.tuple #[])/\MW base S (q.ents n (o.es.map (dH q))) L w'/\Keeps w w' S:=by
 obtain ⟨E,u,v,a0,-⟩:=a.ents ho;obtain ⟨r0,N⟩:=a.ob n o ho;have c5:w.cell? ⟨L.ob n,5,none⟩=some (.slice E o.es.length u):=by rw [<-v];exact N.c 5
 have HA:=ah a;have R:=ah ho;have b3:=ah K;have p:=ah v;clear ho K N v a;go_enter Tryz.func96,Tryz.ntmps96;go_wp2;go_loopw [11,5,4] (fun jv e6 e5 ws=>∃ j:Nat,j<=o.es.length/\jv=.int .i64 j/\Hq (MW base S (q.ents n (bg (dH q) j o.es)) L ws/\Keeps w ws S)) (fun jv _ _ _=>o.es.length-bF jv)
 case atStart=>
  refine ⟨0,by omega,rfl,?_,Keeps.refl _ _⟩;rw [gK,Hp.Ij R.o];exact HA.o
 case round=>
  obtain ⟨j,b8,rfl,T⟩:=hrel;by_cases Z:j<o.es.length
  ·obtain ⟨e,U⟩:∃ e,o.es[j]?=some e:=⟨_,aN Z⟩
   have P:=Hp.Ie R.o (bg (dH q) j o.es);obtain ⟨A3,l,i,x,k⟩:=T.o.1.ents P;simp only [cB] at i x;have:A3=E/\l=u:=by
    have z:=i.symm.trans p.o;simp only [Value.slice.injEq] at z;exact ⟨z.1,z.2.2⟩
   obtain ⟨rfl,rfl⟩:=this;obtain ⟨h,rfl,b9,d⟩:=k j e (dG _ U);have d0:=d 0 _ rfl;have d1:=d 1 _ rfl;have d2:=d 2 _ rfl;have d3:=d 3 _ rfl;have d4:=d 4 _ rfl;have d5:=d 5 _ rfl;have d6:=d 6 _ rfl;have d7:=d 7 _ rfl;have d8:=d 8 _ rfl;have d9:=d 9 _ rfl;simp only [Nat.add_zero] at d0;have J:=b3.o e (aW U);have t:=ah (T.o.1.alloc (.cells #[.int .i64 (vk e.1),.int .i64 (vi e.1),.int .u64 0,.string ByteArray.empty,.int .i64 (vr e.1),.int .i64 (vk e.2),.int .i64 (vi e.2),.int .u64 0,.string ByteArray.empty,.int .i64 (vr e.2)] 122));have D:=ah (T.o.2.trans (Keeps.of (aU wr (.cells #[.int .i64 (vk e.1),.int .i64 (vi e.1),.int .u64 0,.string ByteArray.empty,.int .i64 (vr e.1),.int .i64 (vk e.2),.int .i64 (vi e.2),.int .u64 0,.string ByteArray.empty,.int .i64 (vr e.2)] 122)) (au _) S));have b2:=ah (show Rg (q.ents n (bg (dH q) j o.es)) e.1 from J.1.mono (q.Ia n _));have A:=ah (lM wr e);have r:=ah U;clear P i k d J U;go_upto_region 3 with (fail)
   generalize wr.alloc (.cells #[.int .i64 (vk e.1),.int .i64 (vi e.1),.int .u64 0,.string ByteArray.empty,.int .i64 (vr e.1),.int .i64 (vk e.2),.int .i64 (vi e.2),.int .u64 0,.string ByteArray.empty,.int .i64 (vr e.2)] 122)=w3 at *;generalize wr.heap.size=X at *;have b6:=A.o.lt;have x0:w3.cell? ⟨X,0,none⟩=some (.int .i64 (vk e.1)):=A.o.c 0;have x1:w3.cell? ⟨X,1,none⟩=some (.int .i64 (vi e.1)):=A.o.c 1;have x2:w3.cell? ⟨X,2,none⟩=some (.int .u64 0):=A.o.c 2;have x3:w3.cell? ⟨X,3,none⟩=some (.string ByteArray.empty):=A.o.c 3;have x4:w3.cell? ⟨X,4,none⟩=some (.int .i64 (vr e.1)):=A.o.c 4;have x5:w3.cell? ⟨X,5,none⟩=some (.int .i64 (vk e.2)):=A.o.c 5;clear d0 d1 d2 d3 d4 d5 d6 d7 d8 d9;cases hs:e.2.isSome with
   |true=>
    have V:(vk e.2==0)=false:=by
     have:=fq e.2;rw [hs] at this
     simpa using this
    have m:=ah (fO (dH q) r.o (by unfold dH;cases z:e.2 with |none=>rw [z] at hs;cases hs|some y=>rfl));clear hs;go_wp2;go_roundw
    case rel=>
     refine ⟨j+1,by omega,by simp,?_⟩;exact ⟨by rw [m.o];exact t.o,D.o⟩
    case measure=>simp [bF];omega
   |false=>
    have V:(vk e.2==0)=true:=by
     have:=fq e.2;rw [hs] at this
     simpa using this
    have b4:Hq (e.2.isNone=true):=ah (by cases z:e.2 with |none=>rfl|some y=>rw [z] at hs;cases hs);clear hs;have B:=ah (f_ t.o e.1 b2.o (by rw [Hp.Ia];exact Y) (by rw [Hp.Ia];exact W));rw [Hp.IZ] at B;go_wp2_with fail;refine B.o.mono ?_;rintro e9 w4 ⟨rfl,Q⟩;have s:=ah Q;clear Q B;cases hb:q.ME e.1 with
    |false=>
     have m:=ah (fO (dH q) r.o (by unfold dH;rw [hb];simp));clear hb;go_wp2;go_roundw
     case rel=>
      refine ⟨j+1,by omega,by simp,?_⟩;exact ⟨by rw [m.o];exact t.o.low s.o,D.o.trans (Keeps.of s.o (au _) S)⟩
     case measure=>simp [bF];omega
    |true=>
     have m:=ah (fM (dH q) r.o);have b5:Hq (dH q e=(none,none)):=ah (by unfold dH;rw [hb,b4.o];rfl);clear hb;have G:=ah (t.o.low s.o);obtain ⟨r4,M⟩:=G.o.ob n _ (Hp.Ie R.o (bg (dH q) j o.es));have f5:w4.cell? ⟨L.ob n,5,none⟩=some (.slice (some ⟨h,0,none⟩) o.es.length l):=by rw [<-p.o];exact M.c 5
     have b:=ay (G.o.en n _ (Hp.Ie R.o (bg (dH q) j o.es))) (g:=h) (by rw [p.o];simp [Value.ownBlock]);have a1:(o.es.length:Int)<=l:=by omega
     have b7:(j:Int)<(o.es.length:Int):=by omega
     have f:(bg (dH q) j o.es).length=o.es.length:=cB _ _ _;have z0:=b.Nq (j*10);have z1:=b.Nq (j*10+1);have z2:=b.Nq (j*10+2);have z3:=b.Nq (j*10+3);have z4:=b.Nq (j*10+4);have z5:=b.Nq (j*10+5);have z6:=b.Nq (j*10+6);have z7:=b.Nq (j*10+7);have z8:=b.Nq (j*10+8);have z9:=b.Nq (j*10+9);have g0:=b.cell (j:=j*10) (by simp only [f];omega);have b0:=b.cell (j:=j*10+1) (by simp only [f];omega);have a9:=b.cell (j:=j*10+2) (by simp only [f];omega);have a8:=b.cell (j:=j*10+3) (by simp only [f];omega);have a7:=b.cell (j:=j*10+4) (by simp only [f];omega);have a6:=b.cell (j:=j*10+5) (by simp only [f];omega);have a5:=b.cell (j:=j*10+6) (by simp only [f];omega);have a4:=b.cell (j:=j*10+7) (by simp only [f];omega);have a3:=b.cell (j:=j*10+8) (by simp only [f];omega);have a2:=b.cell (j:=j*10+9) (by simp only [f];omega);clear M b f;have F:=ah (G.o.KX (Hp.Ie R.o (bg (dH q) j o.es)) (by rw [cB];exact p.o) (dG (dH q) r.o));rw [Hp.Ir] at F;go_upto_region 5 with (fail)
     generalize ((((((((((w4.setCell ⟨h,j*10,none⟩ (.int .i64 0)).setCell ⟨h,j*10+1,none⟩ (.int .i64 0)).setCell ⟨h,j*10+2,none⟩ (.int .u64 0)).setCell ⟨h,j*10+3,none⟩ (.string { data:=#[] })).setCell ⟨h,j*10+4,none⟩ (.int .i64 0)).setCell ⟨h,j*10+5,none⟩ (.int .i64 0)).setCell ⟨h,j*10+6,none⟩ (.int .i64 0)).setCell ⟨h,j*10+7,none⟩ (.int .u64 0)).setCell ⟨h,j*10+8,none⟩ (.string { data:=#[] })).setCell ⟨h,j*10+9,none⟩ (.int .i64 0))=w5 at *;clear g0 b0 a9 a8 a7 a6 a5 a4 a3 a2 z0 z1 z2 z3 z4 z5 z6 z7 z8 z9 f5;go_wp2;go_roundw
     case rel=>
      refine ⟨j+1,by omega,by simp,?_⟩;exact ⟨by rw [m.o,b5.o];exact F.o.1,(D.o.trans (Keeps.of s.o (au _) S)).trans F.o.2⟩
     case measure=>simp [bF];omega
  ·obtain rfl:j=o.es.length:=by omega
   have C:=T.o;rw [ig] at C;have b1:=ah C;clear C T;go_wp2;go_end0;exact ⟨rfl,b1.o⟩
end
section
variable {S:Nat->Prop} {base:Nat} {w:World}
theorem MW.Lg {h:Hp} {L:SM} (a:MW base S h L w):∃ A cap,L.rS=.slice A h.roots.length cap/\h.roots.length<=cap/\∀ i n,h.roots[i]?=some n->∃ g,A=some ⟨g,0,none⟩/\∀ j u,(vR (some (.inr n)))[j]?=some u->w.cell? ⟨g,i*5+j,none⟩=some u:=by
 have f:=a.ro;rcases f.2 with ⟨o,m⟩|⟨g,cap,p,d,_,_,l,_⟩
 ·refine ⟨none,0,by rw [o,m],by omega,fun i e hi=>?_⟩
  have:=(aJ.1 hi).1;omega
 ·refine ⟨_,cap,d,l,fun i e hi=>⟨g,rfl,fun j u hj=>?_⟩⟩
  have hr:=ay f (g:=g) (by rw [d];simp [Value.ownBlock]);have k:=(aJ.1 hi).1;have b:j<5:=(aJ.1 hj).1;rw [hr.c (i*5+j),bq,show (Dx h.roots)[i*5+j]?=(vR (some (.inr e)))[j]? from eX _ 5 (fun _=>rfl) h.roots i j e hi b,hj];rfl
theorem MW.nil {h:Hp} {L:SM} (a:MW base S h L w) (k:Nat) (hk:eO k):MW base S (dD h k []) { L with li:=fun j=>if j=k then .slice none 0 0 else L.li j } (w.setCell ⟨L.H,k,none⟩ (.slice none 0 0))/\Keeps w (w.setCell ⟨L.H,k,none⟩ (.slice none 0 0)) S:=
 (a.JV (w1:=w) k hk (Keeps.refl w _) (.slice none 0 0) [] ⟨rfl,.inl ⟨rfl,rfl⟩⟩ (fun g e=>by simp [Value.ownBlock] at e)).2
structure Ln (k:Nat) (L L':SM):Prop where
 H:L'.H=L.H
 oS:L'.oS=L.oS
 ob:L'.ob=L.ob
 es:L'.es=L.es
 rS:L'.rS=L.rS
 li:∀ j,j≠k->L'.li j=L.li j
theorem MW.KF {h:Hp} {L:SM} (a:MW base S h L w) (k:Nat) (hk:eO k):∃ L',Ln k L L'/\MW base S (dD h k []) L' (w.setCell ⟨L.H,k,none⟩ (.slice none 0 0))/\Keeps w (w.setCell ⟨L.H,k,none⟩ (.slice none 0 0)) S:=by
 obtain ⟨c,b⟩:=a.nil k hk;exact ⟨{ L with li:=fun j=>if j=k then .slice none 0 0 else L.li j },⟨rfl,rfl,rfl,rfl,rfl,fun j hj=>by simp [hj]⟩,c,b⟩
theorem MW.num {h h':Hp} {L:SM} (a:MW base S h L w) (k:Nat) (x:Value) (hk:k<18) (b:h'.objs=h.objs) (c:h'.grey=h.grey/\h'.again=h.again/\h'.weak=h.weak/\h'.GZ=h.GZ/\h'.finals=h.finals/\h'.pending=h.pending/\h'.freed=h.freed) (hr:h'.roots=h.roots) (d:∀ i,i<18->(if i=k then x else uz h L i)=uz h' L i):
 MW base S h' L (w.setCell ⟨L.H,k,none⟩ x)/\Keeps w (w.setCell ⟨L.H,k,none⟩ x) S:=by
 refine a.hdr k x hk b (fun j hj=>?_) hr d;obtain ⟨o,n,m,l,g,f,e⟩:=c;rcases hj with rfl|rfl|rfl|rfl|rfl|rfl|rfl
 ·exact o
 ·exact n
 ·exact m
 ·exact l
 ·exact g
 ·exact f
 ·exact e
theorem bV (P:Nat->Prop) (s:P 0) (r:P 1) (q:P 2) (p:P 3) (o:P 4) (n:P 5) (m:P 6) (l:P 7) (k:P 8) (j:P 9) (h:P 10) (g:P 11) (f:P 12) (e:P 13) (d:P 14) (c:P 15) (b:P 16) (a:P 17):∀ i,i<18->P i:=by
 intro i hi;have:i=0∨i=1∨i=2∨i=3∨i=4∨i=5∨i=6∨i=7∨i=8∨i=9∨i=10∨i=11∨i=12∨i=13∨i=14∨i=15∨i=16∨i=17:=by omega
 rcases this with rfl|rfl|rfl|rfl|rfl|rfl|rfl|rfl|rfl|rfl|rfl|rfl|rfl|rfl|rfl|rfl|rfl|rfl<;>assumption
theorem vC (h:Hp):h.wn<=h.objs.length:=List.countP_le_length
def Hp.Ig (h:Hp):Hp:={ h with state:=1,grey:=[],again:=[],weak:=[],GZ:=[] }
theorem Sm.Ig {h:Hp} (s:Sm h):Sm h.Ig:=by
 refine ⟨s.len,?_,s.fp,s.fr,s.Nh,s.cr,s.lim,s.rt,s.es⟩;have:=vC h;have:=s.len;show h.wn+0+0+0+0<=20000;omega
theorem pF {h:Hp} {L:SM} (a:MW base S h L w) (s:Sm h) (hz:h.ob 0=none) (hr:∀ n∈h.roots,n<h.objs.length) (hp:∀ n∈h.pending,n<h.objs.length):
 Calls Tryz.prog 63 #[.pointer (some ⟨L.H,0,none⟩)] w fun e w'=>e=.returned (.tuple #[])/\∃ L',L'.H=L.H/\MW base S h.begin L' w'/\Keeps w w' S:=by
 have HA:=ah a;have d9:=ah s.Ig;have HZ:=ah (show h.Ig.ob 0=none from hz);have HR:=ah (show ∀ n∈h.Ig.roots,n<h.Ig.objs.length from hr);have HP:=ah (show ∀ n∈h.Ig.pending,n<h.Ig.objs.length from hp);have c1:=s.rt;have f3:=s.fp;have z5:=a.hp.Nq 5;have c5:=a.hp.c 5;have s1:=a.num (h':={ h with state:=1 }) 5 (.int .i64 1) (by decide) rfl ⟨rfl,rfl,rfl,rfl,rfl,rfl,rfl⟩ rfl (bV _ rfl rfl rfl rfl rfl rfl rfl rfl rfl rfl rfl rfl rfl rfl rfl rfl rfl rfl);have H1:=ah s1;clear a s hz hr hp s1;go_enter Tryz.func63,Tryz.ntmps63;go_upto_region 1 with (fail)
 generalize w.setCell ⟨L.H,5,none⟩ (.int .i64 1)=w1 at *;have e5:=ah H1.o.2;have W:=ah (d.intro (Lm.refl L).H H1.o.1);clear H1 z5 c5;obtain ⟨L2,d7,c4,c2⟩:=W.o.2.KF 7 (by simp [eO]);have z7:=W.o.2.hp.Nq 7;have c7:=W.o.2.hp.c 7;have J:=ah (d.intro (d7.H.trans W.o.1) c4);have e4:=ah (e5.o.trans c2);clear d7 c4 c2;go_upto_region 2 with (fail)
 generalize w1.setCell ⟨L.H,7,none⟩ (.slice none 0 0)=w2 at *;clear z7 c7 W e5;obtain ⟨L3,d6,b7,b3⟩:=J.o.2.KF 8 (by simp [eO]);have z8:=J.o.2.hp.Nq 8;have c8:=J.o.2.hp.c 8;rw [J.o.1] at z8 c8 b7 b3;have G:=ah (d.intro (d6.H.trans J.o.1) b7);have e3:=ah (e4.o.trans b3);clear d6 b7 b3;go_upto_region 3 with (fail)
 generalize w2.setCell ⟨L.H,8,none⟩ (.slice none 0 0)=w3 at *;clear z8 c8 J e4;obtain ⟨L4,d5,u,t⟩:=G.o.2.KF 9 (by simp [eO]);have z9:=G.o.2.hp.Nq 9;have c9:=G.o.2.hp.c 9;rw [G.o.1] at z9 c9 u t;have F:=ah (d.intro (d5.H.trans G.o.1) u);have e2:=ah (e3.o.trans t);clear d5 u t;go_upto_region 4 with (fail)
 generalize w3.setCell ⟨L.H,9,none⟩ (.slice none 0 0)=w4 at *;clear z9 c9 G e3;obtain ⟨L5,c6,b6,b2⟩:=F.o.2.KF 10 (by simp [eO]);have c0:=F.o.2.hp.Nq 10;have d8:=F.o.2.hp.c 10;rw [F.o.1] at c0 d8 b6 b2;have b9:=ah (d.intro (c6.H.trans F.o.1) b6);have g0:=ah (e2.o.trans b2);clear c6 b6 b2;go_upto_region 5 with (fail)
 generalize w4.setCell ⟨L.H,10,none⟩ (.slice none 0 0)=w5 at *;clear c0 d8 F e2;have HB:=ah (show MW base S h.Ig L5 w5 from b9.o.2);have e1:=ah b9.o.1;clear b9;obtain ⟨AR,a9,b1,f5,-⟩:=HB.o.Lg;have g5:w5.cell? ⟨L.H,13,none⟩=some (.slice AR h.Ig.roots.length a9):=by
  rw [<-e1.o,<-b1];exact HB.o.hp.c 13
 have e0:=ah b1;have v:=ah (d.intro HB.o (d.intro d9.o (d.intro HZ.o (d.intro HR.o HP.o))));have g1:Hq (h.begin=(h.Ig.Ho h.Ig.roots).Ho h.Ig.pending):=ah rfl;have g2:h.Ig.roots.length<=5001:=c1;have g3:h.Ig.pending.length<=5000:=by
  show h.pending.length<=_;omega
 clear HA d9 HZ HR HP HB b1 c1 f3;generalize h.Ig=b at *;obtain ⟨H5,a2,a0,a7,a4,Y⟩:=L5;obtain rfl:H5=L.H:=e1.o;go_wp2;go_loopw [26,3] (fun iv vv wr=>∃ i:Nat,i<=b.roots.length/\iv=.int .i64 i/\Hq (∃ L',Lm (⟨L.H,a2,a0,a7,a4,Y⟩:SM) L'/\MW base S ((b.roots.take i).foldl Hp.mark b) L' wr/\Keeps w5 wr S)) (fun iv _ _=>b.roots.length-bF iv)
 case atStart=>exact ⟨0,by omega,rfl,(⟨L.H,a2,a0,a7,a4,Y⟩:SM),Lm.refl _,v.o.1,Keeps.refl _ _⟩
 case round=>
  obtain ⟨i,f4,rfl,HI⟩:=hrel;by_cases C:i<b.roots.length
  ·have K:b.roots.take (i+1)=b.roots.take i++[b.roots[i]]:=bE (aN C)
   have HF:Hq ((b.roots.take (i+1)).foldl Hp.mark b=Hp.mark ((b.roots.take i).foldl Hp.mark b) b.roots[i]):=ah (by rw [K,bD]);have M:=v.o.2.2.2.1 _ (List.getElem_mem C);have m:=Np.fold Hp.mark Np.mark (b.roots.take i) b;have B:=v.o.2.1.foldM Hp.mark (fun h x s=>s.mark x) (b.roots.take i) b v.o.2.1;obtain ⟨L1,l,j,p⟩:=HI.out;obtain ⟨q,hq⟩:∃ q,(b.roots.take i).foldl Hp.mark b=q:=⟨_,rfl⟩
   rw [hq] at m B j HF;clear K;have f2:=j.Lg;obtain ⟨A1,Q,A,b5,r⟩:=f2;have z:q.roots=b.roots:=m.roots;rw [z] at A;have:A1=AR/\Q=a9:=by
    have h9:=A.symm.trans (l.rS.trans e0.o);simp only [Value.slice.injEq] at h9;exact ⟨h9.1,h9.2.2⟩
   obtain ⟨rfl,rfl⟩:=this;obtain ⟨g,rfl,f⟩:=r i b.roots[i] (by rw [z];exact aN C);generalize b.roots[i]=n at *;have d0:=f 0 _ rfl;have d1:=f 1 _ rfl;have d2:=f 2 _ rfl;have d3:=f 3 _ rfl;have d4:=f 4 _ rfl;simp only [Nat.add_zero] at d0;obtain ⟨H1,f0,e8,f6,f1,e7⟩:=L1;obtain rfl:H1=(⟨L.H,a2,a0,a7,a4,Y⟩:SM).H:=l.H;have U:=ah (fE (j.alloc (.cells #[.int .i64 (vk (some (R.inr n):HV)),.int .i64 (vi (some (R.inr n):HV)),.int .u64 0,.string E.empty,.int .i64 (vr (some (R.inr n):HV))] 95)) B (m.zero v.o.2.2.1) (some (.inr n)) (by rw [m.len];exact M));have HT:=ah (d.intro l (p.trans (Keeps.of (aU wr (.cells #[.int .i64 (vk (some (R.inr n):HV)),.int .i64 (vi (some (R.inr n):HV)),.int .u64 0,.string E.empty,.int .i64 (vr (some (R.inr n):HV))] 95)) (e6 _) S)));clear l j p m B A r hq f HI z M;go_wp2_with fail;refine U.o.mono ?_;rintro e9 w4 ⟨rfl,L4,P,u,t⟩;have H4:=ah (d.intro P (d.intro u t));clear P u t U;go_wp2;go_roundw
   case rel=>
    refine ⟨i+1,by omega,by simp,?_⟩;exact ⟨L4,HT.o.1.trans H4.o.1,by rw [HF.o];exact H4.o.2.1,HT.o.2.trans H4.o.2.2⟩
   case measure=>simp [bF];omega
  ·obtain rfl:i=b.roots.length:=by omega
   have V:=HI.out;rw [bf] at V;obtain ⟨L6,l,j,p⟩:=V;have D:Hq (Lm (⟨L.H,a2,a0,a7,a4,Y⟩:SM) L6/\MW base S (b.Ho b.roots) L6 wr/\Keeps w5 wr S):=ah ⟨l,j,p⟩;clear l j p HI;obtain ⟨AP,b0,a5,b4,-⟩:=D.o.2.1.IC (k:=12) (by simp [eO]);have N:=Np.Ho b b.roots;have a8:h_ (b.Ho b.roots) 12=b.pending:=N.pending;rw [a8] at a5 b4;have g6:wr.cell? ⟨L.H,12,none⟩=some (.slice AP b.pending.length b0):=by
    have:=D.o.2.1.hp.c 12;rw [D.o.1.H] at this;rw [this];exact congrArg some a5
   have f8:=ah a5;have T:=ah (d.intro D.o.2.1 (d.intro (v.o.2.1.Ho b.roots) (d.intro (N.zero v.o.2.2.1) (show ∀ n∈b.pending,n<(b.Ho b.roots).objs.length from by rw [N.len];exact v.o.2.2.2.2))));have f9:=ah (g0.o.trans D.o.2.2);have f7:=ah (show (b.Ho b.roots).pending=b.pending from N.pending);clear N a8 a5 e0;obtain ⟨H6,a1,Z,a6,a3,X⟩:=L6;obtain rfl:H6=L.H:=D.o.1.H;clear D v;generalize b.Ho b.roots=q1 at *;generalize b.pending=y at *;rename World=>w6;go_wp2;go_loopw [39] (fun iv wr=>∃ i:Nat,i<=y.length/\iv=.int .i64 i/\Hq (∃ L',Lm (⟨L.H,a1,Z,a6,a3,X⟩:SM) L'/\MW base S ((y.take i).foldl Hp.mark q1) L' wr/\Keeps w6 wr S)) (fun iv _=>y.length-bF iv)
   case atStart=>exact ⟨0,by omega,rfl,(⟨L.H,a1,Z,a6,a3,X⟩:SM),Lm.refl _,T.o.1,Keeps.refl _ _⟩
   case round=>
    obtain ⟨i,f4,rfl,HI⟩:=hrel;by_cases C:i<y.length
    ·have K:y.take (i+1)=y.take i++[y[i]]:=bE (aN C)
     have HF:Hq ((y.take (i+1)).foldl Hp.mark q1=Hp.mark ((y.take i).foldl Hp.mark q1) y[i]):=ah (by rw [K,bD]);have M:=T.o.2.2.2 _ (List.getElem_mem C);have m:=Np.fold Hp.mark Np.mark (y.take i) q1;have B:=T.o.2.1.foldM Hp.mark (fun h x s=>s.mark x) (y.take i) q1 T.o.2.1;obtain ⟨L1,l,j,p⟩:=HI.out;obtain ⟨q,hq⟩:∃ q,(y.take i).foldl Hp.mark q1=q:=⟨_,rfl⟩
     rw [hq] at m B j HF;clear K;obtain ⟨A1,Q,A,b5,r⟩:=j.IC (k:=12) (by simp [eO]);have z:h_ q 12=y:=m.pending.trans f7.o;rw [z] at A;have:A1=AP/\Q=b0:=by
      have h9:=A.symm.trans ((l.li 12 (by decide) (by decide) (by decide)).trans f8.o);simp only [Value.slice.injEq] at h9;exact ⟨h9.1,h9.2.2⟩
     obtain ⟨rfl,rfl⟩:=this;obtain ⟨g,rfl,c3⟩:=r i (by rw [z];exact C);have g4:wr.cell? ⟨g,i,none⟩=some (.int .i64 ((y[i]:Nat):Int)):=by
      rw [c3];congr 3;simp only [z]
     generalize y[i]=n at *;obtain ⟨H1,f0,e8,f6,f1,e7⟩:=L1;obtain rfl:H1=(⟨L.H,a1,Z,a6,a3,X⟩:SM).H:=l.H;have U:=ah (jQ j B (m.zero T.o.2.2.1) n (by rw [m.len];exact M));have HT:=ah (d.intro l p);clear l j p m B A r hq HI z M c3;go_wp2_with fail;refine U.o.mono ?_;rintro e9 w4 ⟨rfl,L4,P,u,t⟩;have H4:=ah (d.intro P (d.intro u t));clear P u t U;go_wp2;go_roundw
     case rel=>
      refine ⟨i+1,by omega,by simp,?_⟩;exact ⟨L4,HT.o.1.trans H4.o.1,by rw [HF.o];exact H4.o.2.1,HT.o.2.trans H4.o.2.2⟩
     case measure=>simp [bF];omega
    ·obtain rfl:i=y.length:=by omega
     have V:=HI.out;rw [bf] at V;obtain ⟨L7,l,j,p⟩:=V;have b8:Hq (Lm (⟨L.H,a1,Z,a6,a3,X⟩:SM) L7/\MW base S (q1.Ho y) L7 wr/\Keeps w6 wr S):=ah ⟨l,j,p⟩;clear l j p HI;go_wp2;go_end0;exact ⟨rfl,L7,b8.o.1.H,by rw [g1.o];exact b8.o.2.1,f9.o.trans b8.o.2.2⟩
end
section
variable {S S':Nat->Prop} {base:Nat} {h:Hp} {w:World}
structure Free (h:Hp) (L:SM) (g:Nat):Prop where
 H:L.H≠g
 ob:∀ n,n<h.objs.length->L.ob n≠g
 oS:L.oS.ownBlock≠some g
 es:∀ n o,h.ob n=some o->(L.es n).ownBlock≠some g
 li:∀ k,eO k->(L.li k).ownBlock≠some g
 rS:L.rS.ownBlock≠some g
theorem MW.less {L:SM} (a:MW base S h L w) (v:Value) (c:∀ g,v.ownBlock=some g->Free h L g/\g<w.heap.size):MW base (fun b=>S b/\v.ownBlock≠some b) h L w:=by
 refine ⟨a.hp,a.oo,a.ob,a.dd,a.en,a.li,a.ro,a.ij,a.ei,a.lj,a.bH,a.bo,a.bs,⟨a.sH,fun e=>(c _ e).1.H rfl⟩,fun n hn=>⟨a.so n hn,fun e=>(c _ e).1.ob n hn rfl⟩,fun g hg=>⟨a.sO g hg,fun e=>(c _ e).1.oS hg⟩,fun n o g hn hg=>⟨a.se n o g hn hg,fun e=>(c _ e).1.es n o hn hg⟩,fun k g hk hg=>⟨a.sl k g hk hg,fun e=>(c _ e).1.li k hk hg⟩,fun g hg=>⟨a.sr g hg,fun e=>(c _ e).1.rS hg⟩,fun b hb=>⟨a.up b hb,fun e=>?_⟩⟩;have:=(c b e).2;omega
theorem MW.free {L:SM} (a:MW base S h L w) {g:Nat} (b:¬ S g):Free h L g:=
 ⟨fun e=>b (e ▸ a.sH),fun n hn e=>b (e ▸ a.so n hn),fun e=>b (a.sO g e),fun n o hn e=>b (a.se n o g hn e),fun k hk e=>b (a.sl k g hk e),fun e=>b (a.sr g e)⟩
theorem MW.past {L:SM} (a:MW base S h L w) {g:Nat} (f:w.heap.size<=g):Free h L g:=by
 have d:∀ n,n<h.objs.length->L.ob n<w.heap.size:=by
  intro n b;cases e:h.ob n with
  |none=>obtain ⟨r,c,_,hr⟩:=a.dd n b e;exact hr.lt
  |some o=>obtain ⟨r,hr⟩:=a.ob n o e;exact hr.lt
 refine ⟨fun e=>?_,fun n b e=>?_,fun e=>?_,fun n o b e=>?_,fun k hk e=>?_,fun e=>?_⟩
 ·have:=a.hp.lt;omega
 ·have:=d n b;omega
 ·have:=(ay a.oo e).lt;omega
 ·have:=(ay (a.en n o b) e).lt;omega
 ·have:=(ay (a.li k hk) e).lt;omega
 ·have:=(ay a.ro e).lt;omega
theorem MW.LY {L:SM} (a:MW base S h L w) (k:Nat) (hk:eO k):∃ L',Ln k L L'/\MW base (fun b=>S b/\(L.li k).ownBlock≠some b) (dD h k []) L' (w.setCell ⟨L.H,k,none⟩ (.slice none 0 0))/\Keeps w (w.setCell ⟨L.H,k,none⟩ (.slice none 0 0)) (fun b=>S b/\(L.li k).ownBlock≠some b):=by
 obtain ⟨L',d,m,s⟩:=a.KF k hk;have kk:Keeps w (w.setCell ⟨L.H,k,none⟩ (.slice none 0 0)) (fun b=>b=L.H):=Keeps.setCell (S:=fun b=>b=L.H) (Keeps.refl w _) rfl _;refine ⟨L',d,m.less (L.li k) (fun g e=>⟨?_,?_⟩),kk.mono (fun b e=>⟨e ▸ a.sH,fun x=>ak (a.li k hk) a.hp (by decide) (e ▸ x)⟩)⟩
 ·have hr:=ay (a.li k hk) e
  have q:∀ n,(dD h k []).ob n=h.ob n:=fun n=>by unfold Hp.ob;rw [(iJ h k []).1]
  refine ⟨fun x=>?_,fun n hn x=>?_,fun x=>?_,fun n o hn x=>?_,fun j hj x=>?_,fun x=>?_⟩
  ·rw [d.H] at x
   exact ak (a.li k hk) a.hp (by decide) (x ▸ e)
  ·rw [d.ob] at x
   rw [(iJ h k []).1] at hn;cases c:h.ob n with
   |none=>obtain ⟨r,C,_,f⟩:=a.dd n hn c;exact f.apart hr (by decide) x
   |some o=>obtain ⟨r,f⟩:=a.ob n o c;exact f.apart hr (by decide) x
  ·rw [d.oS] at x
   exact aV a.oo (a.li k hk) (by decide) e x
  ·rw [d.es] at x
   rw [q] at hn;exact aV (a.en n o hn) (a.li k hk) (by decide) e x
  ·by_cases c:j=k
   ·subst c
    have u:=m.li j hj;rw [qI h hk hj,if_pos rfl] at u;have p:=ay u x;have v:=p.lt;obtain ⟨y,q1,A,z⟩:=hr;have B:=m.lj;have l:L'.li j=.slice none 0 0:=by
     have t:=m.hp.cell (j:=j) (by rcases hj with rfl|rfl|rfl|rfl|rfl|rfl|rfl<;>decide);have i:=(a.hp.set (j:=j) (by rcases hj with rfl|rfl|rfl|rfl|rfl|rfl|rfl<;>decide) (.slice none 0 0)).cell (j:=j) (by rcases hj with rfl|rfl|rfl|rfl|rfl|rfl|rfl<;>decide);rw [d.H] at t;rw [t] at i;simp only [if_true,Option.some.injEq] at i;rw [<-i];rcases hj with rfl|rfl|rfl|rfl|rfl|rfl|rfl<;>rfl
    rw [l] at x;simp [Value.ownBlock] at x
   ·rw [d.li j c] at x
    exact c (a.lj j k g hj hk x e)
  ·rw [d.rS] at x
   exact aV a.ro (a.li k hk) (by decide) e x
 ·exact aX (ay (a.li k hk) e).lt s.size
theorem MW.Lh {L:SM} (a:MW base S h L w) (k:Nat) (hk:eO k) (v':Value) (p:List Nat) (hown:w.ownsRow base 3 1 v' p.length (dZ p)) (C:∀ g,v'.ownBlock=some g->Free h L g) (l:∀ b,S b->S' b) (E:∀ g,v'.ownBlock=some g->S' g):
 ∃ L',Ln k L L'/\MW base S' (dD h k p) L' (w.setCell ⟨L.H,k,none⟩ v')/\Keeps w (w.setCell ⟨L.H,k,none⟩ v') S:=by
 have t:k<18:=by rcases hk with rfl|rfl|rfl|rfl|rfl|rfl|rfl<;>decide
 obtain ⟨ho,A⟩:=iJ h k p;have d:∀ n,(dD h k p).ob n=h.ob n:=fun n=>by unfold Hp.ob;rw [ho]
 have f:Keeps w (w.setCell ⟨L.H,k,none⟩ v') (fun b=>b=L.H):=Keeps.setCell (S:=fun b=>b=L.H) (Keeps.refl w _) rfl v';have x:∀ {B T s n:Nat} {v:Value} {xs:List Value},w.ownsRow B T s v n xs->T≠105->∀ g,v.ownBlock=some g->¬ g=L.H:=fun h1 h2 g h4 h5=>ak h1 a.hp h2 (h5 ▸ h4);refine ⟨{ L with li:=fun j=>if j=k then v' else L.li j },⟨rfl,rfl,rfl,rfl,rfl,fun j i=>by simp [i]⟩,⟨(a.hp.set t v').congr (vU h L hk v' p),?_,fun n o e=>?_,fun n hn e=>?_,fun n o e=>?_,fun j i=>?_,?_,?_,?_,?_,a.bH,?_,aI a.bs f.size,l _ a.sH,?_,fun g e=>l _ (a.sO g e),?_,?_,fun g e=>l _ (a.sr g e),fun b hb=>l _ (a.up b (aI f.size hb))⟩,f.mono (fun b e=>e ▸ a.sH)⟩
 ·rw [ho];exact aj a.oo f (x a.oo (by decide))
 ·rw [d] at e
  obtain ⟨r,hr⟩:=a.ob n o e;exact ⟨r,hr.keep f (fun e=>hr.apart a.hp (by decide) e)⟩
 ·rw [d] at e
  rw [ho] at hn;obtain ⟨r,c,F,hr⟩:=a.dd n hn e;exact ⟨r,c,F,hr.keep f (fun e=>hr.apart a.hp (by decide) e)⟩
 ·rw [d] at e;exact aj (a.en n o e) f (x (a.en n o e) (by decide))
 ·rw [qI h hk i]
  by_cases c:j=k
  ·simp only [c,if_true]
   exact aj hown f (x hown (by decide))
  ·simp only [c,if_false]
   exact aj (a.li j i) f (x (a.li j i) (by decide))
 ·rw [A];exact aj a.ro f (x a.ro (by decide))
 ·rw [ho];exact a.ij
 ·intro n m o D g;rw [d,d];exact a.ei n m o D g
 ·intro j z g i u e q
  by_cases c:j=k<;>by_cases y:z=k
  ·rw [c,y]
  ·simp only [c,y,if_true,if_false] at e q
   exact absurd q ((C g e).li z u)
  ·simp only [c,y,if_true,if_false] at e q
   exact absurd e ((C g q).li j i)
  ·simp only [c,y,if_false] at e q
   exact a.lj j z g i u e q
 ·rw [ho];exact a.bo
 ·rw [ho];exact fun n hn=>l _ (a.so n hn)
 ·intro n o g;rw [d];exact fun h1 h2=>l _ (a.se n o g h1 h2)
 ·intro j g i e
  by_cases c:j=k
  ·simp only [c,if_true] at e
   exact E g e
  ·simp only [c,if_false] at e
   exact l _ (a.sl j g i e)
theorem BN (l:List Nat) (x:List Nat):∀ h:Hp,l.foldl Hp.Hg { h with again:=x }={ l.foldl Hp.Hg h with again:=x }:=by
 induction l with
 |nil=>intro h;rfl
 |cons a l ih=>intro h;exact ih (h.Hg a)
theorem pV (e:h.again=[]):{ h with again:=[] }=h:=by
 cases h;simp only at e;subst e;rfl
end
section
variable {g h:Hp} {i:Nat} {o:Ob}
def bn (i:Nat) (q:Hp):Hp:={ q with objs:=(q.objs.take i).map (Option.map q.drop1)++q.objs.drop i }
theorem mQ (q:Hp):bn 0 q=q:=by simp [bn]
theorem oJ (q:Hp):bn q.objs.length q=q.Ik:=by simp [bn,Hp.Ik]
theorem dU (i:Nat) (q:Hp):(bn i q).objs.length=q.objs.length:=by
 simp [bn];omega
theorem gH (i:Nat) (q:Hp) (n:Nat):(bn i q).ob n=if n<i then (q.ob n).map q.drop1 else q.ob n:=by
 unfold Hp.ob bn;simp only;by_cases c:n<i
 ·rw [if_pos c]
  by_cases d:n<q.objs.length
  ·rw [dF (by simp;omega),List.getElem?_map,List.getElem?_take_of_lt c,aN d]
   cases q.objs[n]<;>rfl
  ·rw [fD (by simp;omega),fD (by omega)]
   rfl
 ·rw [if_neg c]
  by_cases d:n<q.objs.length
  ·rw [fI (by simp;omega)]
   simp only [bI,bX,List.getElem?_drop];rw [Nat.min_eq_left (by omega),show i+(n-i)=n by omega]
  ·rw [fD (by simp;omega),fD (by omega)]
theorem jA (i:Nat) (q:Hp):MU q (bn i q):=by
 refine ⟨dU i q,fun n=>?_,rfl,rfl,rfl,rfl,rfl,rfl,rfl,rfl,rfl,rfl,rfl,rfl,rfl,rfl,rfl⟩;rw [gH];by_cases c:n<i
 ·rw [if_pos c]
  cases hb:q.ob n with
  |none=>exact .inl ⟨rfl,rfl⟩
  |some o=>
   refine .inr ⟨o,_,rfl,rfl,?_⟩;unfold Hp.drop1;split
   ·exact ⟨rfl,rfl,rfl,id,fun e=>kQ.refl e,by simp⟩
   ·exact ⟨rfl,rfl,rfl,_,nJ q,rfl⟩
 ·rw [if_neg c]
  cases hb:q.ob n with
  |none=>exact .inl ⟨rfl,rfl⟩
  |some o=>exact .inr ⟨o,o,rfl,rfl,rfl,rfl,rfl,id,fun e=>kQ.refl e,by simp⟩
theorem sQ (b:g.objs.length=h.objs.length) (ho:∀ n,g.ob n=h.ob n):g.objs=h.objs:=by
 refine List.ext_getElem? (fun n=>?_);by_cases c:n<h.objs.length
 ·have e1:g.objs[n]?=some (g.ob n):=by
   rw [aN (by omega)];simp [Hp.ob,show n<g.objs.length by omega]
  have a:h.objs[n]?=some (h.ob n):=by
   rw [aN c];simp [Hp.ob,c]
  rw [e1,a,ho]
 ·rw [fD (by omega),fD (by omega)]
theorem qb {q:Hp} (b:g={ q with objs:=g.objs }) (a:g.objs.length=q.objs.length) (ho:∀ n,g.ob n=(bn i q).ob n):g=bn i q:=by
 rw [b];unfold bn;congr 1;exact sQ (h:=bn i q) (a.trans (dU i q).symm) ho
theorem iI {q:Hp} (h:∀ o,q.ob i=some o->q.drop1 o=o):bn (i+1) q=bn i q:=by
 refine (qb (g:=bn i q) rfl (dU i q) (fun n=>?_)).symm;rw [gH,gH];by_cases c:n<i
 ·rw [if_pos c,if_pos (by omega)]
 ·rw [if_neg c]
  by_cases d:n=i
  ·subst d
   rw [if_pos (by omega)];cases e:q.ob n with
   |none=>rfl
   |some o=>simp [h o e]
  ·rw [if_neg (by omega)]
theorem qd {q:Hp} (ho:q.ob i=some o) (a:gu o.col=false):bn (i+1) q=(bn i q).ents i (o.es.map (dH (bn i q))):=by
 have hd:dH (bn i q)=dH q:=by funext x;unfold dH;rw [(jA i q).ME]
 rw [hd];refine (qb (i:=i+1) (q:=q) (g:=(bn i q).ents i (o.es.map (dH q))) rfl ?_ (fun n=>?_)).symm
 ·rw [Hp.Ia,dU]
 ·unfold Hp.ents
  rw [Hp.Hf,gH,gH];by_cases d:i=n
  ·subst d
   rw [if_pos rfl,if_neg (by omega),if_pos (by omega),ho];simp [Hp.drop1,a]
  ·rw [if_neg d]
   by_cases c:n<i
   ·rw [if_pos c,if_pos (by omega)]
   ·rw [if_neg c,if_neg (by omega)]
theorem oH (p:Nat->Bool):∀ l:List Nat,(l.filter (fun n=>!p n)).length+(l.filter p).length=l.length
 | []=>rfl
 |a::l=>by
  have:=oH p l;cases h:p a<;>simp [h]<;>omega
theorem nk (e:g.objs.length=h.objs.length) (b:∀ n,(g.ob n).map Ob.col=(h.ob n).map Ob.col):g.wn=h.wn:=by
 have key:g.objs.map q8=h.objs.map q8:=by
  refine List.ext_getElem? (fun n=>?_);rw [List.getElem?_map,List.getElem?_map];by_cases c:n<h.objs.length
  ·have e1:g.objs[n]?=some (g.ob n):=by
    rw [aN (by omega)];simp [Hp.ob,show n<g.objs.length by omega]
   have d:h.objs[n]?=some (h.ob n):=by
    rw [aN c];simp [Hp.ob,c]
   rw [e1,d];have:=b n;cases x1:g.ob n<;>cases x2:h.ob n<;>simp [x1,x2] at this ⊢
   simp [q8,this]
  ·rw [fD (by omega),fD (by omega)]
 unfold Hp.wn;have a:∀ l:List (Option Ob),l.countP q8=(l.map q8).countP id:=fun l=>by rw [List.countP_map];rfl
 rw [a,a,key]
theorem Sm.Hr {h:Hp} (s:Sm h):Sm h.Hr:=by
 obtain ⟨_,_,_,f,_,r⟩:=dL h.finals (h,[]);obtain ⟨q,p,m,l,k,u,t,d,j,c⟩:=Hp.Iy h;obtain ⟨b1,b2,b3,b4,b5,b6⟩:=Hp.Js h;have a:∀ n,(h.Hr.ob n).map (fun o=>(o.col,o.mode,o.es))=(h.ob n).map (fun o=>(o.col,o.mode,o.es)):=f;have b:h.Hr.wn=h.wn:=nk d (fun n=>by
  have:=a n;cases x1:h.Hr.ob n<;>cases x2:h.ob n<;>simp [x1,x2] at this ⊢
  exact this.1)
 refine ⟨by rw [d];exact s.len,?_,?_,by rw [b1,b3];exact s.fr,by rw [b2];exact s.Nh,by rw [b5];exact s.cr,by rw [b4];exact s.lim,by rw [m];exact s.rt,fun n o e=>?_⟩
 ·have:=s.nu
  simp only [Hp.nu,Hp.mu] at this ⊢;rw [b,l,k,j,c];exact this
 ·rw [q,p,aT]
  have:=oH h.M4 h.finals;have:=s.fp;omega
 ·have:=a n
  rw [e] at this;cases e2:h.ob n with
  |none=>rw [e2] at this;simp at this
  |some o'=>rw [e2] at this;simp at this;rw [this.2.2];exact s.es n o' e2
end
end Go.Proofs.YtbpcdfbmnklcjaaGreatDoor
