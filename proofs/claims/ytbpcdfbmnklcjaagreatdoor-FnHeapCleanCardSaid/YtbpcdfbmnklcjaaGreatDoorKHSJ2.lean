import Derived.Test.YtbpcdfbmnklcjaaGreatDoorKHSD
namespace Go.Proofs.YtbpcdfbmnklcjaaGreatDoor
open Go Go.RowKit
set_option maxHeartbeats 6400000
set_option maxRecDepth 100000
set_option linter.unusedVariables false
section
variable {S:Nat->Prop} {base n:Nat} {o:Ob} {q:Hp} {w:World}
theorem qZ {L:SM} (a:MV base S q L w) (W:q.objs.length<=5001) (V:1<=q.objs.length) (ho:q.ob n=some o) (b9:o.es.length<=5000) (J:wJ q o.es):
 Calls Tryz.prog 96 #[.pointer (some ⟨L.H,0,none⟩),.pointer (some ⟨L.ob n,0,none⟩)] w fun e w'=>e=.returned (.tuple #[])/\MV base S (q.ents n (o.es.map (dG q))) L w'/\Keeps w w' S:=by
 obtain ⟨E,u,v,Z,-⟩:=a.ents ho;obtain ⟨r0,M⟩:=a.ob n o ho;have c5:w.cell? ⟨L.ob n,5,none⟩=some (.slice E o.es.length u):=by rw [<-v];exact M.c 5
 have HA:=ah a;have Q:=ah ho;have b2:=ah J;have p:=ah v;clear ho J M v a;go_enter Tryz.func96,Tryz.ntmps96;go_wp2;go_loopw [11,5,4] (fun jv e6 e5 ws=>∃ j:Nat,j<=o.es.length/\jv=.int .i64 j/\Hq (MV base S (q.ents n (bg (dG q) j o.es)) L ws/\Keeps w ws S)) (fun jv _ _ _=>o.es.length-bF jv)
 case atStart=>
  refine ⟨0,by omega,rfl,?_,Keeps.refl _ _⟩;rw [gK,Hp.Io Q.o];exact HA.o
 case round=>
  obtain ⟨j,b7,rfl,R⟩:=hrel;by_cases Y:j<o.es.length
  ·obtain ⟨e,T⟩:∃ e,o.es[j]?=some e:=⟨_,aN Y⟩
   have N:=Hp.Ij Q.o (bg (dG q) j o.es);obtain ⟨A3,l,i,x,k⟩:=R.o.1.ents N;simp only [cB] at i x;have:A3=E/\l=u:=by
    have z:=i.symm.trans p.o;simp only [Value.slice.injEq] at z;exact ⟨z.1,z.2.2⟩
   obtain ⟨rfl,rfl⟩:=this;obtain ⟨h,rfl,b8,d⟩:=k j e (dH _ T);have d0:=d 0 _ rfl;have d1:=d 1 _ rfl;have d2:=d 2 _ rfl;have d3:=d 3 _ rfl;have d4:=d 4 _ rfl;have d5:=d 5 _ rfl;have d6:=d 6 _ rfl;have d7:=d 7 _ rfl;have d8:=d 8 _ rfl;have d9:=d 9 _ rfl;simp only [Nat.add_zero] at d0;have G:=b2.o e (aX T);have t:=ah (R.o.1.alloc (.cells (Nw e.1 e.2) 122));have C:=ah (R.o.2.trans (Keeps.of (aU wr (.cells (Nw e.1 e.2) 122)) (au _) S));have b1:=ah (show Rg (q.ents n (bg (dG q) j o.es)) e.1 from G.1.mono (q.Ie n _));have HX:=ah (lV wr e);have r:=ah T;clear N i k d G T;go_upto_region 3 with (fail)
   generalize wr.alloc (.cells (Nw e.1 e.2) 122)=w3 at *;generalize wr.heap.size=X at *;have b5:=HX.o.lt;obtain ⟨x0,x1,x2,x3,x4⟩:NQ w3 X e.1:=HX.o.c5;have x5:w3.cell? ⟨X,5,none⟩=some (.int .i64 (vk e.2)):=HX.o.c 5;clear d0 d1 d2 d3 d4 d5 d6 d7 d8 d9;cases hs:e.2.isSome with
   |true=>
    have U:(vk e.2==0)=false:=by
     have:=fq e.2;rw [hs] at this
     simpa using this
    have m:=ah (fM (dG q) r.o (by unfold dG;cases z:e.2 with |none=>rw [z] at hs;cases hs|some y=>rfl));clear hs;go_wp2;go_roundw
    case rel=>
     refine ⟨j+1,by omega,by simp,?_⟩;exact ⟨by rw [m.o];exact t.o,C.o⟩
    case measure=>simp [bF];omega
   |false=>
    have U:(vk e.2==0)=true:=by
     have:=fq e.2;rw [hs] at this
     simpa using this
    have b3:Hq (e.2.isNone=true):=ah (by cases z:e.2 with |none=>rfl|some y=>rw [z] at hs;cases hs);clear hs;have A:=ah (gy t.o e.1 b1.o (by rw [Hp.Ie];exact W) (by rw [Hp.Ie];exact V));rw [Hp.I9] at A;go_wp2_with fail;refine A.o.mono ?_;rintro e9 w4 ⟨rfl,P⟩;have s:=ah P;clear P A;cases hb:q.MO e.1 with
    |false=>
     have m:=ah (fM (dG q) r.o (by unfold dG;rw [hb];simp));clear hb;go_wp2;go_roundw
     case rel=>
      refine ⟨j+1,by omega,by simp,?_⟩;exact ⟨by rw [m.o];exact t.o.low s.o,C.o.trans (Keeps.of s.o (au _) S)⟩
     case measure=>simp [bF];omega
    |true=>
     have m:=ah (fK (dG q) r.o);have b4:Hq (dG q e=(none,none)):=ah (by unfold dG;rw [hb,b3.o];rfl);clear hb;have F:=ah (t.o.low s.o);obtain ⟨r4,K⟩:=F.o.ob n _ (Hp.Ij Q.o (bg (dG q) j o.es));have f5:w4.cell? ⟨L.ob n,5,none⟩=some (.slice (some ⟨h,0,none⟩) o.es.length l):=by rw [<-p.o];exact K.c 5
     have b:=ay (F.o.en n _ (Hp.Ij Q.o (bg (dG q) j o.es))) (g:=h) (by rw [p.o];simp [Value.ownBlock]);have a0:(o.es.length:Int)<=l:=by omega
     have b6:(j:Int)<(o.es.length:Int):=by omega
     have f:(bg (dG q) j o.es).length=o.es.length:=cB _ _ _;have z0:=b.ME (j*10);have z1:=b.ME (j*10+1);have z2:=b.ME (j*10+2);have z3:=b.ME (j*10+3);have z4:=b.ME (j*10+4);have z5:=b.ME (j*10+5);have z6:=b.ME (j*10+6);have z7:=b.ME (j*10+7);have z8:=b.ME (j*10+8);have z9:=b.ME (j*10+9);have g0:=b.cell (j:=j*10) (by simp only [f];omega);have a9:=b.cell (j:=j*10+1) (by simp only [f];omega);have a8:=b.cell (j:=j*10+2) (by simp only [f];omega);have a7:=b.cell (j:=j*10+3) (by simp only [f];omega);have a6:=b.cell (j:=j*10+4) (by simp only [f];omega);have a5:=b.cell (j:=j*10+5) (by simp only [f];omega);have a4:=b.cell (j:=j*10+6) (by simp only [f];omega);have a3:=b.cell (j:=j*10+7) (by simp only [f];omega);have a2:=b.cell (j:=j*10+8) (by simp only [f];omega);have a1:=b.cell (j:=j*10+9) (by simp only [f];omega);clear K b f;have D:=ah (F.o.Lg (Hp.Ij Q.o (bg (dG q) j o.es)) (by rw [cB];exact p.o) (dH (dG q) r.o));rw [Hp.Iz] at D;go_upto_region 5 with (fail)
     generalize ((((((((((w4.setCell ⟨h,j*10,none⟩ (.int .i64 0)).setCell ⟨h,j*10+1,none⟩ (.int .i64 0)).setCell ⟨h,j*10+2,none⟩ (.int .u64 0)).setCell ⟨h,j*10+3,none⟩ (.string { data:=#[] })).setCell ⟨h,j*10+4,none⟩ (.int .i64 0)).setCell ⟨h,j*10+5,none⟩ (.int .i64 0)).setCell ⟨h,j*10+6,none⟩ (.int .i64 0)).setCell ⟨h,j*10+7,none⟩ (.int .u64 0)).setCell ⟨h,j*10+8,none⟩ (.string { data:=#[] })).setCell ⟨h,j*10+9,none⟩ (.int .i64 0))=w5 at *;clear g0 a9 a8 a7 a6 a5 a4 a3 a2 a1 z0 z1 z2 z3 z4 z5 z6 z7 z8 z9 f5;go_wp2;go_roundw
     case rel=>
      refine ⟨j+1,by omega,by simp,?_⟩;exact ⟨by rw [m.o,b4.o];exact D.o.1,(C.o.trans (Keeps.of s.o (au _) S)).trans D.o.2⟩
     case measure=>simp [bF];omega
  ·obtain rfl:j=o.es.length:=by omega
   have B:=R.o;rw [ig] at B;have b0:=ah B;clear B R;go_wp2;go_end0;exact ⟨rfl,b0.o⟩
end
section
variable {S:Nat->Prop} {base:Nat} {w:World}
theorem MV.Lj {h:Hp} {L:SM} (a:MV base S h L w):∃ A cap,L.rS=.slice A h.roots.length cap/\h.roots.length<=cap/\∀ i n,h.roots[i]?=some n->∃ g,A=some ⟨g,0,none⟩/\∀ j u,(wX (some (.inr n)))[j]?=some u->w.cell? ⟨g,i*5+j,none⟩=some u:=by
 have f:=a.ro;rcases f.2 with ⟨o,m⟩|⟨g,cap,p,d,_,_,l,_⟩
 ·refine ⟨none,0,by rw [o,m],by omega,fun i e hi=>?_⟩
  have:=(aJ.1 hi).1;omega
 ·refine ⟨_,cap,d,l,fun i e hi=>⟨g,rfl,fun j u hj=>?_⟩⟩
  have hr:=ay f (g:=g) (by rw [d];simp [Value.ownBlock]);have k:=(aJ.1 hi).1;have b:j<5:=(aJ.1 hj).1;rw [hr.c (i*5+j),bq,show (Dx h.roots)[i*5+j]?=(wX (some (.inr e)))[j]? from eX _ 5 (fun _=>rfl) h.roots i j e hi b,hj];rfl
theorem MV.nil {h:Hp} {L:SM} (a:MV base S h L w) (k:Nat) (hk:eO k):MV base S (dD h k []) { L with li:=fun j=>if j=k then .slice none 0 0 else L.li j } (w.setCell ⟨L.H,k,none⟩ (.slice none 0 0))/\Keeps w (w.setCell ⟨L.H,k,none⟩ (.slice none 0 0)) S:=
 (a.JW (w1:=w) k hk (Keeps.refl w _) (.slice none 0 0) [] ⟨rfl,.inl ⟨rfl,rfl⟩⟩ (fun g e=>by simp [Value.ownBlock] at e)).2
structure Ln (k:Nat) (L L':SM):Prop where
 H:L'.H=L.H
 oS:L'.oS=L.oS
 ob:L'.ob=L.ob
 es:L'.es=L.es
 rS:L'.rS=L.rS
 li:∀ j,j≠k->L'.li j=L.li j
theorem MV.KL {h:Hp} {L:SM} (a:MV base S h L w) (k:Nat) (hk:eO k):∃ L',Ln k L L'/\MV base S (dD h k []) L' (w.setCell ⟨L.H,k,none⟩ (.slice none 0 0))/\Keeps w (w.setCell ⟨L.H,k,none⟩ (.slice none 0 0)) S:=by
 obtain ⟨c,b⟩:=a.nil k hk;exact ⟨{ L with li:=fun j=>if j=k then .slice none 0 0 else L.li j },⟨rfl,rfl,rfl,rfl,rfl,fun j hj=>by simp [hj]⟩,c,b⟩
theorem MV.num {h h':Hp} {L:SM} (a:MV base S h L w) (k:Nat) (x:Value) (hk:k<18) (b:h'.objs=h.objs) (c:h'.grey=h.grey/\h'.again=h.again/\h'.weak=h.weak/\h'.G8=h.G8/\h'.finals=h.finals/\h'.pending=h.pending/\h'.freed=h.freed) (hr:h'.roots=h.roots) (d:∀ i,i<18->(if i=k then x else uE h L i)=uE h' L i):
 MV base S h' L (w.setCell ⟨L.H,k,none⟩ x)/\Keeps w (w.setCell ⟨L.H,k,none⟩ x) S:=by
 refine a.hdr k x hk b (fun j hj=>?_) hr d;obtain ⟨o,n,m,l,g,f,e⟩:=c;rcases hj with rfl|rfl|rfl|rfl|rfl|rfl|rfl
 ·exact o
 ·exact n
 ·exact m
 ·exact l
 ·exact g
 ·exact f
 ·exact e
theorem bV (P:Nat->Prop) (s:P 0) (r:P 1) (q:P 2) (p:P 3) (o:P 4) (n:P 5) (m:P 6) (l:P 7) (k:P 8) (j:P 9) (h:P 10) (g:P 11) (f:P 12) (e:P 13) (d:P 14) (c:P 15) (b:P 16) (a:P 17):∀ i,i<18->P i:=by
 intro i hi;have:i=0∨i=1∨i=2∨i=3∨i=4∨i=5∨i=6∨i=7∨i=8∨i=9∨i=10∨i=11∨i=12∨i=13∨i=14∨i=15∨i=16∨i=17:=by omega
 rcases this with rfl|rfl|rfl|rfl|rfl|rfl|rfl|rfl|rfl|rfl|rfl|rfl|rfl|rfl|rfl|rfl|rfl|rfl<;>assumption
theorem uX (h:Hp):h.wn<=h.objs.length:=List.countP_le_length
def Hp.Ii (h:Hp):Hp:={ h with state:=1,grey:=[],again:=[],weak:=[],G8:=[] }
theorem Sm.Ii {h:Hp} (s:Sm h):Sm h.Ii:=by
 refine ⟨s.len,?_,s.fp,s.fr,s.Nn,s.cr,s.lim,s.rt,s.es⟩;have:=uX h;have:=s.len;show h.wn+0+0+0+0<=20000;omega
theorem pI {h:Hp} {L:SM} (a:MV base S h L w) (s:Sm h) (hz:h.ob 0=none) (hr:∀ n∈h.roots,n<h.objs.length) (hp:∀ n∈h.pending,n<h.objs.length):
 Calls Tryz.prog 63 #[.pointer (some ⟨L.H,0,none⟩)] w fun e w'=>e=.returned (.tuple #[])/\∃ L',L'.H=L.H/\MV base S h.begin L' w'/\Keeps w w' S:=by
 have HA:=ah a;have c6:=ah s.Ii;have HZ:=ah (show h.Ii.ob 0=none from hz);have HR:=ah (show ∀ n∈h.Ii.roots,n<h.Ii.objs.length from hr);have HP:=ah (show ∀ n∈h.Ii.pending,n<h.Ii.objs.length from hp);have b6:=s.rt;have e6:=s.fp;have z5:=a.hp.ME 5;have c5:=a.hp.c 5;have s1:=a.num (h':={ h with state:=1 }) 5 (.int .i64 1) (by decide) rfl ⟨rfl,rfl,rfl,rfl,rfl,rfl,rfl⟩ rfl (bV _ rfl rfl rfl rfl rfl rfl rfl rfl rfl rfl rfl rfl rfl rfl rfl rfl rfl rfl);have H1:=ah s1;clear a s hz hr hp s1;go_enter Tryz.func63,Tryz.ntmps63;go_upto_region 1 with (fail)
 generalize w.setCell ⟨L.H,5,none⟩ (.int .i64 1)=w1 at *;have e0:=ah H1.o.2;have Q:=ah (And.intro (Lm.refl L).H H1.o.1);clear H1 z5 c5;obtain ⟨L2,c3,b9,b7⟩:=Q.o.2.KL 7 (by simp [eO]);have z7:=Q.o.2.hp.ME 7;have c7:=Q.o.2.hp.c 7;have D:=ah (And.intro (c3.H.trans Q.o.1) b9);have d9:=ah (e0.o.trans b7);clear c3 b9 b7;go_upto_region 2 with (fail)
 generalize w1.setCell ⟨L.H,7,none⟩ (.slice none 0 0)=w2 at *;clear z7 c7 Q e0;obtain ⟨L3,c2,b2,a8⟩:=D.o.2.KL 8 (by simp [eO]);have z8:=D.o.2.hp.ME 8;have c8:=D.o.2.hp.c 8;rw [D.o.1] at z8 c8 b2 a8;have C:=ah (And.intro (c2.H.trans D.o.1) b2);have d8:=ah (d9.o.trans a8);clear c2 b2 a8;go_upto_region 3 with (fail)
 generalize w2.setCell ⟨L.H,8,none⟩ (.slice none 0 0)=w3 at *;clear z8 c8 D d9;obtain ⟨L4,c1,r,p⟩:=C.o.2.KL 9 (by simp [eO]);have z9:=C.o.2.hp.ME 9;have c9:=C.o.2.hp.c 9;rw [C.o.1] at z9 c9 r p;have B:=ah (And.intro (c1.H.trans C.o.1) r);have d7:=ah (d8.o.trans p);clear c1 r p;go_upto_region 4 with (fail)
 generalize w3.setCell ⟨L.H,9,none⟩ (.slice none 0 0)=w4 at *;clear z9 c9 C d8;obtain ⟨L5,c0,b1,a7⟩:=B.o.2.KL 10 (by simp [eO]);have b5:=B.o.2.hp.ME 10;have c4:=B.o.2.hp.c 10;rw [B.o.1] at b5 c4 b1 a7;have b4:=ah (And.intro (c0.H.trans B.o.1) b1);have f4:=ah (d7.o.trans a7);clear c0 b1 a7;go_upto_region 5 with (fail)
 generalize w4.setCell ⟨L.H,10,none⟩ (.slice none 0 0)=w5 at *;clear b5 c4 B d7;have HB:=ah (show MV base S h.Ii L5 w5 from b4.o.2);have d6:=ah b4.o.1;clear b4;obtain ⟨AR,a4,a6,e8,-⟩:=HB.o.Lj;have f9:w5.cell? ⟨L.H,13,none⟩=some (.slice AR h.Ii.roots.length a4):=by
  rw [<-d6.o,<-a6];exact HB.o.hp.c 13
 have d5:=ah a6;have t:=ah (And.intro HB.o (And.intro c6.o (And.intro HZ.o (And.intro HR.o HP.o))));have f5:Hq (h.begin=(h.Ii.Hu h.Ii.roots).Hu h.Ii.pending):=ah rfl;have f6:h.Ii.roots.length<=5001:=b6;have f7:h.Ii.pending.length<=5000:=by
  show h.pending.length<=_;omega
 clear HA c6 HZ HR HP HB a6 b6 e6;generalize h.Ii=q0 at *;obtain ⟨H5,X,V,a2,Z,T⟩:=L5;obtain rfl:H5=L.H:=d6.o;go_wp2;go_loopw [26,3] (fun iv vv wr=>∃ i:Nat,i<=q0.roots.length/\iv=.int .i64 i/\Hq (∃ L',Lm (⟨L.H,X,V,a2,Z,T⟩:SM) L'/\MV base S ((q0.roots.take i).foldl Hp.mark q0) L' wr/\Keeps w5 wr S)) (fun iv _ _=>q0.roots.length-bF iv)
 case atStart=>exact ⟨0,by omega,rfl,(⟨L.H,X,V,a2,Z,T⟩:SM),Lm.refl _,t.o.1,Keeps.refl _ _⟩
 case round=>
  obtain ⟨i,e7,rfl,HI⟩:=hrel;by_cases z:i<q0.roots.length
  ·have E:q0.roots.take (i+1)=q0.roots.take i++[q0.roots[i]]:=bD (aN z)
   have HF:Hq ((q0.roots.take (i+1)).foldl Hp.mark q0=Hp.mark ((q0.roots.take i).foldl Hp.mark q0) q0.roots[i]):=ah (by rw [E,bE]);have F:=t.o.2.2.2.1 _ (List.getElem_mem z);have j:=M7.fold Hp.mark M7.mark (q0.roots.take i) q0;have y:=t.o.2.1.foldM Hp.mark (fun h x s=>s.mark x) (q0.roots.take i) q0 t.o.2.1;obtain ⟨L1,f,d,l⟩:=HI.out;obtain ⟨q,hq⟩:∃ q,(q0.roots.take i).foldl Hp.mark q0=q:=⟨_,rfl⟩
   rw [hq] at j y d HF;clear E;have e5:=d.Lj;obtain ⟨A1,K,v,b0,m⟩:=e5;have u:q.roots=q0.roots:=j.roots;rw [u] at v;have:A1=AR/\K=a4:=by
    have h9:=v.symm.trans (f.rS.trans d5.o);simp only [Value.slice.injEq] at h9;exact ⟨h9.1,h9.2.2⟩
   obtain ⟨rfl,rfl⟩:=this;obtain ⟨g,rfl,b⟩:=m i q0.roots[i] (by rw [u];exact aN z);generalize q0.roots[i]=n at *;have d0:=b 0 _ rfl;have d1:=b 1 _ rfl;have d2:=b 2 _ rfl;have d3:=b 3 _ rfl;have d4:=b 4 _ rfl;simp only [Nat.add_zero] at d0;obtain ⟨H1,e3,e2,f0,e4,e1⟩:=L1;obtain rfl:H1=(⟨L.H,X,V,a2,Z,T⟩:SM).H:=f.H;have N:=ah (fD (d.alloc (.cells (Nu (some (Sum.inr n):HV)) 95)) y (j.zero t.o.2.2.1) (some (.inr n)) (by rw [j.len];exact F));have HT:=ah (And.intro f (l.trans (Keeps.of (aU wr (.cells (Nu (some (Sum.inr n):HV)) 95)) (au _) S)));clear f d l j y v m hq b HI u F;go_wp2_with fail;refine N.o.mono ?_;rintro e9 w4 ⟨rfl,L4,J,r,p⟩;have H4:=ah (And.intro J (And.intro r p));clear J r p N;go_wp2;go_roundw
   case rel=>
    refine ⟨i+1,by omega,by simp,?_⟩;exact ⟨L4,HT.o.1.trans H4.o.1,by rw [HF.o];exact H4.o.2.1,HT.o.2.trans H4.o.2.2⟩
   case measure=>simp [bF];omega
  ·obtain rfl:i=q0.roots.length:=by omega
   have P:=HI.out;rw [bN] at P;obtain ⟨L6,f,d,l⟩:=P;have A:Hq (Lm (⟨L.H,X,V,a2,Z,T⟩:SM) L6/\MV base S (q0.Hu q0.roots) L6 wr/\Keeps w5 wr S):=ah ⟨f,d,l⟩;clear f d l HI;obtain ⟨AP,a5,a0,a9,-⟩:=A.o.2.1.II (k:=12) (by simp [eO]);have G:=M7.Hu q0 q0.roots;have a3:g_ (q0.Hu q0.roots) 12=q0.pending:=G.pending;rw [a3] at a0 a9;have g0:wr.cell? ⟨L.H,12,none⟩=some (.slice AP q0.pending.length a5):=by
    have:=A.o.2.1.hp.c 12;rw [A.o.1.H] at this;rw [this];exact congrArg some a0
   have f2:=ah a0;have M:=ah (And.intro A.o.2.1 (And.intro (t.o.2.1.Hu q0.roots) (And.intro (G.zero t.o.2.2.1) (show ∀ n∈q0.pending,n<(q0.Hu q0.roots).objs.length from by rw [G.len];exact t.o.2.2.2.2))));have f3:=ah (f4.o.trans A.o.2.2);have f1:=ah (show (q0.Hu q0.roots).pending=q0.pending from G.pending);clear G a3 a0 d5;obtain ⟨H6,W,U,a1,Y,R⟩:=L6;obtain rfl:H6=L.H:=A.o.1.H;clear A t;generalize q0.Hu q0.roots=q1 at *;generalize q0.pending=pd at *;rename World=>w6;go_wp2;go_loopw [39] (fun iv wr=>∃ i:Nat,i<=pd.length/\iv=.int .i64 i/\Hq (∃ L',Lm (⟨L.H,W,U,a1,Y,R⟩:SM) L'/\MV base S ((pd.take i).foldl Hp.mark q1) L' wr/\Keeps w6 wr S)) (fun iv _=>pd.length-bF iv)
   case atStart=>exact ⟨0,by omega,rfl,(⟨L.H,W,U,a1,Y,R⟩:SM),Lm.refl _,M.o.1,Keeps.refl _ _⟩
   case round=>
    obtain ⟨i,e7,rfl,HI⟩:=hrel;by_cases z:i<pd.length
    ·have E:pd.take (i+1)=pd.take i++[pd[i]]:=bD (aN z)
     have HF:Hq ((pd.take (i+1)).foldl Hp.mark q1=Hp.mark ((pd.take i).foldl Hp.mark q1) pd[i]):=ah (by rw [E,bE]);have F:=M.o.2.2.2 _ (List.getElem_mem z);have j:=M7.fold Hp.mark M7.mark (pd.take i) q1;have y:=M.o.2.1.foldM Hp.mark (fun h x s=>s.mark x) (pd.take i) q1 M.o.2.1;obtain ⟨L1,f,d,l⟩:=HI.out;obtain ⟨q,hq⟩:∃ q,(pd.take i).foldl Hp.mark q1=q:=⟨_,rfl⟩
     rw [hq] at j y d HF;clear E;obtain ⟨A1,K,v,b0,m⟩:=d.II (k:=12) (by simp [eO]);have u:g_ q 12=pd:=j.pending.trans f1.o;rw [u] at v;have:A1=AP/\K=a5:=by
      have h9:=v.symm.trans ((f.li 12 (by decide) (by decide) (by decide)).trans f2.o);simp only [Value.slice.injEq] at h9;exact ⟨h9.1,h9.2.2⟩
     obtain ⟨rfl,rfl⟩:=this;obtain ⟨g,rfl,b8⟩:=m i (by rw [u];exact z);have f8:wr.cell? ⟨g,i,none⟩=some (.int .i64 ((pd[i]:Nat):Int)):=by
      rw [b8];congr 3;simp only [u]
     generalize pd[i]=n at *;obtain ⟨H1,e3,e2,f0,e4,e1⟩:=L1;obtain rfl:H1=(⟨L.H,W,U,a1,Y,R⟩:SM).H:=f.H;have N:=ah (jP d y (j.zero M.o.2.2.1) n (by rw [j.len];exact F));have HT:=ah (And.intro f l);clear f d l j y v m hq HI u F b8;go_wp2_with fail;refine N.o.mono ?_;rintro e9 w4 ⟨rfl,L4,J,r,p⟩;have H4:=ah (And.intro J (And.intro r p));clear J r p N;go_wp2;go_roundw
     case rel=>
      refine ⟨i+1,by omega,by simp,?_⟩;exact ⟨L4,HT.o.1.trans H4.o.1,by rw [HF.o];exact H4.o.2.1,HT.o.2.trans H4.o.2.2⟩
     case measure=>simp [bF];omega
    ·obtain rfl:i=pd.length:=by omega
     have P:=HI.out;rw [bN] at P;obtain ⟨L7,f,d,l⟩:=P;have b3:Hq (Lm (⟨L.H,W,U,a1,Y,R⟩:SM) L7/\MV base S (q1.Hu pd) L7 wr/\Keeps w6 wr S):=ah ⟨f,d,l⟩;clear f d l HI;go_wp2;go_end0;exact ⟨rfl,L7,b3.o.1.H,by rw [f5.o];exact b3.o.2.1,f3.o.trans b3.o.2.2⟩
end
section
variable {S S':Nat->Prop} {base:Nat} {h:Hp} {w:World}
structure Free (h:Hp) (L:SM) (g:Nat):Prop where
 H:L.H≠g
 ob:∀ n,n<h.objs.length->L.ob n≠g
 oS:L.oS.ownBlock≠some g
 es:∀ n o,h.ob n=some o->(L.es n).ownBlock≠some g
 li:∀ k,eO k->(L.li k).ownBlock≠some g
 rS:L.rS.ownBlock≠some g
theorem MV.less {L:SM} (a:MV base S h L w) (v:Value) (c:∀ g,v.ownBlock=some g->Free h L g/\g<w.heap.size):MV base (fun b=>S b/\v.ownBlock≠some b) h L w:=by
 refine ⟨a.hp,a.oo,a.ob,a.dd,a.en,a.li,a.ro,a.ij,a.ei,a.lj,a.bH,a.bo,a.bs,⟨a.sH,fun e=>(c _ e).1.H rfl⟩,fun n hn=>⟨a.so n hn,fun e=>(c _ e).1.ob n hn rfl⟩,fun g hg=>⟨a.sO g hg,fun e=>(c _ e).1.oS hg⟩,fun n o g hn hg=>⟨a.se n o g hn hg,fun e=>(c _ e).1.es n o hn hg⟩,fun k g hk hg=>⟨a.sl k g hk hg,fun e=>(c _ e).1.li k hk hg⟩,fun g hg=>⟨a.sr g hg,fun e=>(c _ e).1.rS hg⟩,fun b hb=>⟨a.up b hb,fun e=>?_⟩⟩;have:=(c b e).2;omega
theorem MV.free {L:SM} (a:MV base S h L w) {g:Nat} (b:¬ S g):Free h L g:=
 ⟨fun e=>b (e ▸ a.sH),fun n hn e=>b (e ▸ a.so n hn),fun e=>b (a.sO g e),fun n o hn e=>b (a.se n o g hn e),fun k hk e=>b (a.sl k g hk e),fun e=>b (a.sr g e)⟩
theorem MV.past {L:SM} (a:MV base S h L w) {g:Nat} (f:w.heap.size<=g):Free h L g:=by
 have d:∀ n,n<h.objs.length->L.ob n<w.heap.size:=by
  intro n b;cases e:h.ob n with
  |none=>obtain ⟨r,c,_,hr⟩:=a.dd n b e;exact hr.lt
  |some o=>obtain ⟨r,hr⟩:=a.ob n o e;exact hr.lt
 refine ⟨fun e=>?_,fun n b e=>?_,fun e=>?_,fun n o b e=>?_,fun k hk e=>?_,fun e=>?_⟩
 ·have:=a.hp.lt;omega
 ·have:=d n b;omega
 ·have:=(ay a.oo e).lt;omega
 ·have:=(ay (a.en n o b) e).lt;omega
 ·have:=(ay (a.li k hk) e).lt;omega
 ·have:=(ay a.ro e).lt;omega
theorem MV.LP {L:SM} (a:MV base S h L w) (k:Nat) (hk:eO k):∃ L',Ln k L L'/\MV base (fun b=>S b/\(L.li k).ownBlock≠some b) (dD h k []) L' (w.setCell ⟨L.H,k,none⟩ (.slice none 0 0))/\Keeps w (w.setCell ⟨L.H,k,none⟩ (.slice none 0 0)) (fun b=>S b/\(L.li k).ownBlock≠some b):=by
 obtain ⟨L',d,m,s⟩:=a.KL k hk;have kk:Keeps w (w.setCell ⟨L.H,k,none⟩ (.slice none 0 0)) (fun b=>b=L.H):=Keeps.setCell (S:=fun b=>b=L.H) (Keeps.refl w _) rfl _;refine ⟨L',d,m.less (L.li k) (fun g e=>⟨?_,?_⟩),kk.mono (fun b e=>⟨e ▸ a.sH,fun x=>ak (a.li k hk) a.hp (by decide) (e ▸ x)⟩)⟩
 ·have hr:=ay (a.li k hk) e
  have q:∀ n,(dD h k []).ob n=h.ob n:=fun n=>by unfold Hp.ob;rw [(iK h k []).1]
  refine ⟨fun x=>?_,fun n hn x=>?_,fun x=>?_,fun n o hn x=>?_,fun j hj x=>?_,fun x=>?_⟩
  ·rw [d.H] at x
   exact ak (a.li k hk) a.hp (by decide) (x ▸ e)
  ·rw [d.ob] at x
   rw [(iK h k []).1] at hn;cases c:h.ob n with
   |none=>obtain ⟨r,C,_,f⟩:=a.dd n hn c;exact f.apart hr (by decide) x
   |some o=>obtain ⟨r,f⟩:=a.ob n o c;exact f.apart hr (by decide) x
  ·rw [d.oS] at x
   exact aV a.oo (a.li k hk) (by decide) e x
  ·rw [d.es] at x
   rw [q] at hn;exact aV (a.en n o hn) (a.li k hk) (by decide) e x
  ·by_cases c:j=k
   ·subst c
    have u:=m.li j hj;rw [rz h hk hj,if_pos rfl] at u;have p:=ay u x;have v:=p.lt;obtain ⟨y,q1,A,z⟩:=hr;have B:=m.lj;have l:L'.li j=.slice none 0 0:=by
     have t:=m.hp.cell (j:=j) (by rcases hj with rfl|rfl|rfl|rfl|rfl|rfl|rfl<;>decide);have i:=(a.hp.set (j:=j) (by rcases hj with rfl|rfl|rfl|rfl|rfl|rfl|rfl<;>decide) (.slice none 0 0)).cell (j:=j) (by rcases hj with rfl|rfl|rfl|rfl|rfl|rfl|rfl<;>decide);rw [d.H] at t;rw [t] at i;simp only [if_true,Option.some.injEq] at i;rw [<-i];rcases hj with rfl|rfl|rfl|rfl|rfl|rfl|rfl<;>rfl
    rw [l] at x;simp [Value.ownBlock] at x
   ·rw [d.li j c] at x
    exact c (a.lj j k g hj hk x e)
  ·rw [d.rS] at x
   exact aV a.ro (a.li k hk) (by decide) e x
 ·exact aW (ay (a.li k hk) e).lt s.size
theorem MV.Lx {L:SM} (a:MV base S h L w) (k:Nat) (hk:eO k) (v':Value) (p:List Nat) (hown:w.ownsRow base 3 1 v' p.length (eu p)) (C:∀ g,v'.ownBlock=some g->Free h L g) (l:∀ b,S b->S' b) (E:∀ g,v'.ownBlock=some g->S' g):
 ∃ L',Ln k L L'/\MV base S' (dD h k p) L' (w.setCell ⟨L.H,k,none⟩ v')/\Keeps w (w.setCell ⟨L.H,k,none⟩ v') S:=by
 have t:k<18:=by rcases hk with rfl|rfl|rfl|rfl|rfl|rfl|rfl<;>decide
 obtain ⟨ho,A⟩:=iK h k p;have d:∀ n,(dD h k p).ob n=h.ob n:=fun n=>by unfold Hp.ob;rw [ho]
 have f:Keeps w (w.setCell ⟨L.H,k,none⟩ v') (fun b=>b=L.H):=Keeps.setCell (S:=fun b=>b=L.H) (Keeps.refl w _) rfl v';have x:∀ {B T s n:Nat} {v:Value} {xs:List Value},w.ownsRow B T s v n xs->T≠105->∀ g,v.ownBlock=some g->¬ g=L.H:=fun h1 h2 g h4 h5=>ak h1 a.hp h2 (h5 ▸ h4);refine ⟨{ L with li:=fun j=>if j=k then v' else L.li j },⟨rfl,rfl,rfl,rfl,rfl,fun j i=>by simp [i]⟩,⟨(a.hp.set t v').congr (wK h L hk v' p),?_,fun n o e=>?_,fun n hn e=>?_,fun n o e=>?_,fun j i=>?_,?_,?_,?_,?_,a.bH,?_,aI a.bs f.size,l _ a.sH,?_,fun g e=>l _ (a.sO g e),?_,?_,fun g e=>l _ (a.sr g e),fun b hb=>l _ (a.up b (aI f.size hb))⟩,f.mono (fun b e=>e ▸ a.sH)⟩
 ·rw [ho];exact aj a.oo f (x a.oo (by decide))
 ·rw [d] at e
  obtain ⟨r,hr⟩:=a.ob n o e;exact ⟨r,hr.keep f (fun e=>hr.apart a.hp (by decide) e)⟩
 ·rw [d] at e
  rw [ho] at hn;obtain ⟨r,c,F,hr⟩:=a.dd n hn e;exact ⟨r,c,F,hr.keep f (fun e=>hr.apart a.hp (by decide) e)⟩
 ·rw [d] at e;exact aj (a.en n o e) f (x (a.en n o e) (by decide))
 ·rw [rz h hk i]
  by_cases c:j=k
  ·simp only [c,if_true]
   exact aj hown f (x hown (by decide))
  ·simp only [c,if_false]
   exact aj (a.li j i) f (x (a.li j i) (by decide))
 ·rw [A];exact aj a.ro f (x a.ro (by decide))
 ·rw [ho];exact a.ij
 ·intro n m o D g;rw [d,d];exact a.ei n m o D g
 ·intro j z g i u e q
  by_cases c:j=k<;>by_cases y:z=k
  ·rw [c,y]
  ·simp only [c,y,if_true,if_false] at e q
   exact absurd q ((C g e).li z u)
  ·simp only [c,y,if_true,if_false] at e q
   exact absurd e ((C g q).li j i)
  ·simp only [c,y,if_false] at e q
   exact a.lj j z g i u e q
 ·rw [ho];exact a.bo
 ·rw [ho];exact fun n hn=>l _ (a.so n hn)
 ·intro n o g;rw [d];exact fun h1 h2=>l _ (a.se n o g h1 h2)
 ·intro j g i e
  by_cases c:j=k
  ·simp only [c,if_true] at e
   exact E g e
  ·simp only [c,if_false] at e
   exact l _ (a.sl j g i e)
theorem Dj (l:List Nat) (x:List Nat):∀ h:Hp,l.foldl Hp.Hr { h with again:=x }={ l.foldl Hp.Hr h with again:=x }:=by
 induction l with
 |nil=>intro h;rfl
 |cons a l ih=>intro h;exact ih (h.Hr a)
theorem pz (e:h.again=[]):{ h with again:=[] }=h:=by
 cases h;simp only at e;subst e;rfl
end
section
variable {g h q:Hp} {i:Nat} {o:Ob}
def bn (i:Nat) (q:Hp):Hp:={ q with objs:=(q.objs.take i).map (Option.map q.drop1)++q.objs.drop i }
theorem mR (q:Hp):bn 0 q=q:=by simp [bn]
theorem nT (q:Hp):bn q.objs.length q=q.Im:=by simp [bn,Hp.Im]
theorem dU (i:Nat) (q:Hp):(bn i q).objs.length=q.objs.length:=by
 simp [bn];omega
theorem gN (i:Nat) (q:Hp) (n:Nat):(bn i q).ob n=if n<i then (q.ob n).map q.drop1 else q.ob n:=by
 unfold Hp.ob bn;simp only;by_cases c:n<i
 ·rw [if_pos c]
  by_cases d:n<q.objs.length
  ·rw [dF (by simp;omega),fC,List.getElem?_take_of_lt c,aN d]
   cases q.objs[n]<;>rfl
  ·rw [aM (by simp;omega),aM (by omega)]
   rfl
 ·rw [if_neg c]
  by_cases d:n<q.objs.length
  ·rw [fI (by simp;omega)]
   simp only [bY,bf,List.getElem?_drop];rw [Nat.min_eq_left (by omega),show i+(n-i)=n by omega]
  ·rw [aM (by simp;omega),aM (by omega)]
theorem jC (i:Nat) (q:Hp):Np q (bn i q):=by
 refine ⟨dU i q,fun n=>?_,rfl,rfl,rfl,rfl,rfl,rfl,rfl,rfl,rfl,rfl,rfl,rfl,rfl,rfl,rfl⟩;rw [gN];by_cases c:n<i
 ·rw [if_pos c]
  cases hb:q.ob n with
  |none=>exact .inl ⟨rfl,rfl⟩
  |some o=>
   refine .inr ⟨o,_,rfl,rfl,?_⟩;unfold Hp.drop1;split
   ·exact ⟨rfl,rfl,rfl,id,fun e=>kX.refl e,by simp⟩
   ·exact ⟨rfl,rfl,rfl,_,nE q,rfl⟩
 ·rw [if_neg c]
  cases hb:q.ob n with
  |none=>exact .inl ⟨rfl,rfl⟩
  |some o=>exact .inr ⟨o,o,rfl,rfl,rfl,rfl,rfl,id,fun e=>kX.refl e,by simp⟩
theorem tQ (b:g.objs.length=h.objs.length) (ho:∀ n,g.ob n=h.ob n):g.objs=h.objs:=by
 refine List.ext_getElem? (fun n=>?_);by_cases c:n<h.objs.length
 ·have e1:g.objs[n]?=some (g.ob n):=by
   rw [aN (by omega)];simp [Hp.ob,show n<g.objs.length by omega]
  have a:h.objs[n]?=some (h.ob n):=by
   rw [aN c];simp [Hp.ob,c]
  rw [e1,a,ho]
 ·rw [aM (by omega),aM (by omega)]
theorem qw (b:g={ q with objs:=g.objs }) (a:g.objs.length=q.objs.length) (ho:∀ n,g.ob n=(bn i q).ob n):g=bn i q:=by
 rw [b];unfold bn;congr 1;exact tQ (h:=bn i q) (a.trans (dU i q).symm) ho
theorem iJ (h:∀ o,q.ob i=some o->q.drop1 o=o):bn (i+1) q=bn i q:=by
 refine (qw (g:=bn i q) rfl (dU i q) (fun n=>?_)).symm;rw [gN,gN];by_cases c:n<i
 ·rw [if_pos c,if_pos (by omega)]
 ·rw [if_neg c]
  by_cases d:n=i
  ·subst d
   rw [if_pos (by omega)];cases e:q.ob n with
   |none=>rfl
   |some o=>simp [h o e]
  ·rw [if_neg (by omega)]
theorem qB (ho:q.ob i=some o) (a:fU o.col=false):bn (i+1) q=(bn i q).ents i (o.es.map (dG (bn i q))):=by
 have hd:dG (bn i q)=dG q:=by funext x;unfold dG;rw [(jC i q).MO]
 rw [hd];refine (qw (i:=i+1) (q:=q) (g:=(bn i q).ents i (o.es.map (dG q))) rfl ?_ (fun n=>?_)).symm
 ·rw [Hp.Ie,dU]
 ·unfold Hp.ents
  rw [Hp.Ho,gN,gN];by_cases d:i=n
  ·subst d
   rw [if_pos rfl,if_neg (by omega),if_pos (by omega),ho];simp [Hp.drop1,a]
  ·rw [if_neg d]
   by_cases c:n<i
   ·rw [if_pos c,if_pos (by omega)]
   ·rw [if_neg c,if_neg (by omega)]
theorem nQ (p:Nat->Bool):∀ l:List Nat,(l.filter (fun n=>!p n)).length+(l.filter p).length=l.length
 | []=>rfl
 |a::l=>by
  have:=nQ p l;cases h:p a<;>simp [h]<;>omega
theorem nA (e:g.objs.length=h.objs.length) (b:∀ n,(g.ob n).map Ob.col=(h.ob n).map Ob.col):g.wn=h.wn:=by
 have key:g.objs.map q8=h.objs.map q8:=by
  refine List.ext_getElem? (fun n=>?_);rw [fC,fC];by_cases c:n<h.objs.length
  ·have e1:g.objs[n]?=some (g.ob n):=by
    rw [aN (by omega)];simp [Hp.ob,show n<g.objs.length by omega]
   have d:h.objs[n]?=some (h.ob n):=by
    rw [aN c];simp [Hp.ob,c]
   rw [e1,d];have:=b n;cases x1:g.ob n<;>cases x2:h.ob n<;>simp [x1,x2] at this ⊢
   simp [q8,this]
  ·rw [aM (by omega),aM (by omega)]
 unfold Hp.wn;have a:∀ l:List (Option Ob),l.countP q8=(l.map q8).countP id:=fun l=>by rw [List.countP_map];rfl
 rw [a,a,key]
theorem Sm.Hw {h:Hp} (s:Sm h):Sm h.Hw:=by
 obtain ⟨_,_,_,f,_,t⟩:=dL h.finals (h,[]);obtain ⟨r,p,m,l,k,v,u,d,j,c⟩:=Hp.IE h;obtain ⟨b1,b2,b3,b4,b5,b6⟩:=Hp.Jz h;have a:∀ n,(h.Hw.ob n).map (fun o=>(o.col,o.mode,o.es))=(h.ob n).map (fun o=>(o.col,o.mode,o.es)):=f;have b:h.Hw.wn=h.wn:=nA d (fun n=>by
  have:=a n;cases x1:h.Hw.ob n<;>cases x2:h.ob n<;>simp [x1,x2] at this ⊢
  exact this.1)
 refine ⟨by rw [d];exact s.len,?_,?_,by rw [b1,b3];exact s.fr,by rw [b2];exact s.Nn,by rw [b5];exact s.cr,by rw [b4];exact s.lim,by rw [m];exact s.rt,fun n o e=>?_⟩
 ·have:=s.nu
  simp only [Hp.nu,Hp.mu] at this ⊢;rw [b,l,k,j,c];exact this
 ·rw [r,p,bI]
  have:=nQ h.M5 h.finals;have:=s.fp;omega
 ·have:=a n
  rw [e] at this;cases e2:h.ob n with
  |none=>rw [e2] at this;simp at this
  |some o'=>rw [e2] at this;simp at this;rw [this.2.2];exact s.es n o' e2
end
section
variable {S:Nat->Prop} {base:Nat} {g h:Hp}
theorem Wk.of (s:Sm h) (t:MP h No) (z:h.ob 0=none) (p:1<=h.objs.length) (m:∀ n o,h.ob n=some o->o.mode<=3):Wk h:=⟨s,z,p,t.cl,m,t.ll⟩
theorem Wk.alive {h:Hp} (k:Wk h):Wk h.alive:=k.MQ (Mt.alive h) (by
 show ((h.Hu h.roots).Hu h.pending).nu<=h.nu;rw [show ((h.Hu h.roots).Hu h.pending).nu=(h.Hu h.roots).nu from dO Hp.mark Hp.Ir _ _,show (h.Hu h.roots).nu=h.nu from dO Hp.mark Hp.Ir _ _];exact au _)
theorem Wk.look (k:Wk h) (t:MP h No):Wk h.He:=by
 have x:=jM.He h;exact Wk.of k.s.He t.He (M7.zero x k.z) (by rw [show h.He.objs.length=h.objs.length from x.len];exact k.p) (M7.md x k.m)
theorem Wk.settle {h:Hp} (k:Wk h) (t:MP h No):Wk h.settle:=k.MZ (M7.settle h) h.JX t.settle.ll
theorem Np.closed (x:Np h g) (c:h.Closed):g.Closed:=by
 intro m n e en d r hr;rcases x.ob m with ⟨y,_⟩|⟨o1,o2,b,l,_,_,_,f,k,j⟩
 ·rw [e] at y;cases y
 ·rw [e] at b;cases b
  rw [j] at d;obtain ⟨i,a,rfl⟩:=List.mem_map.1 d;exact (x.lv r).2 (c m o1 l i a r ((k i).refs r hr))
theorem Np.zero (x:Np h g) (z:h.ob 0=none):g.ob 0=none:=by
 rcases x.ob 0 with ⟨y,_⟩|⟨_,_,_,y,_⟩
 ·exact y
 ·rw [z] at y;cases y
theorem Np.wn {h g:Hp} (x:Np h g):g.wn=h.wn:=nA x.len (fun n=>by
 rcases x.ob n with ⟨y,d⟩|⟨o1,o2,c,b,a,_⟩
 ·rw [y,d]
 ·rw [c,b];simp [a])
theorem Sm.cnt (s:Sm h) (x:Np h g):Sm g:=by
 refine ⟨by rw [x.len];exact s.len,?_,by rw [x.finals,x.pending];exact s.fp,by rw [x.freed,x.live];exact s.fr,by rw [x.bytes];exact s.Nn,by rw [x.G6];exact s.cr,by rw [x.limit];exact s.lim,by rw [x.roots];exact s.rt,fun n o e=>?_⟩
 ·have:=s.nu
  simp only [Hp.nu,Hp.mu] at this ⊢;rw [x.wn,x.grey,x.G8,x.weak,x.again];exact this
 ·rcases x.ob n with ⟨y,_⟩|⟨o1,o2,a,c,_,_,_,f,_,b⟩
  ·rw [e] at y;cases y
  ·rw [e] at a;cases a
   rw [b,bY];exact s.es n o1 c
theorem Wk.cnt {h g:Hp} (k:Wk h) (x:Np h g):Wk g:=
 ⟨k.s.cnt x,x.zero k.z,by rw [x.len];exact k.p,x.closed k.c,x.md k.m,fun n hn=>(x.lv n).2 (k.l n (by rw [x.grey,x.again,x.weak,x.G8] at hn;exact hn))⟩
theorem Wk.at2 {h:Hp} (k:Wk h) (t:MP h No):Wk h.at2:=by
 have c:=Np.fold bU bZ h.weak h;refine Wk.of (show Sm (h.weak.foldl Hp.MN h).Hw from (k.s.cnt c).Hw) t.at2 ?_ (by rw [(dX h).2.2.2.2.2.2.2];exact k.p) (Hp.JN (c.md k.m));cases e:h.at2.ob 0 with
 |none=>rfl
 |some o=>
  obtain ⟨b,a⟩:=(ou h 0).1 ⟨o,e⟩;rw [k.z] at a;cases a
structure Nk (h:Hp):Prop where
 k:Wk h
 t:MP h No
 l:∀ n,n∈h.roots∨n∈h.pending∨n∈h.finals->h.Lv n
 w:h.white<=1
theorem vo {L:SM} {w:World} (a:MV base S h L w) (x:Nk h):
 Calls Tryz.prog 65 #[.pointer (some ⟨L.H,0,none⟩)] w fun e w'=>e=.returned (.tuple #[])/\∃ L',L'.H=L.H/\MV base S h.atomic L' w'/\Keeps w w' S:=by
 have hrl:=x.k.s.rt;have v3:=x.k.s.fp;obtain ⟨AR,p7,t7,v8,-⟩:=a.Lj;have c13:w.cell? ⟨L.H,13,none⟩=some (.slice AR h.roots.length p7):=by
  rw [<-t7];exact a.hp.c 13
 have HRS:=ah t7;have HX:=ah x;have b4:=ah (And.intro a (And.intro x.k.s (And.intro x.k.z (And.intro (show ∀ n∈h.roots,n<h.objs.length from fun n hn=>by obtain ⟨o,e⟩:=x.l n (.inl hn);exact Hp.Ia e) (show ∀ n∈h.pending,n<h.objs.length from fun n hn=>by obtain ⟨o,e⟩:=x.l n (.inr (.inl hn));exact Hp.Ia e)))));clear a t7 x;go_enter Tryz.func65,Tryz.ntmps65;go_wp2;go_loopw [21,3] (fun iv vv wr=>∃ i:Nat,i<=h.roots.length/\iv=.int .i64 i/\Hq (∃ L',Lm L L'/\MV base S ((h.roots.take i).foldl Hp.mark h) L' wr/\Keeps w wr S)) (fun iv _ _=>h.roots.length-bF iv)
 case atStart=>exact ⟨0,by omega,rfl,L,Lm.refl _,b4.o.1,Keeps.refl _ _⟩
 case round=>
  obtain ⟨i,i9,rfl,HI⟩:=hrel;by_cases v:i<h.roots.length
  ·have N:h.roots.take (i+1)=h.roots.take i++[h.roots[i]]:=bD (aN v)
   have HF:Hq ((h.roots.take (i+1)).foldl Hp.mark h=Hp.mark ((h.roots.take i).foldl Hp.mark h) h.roots[i]):=ah (by rw [N,bE]);have R:=b4.o.2.2.2.1 _ (List.getElem_mem v);have B:=M7.fold Hp.mark M7.mark (h.roots.take i) h;have Z:=b4.o.2.1.foldM Hp.mark (fun h x s=>s.mark x) (h.roots.take i) h b4.o.2.1;obtain ⟨L1,A,f,m⟩:=HI.out;obtain ⟨q,hq⟩:∃ q,(h.roots.take i).foldl Hp.mark h=q:=⟨_,rfl⟩
   rw [hq] at B Z f HF;clear N;have hrg:=f.Lj;obtain ⟨A1,d8,X,j1,G⟩:=hrg;have Q:q.roots=h.roots:=B.roots;rw [Q] at X;have:A1=AR/\d8=p7:=by
    have h9:=X.symm.trans (A.rS.trans HRS.o);simp only [Value.slice.injEq] at h9;exact ⟨h9.1,h9.2.2⟩
   obtain ⟨rfl,rfl⟩:=this;obtain ⟨g,rfl,J⟩:=G i h.roots[i] (by rw [Q];exact aN v);generalize h.roots[i]=n at *;have d0:=J 0 _ rfl;have d1:=J 1 _ rfl;have d2:=J 2 _ rfl;have d3:=J 3 _ rfl;have d4:=J 4 _ rfl;simp only [Nat.add_zero] at d0;obtain ⟨H1,i0,W,k0,i1,h6⟩:=L1;obtain rfl:H1=L.H:=A.H;have d9:=ah (fD (f.alloc (.cells (Nu (some (Sum.inr n):HV)) 95)) Z (B.zero b4.o.2.2.1) (some (.inr n)) (by rw [B.len];exact R));have D:=ah (And.intro A (m.trans (Keeps.of (aU wr (.cells (Nu (some (Sum.inr n):HV)) 95)) (au _) S)));clear A f m B Z X G hq J HI Q R;go_wp2_with fail;refine d9.o.mono ?_;rintro e9 w4 ⟨rfl,L4,c3,d5,c4⟩;have H4:=ah (And.intro c3 (And.intro d5 c4));clear c3 d5 c4 d9;go_wp2;go_roundw
   case rel=>
    refine ⟨i+1,by omega,by simp,?_⟩;exact ⟨L4,D.o.1.trans H4.o.1,by rw [HF.o];exact H4.o.2.1,D.o.2.trans H4.o.2.2⟩
   case measure=>simp [bF];omega
  ·obtain rfl:i=h.roots.length:=by omega
   have E:=HI.out;rw [bN] at E;obtain ⟨L6,A,f,m⟩:=E;have e5:Hq (Lm L L6/\MV base S (h.Hu h.roots) L6 wr/\Keeps w wr S):=ah ⟨A,f,m⟩;clear A f m HI;obtain ⟨AP,a9,b9,b3,-⟩:=e5.o.2.1.II (k:=12) (by simp [eO]);have i5:=M7.Hu h h.roots;have m9:g_ (h.Hu h.roots) 12=h.pending:=i5.pending;rw [m9] at b9 b3;have k2:wr.cell? ⟨L.H,12,none⟩=some (.slice AP h.pending.length a9):=by
    have:=e5.o.2.1.hp.c 12;rw [e5.o.1.H] at this;rw [this];exact congrArg some b9
   have k6:=ah b9;have U:=ah (And.intro e5.o.2.1 (And.intro (b4.o.2.1.Hu h.roots) (And.intro (i5.zero b4.o.2.2.1) (show ∀ n∈h.pending,n<(h.Hu h.roots).objs.length from by rw [i5.len];exact b4.o.2.2.2.2))));have HK6:=ah e5.o.2.2;have g8:=ah (show (h.Hu h.roots).pending=h.pending from i5.pending);have HAL:Hq (h.alive=(h.Hu h.roots).Hu h.pending):=ah rfl;have hpl2:h.pending.length<=5000:=by omega
   clear i5 m9 b9 HRS;obtain ⟨H6,l5,l4,m1,l6,l3⟩:=L6;obtain rfl:H6=L.H:=e5.o.1.H;clear e5 b4;generalize h.Hu h.roots=q1 at *;generalize h.pending=pd at *;rename World=>w6;go_wp2;go_loopw [34] (fun iv wr=>∃ i:Nat,i<=pd.length/\iv=.int .i64 i/\Hq (∃ L',Lm (⟨L.H,l5,l4,m1,l6,l3⟩:SM) L'/\MV base S ((pd.take i).foldl Hp.mark q1) L' wr/\Keeps w6 wr S)) (fun iv _=>pd.length-bF iv)
   case atStart=>exact ⟨0,by omega,rfl,(⟨L.H,l5,l4,m1,l6,l3⟩:SM),Lm.refl _,U.o.1,Keeps.refl _ _⟩
   case round=>
    obtain ⟨i,i9,rfl,HI⟩:=hrel;by_cases v:i<pd.length
    ·have N:pd.take (i+1)=pd.take i++[pd[i]]:=bD (aN v)
     have HF:Hq ((pd.take (i+1)).foldl Hp.mark q1=Hp.mark ((pd.take i).foldl Hp.mark q1) pd[i]):=ah (by rw [N,bE]);have R:=U.o.2.2.2 _ (List.getElem_mem v);have B:=M7.fold Hp.mark M7.mark (pd.take i) q1;have Z:=U.o.2.1.foldM Hp.mark (fun h x s=>s.mark x) (pd.take i) q1 U.o.2.1;obtain ⟨L1,A,f,m⟩:=HI.out;obtain ⟨q,hq⟩:∃ q,(pd.take i).foldl Hp.mark q1=q:=⟨_,rfl⟩
     rw [hq] at B Z f HF;clear N;obtain ⟨A1,d8,X,j1,G⟩:=f.II (k:=12) (by simp [eO]);have Q:g_ q 12=pd:=B.pending.trans g8.o;rw [Q] at X;have:A1=AP/\d8=a9:=by
      have h9:=X.symm.trans ((A.li 12 (by decide) (by decide) (by decide)).trans k6.o);simp only [Value.slice.injEq] at h9;exact ⟨h9.1,h9.2.2⟩
     obtain ⟨rfl,rfl⟩:=this;obtain ⟨g,rfl,a3⟩:=G i (by rw [Q];exact v);have f3:wr.cell? ⟨g,i,none⟩=some (.int .i64 ((pd[i]:Nat):Int)):=by
      rw [a3];congr 3;simp only [Q]
     generalize pd[i]=n at *;obtain ⟨H1,i0,W,k0,i1,h6⟩:=L1;obtain rfl:H1=(⟨L.H,l5,l4,m1,l6,l3⟩:SM).H:=A.H;have d9:=ah (jP f Z (B.zero U.o.2.2.1) n (by rw [B.len];exact R));have D:=ah (And.intro A m);clear A f m B Z X G hq HI Q R a3;go_wp2_with fail;refine d9.o.mono ?_;rintro e9 w4 ⟨rfl,L4,c3,d5,c4⟩;have H4:=ah (And.intro c3 (And.intro d5 c4));clear c3 d5 c4 d9;go_wp2;go_roundw
     case rel=>
      refine ⟨i+1,by omega,by simp,?_⟩;exact ⟨L4,D.o.1.trans H4.o.1,by rw [HF.o];exact H4.o.2.1,D.o.2.trans H4.o.2.2⟩
     case measure=>simp [bF];omega
    ·obtain rfl:i=pd.length:=by omega
     have E:=HI.out;rw [bN] at E;obtain ⟨L7,A,f,m⟩:=E;have m4:Hq (Lm (⟨L.H,l5,l4,m1,l6,l3⟩:SM) L7/\MV base S (q1.Hu pd) L7 wr/\Keeps w6 wr S):=ah ⟨A,f,m⟩;clear A f m HI;rename World=>w7;obtain ⟨H7,oS7,ob7,es7,li7,rS7⟩:=L7;obtain rfl:H7=L.H:=m4.o.1.H;have HA7:Hq (MV base S h.alive ⟨L.H,oS7,ob7,es7,li7,rS7⟩ w7):=ah (by rw [HAL.o];exact m4.o.2.1);have HK7:=ah (HK6.o.trans m4.o.2.2);clear m4 U k6 g8 HAL HK6 hpl2 b3 k2;have HD:=ah (mo HA7.o HX.o.k.alive (HX.o.t.MQ (Mt.alive h)));go_wp2_with fail;refine HD.o.mono ?_;rintro e9 w8 ⟨⟨z8,rfl⟩,L8,hl8,ha8,hk8⟩;obtain ⟨H8,oS8,ob8,es8,li8,rS8⟩:=L8;obtain rfl:H8=L.H:=hl8.H;have h4:=ah ha8;have HK8:=ah (HK7.o.trans hk8);clear hl8 ha8 hk8 HD HA7 HK7;have F:=ah (And.intro (HX.o.k.alive.drain (HX.o.t.MQ (Mt.alive h))) (HX.o.t.MQ (Mt.alive h)).drain);obtain ⟨AG,f5,l8,v9,-⟩:=h4.o.II (k:=8) (by simp [eO]);have c8:w8.cell? ⟨L.H,8,none⟩=some (.slice AG h.alive.drain.again.length f5):=by
      have:=h4.o.hp.c 8;rw [this];exact congrArg some l8
     have z8':=h4.o.hp.ME 8;have hagl:h.alive.drain.again.length<=20000:=by
      have:=F.o.1.s.nu;omega
     have HOG:Hq (w8.ownsRow base 3 1 (.slice AG h.alive.drain.again.length f5) h.alive.drain.again.length (eu h.alive.drain.again)):=ah (by
      have:=h4.o.li 8 (by simp [eO]);rw [l8] at this;exact this)
     obtain ⟨L9,hL9,w2,v5⟩:=h4.o.LP 8 (by simp [eO]);obtain ⟨H9,oS9,ob9,es9,li9,rS9⟩:=L9;obtain rfl:H9=L.H:=hL9.H;have m8:li8 8=.slice AG h.alive.drain.again.length f5:=l8;simp only [m8] at w2 v5;have HA9:=ah w2;have x9:=ah v5;have l0:Hq (h.MK=h.alive.drain.He.settle):=ah rfl;have HLA:Hq (∀ q:Hp,q=h.alive.drain->q.He=q.again.foldl Hp.Hr (dD q 8 [])):=ah (fun q _=>(Dj q.again [] q).symm);have HLB:=ah (HLA.o _ rfl);clear hL9 w2 v5 l8 m8 HLA;generalize h.alive.drain=q3 at *;go_upto_region 13 with (fail)
     generalize w8.setCell ⟨L.H,8,none⟩ (.slice none 0 0)=w9 at *;have HO9:=ah (aj HOG.o x9.o (fun g hg x=>x.2 hg));generalize hT:(fun b=>S b/\(Value.slice AG q3.again.length f5).ownBlock≠some b)=T at *;have D:=ah hT;generalize hag:q3.again=ag at *;have y2:=ah hag;have HLV:Hq (∀ n∈ag,q3.Lv n):=ah (fun n hn=>F.o.2.ll n (.inr (.inl (y2.o ▸ hn))));have n1:∀ n,(dD q3 8 []).ob n=q3.ob n:=fun n=>rfl;have HS9:Hq (Sm (dD q3 8 [])):=ah (by
      refine ⟨F.o.1.s.len,?_,F.o.1.s.fp,F.o.1.s.fr,F.o.1.s.Nn,F.o.1.s.cr,F.o.1.s.lim,F.o.1.s.rt,F.o.1.s.es⟩;have:=F.o.1.s.nu;show q3.nu+0<=20000;omega)
     have g9:Hq (q3.nu+ag.length<=20000):=ah (by have:=F.o.1.s.nu;rw [y2.o] at this;exact this);have HOB:=ah n1;have hp3:1<=q3.objs.length:=F.o.1.p;have hl3:q3.objs.length<=5001:=F.o.1.s.len;clear hT hag c8 z8' n1;generalize hq4:dD q3 8 []=q4 at *;have x8:Hq (q4.nu=q3.nu/\q4.objs.length=q3.objs.length/\q4.grey=q3.grey):=ah (by rw [<-hq4];exact ⟨rfl,rfl,rfl⟩);clear hq4;go_wp2;go_loopw [53] (fun iv wr=>∃ i:Nat,i<=ag.length/\iv=.int .i64 i/\Hq (∃ L',L'.H=L.H/\MV base T ((ag.take i).foldl Hp.Hr q4) L' wr/\Keeps w9 wr T)) (fun iv _=>ag.length-bF iv)
     case atStart=>exact ⟨0,by omega,rfl,⟨L.H,oS9,ob9,es9,li9,rS9⟩,rfl,HA9.o,Keeps.refl _ _⟩
     case round=>
      obtain ⟨i,i9,rfl,HI⟩:=hrel;by_cases v:i<ag.length
      ·have N:ag.take (i+1)=ag.take i++[ag[i]]:=bD (aN v)
       have HF:Hq ((ag.take (i+1)).foldl Hp.Hr q4=Hp.Hr ((ag.take i).foldl Hp.Hr q4) ag[i]):=ah (by rw [N,bE]);have i6:=HLV.o _ (List.getElem_mem v);have B:=M7.fold Hp.Hr M7.Hr (ag.take i) q4;have hnu:=nN (ag.take i) q4;obtain ⟨L1,e4,f,m⟩:=HI.out;obtain ⟨H1,i0,W,k0,i1,h6⟩:=L1;obtain rfl:H1=L.H:=e4;have hown:=aj HO9.o m (fun g hg x=>by rw [<-D.o] at x;exact x.2 hg);obtain ⟨g,rfl,a3⟩:=(nU (n:=0) hown).2 i v;generalize ag[i]=n at *;generalize v0:(ag.take i).foldl Hp.Hr q4=q at *;obtain ⟨o,ho⟩:q.Lv n:=(B.lv n).2 (by obtain ⟨o,e⟩:=i6;exact ⟨o,by rw [HOB.o];exact e⟩);have R:=Hp.Ia ho;have hql:q.objs.length=q3.objs.length:=B.len.trans x8.o.2.1;have v7:(g_ (q.upd n fun o=>{ o with col:=2 }) 7).length<=1000000:=by
        show q.grey.length<=_;have h1:=g9.o;have h2:=x8.o.1;have h3:(ag.take i).length<=ag.length:=by rw [bf];omega
        simp only [Hp.nu,Hp.mu] at hnu h1 h2;omega
       obtain ⟨go,a8,b2,e3,C⟩:=f.slot (by omega);have a4:=C n R;have c0:wr.cell? ⟨L.H,0,none⟩=some (.slice (some ⟨go,0,none⟩) q.objs.length a8):=by
        have:=f.hp.c 0;rw [this];exact congrArg some b2
       obtain ⟨r1,g6⟩:=f.ob n o ho;have c1:wr.cell? ⟨W n,1,none⟩=some (.int .i64 o.col):=g6.c 1;have z1:=g6.ME 1;have hni:(n:Int)<(q.objs.length:Int):=by omega
       have HB:=ah (f.Mk n 1 (.int .i64 2) (fun o=>{ o with col:=2 }) (by decide) ho ⟨rfl,rfl⟩ (fun r i=>by
        unfold kY;by_cases x:i=1
        ·subst x;simp
        ·simp [x]))
       have HKP:=ah m;clear N i6 B hnu f m hown v0 ho C b2 g6 HI;go_upto_region 17 with (fail)
       generalize wr.setCell ⟨W n,1,none⟩ (.int .i64 2)=w5 at *;obtain ⟨ag7,cg7,v6⟩:=aF (HB.o.1.li 7 (by simp [eO]));have c7:w5.cell? ⟨L.H,7,none⟩=some (.slice ag7 q.grey.length cg7):=by
        have:=HB.o.1.hp.c 7;rw [this];exact congrArg some v6
       have HG:=ah v6;clear v6 c0 c1 z1 a4 a3;go_wp2_with (first
        |(at_builtin;refine HB.o.1.app 7 (by simp [eO]) n rfl _ _ rfl HG.o.symm rfl v7 ?_;intro gq cq w1 K a2 i8;have cR:=K.c 7;have zR:=K.ME 7;have H1:=ah a2;have K1:=ah i8;clear K a2 i8)
        |go_in)
       go_roundw
       case rel=>
        refine ⟨i+1,by omega,by simp,?_⟩;have h9:=H1.o;refine ⟨_,?_,by rw [HF.o];exact h9,(HKP.o.trans HB.o.2).trans K1.o⟩;exact rfl
       case measure=>simp [bF];omega
      ·obtain rfl:i=ag.length:=by omega
       have E:=HI.out;rw [bN,<-HLB.o] at E;obtain ⟨L10,e4,f,m⟩:=E;obtain ⟨H10,oS10,z2,es10,li10,y7⟩:=L10;obtain rfl:H10=L.H:=e4;have t3:Hq (MV base S q3.He ⟨L.H,oS10,z2,es10,li10,y7⟩ wr):=ah (f.mono (fun b z=>by rw [<-D.o] at z;exact z.1));have s4:=ah ((HK8.o.trans (x9.o.mono (fun b z=>by rw [<-D.o] at z;exact z.1))).trans (m.mono (fun b z=>by rw [<-D.o] at z;exact z.1)));have k3:=ah (And.intro (F.o.1.look F.o.2) F.o.2.He);clear f m HI HLB HA9 x9 D HO9 HOG h4 HK8 HLV HOB g9 x8 HS9 y2 hagl v9 F;generalize q3.He=q5 at *;rename World=>w10;have k8:=ah (lX t3.o k3.o.1 k3.o.2);go_wp2_with fail;refine k8.o.mono ?_;rintro e9 t4 ⟨rfl,L11,a0,j7,o3⟩;obtain ⟨H11,oS11,ob11,es11,li11,rS11⟩:=L11;obtain rfl:H11=L.H:=a0.H;rw [<-l0.o] at j7;have g4:=ah j7;have s3:=ah (s4.o.trans o3);have m3:Hq (Wk h.MK):=ah (by rw [l0.o];exact k3.o.1.settle k3.o.2);clear a0 j7 o3 k8 t3 s4 k3 l0;have l9:=qE HX.o.t (fun n hn=>HX.o.l n (hn.elim .inl (fun x=>.inr (.inl x))));have HAT:Hq (h.atomic=h.MK.at2.at3.at4.Mi.Mq):=ah rfl;have y0:Hq (∀ n∈h.MK.finals,h.MK.Lv n):=ah (fun n hn=>by
        have a1:=jM.MK h;have e:h.MK.finals=h.finals:=a1.finals;rw [e] at hn;exact (a1.lv n).2 (HX.o.l n (.inr (.inr hn))))
       have HPL:Hq (∀ n∈h.MK.pending,h.MK.Lv n):=ah (fun n hn=>by
        have a1:=jM.MK h;have e:h.MK.pending=h.pending:=a1.pending;rw [e] at hn;exact (a1.lv n).2 (HX.o.l n (.inr (.inl hn))))
       have x6:=ah HX.o.t.MK;have HWA:Hq (h.MK.white<=1):=ah (by rw [show h.MK.white=h.white from (jM.MK h).white];exact HX.o.w);have g7:Hq (Wk h.MK.at2):=ah (m3.o.at2 x6.o);have x7:=ah x6.o.at2;have HP8:Hq (∀ n∈h.MK.at2.pending,n<h.MK.at2.objs.length):=ah (fun n hn=>by
        rw [(dX h.MK).2.1] at hn;have hl:h.MK.Lv n:=by
         rcases eT.1 hn with y|y
         ·exact HPL.o n y
         ·exact y0.o n (List.mem_filter.1 y).1
        obtain ⟨o,e⟩:=(ou h.MK n).2 hl;exact Hp.Ia e)
       obtain ⟨L12,p5,j6,o2⟩:=g4.o.KL 8 (by simp [eO]);obtain ⟨H12,h8,h7,j9,e8,h5⟩:=L12;obtain rfl:H12=L.H:=p5.H;have c8:t4.cell? ⟨L.H,8,none⟩=some (li11 8):=g4.o.hp.c 8;have z8:=g4.o.hp.ME 8;have j5:MV base S h.MK ⟨L.H,h8,h7,j9,e8,h5⟩ (t4.setCell ⟨L.H,8,none⟩ (.slice none 0 0)):=by
        have e:dD h.MK 8 []=h.MK:=pz l9.2.1;rw [e] at j6;exact j6
       have t2:=ah j5;have s2:=ah (s3.o.trans o2);have s6:=ah l9.2.1;have HGRN:=ah l9.1;clear p5 j6 o2 j5 g4 s3 l9 HX hrl v3 v8;go_upto_region 21 with (fail)
       generalize t4.setCell ⟨L.H,8,none⟩ (.slice none 0 0)=w12 at *;clear c8 z8;generalize h.MK=q6 at *;have k9:=ah (kL t2.o m3.o);go_wp2_with fail;refine k9.o.mono ?_;rintro e9 P ⟨rfl,p0,o1⟩;have b0:=ah p0;have s1:=ah (s2.o.trans o1);have a4:=Np.fold bU bZ q6.weak q6;have HCN:Hq (Np q6 (q6.weak.foldl Hp.MN q6)):=ah a4;have m2:Hq (Wk (q6.weak.foldl Hp.MN q6)):=ah (m3.o.cnt a4);have HA2:Hq (q6.at2=(q6.weak.foldl Hp.MN q6).Hw):=ah rfl;have s5:Hq (∀ n∈(q6.weak.foldl Hp.MN q6).finals,(q6.weak.foldl Hp.MN q6).Lv n):=ah (fun n hn=>(a4.lv n).2 (y0.o n (by rw [<-a4.finals];exact hn)));clear p0 o1 k9 t2 s2 a4 y0;generalize q6.weak.foldl Hp.MN q6=q7 at *;obtain ⟨AF,p8,t8,w0,-⟩:=b0.o.II (k:=11) (by simp [eO]);have hfl:q7.finals.length<=5000:=by have:=m2.o.s.fp;omega
       have v3:q7.pending.length+q7.finals.length<=5000:=by have:=m2.o.s.fp;omega
       have w3:=aU P (.cells #[] 3);have l1:=ah (b0.o.low w3);have s0:=ah (s1.o.trans (Keeps.of w3 (au _) S));have c11:(P.alloc (.cells #[] 3)).cell? ⟨L.H,11,none⟩=some (.slice AF q7.finals.length p8):=by
        have:=l1.o.hp.c 11;rw [this];exact congrArg some t8
       have HOL:Hq (World.ownsRow (P.alloc (.cells #[] 3)) base 3 1 (.slice (some ⟨P.heap.size,0,none⟩) 0 0) ([]:List Nat).length (eu [])):=ah ⟨rfl,.inr ⟨P.heap.size,0,#[],rfl,b0.o.bs,heap_alloc_new P _,by decide,by decide,rfl,rfl⟩⟩;have HSL:Hq (MV base (fun b=>S b/\(Value.slice (some ⟨P.heap.size,0,none⟩) 0 0).ownBlock≠some b) q7 ⟨L.H,h8,h7,j9,e8,h5⟩ (P.alloc (.cells #[] 3))):=ah (l1.o.less _ (fun g e=>by
        have e':P.heap.size=g:=by simpa [Value.ownBlock] using e
        subst e';exact ⟨b0.o.past (au _),by simp⟩))
       have HSX:Hq (∀ g,(Value.slice (some ⟨P.heap.size,0,none⟩) 0 0).ownBlock=some g->S g):=ah (fun g e=>by
        have e':P.heap.size=g:=by simpa [Value.ownBlock] using e
        subst e';exact b0.o.up _ (au _))
       have HVF:=ah t8;clear w3 t8 b0 s1 l1;go_upto_region 23 with (fail)
       generalize P.alloc (.cells #[] 3)=w14 at *;generalize P.heap.size=X14 at *;go_wp2;go_loopw [90,9] (fun iv lv wr=>∃ (i:Nat) (A9:Option Addr) (c9:Nat) (j:List Nat),i<=q7.finals.length/\iv=.int .i64 i/\lv=.slice A9 j.length c9/\Hq (∃ L',L'.H=L.H/\L'.li 11=e8 11/\((q7.finals.take i).foldl Hp.Hy (q7,[])).2=j/\wr.ownsRow base 3 1 (.slice A9 j.length c9) j.length (eu j)/\MV base (fun b=>S b/\(Value.slice A9 j.length c9).ownBlock≠some b) ((q7.finals.take i).foldl Hp.Hy (q7,[])).1 L' wr/\Keeps w14 wr S/\∀ g,(Value.slice A9 j.length c9).ownBlock=some g->S g)) (fun iv _ _=>q7.finals.length-bF iv)
       case atStart=>exact ⟨0,_,_,[],by omega,rfl,rfl,⟨L.H,h8,h7,j9,e8,h5⟩,rfl,rfl,rfl,HOL.o,HSL.o,Keeps.refl _ _,HSX.o⟩
       case round=>
        obtain ⟨i,A9,d7,j,i9,rfl,rfl,HI⟩:=hrel;by_cases v:i<q7.finals.length
        ·have N:q7.finals.take (i+1)=q7.finals.take i++[q7.finals[i]]:=bD (aN v)
         have HF:Hq ((q7.finals.take (i+1)).foldl Hp.Hy (q7,[])=Hp.Hy ((q7.finals.take i).foldl Hp.Hy (q7,[])) q7.finals[i]):=ah (by rw [N,bE]);have i6:=s5.o _ (List.getElem_mem v);have e0:=dL (q7.finals.take i) (q7,[]);obtain ⟨L1,e4,j8,M,hown,f,m,i3⟩:=HI.out;obtain ⟨H1,i0,W,k0,i1,h6⟩:=L1;obtain rfl:H1=L.H:=e4;have j0:((q7.finals.take i).foldl Hp.Hy (q7,[])).1.finals=q7.finals:=by rw [e0.2.2.2.2.1]
         have v2:((q7.finals.take i).foldl Hp.Hy (q7,[])).1.pending.length<=5000:=by
          rw [e0.2.2.1];have h1:=List.length_filter_le q7.M5 (q7.finals.take i);have h2:(q7.finals.take i).length<=q7.finals.length:=by rw [bf];omega
          simp only [bI];omega
         have hllen:j.length<=5000:=by
          rw [<-M,e0.2.1];have h1:=List.length_filter_le (fun n=>!q7.M5 n) (q7.finals.take i);have h2:(q7.finals.take i).length<=q7.finals.length:=by rw [bf];omega
          simp only [List.nil_append];omega
         have a6:=e0.2.2.2.1 q7.finals[i];have t5:=e0.1 q7.finals[i];have i7:=e0.2.2.2.2.2;simp only at a6 t5 i7;clear e0 N;obtain ⟨AF1,x2,f0,m0,e2⟩:=f.II (k:=11) (by simp [eO]);generalize v0:(q7.finals.take i).foldl Hp.Hy (q7,[])=qp at *;obtain ⟨q,lf⟩:=qp;simp only at j0 v2 M f a6 t5 i7 f0 m0 e2 HF;have a0:g_ q 11=q7.finals:=j0;rw [a0] at f0;have:AF1=AF/\x2=p8:=by
          have h9:=f0.symm.trans (j8.trans HVF.o);simp only [Value.slice.injEq] at h9;exact ⟨h9.1,h9.2.2⟩
         obtain ⟨rfl,rfl⟩:=this;obtain ⟨g,rfl,a3⟩:=e2 i (by rw [a0];exact v);have f3:wr.cell? ⟨g,i,none⟩=some (.int .i64 ((q7.finals[i]:Nat):Int)):=by
          rw [a3];congr 3;simp only [a0]
         generalize q7.finals[i]=n at *;obtain ⟨o,ho⟩:q.Lv n:=by
          obtain ⟨o7,e7⟩:=i6;rw [e7] at a6;cases e9:q.ob n with
          |none=>rw [e9] at a6;simp at a6
          |some o=>exact ⟨o,e9⟩
         have R:=Hp.Ia ho;have hql:q.objs.length<=5001:=by rw [i7];exact m2.o.s.len
         obtain ⟨go,a8,b2,e3,C⟩:=f.slot (by omega);have a4:=C n R;have c0:wr.cell? ⟨L.H,0,none⟩=some (.slice (some ⟨go,0,none⟩) q.objs.length a8):=by
          have:=f.hp.c 0;rw [this];exact congrArg some b2
         obtain ⟨r1,g6⟩:=f.ob n o ho;have c1:wr.cell? ⟨W n,1,none⟩=some (.int .i64 o.col):=g6.c 1;have hni:(n:Int)<(q.objs.length:Int):=by omega
         have h0:=ah (gW wr (W n) o.col c1);have x4:=ah (show fU o.col=q.M5 n from (Hp.JA ho).symm);have D:=ah (And.intro j8 (And.intro M (And.intro hown (And.intro f (And.intro m i3)))));have HO:=ah ho;clear f m i3 hown M j8 g6 C b2 v0 ho a6 t5 f0 e2 a3 HI a0 i6 j0;go_wp2_with fail;refine h0.o.mono ?_;rintro e9 w5 ⟨rfl,t6⟩;obtain rfl:=t6.symm;cases hb:fU o.col with
         |true=>
          have HB:=ah hb;clear hb h0;obtain ⟨ap,cp,v1⟩:=aF (D.o.2.2.2.1.li 12 (by simp [eO]));have k2:wr.cell? ⟨L.H,12,none⟩=some (.slice ap q.pending.length cp):=by
           have:=D.o.2.2.2.1.hp.c 12;rw [this];exact congrArg some v1
          have HG:=ah v1;have v7:(g_ q 12).length<=1000000:=by
           show q.pending.length<=_;omega
          clear v1;go_upto_region 28 with (first
           |(at_builtin;refine D.o.2.2.2.1.app 12 (by simp [eO]) n rfl _ _ rfl HG.o.symm rfl v7 ?_;intro gq cq w1 K a2 i8;have cR:=K.c 12;have zR:=K.ME 12;have H1:=ah a2;have K1:=ah i8;clear K a2 i8)
           |go_in)
          generalize w1.setCell ⟨L.H,12,none⟩ (.slice (some ⟨gq,0,none⟩) ((g_ q 12).length+1) cq)=w7 at *;have v4:(dD q 12 (g_ q 12++[n])).ob n=some o:=HO.o;obtain ⟨go2,x0,n2,hcapo2,f4⟩:=H1.o.slot (show 1<=q.objs.length by omega);have hcn2:=f4 n R;have d0:w7.cell? ⟨L.H,0,none⟩=some (.slice (some ⟨go2,0,none⟩) q.objs.length x0):=by
           have:=H1.o.hp.c 0;rw [this];exact congrArg some n2
          obtain ⟨r2,t9⟩:=H1.o.ob n o v4;have d22:w7.cell? ⟨W n,22,none⟩=some (.bool o.fin):=t9.c 22;have z22:=t9.ME 22;have y1:=ah (H1.o.Mk n 22 (.bool false) (fun o=>{ o with fin:=false }) (by decide) v4 ⟨rfl,rfl⟩ (fun r i=>by
           unfold kY;by_cases x:i=22
           ·subst x;simp
           ·simp [x]))
          have HOW:=ah (aj D.o.2.2.1 K1.o (fun g hg x=>x.2 hg));clear v4 f4 n2 t9 c0 c1 a4 k2 cR zR f3;go_upto_region 30 with (fail)
          generalize w7.setCell ⟨W n,22,none⟩ (.bool false)=w8 at *;clear d0 d22 z22 hcn2;go_wp2;go_roundw
          case rel=>
           have h9:=y1.o.1;refine ⟨i+1,A9,d7,j,by omega,by simp,rfl,_,?_,?_,?_,aj HOW.o y1.o.2 (fun g hg x=>x.2 hg),by rw [HF.o,show Hp.Hy (q,lf) n=(q.Kj n,lf) from by unfold Hp.Hy;rw [if_pos (by rw [<-x4.o];exact HB.o)]];exact h9,(D.o.2.2.2.2.1.trans (K1.o.mono (fun b z=>z.1))).trans (y1.o.2.mono (fun b z=>z.1)),D.o.2.2.2.2.2⟩
           ·exact rfl
           ·exact D.o.1
           ·rw [HF.o,show Hp.Hy (q,lf) n=(q.Kj n,lf) from by unfold Hp.Hy;rw [if_pos (by rw [<-x4.o];exact HB.o)]]
            exact D.o.2.1
          case measure=>simp [bF];omega
         |false=>
          have HB:=ah hb;clear hb h0 c0 c1 a4 f3;go_wp2_with (first
           |(at_builtin
             refine fE rfl _ _ 30 3 1 8 (.int .i64 0) rfl Tryz.underlying30 ji rfl (by decide) base (.slice A9 j.length d7) j.length (eu j) [.int .i64 (n:Int)] D.o.2.2.1 rfl rfl rfl (fun u hu=>by simp at hu;subst hu;rfl) (by omega) (by decide) D.o.2.2.2.1.bs ?_;intro v' w1 g5 e1 l7 i2;obtain ⟨A1,k1,rfl⟩:=aF g5;have H1:=ah (And.intro g5 (And.intro (e1 base wr (aT _ _) (au _)) (And.intro l7 i2)));clear g5 e1 l7 i2)
           |go_in)
          go_roundw
          case rel=>
           have hw:=HF.o;rw [show Hp.Hy (q,lf) n=(q,lf++[n]) from by unfold Hp.Hy;rw [if_neg (by rw [<-x4.o,HB.o];decide)]] at hw;obtain ⟨g5,e1,l7,i2⟩:=H1.o;have kk:Keeps wr w1 (fun b=>(Value.slice A9 j.length d7).ownBlock=some b):=⟨e1.os,e1.tape,e1.output,e1.size,fun b hb hn=>l7 b hb hn⟩
           have f:=D.o.2.2.2.1;have a2:=f.out (kk.mono (fun b e x=>x.2 e));have i4:w1.ownsRow base 3 1 (.slice A1 (j++[n]).length k1) (j++[n]).length (eu (j++[n])):=by simpa [eu] using g5
           refine ⟨i+1,A1,k1,j++[n],by omega,by simp,by simp,⟨L.H,i0,W,k0,i1,h6⟩,rfl,?_,?_,i4,?_,D.o.2.2.2.2.1.trans (kk.mono (fun b e=>D.o.2.2.2.2.2 b e)),fun g e=>?_⟩
           ·exact D.o.1
           ·rw [hw,<-D.o.2.1]
           ·rw [hw]
            refine (a2.mono (S':=S) (fun b z=>z.1)).less _ (fun g e=>⟨?_,(ay i4 e).lt⟩);by_cases c:(Value.slice A9 j.length d7).ownBlock=some g
            ·exact f.free (fun z=>z.2 c)
            ·have hge:wr.heap.size<=g:=by
              rcases Nat.lt_or_ge g wr.heap.size with d|d
              ·exact absurd (by simpa [Value.ownBlock] using e) (i2 g d c)
              ·exact d
             exact f.past hge
           ·by_cases c:(Value.slice A9 j.length d7).ownBlock=some g
            ·exact D.o.2.2.2.2.2 g c
            ·rcases Nat.lt_or_ge g wr.heap.size with d|d
             ·exact absurd (by simpa [Value.ownBlock] using e) (i2 g d c)
             ·exact (f.up g d).1
          case measure=>simp [bF];omega
        ·obtain rfl:i=q7.finals.length:=by omega
         have E:=HI.out;rw [bN] at E;obtain ⟨L15,e4,-,M,hown,f,m,i3⟩:=E;obtain ⟨H15,oS15,ob15,es15,li15,rS15⟩:=L15;obtain rfl:H15=L.H:=e4;obtain ⟨L16,p4,o9,o0⟩:=f.Lx 11 (by simp [eO]) (.slice A9 j.length d7) j hown (fun g e=>f.free (fun z=>z.2 e)) (S':=S) (fun b z=>z.1) i3;obtain ⟨H16,b8,b7,d6,a5,b5⟩:=L16;obtain rfl:H16=L.H:=p4.H;have c11':wr.cell? ⟨L.H,11,none⟩=some (li15 11):=f.hp.c 11;have z11:=f.hp.ME 11;have j4:MV base S q6.at2 ⟨L.H,b8,b7,d6,a5,b5⟩ (wr.setCell ⟨L.H,11,none⟩ (.slice A9 j.length d7)):=by
          rw [HA2.o];have e:q7.Hw=dD (q7.finals.foldl Hp.Hy (q7,[])).1 11 j:=by
           unfold Hp.Hw;rw [M];rfl
          rw [e];exact o9
         have g3:=ah j4;have r8:=ah ((s0.o.trans m).trans (o0.mono (fun b z=>z.1)));clear M hown f m i3 p4 o9 o0 j4 HI HVF HSX HSL HOL s0 s5 m2 HA2 HCN hfl v3 w0;go_upto_region 32 with (fail)
         generalize wr.setCell ⟨L.H,11,none⟩ (.slice A9 j.length d7)=w16 at *;clear c11' z11 c11;have HW0:Hq (q6.at2.white<=1):=ah (by rw [(dX q6).2.2.2.2.2.2.1];exact HWA.o);have s8:Hq (q6.at2.again=[]):=ah ((dX q6).2.2.2.2.1.trans s6.o);clear s6 HGRN m3 x6 HPL;generalize q6.at2=q8 at *;obtain ⟨AP,a9,b9,b3,-⟩:=g3.o.II (k:=12) (by simp [eO]);have k2:w16.cell? ⟨L.H,12,none⟩=some (.slice AP q8.pending.length a9):=by
          have:=g3.o.hp.c 12;rw [this];exact congrArg some b9
         have k6:=ah (show a5 12=.slice AP q8.pending.length a9 from b9);have U:=ah (And.intro g3.o (And.intro g7.o.s (And.intro g7.o.z HP8.o)));have hpl8:q8.pending.length<=5000:=by have:=g7.o.s.fp;omega
         have HQP8:Hq (∀ pd,q8.pending=pd->q8.Hu q8.pending=q8.Hu pd):=ah (fun pd e=>by rw [e]);clear b9 g3;generalize n0:q8.pending=pd8 at *;have g8:=ah n0;clear n0;go_wp2;go_loopw [135] (fun iv wr=>∃ i:Nat,i<=pd8.length/\iv=.int .i64 i/\Hq (∃ L',Lm (⟨L.H,b8,b7,d6,a5,b5⟩:SM) L'/\MV base S ((pd8.take i).foldl Hp.mark q8) L' wr/\Keeps w16 wr S)) (fun iv _=>pd8.length-bF iv)
         case atStart=>exact ⟨0,by omega,rfl,(⟨L.H,b8,b7,d6,a5,b5⟩:SM),Lm.refl _,U.o.1,Keeps.refl _ _⟩
         case round=>
          obtain ⟨i,i9,rfl,HI⟩:=hrel;by_cases v:i<pd8.length
          ·have N:pd8.take (i+1)=pd8.take i++[pd8[i]]:=bD (aN v)
           have HF:Hq ((pd8.take (i+1)).foldl Hp.mark q8=Hp.mark ((pd8.take i).foldl Hp.mark q8) pd8[i]):=ah (by rw [N,bE]);have R:=U.o.2.2.2 _ (List.getElem_mem v);have B:=M7.fold Hp.mark M7.mark (pd8.take i) q8;have Z:=U.o.2.1.foldM Hp.mark (fun h x s=>s.mark x) (pd8.take i) q8 U.o.2.1;obtain ⟨L1,A,f,m⟩:=HI.out;obtain ⟨q,hq⟩:∃ q,(pd8.take i).foldl Hp.mark q8=q:=⟨_,rfl⟩
           rw [hq] at B Z f HF;clear N;obtain ⟨A1,d8,X,j1,G⟩:=f.II (k:=12) (by simp [eO]);have Q:g_ q 12=pd8:=B.pending.trans g8.o;rw [Q] at X;have:A1=AP/\d8=a9:=by
            have h9:=X.symm.trans ((A.li 12 (by decide) (by decide) (by decide)).trans k6.o);simp only [Value.slice.injEq] at h9;exact ⟨h9.1,h9.2.2⟩
           obtain ⟨rfl,rfl⟩:=this;obtain ⟨g,rfl,a3⟩:=G i (by rw [Q];exact v);have f3:wr.cell? ⟨g,i,none⟩=some (.int .i64 ((pd8[i]:Nat):Int)):=by
            rw [a3];congr 3;simp only [Q]
           generalize pd8[i]=n at *;obtain ⟨H1,i0,W,k0,i1,h6⟩:=L1;obtain rfl:H1=(⟨L.H,b8,b7,d6,a5,b5⟩:SM).H:=A.H;have d9:=ah (jP f Z (B.zero U.o.2.2.1) n (by rw [B.len];exact R));have D:=ah (And.intro A m);clear A f m B Z X G hq HI Q R a3;go_wp2_with fail;refine d9.o.mono ?_;rintro e9 w4 ⟨rfl,L4,c3,d5,c4⟩;have H4:=ah (And.intro c3 (And.intro d5 c4));clear c3 d5 c4 d9;go_wp2;go_roundw
           case rel=>
            refine ⟨i+1,by omega,by simp,?_⟩;exact ⟨L4,D.o.1.trans H4.o.1,by rw [HF.o];exact H4.o.2.1,D.o.2.trans H4.o.2.2⟩
           case measure=>simp [bF];omega
          ·obtain rfl:i=pd8.length:=by omega
           have E:=HI.out;rw [bN] at E;obtain ⟨x3,A,f,m⟩:=E;have f6:Hq (Lm (⟨L.H,b8,b7,d6,a5,b5⟩:SM) x3/\MV base S (q8.Hu pd8) x3 wr/\Keeps w16 wr S):=ah ⟨A,f,m⟩;clear A f m HI;rename World=>w17;obtain ⟨H17,z7,z0,es17,li17,y6⟩:=x3;obtain rfl:H17=L.H:=f6.o.1.H;have t1:Hq (MV base S (q8.Hu q8.pending) ⟨L.H,z7,z0,es17,li17,y6⟩ w17):=ah (by rw [g8.o];exact f6.o.2.1);have r7:=ah (r8.o.trans f6.o.2.2);have k7:=ah (Mt.Hu q8 q8.pending);have g9:Hq ((q8.Hu q8.pending).nu<=q8.nu):=ah (aO (dO Hp.mark Hp.Ir _ _));have x5:Hq (Wk q8.at3):=ah ((g7.o.MQ k7.o g9.o).settle (x7.o.MQ k7.o));have s7:Hq (q8.at3.again=[]):=ah ((M7.at3 q8).again.trans s8.o);have k8:=ah (lX t1.o (g7.o.MQ k7.o g9.o) (x7.o.MQ k7.o));clear f6 U k6 g8 HQP8 r8 hpl8 b3 k2 t1 k7 g9 g7 x7 HP8 s8;go_wp2_with fail;refine k8.o.mono ?_;rintro e9 l2 ⟨rfl,L18,n3,a7,n9⟩;obtain ⟨H18,z4,y9,es18,m7,y5⟩:=L18;obtain rfl:H18=L.H:=n3.H;have HW1:Hq (q8.at3.white<=1):=ah (by rw [(M7.at3 q8).white];exact HW0.o);replace a7:MV base S q8.at3 ⟨L.H,z4,y9,es18,m7,y5⟩ l2:=a7;generalize q8.at3=q9 at *;obtain ⟨L19,p3,j3,n8⟩:=a7.KL 8 (by simp [eO]);obtain ⟨H19,e6,b6,p6,m6,m5⟩:=L19;obtain rfl:H19=L.H:=p3.H;have c8:l2.cell? ⟨L.H,8,none⟩=some (m7 8):=a7.hp.c 8;have z8:=a7.hp.ME 8;have j2:MV base S q9 ⟨L.H,e6,b6,p6,m6,m5⟩ (l2.setCell ⟨L.H,8,none⟩ (.slice none 0 0)):=by
            have e:dD q9 8 []=q9:=pz s7.o;rw [e] at j3;exact j3
           have t0:=ah j2;have r6:=ah ((r7.o.trans n9).trans n8);clear n3 a7 n9 p3 j3 n8 j2 k8 r7 s7;go_upto_region 39 with (fail)
           generalize l2.setCell ⟨L.H,8,none⟩ (.slice none 0 0)=w19 at *;clear c8 z8;have HCK:=ah (oQ t0.o x5.o);go_wp2_with fail;refine HCK.o.mono ?_;rintro e9 w20 ⟨rfl,o8,n7⟩;have s9:=ah o8;have r5:=ah (r6.o.trans n7);have k4:Hq (Wk q9.at4):=ah (x5.o.cnt (Np.at4 q9));have HWQ:Hq (q9.at4.white<=1):=ah (by rw [(Np.at4 q9).white];exact HW1.o);clear o8 n7 HCK t0 r6 x5 HW1;generalize q9.at4=q10 at *;have k9:=ah (kL s9.o k4.o);go_wp2_with fail;refine k9.o.mono ?_;rintro e9 y3 ⟨rfl,o6,n6⟩;have g2:=ah o6;have r4:=ah (r5.o.trans n6);have V:Hq (Wk (q10.weak.foldl Hp.MN q10)):=ah (k4.o.cnt (Np.fold bU bZ q10.weak q10));have HA5:Hq (q10.Mi=(q10.weak.foldl Hp.MN q10).Im):=ah rfl;clear o6 n6 k9 s9 r5 k4;generalize q10.weak.foldl Hp.MN q10=q11 at *;obtain ⟨go,a8,b2,e3,-⟩:=g2.o.slot V.o.p;have hol:q11.objs.length<=5001:=V.o.s.len;have c0:y3.cell? ⟨L.H,0,none⟩=some (.slice (some ⟨go,0,none⟩) q11.objs.length a8):=by
            have:=g2.o.hp.c 0;rw [this];exact congrArg some b2
           have HOS:=ah (show e6=.slice (some ⟨go,0,none⟩) q11.objs.length a8 from b2);clear b2;go_wp2;go_loopw [157] (fun iv wr=>∃ i:Nat,i<=q11.objs.length/\iv=.int .i64 i/\Hq (MV base S (bn i q11) ⟨L.H,e6,b6,p6,m6,m5⟩ wr/\Keeps y3 wr S)) (fun iv _=>q11.objs.length-bF iv)
           case atStart=>exact ⟨0,by omega,rfl,by rw [mR];exact g2.o,Keeps.refl _ _⟩
           case round=>
            obtain ⟨i,i9,rfl,HI⟩:=hrel;by_cases v:i<q11.objs.length
            ·have f:=HI.out.1
             obtain ⟨go1,x1,f2,hcapo1,C⟩:=f.slot (by rw [dU];exact V.o.p);rw [dU] at f2 C;have:go1=go:=by
              have h9:=(show e6=.slice (some ⟨go1,0,none⟩) q11.objs.length x1 from f2).symm.trans HOS.o;simp only [Value.slice.injEq,Option.some.injEq,Addr.mk.injEq] at h9;exact h9.1.1
             subst this;have hci:=C i v;obtain ⟨r1,kd,c1,md,ev,fn,f1,hcw,b1⟩:=f.any (n:=i) (by rw [dU];exact v);have d0:wr.cell? ⟨b6 i,0,none⟩=some (.int .i64 (kd:Int)):=f1.c 0;have d1:wr.cell? ⟨b6 i,1,none⟩=some (.int .i64 (c1:Int)):=f1.c 1;have c2:(bn i q11).ob i=q11.ob i:=by rw [gN,if_neg (by omega)]
             rw [c2] at b1;cases ho:q11.ob i with
             |none=>
              have hk0:kd=0:=by
               obtain ⟨r9,c9,_,hr9⟩:=f.dd i (by rw [dU];exact v) (c2.trans ho);have:=hr9.c 0;rw [d0] at this
               simpa [kY] using this
              subst hk0;have k5:=ah (iJ (i:=i) (q:=q11) (fun o e=>by rw [ho] at e;cases e));have D:=ah HI.out;clear f C f1 hcw b1 f2 c2 ho HI;go_wp2;go_roundw
              case rel=>exact ⟨i+1,by omega,by simp,by rw [k5.o];exact D.o.1,D.o.2⟩
              case measure=>simp [bF];omega
             |some o=>
              obtain ⟨rfl,rfl,rfl,-,-⟩:=b1 o ho;have h0:=ah (gW wr (b6 i) o.col d1);have HO:=ah ho;have HOI:=ah (c2.trans ho);have D:=ah HI.out;clear f C f1 hcw b1 f2 c2 ho HI;go_wp2_with fail;refine h0.o.mono ?_;rintro e9 w5 ⟨rfl,t6⟩;obtain rfl:=t6.symm;clear h0;cases hb:fU o.col with
              |true=>
               have k5:=ah (iJ (i:=i) (q:=q11) (fun o' e=>by rw [HO.o] at e;cases e;unfold Hp.drop1;rw [if_pos hb]));clear hb;go_wp2;go_roundw
               case rel=>exact ⟨i+1,by omega,by simp,by rw [k5.o];exact D.o.1,D.o.2⟩
               case measure=>simp [bF];omega
              |false=>
               have k5:=ah (qB HO.o hb);clear hb;have HDD:=ah (qZ D.o.1 (by rw [dU];exact hol) (by rw [dU];exact V.o.p) HOI.o (V.o.s.es i o HO.o) (wJ.of ((jC i q11).zero V.o.z) ((jC i q11).closed V.o.c) HOI.o));go_wp2_with fail;refine HDD.o.mono ?_;rintro e9 w6' ⟨rfl,ha6,hk6⟩;have H6:=ah (And.intro ha6 hk6);clear ha6 hk6 HDD;go_wp2;go_roundw
               case rel=>exact ⟨i+1,by omega,by simp,by rw [k5.o];exact H6.o.1,D.o.2.trans H6.o.2⟩
               case measure=>simp [bF];omega
            ·obtain rfl:i=q11.objs.length:=by omega
             have E:=HI.out;rw [nT,<-HA5.o] at E;have g1:=ah E.1;have r3:=ah (r4.o.trans E.2);clear E HI g2 r4 HOS c0 e3 HA5 V;rename World=>w22;have HWH:Hq (q10.Mi.white<=1):=ah (by rw [(Np.Mi q10).white];exact HWQ.o);generalize q10.Mi=q12 at *;obtain ⟨L23,p2,o5,n5⟩:=g1.o.KL 9 (by simp [eO]);obtain ⟨H23,oS23,ob23,es23,li23,rS23⟩:=L23;obtain rfl:H23=L.H:=p2.H;have c9:=g1.o.hp.c 9;have z9:=g1.o.hp.ME 9;have g0:=ah o5;have r0:=ah (r3.o.trans n5);clear p2 o5 n5 g1 r3;go_upto_region 48 with (fail)
             generalize w22.setCell ⟨L.H,9,none⟩ (.slice none 0 0)=w23 at *;clear c9 z9;obtain ⟨L24,p1,o4,n4⟩:=g0.o.KL 10 (by simp [eO]);obtain ⟨H24,z3,y8,es24,li24,y4⟩:=L24;obtain rfl:H24=L.H:=p1.H;have c10:=g0.o.hp.c 10;have z10:=g0.o.hp.ME 10;have f9:=ah o4;have q2:=ah (r0.o.trans n4);clear p1 o4 n4 g0 r0;go_upto_region 49 with (fail)
             generalize w23.setCell ⟨L.H,10,none⟩ (.slice none 0 0)=w24 at *;clear c10 z10;have Y:=f9.o.num (h':={ q12 with weak:=[],G8:=[],white:=1-q12.white }) 6 (.int .i64 ((1-q12.white:Nat):Int)) (by decide) rfl ⟨rfl,rfl,rfl,rfl,rfl,rfl,rfl⟩ rfl (bV _ rfl rfl rfl rfl rfl rfl rfl rfl rfl rfl rfl rfl rfl rfl rfl rfl rfl rfl);have g5:=HWH.o;have hwi:(1:Int)-(q12.white:Int)=((1-q12.white:Nat):Int):=by omega
             have c6:w24.cell? ⟨L.H,6,none⟩=some (.int .i64 (q12.white:Int)):=f9.o.hp.c 6;have z6:=f9.o.hp.ME 6;have f8:=ah Y.1;have q0:=ah (q2.o.trans Y.2);clear Y;go_upto_region 50 with (fail)
             clear hwi;generalize w24.setCell ⟨L.H,6,none⟩ (.int .i64 ((1-q12.white:Nat):Int))=w25 at *;clear c6 z6 f9 q2;have Y:=f8.o.num (h':={ q12 with weak:=[],G8:=[],white:=1-q12.white,state:=2 }) 5 (.int .i64 2) (by decide) rfl ⟨rfl,rfl,rfl,rfl,rfl,rfl,rfl⟩ rfl (bV _ rfl rfl rfl rfl rfl rfl rfl rfl rfl rfl rfl rfl rfl rfl rfl rfl rfl rfl);have c5:=f8.o.hp.c 5;have z5:=f8.o.hp.ME 5;have f7:=ah Y.1;have p9:=ah (q0.o.trans Y.2);clear Y;go_upto_region 51 with (fail)
             generalize w25.setCell ⟨L.H,5,none⟩ (.int .i64 2)=w26 at *;clear c5 z5 f8 q0;have Y:=f7.o.num (h':=q12.Mq) 14 (.int .i64 1) (by decide) rfl ⟨rfl,rfl,rfl,rfl,rfl,rfl,rfl⟩ rfl (bV _ rfl rfl rfl rfl rfl rfl rfl rfl rfl rfl rfl rfl rfl rfl rfl rfl rfl rfl);have c14:=f7.o.hp.c 14;have z14:=f7.o.hp.ME 14;have HAZ:=ah Y.1;have HKZ:=ah (p9.o.trans Y.2);clear Y f7 p9;go_wp2;go_end0;exact ⟨rfl,⟨L.H,z3,y8,es24,li24,y4⟩,rfl,by rw [HAT.o];exact HAZ.o,HKZ.o⟩
end
section
variable {S:Nat->Prop} {base j:Nat} {w:World}
theorem Hp.Ju {h:Hp} (a:¬ (j<h.objs.length/\h.ob j=none)):h.skip j=j:=by rw [Hp.skip,dif_neg a]
theorem Hp.KU {h:Hp} (a:j<h.objs.length/\h.ob j=none):h.skip j=h.skip (j+1):=by rw [Hp.skip,dif_pos a]
theorem sV {h:Hp} {L:SM} (a:MV base S h L w) (M:h.objs.length<=5001) (hp:1<=h.objs.length) (K:h.G9<=10000):
 Calls Tryz.prog 90 #[.pointer (some ⟨L.H,0,none⟩)] w fun e w'=>e=.returned (.tuple #[])/\MV base S h.skipped L w'/\Keeps w w' S:=by
 have G:=ah a;clear a;go_enter Tryz.func90,Tryz.ntmps90;go_wp2
 go_loopg [] (h.objs.length-h.G9) (fun m wr=>∃ j:Nat,j<=10000/\Hq (m=h.objs.length-j/\h.skip j=h.skip h.G9/\MV base S { h with G9:=j } L wr/\Keeps w wr S))
 case atStart=>exact ⟨h.G9,K,rfl,rfl,G.o,Keeps.refl _ _⟩
 case round=>
  clear G;obtain ⟨j,N,HI⟩:=hrel;have d:=HI.out.2.2.1;obtain ⟨P,v,k,C,b⟩:=d.slot (show 1<=h.objs.length from hp);have R:wr.cell? ⟨L.H,0,none⟩=some (.slice (some ⟨P,0,none⟩) h.objs.length v):=by
   have:=d.hp.c 0;rw [this];exact congrArg some k
  have E:wr.cell? ⟨L.H,14,none⟩=some (.int .i64 (j:Int)):=d.hp.c 14;by_cases z:j<h.objs.length
  ·have B:=b j z
   obtain ⟨r,kd,c,md,ev,fn,g,u,f⟩:=d.any (n:=j) z;have D:wr.cell? ⟨L.ob j,2,none⟩=some (.bool (h.ob j).isNone):=g.c 2;have A:(j:Int)<(h.objs.length:Int):=by omega
   have t:decide ((j:Int)<(h.objs.length:Int))=true:=by simpa using A
   cases ho:h.ob j with
   |some o=>
    have s:(h.ob j).isNone=false:=by rw [ho];rfl
    rw [s] at D;have i:=ah (Hp.Ju (h:=h) (j:=j) (fun x=>by rw [ho] at x;cases x.2));have l:=ah (fun nq:Nat=>aC (aT wr.heap.size wr) nq);clear d k b g u f s ho;go_wp2_with fail;go_quiet (fail);go_wp2;go_end0;refine ⟨rfl,?_,HI.out.2.2.2.trans (Keeps.of (l.o _) (au _) S)⟩;have e:h.skipped={ h with G9:=j }:=by
     unfold Hp.skipped;rw [<-HI.out.2.1,i.o]
    rw [e];exact HI.out.2.2.1.low (l.o _)
   |none=>
    have s:(h.ob j).isNone=true:=by rw [ho];rfl
    rw [s] at D;have i:=ah (Hp.KU (h:=h) (j:=j) ⟨z,ho⟩);have l:=ah (fun nq:Nat=>aC (aT wr.heap.size wr) nq);clear d k b g u f s ho;go_wp2_with fail;go_quiet (fail);have p:=ah (HI.out.2.2.1.low (l.o nq));have F:=ah (HI.out.2.2.2.trans (Keeps.of (l.o nq) (au _) S));generalize wr.drewN nq=w2 at *;have Q:w2.cell? ⟨L.H,14,none⟩=some (.int .i64 (j:Int)):=p.o.hp.c 14;have J:=p.o.hp.ME 14;have q:=p.o.num (h':={ h with G9:=j+1 }) 14 (.int .i64 ((j:Int)+1)) (by decide) rfl ⟨rfl,rfl,rfl,rfl,rfl,rfl,rfl⟩ rfl (bV _ rfl rfl rfl rfl rfl rfl rfl rfl rfl rfl rfl rfl rfl rfl rfl rfl rfl rfl);have y:=ah q;clear q R E B D;go_wp2
    go_roundg (h.objs.length-(j+1))
    case rel=>exact ⟨j+1,by omega,rfl,by rw [<-i.o];exact HI.out.2.1,y.o.1,F.o.trans y.o.2⟩
    case measure=>
     have:=HI.out.1;omega
  ·have t:decide ((j:Int)<(h.objs.length:Int))=false:=by
    simp;omega
   have i:=ah (Hp.Ju (h:=h) (j:=j) (fun x=>z x.1));have l:=ah (fun nq:Nat=>aC (aT wr.heap.size wr) nq);clear d k b;go_wp2_with fail;go_quiet (fail);go_wp2;go_end0;refine ⟨rfl,?_,HI.out.2.2.2.trans (Keeps.of (l.o _) (au _) S)⟩;have e:h.skipped={ h with G9:=j }:=by
    unfold Hp.skipped;rw [<-HI.out.2.1,i.o]
   rw [e];exact HI.out.2.2.1.low (l.o _)
theorem sP (w:World) (b:Nat) (A:Option Addr) (n a:Nat) (c:n<=5000) (f:w.cell? ⟨b,0,none⟩=some (.int .i64 5)) (d:w.cell? ⟨b,5,none⟩=some (.slice A n a)):Calls Tryz.prog 58 #[.pointer (some ⟨b,0,none⟩)] w fun e w'=>e=.returned (.int .i64 ((40+40*n:Nat):Int))/\w'=w:=by
 go_enter Tryz.func58,Tryz.ntmps58;go_wp2;go_ret;exact ⟨by simp,rfl⟩
end
theorem MV.freed {base:Nat} {S:Nat->Prop} {h h':Hp} {L:SM} {w wF:World} (a:MV base S h L w) {n:Nat} {o:Ob} (ho:h.ob n=some o) {v':Value} {X go capo c:Nat} {rx:Nat->Value} (P:L.oS=.slice (some ⟨go,0,none⟩) h.objs.length capo)
 (kk:Keeps w wF (fun b=>b=L.ob n∨b=L.H∨(L.li 15).ownBlock=some b∨b=go)) (y:h'.objs=h.objs.set n none) (R:∀ k,eO k->k≠15->g_ h' k=g_ h k) (U:h'.freed=h.freed++[n]) (M:h'.roots=h.roots)
 (hH:aD wF 105 L.H 18 (uE h' { L with ob:=fun m=>if m=n then X else L.ob m,li:=fun j=>if j=15 then v' else L.li j }))
 (N:wF.ownsRow base 90 1 L.oS h.objs.length ((List.range h.objs.length).map fun m=>.pointer (some ⟨if m=n then X else L.ob m,0,none⟩)))
 (hX:aD wF 101 X 25 (kY rx 0 c true 0 (.slice none 0 0) false)) (hc:fU c=true) (W:w.heap.size<=X)
 (hl:wF.ownsRow base 3 1 v' (h.freed++[n]).length (eu (h.freed++[n]))) (K:∀ g,v'.ownBlock=some g->(L.li 15).ownBlock=some g∨w.heap.size<=g):
 MV base S h' { L with ob:=fun m=>if m=n then X else L.ob m,li:=fun j=>if j=15 then v' else L.li j } wF/\Keeps w wF S:=by
 have l:eO 15:=by simp [eO]
 have hn:=Hp.Ia ho;obtain ⟨r0,A⟩:=a.ob n o ho;have i:h'.objs.length=h.objs.length:=by rw [y];simp
 have t:∀ m,h'.ob m=if n=m then none else h.ob m:=by
  intro m;have:=h.Kh n m;unfold Hp.ob at this ⊢;rw [y];exact this
 have C:L.oS.ownBlock=some go:=by rw [P];simp [Value.ownBlock]
 have p:=ay a.oo C;have hT:∀ {T s Z:Nat} {v:Value} {Y:List Value},w.ownsRow base T s v Z Y->T≠101->T≠105->T≠3->T≠90->∀ g,v.ownBlock=some g->¬ (g=L.ob n∨g=L.H∨(L.li 15).ownBlock=some g∨g=go):=by
  intro T s Z v Y F h2 h3 h4 h5 g E u;rcases u with u|u|u|u
  ·exact ak F A h2 (u ▸ E)
  ·exact ak F a.hp h3 (u ▸ E)
  ·exact aV F (a.li 15 l) h4 u E
  ·exact ak F p h5 (u ▸ E)
 have D:∀ m,m<h.objs.length->L.ob m<w.heap.size:=by
  intro m hm;cases e:h.ob m with
  |none=>obtain ⟨r,c,_,hr⟩:=a.dd m hm e;exact hr.lt
  |some o=>obtain ⟨r,hr⟩:=a.ob m o e;exact hr.lt
 have hO:∀ {m:Nat} {f:Nat->Value},m<h.objs.length->m≠n->aD w 101 (L.ob m) 25 f->aD wF 101 (L.ob m) 25 f:=by
  intro m f hm Q hr;refine hr.keep kk (fun x=>?_);rcases x with x|x|x|x
  ·exact Q (a.ij m n hm hn x)
  ·exact hr.apart a.hp (by decide) x
  ·exact ak (a.li 15 l) hr (by decide) x
  ·exact hr.apart p (by decide) x
 refine ⟨⟨hH,?_,fun m o' e=>?_,fun m hm e=>?_,fun m o' e=>?_,fun k hk=>?_,?_,fun m m' hm hm' e=>?_,fun m m' o1 o2 g e1 e2=>?_,fun k k' g hk hk' e e'=>?_,a.bH,fun m hm=>?_,aI a.bs kk.size,a.sH,fun m hm=>?_,a.sO,fun m o' g e=>?_,fun k g hk e=>?_,a.sr,fun b hb=>a.up b (aI kk.size hb)⟩,kk.mono (fun b e=>?_)⟩
 ·rw [i];exact N
 ·rw [t] at e
  split at e
  ·cases e
  ·rename_i d
   obtain ⟨r,hr⟩:=a.ob m o' e;simp only [if_neg (Ne.symm d)];exact ⟨r,hO (Hp.Ia e) (Ne.symm d) hr⟩
 ·rw [i] at hm
  by_cases d:m=n
  ·simp only [if_pos d]
   exact ⟨rx,c,hc,hX⟩
  ·rw [t,if_neg (Ne.symm d)] at e
   obtain ⟨r,z,V,hr⟩:=a.dd m hm e;simp only [if_neg d];exact ⟨r,z,V,hO hm d hr⟩
 ·rw [t] at e
  split at e
  ·cases e
  ·exact aj (a.en m o' e) kk (hT (a.en m o' e) (by decide) (by decide) (by decide) (by decide))
 ·by_cases d:k=15
  ·subst d
   rw [show g_ h' 15=h.freed++[n] from U];simp only [if_true];exact hl
  ·rw [R k hk d]
   simp only [if_neg d];refine aj (a.li k hk) kk (fun g hg x=>?_);rcases x with x|x|x|x
   ·exact ak (a.li k hk) A (by decide) (x ▸ hg)
   ·exact ak (a.li k hk) a.hp (by decide) (x ▸ hg)
   ·exact d (a.lj k 15 g hk l hg x)
   ·exact ak (a.li k hk) p (by decide) (x ▸ hg)
 ·rw [M];exact aj a.ro kk (hT a.ro (by decide) (by decide) (by decide) (by decide))
 ·rw [i] at hm hm'
  have b1:=D m hm;have b2:=D m' hm';by_cases J:m=n<;>by_cases G:m'=n
  ·rw [J,G]
  ·simp only [J,G,if_true,if_false] at e;omega
  ·simp only [J,G,if_true,if_false] at e;omega
  ·simp only [J,G,if_false] at e
   exact a.ij m m' hm hm' e
 ·rw [t] at e1 e2
  split at e1
  ·cases e1
  ·split at e2
   ·cases e2
   ·exact a.ei m m' o1 o2 g e1 e2
 ·have B:∀ q,eO q->(L.li q).ownBlock=some g->g<w.heap.size:=fun q hq e=>(ay (a.li q hq) e).lt
  by_cases c:k=15<;>by_cases z:k'=15
  ·rw [c,z]
  ·simp only [c,z,if_true,if_false] at e e'
   rcases K g e with x|x
   ·rw [c];exact a.lj 15 k' g l hk' x e'
   ·have:=B k' hk' e';omega
  ·simp only [c,z,if_true,if_false] at e e'
   rcases K g e' with x|x
   ·rw [z];exact a.lj k 15 g hk l e x
   ·have:=B k hk e;omega
  ·simp only [c,z,if_false] at e e'
   exact a.lj k k' g hk hk' e e'
 ·rw [i] at hm
  have b0:=a.bs;by_cases d:m=n
  ·simp only [if_pos d];omega
  ·simp only [if_neg d];exact a.bo m hm
 ·rw [i] at hm
  by_cases d:m=n
  ·simp only [if_pos d];exact a.up X W
  ·simp only [if_neg d];exact a.so m hm
 ·rw [t] at e
  split at e
  ·cases e
  ·exact a.se m o' g e
 ·by_cases d:k=15
  ·simp only [d,if_true] at e
   rcases K g e with x|x
   ·exact a.sl 15 g l x
   ·exact a.up g x
  ·simp only [d,if_false] at e
   exact a.sl k g hk e
 ·rcases e with e|e|e|e
  ·exact e ▸ a.so n hn
  ·exact e ▸ a.sH
  ·exact a.sl 15 b l e
  ·exact e ▸ a.sO go C
section
variable {K:Act->World->Prop} {Q:Exit->Act->World->Prop} {a:Act} {capo:Nat} {l':List Nat} {v':Value} {w' w1 wr:World}
theorem kW {o:Oper} (s x:Operand)
 (ho:o.op=.call { callee:=.builtin .append,args:=#[s,x],argTypes:=#[30,30] })
 (base:Nat) (v:Value) (l:List Nat) (n:Nat) (hown:wr.ownsRow base 3 1 v l.length (eu l)) (G:a.eval s=v) (hx:a.eval x=.slice (some ⟨wr.heap.size,0,none⟩) 1 1) (E:l.length<=1000000) (C:base<=wr.heap.size)
 (h:∀ v' w',w'.ownsRow base 3 1 v' (l++[n]).length (eu (l++[n]))->Keeps wr w' (fun b=>v.ownBlock=some b)->(∀ g,v'.ownBlock=some g->v.ownBlock=some g∨wr.heap.size<=g)->K (a.put o.dst v') w'):
 Oper.wp Tryz.prog o a (wr.alloc (.cells #[.int .i64 (n:Int)] 3)).drew K Q:=by
 obtain ⟨D,hi,r,p,m⟩:=info_parts ji;have i:(wr.alloc (.cells #[.int .i64 (n:Int)] 3)).drew.ownsRow base 3 1 v l.length (eu l):=aj hown (Keeps.of ((aU wr (.cells #[.int .i64 (n:Int)] 3)).drew) (au _) (fun _=>False)) (fun _ _ x=>x);have t:aD (wr.alloc (.cells #[.int .i64 (n:Int)] 3)).drew 3 wr.heap.size 1 (fun j=>(#[Value.int .i64 (n:Int)]:Array Value).getD j (.bool false)):=aD.mk' wr 3 #[.int .i64 (n:Int)];have k:∀ j u,[Value.int .i64 (n:Int)][j]?=some u->(wr.alloc (.cells #[.int .i64 (n:Int)] 3)).drew.cell? ((⟨wr.heap.size,0,none⟩:Addr).add j)=some u:=by
  intro j u B;have A:j=0:=by
   have:=(aJ.1 B).1
   simpa using this
  subst A;simp at B;subst B;rw [bL];exact t.c 0
 have F:∀ u∈[Value.int .i64 (n:Int)],u.oneCell'=true:=fun u hu=>by simp at hu;subst hu;rfl
 obtain ⟨v',w',hr,J,z,M⟩:=run_append_own (P:=Tryz.prog) (wr.alloc (.cells #[.int .i64 (n:Int)] 3)).drew base 30 o.type 3 D (.int .i64 0) 1 8 Tryz.underlying30 hi r p m rfl (by decide) v l.length (eu l) i ⟨wr.heap.size,0,none⟩ 1 1 [.int .i64 (n:Int)] rfl k F (by unfold maxLen;omega) (by omega) (by simp;omega);have H:=fG (wr.alloc (.cells #[.int .i64 (n:Int)] 3)).drew base 30 o.type 3 D (.int .i64 0) 1 8 Tryz.underlying30 hi r p m rfl (by decide) v l.length (eu l) i ⟨wr.heap.size,0,none⟩ 1 1 [.int .i64 (n:Int)] rfl k F (by unfold maxLen;omega) (by omega) (by decide) hr;have d:Below wr.heap.size wr (wr.alloc (.cells #[.int .i64 (n:Int)] 3)).drew:=(aU wr _).drew;unfold Oper.wp execOp;simp only [ho,resolve,invoke,builtin,Sem.run_bind,Sem.run_pure,Result.andThen_ok,List.map_toArray,List.map_cons,List.map_nil,G,hx,hr];refine h v' w' (by simpa [eu] using J) ?_ (fun g e=>?_)
 ·refine ⟨z.os.trans d.os,z.tape.trans d.tape,z.output.trans d.output,aI d.size z.size,fun b hb hn=>?_⟩
  exact (z.block b (aW hb d.size) (fun e=>hn e.symm)).trans (d.block b hb)
 ·rcases H g e with y|y
  ·exact .inl y
  ·right
   have:=d.size;omega
structure FB (base:Nat) (q:Hp) (L:SM) (n go:Nat) (w0:World) (f g:Nat->Value) (ps:Nat->Nat) (v:Value) (l:List Nat) (w:World):Prop where
 hH:aD w 105 L.H 18 f
 hO:aD w 101 (L.ob n) 25 g
 oo:w.ownsRow base 90 1 L.oS q.objs.length ((List.range q.objs.length).map fun m=>.pointer (some ⟨ps m,0,none⟩))
 li:w.ownsRow base 3 1 v l.length (eu l)
 kk:Keeps w0 w (fun b=>b=L.ob n∨b=L.H∨(L.li 15).ownBlock=some b∨b=go)
 vv:∀ g,v.ownBlock=some g->(L.li 15).ownBlock=some g∨w0.heap.size<=g
 bs:base<=w.heap.size
section
variable {base : Nat} {q : Hp} {L : SM} {n go : Nat} {w0 w : World} {f g : Nat → Value} {ps : Nat → Nat} {v : Value} {l : List Nat}
theorem FB.low (b:FB base q L n go w0 f g ps v l w) (hb:Below w.heap.size w w'):FB base q L n go w0 f g ps v l w':=
 have k:=Keeps.of hb (au _) (fun _=>False)
 ⟨b.hH.keep k (fun x=>x),b.hO.keep k (fun x=>x),aj b.oo k (fun _ _ x=>x),aj b.li k (fun _ _ x=>x),b.kk.trans (Keeps.of hb (au _) _),b.vv,aI b.bs hb.size⟩
theorem FB.setH (b:FB base q L n go w0 f g ps v l w) (k:Nat) (hk:k<18) (x:Value):FB base q L n go w0 (fun i=>if i=k then x else f i) g ps v l (w.setCell ⟨L.H,k,none⟩ x):=by
 have kk:Keeps w (w.setCell ⟨L.H,k,none⟩ x) (fun b=>b=L.H):=Keeps.setCell (S:=fun b=>b=L.H) (Keeps.refl w _) rfl x;exact ⟨b.hH.set hk x,b.hO.keep kk (fun e=>b.hO.apart b.hH (by decide) e),aj b.oo kk (fun g hg e=>ak b.oo b.hH (by decide) (e ▸ hg)),aj b.li kk (fun g hg e=>ak b.li b.hH (by decide) (e ▸ hg)),b.kk.trans (kk.mono (fun c e=>.inr (.inl e))),b.vv,aI b.bs kk.size⟩
theorem FB.LZ (b:FB base q L n go w0 f g ps v l w) (k:Nat) (hk:k<25) (x:Value):FB base q L n go w0 f (fun i=>if i=k then x else g i) ps v l (w.setCell ⟨L.ob n,k,none⟩ x):=by
 have kk:Keeps w (w.setCell ⟨L.ob n,k,none⟩ x) (fun b=>b=L.ob n):=Keeps.setCell (S:=fun b=>b=L.ob n) (Keeps.refl w _) rfl x;exact ⟨b.hH.keep kk (fun e=>b.hH.apart b.hO (by decide) e),b.hO.set hk x,aj b.oo kk (fun g hg e=>ak b.oo b.hO (by decide) (e ▸ hg)),aj b.li kk (fun g hg e=>ak b.li b.hO (by decide) (e ▸ hg)),b.kk.trans (kk.mono (fun c e=>.inl e)),b.vv,aI b.bs kk.size⟩
theorem FB.LH (b:FB base q L n go w0 f g ps v l w) (kk:Keeps w w1 (fun c=>v.ownBlock=some c)) (i:w1.ownsRow base 3 1 v' l'.length (eu l')) (d:∀ g,v'.ownBlock=some g->v.ownBlock=some g∨w.heap.size<=g) (j:w0.heap.size<=w.heap.size):FB base q L n go w0 f g ps v' l' w1:=by
 have h:∀ c,v.ownBlock=some c->c<w.heap.size:=fun c e=>(ay b.li e).lt;refine ⟨b.hH.keep kk (fun e=>ak b.li b.hH (by decide) e),b.hO.keep kk (fun e=>ak b.li b.hO (by decide) e),aj b.oo kk (fun g hg e=>aV b.oo b.li (by decide) e hg),i,⟨kk.os.trans b.kk.os,kk.tape.trans b.kk.tape,kk.output.trans b.kk.output,aI b.kk.size kk.size,fun c hc hn=>?_⟩,fun g e=>?_,aI b.bs kk.size⟩
 ·refine (kk.block c (aW hc b.kk.size) (fun e=>?_)).trans (b.kk.block c hc hn)
  rcases b.vv c e with y|y
  ·exact hn (.inr (.inr (.inl y)))
  ·omega
 ·rcases d g e with y|y
  ·exact b.vv g y
  ·exact .inr (aI j y)
theorem FB.LU (b:FB base q L n go w0 f g ps v l w) (h:L.oS=.slice (some ⟨go,0,none⟩) q.objs.length capo) (p:n<q.objs.length) (X:Nat):FB base q L n go w0 f g (fun m=>if m=n then X else ps m) v l (w.setCell ⟨go,n,none⟩ (.pointer (some ⟨X,0,none⟩))):=by
 have kk:Keeps w (w.setCell ⟨go,n,none⟩ (.pointer (some ⟨X,0,none⟩))) (fun b=>b=go):=Keeps.setCell (S:=fun b=>b=go) (Keeps.refl w _) rfl _;have j:L.oS.ownBlock=some go:=by rw [h];simp [Value.ownBlock]
 have hr:=ay b.oo j;refine ⟨b.hH.keep kk (fun e=>b.hH.apart hr (by decide) e),b.hO.keep kk (fun e=>b.hO.apart hr (by decide) e),?_,aj b.li kk (fun g hg e=>ak b.li hr (by decide) (e ▸ hg)),b.kk.trans (kk.mono (fun c e=>.inr (.inr (.inr e)))),b.vv,aI b.bs kk.size⟩;have o:=b.oo;rw [h] at o ⊢;have k:=aL o (i:=n) (by omega) (.pointer (some ⟨X,0,none⟩));have e:((List.range q.objs.length).map fun m=>Value.pointer (some ⟨ps m,0,none⟩)).set n (.pointer (some ⟨X,0,none⟩))=(List.range q.objs.length).map fun m=>Value.pointer (some ⟨if m=n then X else ps m,0,none⟩):=by
  refine List.ext_getElem? (fun i=>?_);rw [gD];by_cases c:n=i
  ·subst c
   rw [if_pos rfl,if_pos (by simp;omega)];simp [p]
  ·rw [if_neg c]
   by_cases d:i<q.objs.length
   ·simp [d,Ne.symm c]
   ·simp [d]
 rw [e] at k;exact k
end
end
end Go.Proofs.YtbpcdfbmnklcjaaGreatDoor
