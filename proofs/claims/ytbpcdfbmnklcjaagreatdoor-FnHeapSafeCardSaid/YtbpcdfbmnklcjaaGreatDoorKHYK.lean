import Derived.Test.YtbpcdfbmnklcjaaGreatDoorKHYF
namespace Go.Proofs.YtbpcdfbmnklcjaaGreatDoor
open Go Go.RowKit
set_option maxHeartbeats 6400000
set_option maxRecDepth 100000
set_option linter.unusedVariables false
section
variable {G:Gh} {L:PM} {S:Nat->Prop} {base n:Nat} {h:Hp} {o:Ob} {w:World}
attribute [local go_sem] bW
theorem rC (h:Hp):h.G8.length<=h.nu/\h.weak.length<=h.nu:=by
 have:h.nu=h.wn+h.grey.length+h.G8.length+h.weak.length:=rfl;omega
theorem Gl (a:M0 base S h G L w) (ho:h.ob n=some o) (q:∀ e∈o.es,iP h e.1/\iP h e.2) (E:o.es.length<=5000) (V:h.nu+1<=20000) (D:o.mode=1):
 Calls Tryz.prog 182 #[.pointer (some ⟨L.tb n,0,none⟩),.pointer (some ⟨L.H,0,none⟩)] w fun e w'=>e=.returned (.int .i64 (o.es.length:Int))/\∃ L',Nf L L'/\M0 base S ((Hp.spread { h with G8:=h.G8++[n] } o.es).1) G L' w'/\Keeps w w' S:=by
 obtain ⟨A,u,j,Q,-⟩:=a.ents ho;have hr:=a.ob n o ho;have W:w.cell? ⟨L.tb n,7,none⟩=some (.slice A o.es.length u):=by rw [<-j];exact hr.c 7
 have X:w.cell? ⟨L.tb n,6,none⟩=some (.pointer none):=hr.c 6;have Y:w.cell? ⟨L.tb n,5,none⟩=some (.int .i64 1):=by
  rw [hr.c 5];show some (Value.int .i64 (o.mode:Int))=_;rw [D];rfl
 have m:=ah a;have R:=ah ho;have HE:=ah j;have Z:=ah q;clear a ho j q hr;go_enter Tryz.func182,Tryz.ntmps182;go_upto_region 13 with (fail)
 have i:=m.o.li 14 (by simp [eF]);have b:((eU h G 14).map (eP L.tb 14)).length=(eU h G 14).length:=by simp
 have N:=ah (oz w base L.H 14 (L.li 14) ((eU h G 14).map (eP L.tb 14)) (L.tb n) (m.o.hp.c 14) (m.o.hp.ME 14) (by rw [b];exact i) (fun e=>ak i m.o.hp (by decide) e) (by rw [b];have:=rC h;show (Hp.G8 h).length<=1000000;omega) m.o.bs);clear i b;go_wp2_with fail;refine N.o.mono ?_;intro e4 w4 p;obtain ⟨rfl,⟨P,y,J,B,U⟩,f,l,t⟩:=m.o.add (k:=14) (by simp [kI]) (n:=n) p;obtain rfl:P=L.H:=f.H;obtain rfl:y=L.tb:=f.tb;obtain rfl:J=L.es:=f.es;obtain rfl:B=L.mp:=f.mp;have P:=ah (And.intro l t);have K:=ah (mQ l (n:=n) (o:=o) R.o Z.o E (by show h.wn+h.grey.length+(h.G8++[n]).length+h.weak.length<=20000;have:h.nu=h.wn+h.grey.length+h.G8.length+h.weak.length:=rfl;simp;omega));have M:Hq (iN h 14 (eU h G 14++[n])={ h with G8:=h.G8++[n] }):=ah rfl;clear p f l t Y X W;go_wp2_with fail;refine K.o.mono ?_;rintro e7 T ⟨rfl,⟨v,x,F,z,C⟩,d,g,s⟩;obtain rfl:v=L.H:=d.H;obtain rfl:x=L.tb:=d.tb;obtain rfl:F=L.es:=d.es;obtain rfl:z=L.mp:=d.mp;rw [M.o] at g;have v:=ah (And.intro g s);obtain ⟨o1,r⟩:∃ o1,(Hp.spread { h with G8:=h.G8++[n] } o.es).1.ob n=some o1:=((M7.spread { h with G8:=h.G8++[n] } o.es).lv n).2 ⟨o,R.o⟩;have f7:T.cell? ⟨L.tb n,7,none⟩=some (.slice A o.es.length u):=by
  rw [(g.ob n o1 r).c 7];exact congrArg some HE.o
 clear d g s r;go_wp2;go_ret;exact ⟨rfl,⟨L.H,L.tb,L.es,L.mp,C⟩,⟨rfl,rfl,rfl,rfl⟩,v.o.1,P.o.2.trans v.o.2⟩
theorem Gn (a:M0 base S h G L w) (ho:h.ob n=some o) (m:∀ e∈o.es,iP h e.1/\iP h e.2) (C:o.es.length<=5000) (B:h.nu<=20000) (v:o.mode=3):
 Calls Tryz.prog 182 #[.pointer (some ⟨L.tb n,0,none⟩),.pointer (some ⟨L.H,0,none⟩)] w fun e w'=>e=.returned (.int .i64 (o.es.length:Int))/\∃ L',Nf L L'/\M0 base S ({ h with weak:=h.weak++[n] }) G L' w'/\Keeps w w' S:=by
 obtain ⟨A,q,g,z,-⟩:=a.ents ho;have hr:=a.ob n o ho;have D:w.cell? ⟨L.tb n,7,none⟩=some (.slice A o.es.length q):=by rw [<-g];exact hr.c 7
 have E:w.cell? ⟨L.tb n,6,none⟩=some (.pointer none):=hr.c 6;have F:w.cell? ⟨L.tb n,5,none⟩=some (.int .i64 3):=by
  rw [hr.c 5];show some (Value.int .i64 (o.mode:Int))=_;rw [v];rfl
 have j:=ah a;have J:=ah ho;have K:=ah g;have P:=ah m;clear a ho g m hr;go_enter Tryz.func182,Tryz.ntmps182;go_upto_region 24 with (fail)
 have f:=j.o.li 13 (by simp [eF]);have b:((eU h G 13).map (eP L.tb 13)).length=(eU h G 13).length:=by simp
 have y:=ah (oz w base L.H 13 (L.li 13) ((eU h G 13).map (eP L.tb 13)) (L.tb n) (j.o.hp.c 13) (j.o.hp.ME 13) (by rw [b];exact f) (fun e=>ak f j.o.hp (by decide) e) (by rw [b];have:=rC h;show (Hp.weak h).length<=1000000;omega) j.o.bs);clear f b;go_wp2_with fail;refine y.o.mono ?_;intro N w4 l;obtain ⟨rfl,⟨r,s,x,t,u⟩,d,i,p⟩:=j.o.add (k:=13) (by simp [kI]) (n:=n) l;obtain rfl:r=L.H:=d.H;obtain rfl:s=L.tb:=d.tb;obtain rfl:x=L.es:=d.es;obtain rfl:t=L.mp:=d.mp;have r:=ah (And.intro i p);have M:w4.cell? ⟨L.tb n,7,none⟩=some (.slice A o.es.length q):=by
  rw [(i.ob n o J.o).c 7];exact congrArg some K.o
 clear l d i p F E D;go_wp2;go_ret;exact ⟨rfl,⟨L.H,L.tb,L.es,L.mp,u⟩,⟨rfl,rfl,rfl,rfl⟩,r.o.1,r.o.2⟩
theorem Gu (a:M0 base S h G L w) (ho:h.ob n=some o) (a1:∀ e∈o.es,iP h e.1/\iP h e.2) (c4:o.es.length<=5000) (a2:h.nu<=20000) (a7:o.mode=2):
 Calls Tryz.prog 182 #[.pointer (some ⟨L.tb n,0,none⟩),.pointer (some ⟨L.H,0,none⟩)] w fun e w'=>e=.returned (.int .i64 (o.es.length:Int))/\∃ L',Nf L L'/\M0 base S ({ o.es.foldl Hp.key1 h with weak:=(o.es.foldl Hp.key1 h).weak++[n] }) G L' w'/\Keeps w w' S:=by
 obtain ⟨A,U,R,c2,-⟩:=a.ents ho;have hr:=a.ob n o ho;have c7:w.cell? ⟨L.tb n,7,none⟩=some (.slice A o.es.length U):=by rw [<-R];exact hr.c 7
 have c6:w.cell? ⟨L.tb n,6,none⟩=some (.pointer none):=hr.c 6;have c5:w.cell? ⟨L.tb n,5,none⟩=some (.int .i64 2):=by
  rw [hr.c 5];show some (Value.int .i64 (o.mode:Int))=_;rw [a7];rfl
 have HA:=ah a;have HO:=ah ho;have HE:=ah R;have HK:=ah a1;clear a ho R a1 hr;go_enter Tryz.func182,Tryz.ntmps182;go_wp2;go_loopw [66] (fun iv wr=>∃ i:Nat,i<=o.es.length/\iv=.int .i64 i/\Hq (∃ li',M0 base S ((o.es.take i).foldl Hp.key1 h) G ⟨L.H,L.tb,L.es,L.mp,li'⟩ wr/\Keeps w wr S)) (fun iv _=>o.es.length-bF iv)
 case atStart=>exact ⟨0,by omega,rfl,L.li,HA.o,Keeps.refl _ _⟩
 case round=>
  obtain ⟨i,c3,rfl,HI⟩:=hrel;by_cases a8:i<o.es.length
  ·obtain ⟨e,he⟩:∃ e,o.es[i]?=some e:=⟨_,aN a8⟩
   have Z:=bD he;obtain ⟨N,m,v⟩:=HI.out;have j:=M7.fold Hp.key1 (fun h x=>M7.key1 h x) (o.es.take i) h;have B:((o.es.take i).foldl Hp.key1 h).nu<=20000:=aI (aO (dO Hp.key1 uO _ _)) a2;obtain ⟨q,W⟩:∃ q,(o.es.take i).foldl Hp.key1 h=q:=⟨_,rfl⟩
   rw [W] at m j B;obtain ⟨o1,t,E⟩:∃ o1,q.ob n=some o1/\o1.es=o.es:=by
    have:=j.cont n;rw [HO.o] at this;cases e9:q.ob n with
    |none=>rw [e9] at this;simp at this
    |some o1=>rw [e9] at this;simp [Ob.cont] at this;exact ⟨o1,rfl,this.2.1⟩
   obtain ⟨A1,a3,z,b1,l⟩:=m.ents t;rw [E] at z l;have:A1=A/\a3=U:=by
    have F:=z.symm.trans HE.o;simp at F;exact F
   obtain ⟨rfl,rfl⟩:=this;obtain ⟨g,rfl,c1,d⟩:=l i e he;have d0:=d 0 _ rfl;have d1:=d 1 _ rfl;have d2:=d 2 _ rfl;have d3:=d 3 _ rfl;have d4:=d 4 _ rfl;have d5:=d 5 _ rfl;have d6:=d 6 _ rfl;have d7:=d 7 _ rfl;have d8:=d 8 _ rfl;have d9:=d 9 _ rfl;simp only [Nat.add_zero] at d0;have P:=HK.o e (aX he);have HQ:=ah W;have b3:=ah Z;have b9:=ah (m.hole (.cells #[.int .i64 (vk e.1),.int .i64 (vi e.1),.int .u64 0,.string ByteArray.empty,aK L.tb e.1,.int .i64 (vk e.2),.int .i64 (vi e.2),.int .u64 0,.string ByteArray.empty,aK L.tb e.2] 167));have a4:=ah (v.trans (Keeps.of (aU wr (.cells #[.int .i64 (vk e.1),.int .i64 (vi e.1),.int .u64 0,.string ByteArray.empty,aK L.tb e.1,.int .i64 (vk e.2),.int .i64 (vi e.2),.int .u64 0,.string ByteArray.empty,aK L.tb e.2] 167)) (au _) S));have b2:=ah (And.intro (P.1.MZ j) (P.2.MZ j));have c9:=ah B;have b0:q.grey.length<=1000000:=aI (jq q) (by omega);clear W j Z m v t E z l d HI B he P;have Y:=ah (mV wr L.tb e);go_upto_region 19 with (fail)
   generalize wr.alloc (.cells #[.int .i64 (vk e.1),.int .i64 (vi e.1),.int .u64 0,.string ByteArray.empty,aK L.tb e.1,.int .i64 (vk e.2),.int .i64 (vi e.2),.int .u64 0,.string ByteArray.empty,aK L.tb e.2] 167)=w3 at *;generalize wr.heap.size=X at *;have x5:w3.cell? ⟨X,5,none⟩=some (.int .i64 (vk e.2)):=Y.o.c 5;have x6:w3.cell? ⟨X,6,none⟩=some (.int .i64 (vi e.2)):=Y.o.c 6;have x7:w3.cell? ⟨X,7,none⟩=some (.int .u64 0):=Y.o.c 7;have x8:w3.cell? ⟨X,8,none⟩=some (.string ByteArray.empty):=Y.o.c 8;have x9:w3.cell? ⟨X,9,none⟩=some (aK L.tb e.2):=Y.o.c 9;have b6:=ah (bT w3 L.tb e.2);have HF:Hq ((o.es.take (i+1)).foldl Hp.key1 h=Hp.key1 q e):=ah (by rw [b3.o,bE,HQ.o]);clear d0 d1 d2 d3 d4 d5 d6 d7 d8 d9;go_wp2_with fail;refine b6.o.mono ?_;rintro e9 w4 ⟨rfl,C⟩;have a5:=ah C;have s:=ah (Y.o.keep (Keeps.of C (au _) (fun _=>False)) (fun y=>y));have a6:=ah (b9.o.low C);clear C x5 x6 x7 x8 x9;cases hno:e.2.isNone with
   |true=>
    have b7:=ah (show Hp.key1 q e=q from by
     have h2:e.2=none:=by cases F:e.2 with |none=>rfl|some y=>rw [F] at hno;cases hno
     unfold Hp.key1;rw [h2];rfl)
    clear hno;go_wp2;go_roundw
    case rel=>
     refine ⟨i+1,by omega,by simp,N,?_,a4.o.trans (Keeps.of a5.o (au _) S)⟩;rw [HF.o,b7.o];exact a6.o.mono (fun b e=>e.1)
    case measure=>simp [bF];omega
   |false=>
    have b4:=ah (show e.2.isSome=true from by cases F:e.2 with |none=>rw [F] at hno;cases hno|some y=>rfl);clear hno;have y0:w4.cell? ⟨X,0,none⟩=some (.int .i64 (vk e.1)):=s.o.c 0;have y1:w4.cell? ⟨X,1,none⟩=some (.int .i64 (vi e.1)):=s.o.c 1;have y2:w4.cell? ⟨X,2,none⟩=some (.int .u64 0):=s.o.c 2;have y3:w4.cell? ⟨X,3,none⟩=some (.string ByteArray.empty):=s.o.c 3;have y4:w4.cell? ⟨X,4,none⟩=some (aK L.tb e.1):=s.o.c 4;have b8:=ah (kU a6.o e.1 b2.o.1 b0);go_wp2_with fail;refine b8.o.mono ?_;rintro e9 w5 ⟨rfl,⟨D,J,T,K,M⟩,f,r,p⟩;obtain rfl:D=L.H:=f.H;obtain rfl:J=L.tb:=f.tb;obtain rfl:T=L.es:=f.es;obtain rfl:K=L.mp:=f.mp;have D:=ah (And.intro r p);have c8:=ah (s.o.keep p (fun e=>e.2 rfl));clear f r p y0 y1 y2 y3 y4;go_wp2;go_roundw
    case rel=>
     refine ⟨i+1,by omega,by simp,M,?_,(a4.o.trans (Keeps.of a5.o (au _) S)).trans (D.o.2.mono (fun b e=>e.1))⟩;rw [HF.o];have F:Hp.key1 q e=q.Ib e.1:=by unfold Hp.key1;rw [if_pos b4.o]
     rw [F];exact D.o.1.mono (fun b e=>e.1)
    case measure=>simp [bF];omega
  ·have a9:i=o.es.length:=by omega
   subst a9;rw [bf] at HI;obtain ⟨N,m,v⟩:=HI.out;have V:=ah (And.intro m v);have j:=M7.fold Hp.key1 (fun h x=>M7.key1 h x) o.es h;obtain ⟨o1,t⟩:∃ o1,(o.es.foldl Hp.key1 h).ob n=some o1:=(j.lv n).2 ⟨o,HO.o⟩;have B:(o.es.foldl Hp.key1 h).nu<=20000:=aI (aO (dO Hp.key1 uO _ _)) a2;have b5:=ah t;clear m v HI t j;generalize W:o.es.foldl Hp.key1 h=q at *;have HQ:=ah W;clear W;go_upto_region 22 with (fail)
   have Q:=V.o.1.li 13 (by simp [eF]);have u:((eU q G 13).map (eP L.tb 13)).length=(eU q G 13).length:=by simp
   have c0:=ah (oz wr base L.H 13 (N 13) ((eU q G 13).map (eP L.tb 13)) (L.tb n) (V.o.1.hp.c 13) (V.o.1.hp.ME 13) (by rw [u];exact Q) (fun e=>ak Q V.o.1.hp (by decide) e) (by rw [u];have:=rC q;show (Hp.weak q).length<=1000000;omega) V.o.1.bs);clear Q u;go_wp2_with fail;refine c0.o.mono ?_;intro e4 w4 a0;obtain ⟨rfl,⟨D,J,T,K,M⟩,f,r,p⟩:=V.o.1.add (k:=13) (by simp [kI]) (n:=n) a0;obtain rfl:D=L.H:=f.H;obtain rfl:J=L.tb:=f.tb;obtain rfl:T=L.es:=f.es;obtain rfl:K=L.mp:=f.mp;have D:=ah (And.intro r p);have f7:w4.cell? ⟨L.tb n,7,none⟩=some (.slice A o.es.length U):=by
    rw [(r.ob n o1 b5.o).c 7];exact congrArg some HE.o
   clear a0 f r p;go_wp2;go_ret;exact ⟨rfl,⟨L.H,L.tb,L.es,L.mp,M⟩,⟨rfl,rfl,rfl,rfl⟩,(by rw [HQ.o];exact D.o.1),V.o.2.trans D.o.2⟩
theorem CS (a:M0 base S h G L w) (ho:h.ob n=some o) (b:∀ e∈o.es,iP h e.1/\iP h e.2) (c:o.es.length<=5000) (i:h.nu+1<=20000) (j:o.mode<=3):
 Calls Tryz.prog 182 #[.pointer (some ⟨L.tb n,0,none⟩),.pointer (some ⟨L.H,0,none⟩)] w fun e w'=>e=.returned (.int .i64 (o.es.length:Int))/\∃ L',Nf L L'/\M0 base S (h.Ik n o) G L' w'/\Keeps w w' S:=by
 unfold Hp.Ik;by_cases g:o.mode=0
 ·rw [if_pos g];exact Gj a ho b c (by omega) g
 rw [if_neg g];by_cases f:o.mode=1
 ·rw [if_pos f];exact Gl a ho b c i f
 rw [if_neg f];by_cases d:o.mode=2
 ·rw [if_pos d];exact Gu a ho b c (by omega) d
 rw [if_neg d];exact Gn a ho b c (by omega) (by omega)
end
section
variable {G:Gh} {L L':PM} {S:Nat->Prop} {base k n:Nat} {gs:List Nat} {h:Hp} {o:Ob} {w:World}
theorem Nf.refl (L:PM):Nf L L:=⟨rfl,rfl,rfl,rfl⟩
theorem Nf.trans {L L' L'':PM} (a:Nf L L') (b:Nf L' L''):Nf L L'':=⟨b.H.trans a.H,b.tb.trans a.tb,b.es.trans a.es,b.mp.trans a.mp⟩
theorem MJ.x (a:MJ k L L'):Nf L L':=⟨a.H,a.tb,a.es,a.mp⟩
theorem M0.II (a:M0 base S h G L w) (hk:eF k):∃ A cap,L.li k=.slice A (eU h G k).length cap/\(eU h G k).length<=cap/\∀ i n,(eU h G k)[i]?=some n->∃ g,A=some ⟨g,0,none⟩/\g<w.heap.size/\w.cell? ⟨g,i,none⟩=some (eP L.tb k n):=by
 have d:=a.li k hk;rcases d.2 with ⟨l,j⟩|⟨g,cap,m,b,_,_,f,_⟩
 ·exact ⟨none,0,by rw [l,j],by omega,fun i n hi=>by have:=(aJ.1 hi).1;omega⟩
 ·refine ⟨_,cap,b,f,fun i n hi=>⟨g,rfl,?_⟩⟩
  have hr:=ay d (g:=g) (by rw [b];simp [Value.ownBlock]);refine ⟨hr.lt,?_⟩;have e:=(aJ.1 hi).1;rw [hr.c i];simp [List.getD_eq_getElem?_getD,hi]
theorem M0.pop (a:M0 base S h G L w) (hk:kI k) (y:eU h G k=gs++[n]):∃ g cap,L.li k=.slice (some ⟨g,0,none⟩) (gs.length+1) cap/\gs.length+1<=cap/\w.cell? ⟨g,gs.length,none⟩=some (eP L.tb k n)/\
 M0 base S (iN h k gs) G { L with li:=fun j=>if j=k then .slice (some ⟨g,0,none⟩) gs.length cap else L.li j } (w.setCell ⟨L.H,k,none⟩ (.slice (some ⟨g,0,none⟩) gs.length cap))/\Keeps w (w.setCell ⟨L.H,k,none⟩ (.slice (some ⟨g,0,none⟩) gs.length cap)) S:=by
 have f:=a.li k hk.p;rw [y] at f;obtain ⟨x,cap,r⟩:=aF f;have q:(gs++[n]).length=gs.length+1:=by simp
 rw [q] at f r;rw [r] at f;rcases f.2 with ⟨_,B⟩|⟨g,t,z,i,hb,A,s,hr⟩
 ·omega
 ·simp at i
  obtain ⟨rfl,rfl⟩:=i;have l:=ay f (g:=g) (by simp [Value.ownBlock]);have b:=lJ f (m:=gs.length) (by omega);have d:w.ownsRow base (xQ k) 1 (.slice (some ⟨g,0,none⟩) gs.length cap) gs.length (gs.map (eP L.tb k)):=by
   have:((gs++[n]).map (eP L.tb k)).take (gs.length*1)=gs.map (eP L.tb k):=by
    rw [List.map_append,Nat.mul_one];rw [List.take_append_of_le_length (by simp),List.take_of_length_le (by simp)]
   rw [this] at b;exact b
  obtain ⟨p1,v,u⟩:=a.JW (h':=iN h k gs) (G':=G) (w1:=w) k hk.p (Keeps.refl w _) (.slice (some ⟨g,0,none⟩) gs.length cap) (by rw [lF hk];exact d) (fun g' e=>.inl (by rw [r];simpa [Value.ownBlock] using e)) (jE h k _) (fun j hj hn=>jD hk hj hn _) (kQ hk _ _);refine ⟨g,cap,r,s,?_,v,u⟩;rw [l.c (gs.length)];simp [List.getD_eq_getElem?_getD]
theorem fB (w:World) (b a:Nat) (A:Option Addr) (n c:Nat) (d:w.cell? ⟨b,a,none⟩=some (.slice A n c)):Calls Tryz.prog 84 #[.pointer (some ⟨b,a,none⟩)] w fun e w'=>e=.returned (.bool ((n:Int)==0))/\w'=w:=by
 go_enter Tryz.func84,Tryz.ntmps84;go_wp2;go_ret;exact ⟨rfl,rfl⟩
theorem kg (w:World) (b a g n c t:Nat) (l:w.cell? ⟨b,a,none⟩=some (.slice (some ⟨g,0,none⟩) (n+1) c)) (i:w.frozen? ⟨b,a,none⟩=false) (hx:w.cell? ⟨g,n,none⟩=some (.iface 127 (.pointer (some ⟨t,0,none⟩)))) (j:n<=1000000) (f:n+1<=c):Calls Tryz.prog 85 #[.pointer (some ⟨b,a,none⟩)] w fun e w'=>e=.returned (.iface 127 (.pointer (some ⟨t,0,none⟩)))/\w'=w.setCell ⟨b,a,none⟩ (.slice (some ⟨g,0,none⟩) n c):=by
 have d:(n:Int)<=c:=by omega
 go_enter Tryz.func85,Tryz.ntmps85;go_wp2;go_ret;exact ⟨rfl,rfl⟩
theorem iP.of (c:h.Closed) (ho:h.ob n=some o):∀ e∈o.es,iP h e.1/\iP h e.2:=by
 intro e a;refine ⟨fun m hm=>c n o ho e a m ?_,fun m hm=>c n o ho e a m ?_⟩
 ·simp [dw,bQ,hm]
 ·simp [dw,bQ,hm]
end
section
variable {G:Gh} {L:PM} {S:Nat->Prop} {base:Nat} {h:Hp} {w:World}
theorem Dm (v:Value) (w:World):(Instr.typeAssert (.iface 127 v) 67 208 true).run Tryz.prog w=.ok (.tuple #[.iface 127 v,.bool true]) w:=by kernel_rfl
theorem qh (a:M0 base S h G L w) (k:Wk h) (z:h.nu+h.again.length+1<=20000) (n:Nat) (C:h.Lv n):
 Calls Tryz.prog 131 #[.pointer (some ⟨L.H,0,none⟩),.iface 127 (.pointer (some ⟨L.tb n,0,none⟩))] w fun e w'=>e=.returned (.int .i64 ((h.scan n).2:Int))/\∃ L',Nf L L'/\M0 base S (h.scan n).1 G L' w'/\Keeps w w' S:=by
 obtain ⟨o,ho⟩:=C;have b:=M7.col h n 3 rfl;have l:=k.s.es n o ho;have u:=(a.ob n o ho).ME 0;have x:w.cell? ⟨L.tb n,0,none⟩=some (.int .i64 (o.col:Int)):=(a.ob n o ho).c 0;have j:=ah (a.Mk n 0 (.int .i64 3) (fun o=>{ o with col:=3 }) (by decide) ho ⟨rfl,rfl⟩ (dz _ rfl rfl rfl rfl rfl rfl rfl rfl rfl rfl rfl rfl rfl));have B:=iO (L.tb n);have A:=EF (L.tb n);have y:=Dm;have q:=ah (gV w (L.tb n));have t:Hq ((h.upd n fun o=>{ o with col:=3 }).ob n=some { o with col:=3 }):=ah (by rw [Hp.Ho,if_pos rfl,ho];rfl);have i:Hq (h.scan n=((h.upd n fun o=>{ o with col:=3 }).Ik n { o with col:=3 },1+o.es.length)):=ah (by unfold Hp.scan;rw [ho];rfl);have p:=ah (CS j.o.1 t.o (iP.of (b.closed k.c) t.o) l (by have:=qH h n;omega) (k.m n o ho));clear b a k ho;go_enter Tryz.func131,Tryz.ntmps131;go_wp2_with fail;refine q.o.mono ?_;rintro J v ⟨rfl,rfl⟩;go_upto_region 2 with (fail)
 generalize v.setCell ⟨L.tb n,0,none⟩ (.int .i64 3)=w3 at *;clear x u;go_wp2_with fail;refine p.o.mono ?_;rintro F E ⟨rfl,D,d,g,f⟩;have r:=ah (And.intro d (And.intro g f));clear d g f;go_wp2;go_ret;refine ⟨by rw [i.o];simp,D,r.o.1,by rw [i.o];exact r.o.2.1,j.o.2.trans r.o.2.2⟩
theorem kR (a:M0 base S h G L w) (k:Wk h) (t:MP h No):
 Calls Tryz.prog 141 #[.pointer (some ⟨L.H,0,none⟩)] w fun e w'=>e=.returned (.tuple #[])/\∃ L',Nf L L'/\M0 base S h.drain G L' w'/\Keeps w w' S:=by
 have E:Hq (Wk h/\MP h No/\Nf L L/\M0 base S h G L w/\Keeps w w S):=ah ⟨k,t,Nf.refl L,a,Keeps.refl _ _⟩;clear a k t;go_enter Tryz.func141,Tryz.ntmps141;go_wp2
 go_loopg [] h.mu (fun m wr=>∃ (q:Hp) (L':PM),Hq (q.mu=m/\q.drain=h.drain/\Wk q/\MP q No/\Nf L L'/\M0 base S q G L' wr/\Keeps w wr S))
 case atStart=>exact ⟨h,L,rfl,rfl,E.o⟩
 case round=>
  obtain ⟨q,W,HI⟩:=hrel;clear E;obtain ⟨H1,J,T,P,Q⟩:=W;obtain rfl:H1=L.H:=HI.out.2.2.2.2.1.H;obtain rfl:J=L.tb:=HI.out.2.2.2.2.1.tb;by_cases r:q.grey=[]
  ·have d:=HI.out.2.2.2.2.2.1
   obtain ⟨A,f,p,-⟩:=d.II (k:=11) (by simp [eF]);rw [show eU q G 11=[] from r] at p;have u:wr.cell? ⟨L.H,11,none⟩=some (.slice A 0 f):=by
    have:=d.hp.c 11;rw [this];exact congrArg some p
   have F:=ah (fB wr L.H 11 A 0 f u);rw [show (((0:Nat):Int)==0)=true from rfl] at F;have Z:=ah (q.J2 r);clear d p r u;go_wp2_with fail;refine F.o.mono ?_;rintro U N ⟨rfl,rfl⟩;go_wp2;go_end0;exact ⟨rfl,_,HI.out.2.2.2.2.1,by rw [<-HI.out.2.1,Z.o];exact HI.out.2.2.2.2.2.1,HI.out.2.2.2.2.2.2⟩
  ·obtain ⟨i,n,b⟩:∃ i n,q.grey=i++[n]:=⟨_,_,(List.dropLast_concat_getLast r).symm⟩
   have d:=HI.out.2.2.2.2.2.1;obtain ⟨g,f,p,C,B,j,x⟩:=d.pop (k:=11) (by simp [kI]) b;have u:wr.cell? ⟨L.H,11,none⟩=some (.slice (some ⟨g,0,none⟩) (i.length+1) f):=by
    have:=d.hp.c 11;rw [this];exact congrArg some p
   have R:i.length<=20000:=by
    have:=HI.out.2.2.1.s.nu;simp only [Hp.nu,Hp.mu,b,aT,List.length_singleton] at this;omega
   have F:=ah (fB wr L.H 11 (some ⟨g,0,none⟩) (i.length+1) f u);rw [show (((i.length+1:Nat):Int)==0)=false by simp;omega] at F;have X:=ah (kg wr L.H 11 g i.length f (L.tb n) u (d.hp.ME 11) B (by omega) C);have l:=ah (qh j (HI.out.2.2.1.pop b).1 (HI.out.2.2.1.pop b).2.1 n (HI.out.2.2.1.pop b).2.2);rw [show iN q 11 i={ q with grey:=i } from rfl,<-Hp.JI b] at l;have K:=ah x;have M:=ah r;have Y:=ah b;clear p j x r b B u d;go_wp2_with fail;refine F.o.mono ?_;rintro U N ⟨rfl,rfl⟩;go_wp2_with fail;refine X.o.mono ?_;rintro e3 w3 ⟨rfl,rfl⟩;generalize N.setCell ⟨L.H,11,none⟩ (.slice (some ⟨g,0,none⟩) i.length f)=w4 at *;go_wp2_with fail;refine l.o.mono ?_;rintro e9 w5 ⟨rfl,V,y,D,z⟩;have v:=ah (And.intro y (And.intro D z));clear y D z l;go_wp2
   go_roundg q.take.1.mu
   case rel=>
    refine ⟨q.take.1,V,rfl,?_,HI.out.2.2.1.take HI.out.2.2.2.1 M.o,HI.out.2.2.2.1.take,?_,v.o.2.1,?_⟩
    ·rw [<-q.Jg M.o];exact HI.out.2.1
    ·exact HI.out.2.2.2.2.1.trans ⟨v.o.1.H,v.o.1.tb,v.o.1.es,v.o.1.mp⟩
    ·exact (HI.out.2.2.2.2.2.2.trans K.o).trans v.o.2.2
   case measure=>
    have:=q.IX M.o;have:=HI.out.1;omega
end
section
variable {G:Gh} {L:PM} {S:Nat->Prop} {base:Nat} {h:Hp} {w:World}
theorem xE (a:M0 base S h G L w) (k:Wk h) (t:MP h No):
 Calls Tryz.prog 151 #[.pointer (some ⟨L.H,0,none⟩)] w fun e w'=>e=.returned (.bool (Hp.over 0 (h,false)).2)/\∃ L',Nf L L'/\M0 base S (Hp.over 0 (h,false)).1 G L' w'/\Keeps w w' S:=by
 have l:Hq (Wk h/\MP h No/\Nf L L/\M0 base S h G L w/\Keeps w w S):=ah ⟨k,t,Nf.refl L,a,Keeps.refl _ _⟩;clear a k t;go_enter Tryz.func151,Tryz.ntmps151;go_wp2
 go_loopg [3,4] (h.mu+h.G8.length) (fun m bv jv wr=>∃ (j:Nat) (D:Bool) (b:Hp) (L':PM),jv=.int .i64 (j:Int)/\bv=.bool D/\Hq (m=b.mu+b.G8.length-j/\Hp.over j (b,D)=Hp.over 0 (h,false)/\Wk b/\MP b No/\Nf L L'/\M0 base S b G L' wr/\Keeps w wr S/\j<=100000))
 case atStart=>exact ⟨0,false,h,L,rfl,rfl,by omega,rfl,l.o.1,l.o.2.1,l.o.2.2.1,l.o.2.2.2.1,l.o.2.2.2.2,by omega⟩
 case round=>
  obtain ⟨j,D,b,L3,rfl,rfl,d⟩:=hrel;clear l;obtain ⟨H3,T,X,U,a6⟩:=L3;obtain rfl:H3=L.H:=d.o.2.2.2.2.1.H;obtain rfl:T=L.tb:=d.o.2.2.2.2.1.tb;obtain rfl:X=L.es:=d.o.2.2.2.2.1.es;obtain rfl:U=L.mp:=d.o.2.2.2.2.1.mp;have i:=d.o.2.2.2.2.2.1;obtain ⟨A,Y,V,a2,r⟩:=i.II (k:=14) (by simp [eF]);have a9:b.G8.length<=20000:=by
   have:=d.o.2.2.1.s.nu;simp only [Hp.nu] at this;omega
  have a8:=d.o.2.2.2.2.2.2.2;have b1:wr.cell? ⟨L.H,14,none⟩=some (.slice A b.G8.length Y):=by
   have:=i.hp.c 14;rw [this];exact congrArg some V
  by_cases K:j<b.G8.length
  ·obtain ⟨g,rfl,-,M⟩:=r j _ (aN (show j<(eU b G 14).length from K))
   have W:=d.o.2.2.2.1.ll _ (.inr (.inr (.inr (List.getElem_mem K))));have y:=ah (Hp.JH j (b,D) K);have z:=ah (Hp.J4 j (b,D) K);have a1:wr.cell? ⟨g,j,none⟩=some (.pointer (some ⟨L.tb (b.G8[j]),0,none⟩)):=M;clear M r;generalize b.G8[j]=n at *;obtain ⟨o,ho⟩:=W;have N:=Hp.JU ho;have v:=ah (mQ i ho (iP.of d.o.2.2.1.c ho) (d.o.2.2.1.s.es n o ho) (by have:=d.o.2.2.1.s.nu;omega));simp only [N] at y z;have a7:(j:Int)<(b.G8.length:Int):=by omega
   have f:=ah (And.intro (d.o.2.2.1.spread o.es) (d.o.2.2.2.1.MQ (Mt.spread b o.es)));have B:Hq ((b.spread o.es).1.mu=b.mu/\(b.spread o.es).1.G8=b.G8):=ah ⟨Hp.Il b o.es,(Hp.Ih b o.es).1⟩;clear i ho N V;cases hs2:(b.spread o.es).2 with
   |false=>
    have E:=ah (z.o hs2);rw [hs2] at v;clear hs2 z y;go_wp2_with fail;refine v.o.mono ?_;rintro e9 w4 ⟨rfl,Z,p,u,q⟩;have C:=ah (And.intro p (And.intro u q));clear p u q;go_wp2
    go_roundg (b.mu+b.G8.length-(j+1))
    case rel=>
     refine ⟨j+1,D,(b.spread o.es).1,Z,by simp,rfl,?_,E.o.symm.trans d.o.2.1,f.o.1,f.o.2,d.o.2.2.2.2.1.trans C.o.1.x,C.o.2.1,d.o.2.2.2.2.2.2.1.trans C.o.2.2,by omega⟩;rw [B.o.1,B.o.2]
    case measure=>
     have:=d.o.1;omega
   |true=>
    have E:=ah (y.o hs2);rw [hs2] at v;clear hs2 z y;go_wp2_with fail;refine v.o.mono ?_;rintro e9 w4 ⟨rfl,Z,p,u,q⟩;have C:=ah (And.intro p (And.intro u q));clear p u q;obtain ⟨H5,a3,b0,a4,a5⟩:=Z;obtain rfl:H5=L.H:=C.o.1.H;have R:=ah (kR C.o.2.1 f.o.1 f.o.2);go_wp2_with fail;refine R.o.mono ?_;rintro e9 w6 ⟨rfl,L6,F,P,J⟩;have H6:=ah (And.intro F (And.intro P J));clear F P J R;go_wp2
    go_roundg ((b.spread o.es).1.drain.mu+(b.spread o.es).1.drain.G8.length-(j+1))
    case rel=>
     exact ⟨j+1,true,(b.spread o.es).1.drain,L6,by simp,rfl,rfl,E.o.symm.trans d.o.2.1,f.o.1.drain f.o.2,f.o.2.drain,d.o.2.2.2.2.1.trans (C.o.1.x.trans H6.o.1),H6.o.2.1,(d.o.2.2.2.2.2.2.1.trans C.o.2.2).trans H6.o.2.2,by omega⟩
    case measure=>
     have h1:=d.o.1;have h2:=Hp.Jd (b.spread o.es).1;rw [B.o.1,B.o.2] at h2;omega
  ·have Q:=ah ((Hp.JG j (b,D) K).symm.trans d.o.2.1)
   have a0:=ah i;clear i r V;go_wp2;go_ret;exact ⟨by rw [<-Q.o];rfl,_,d.o.2.2.2.2.1,by rw [<-Q.o];exact a0.o,d.o.2.2.2.2.2.2.1⟩
theorem mU (a:M0 base S h G L w) (k:Wk h) (t:MP h No):
 Calls Tryz.prog 143 #[.pointer (some ⟨L.H,0,none⟩)] w fun e w'=>e=.returned (.tuple #[])/\∃ L',Nf L L'/\M0 base S h.settle G L' w'/\Keeps w w' S:=by
 have u:=ah (kR a k t);have g:=ah (And.intro (k.drain t) t.drain);clear a k t;go_enter Tryz.func143,Tryz.ntmps143;go_wp2_with fail;refine u.o.mono ?_;rintro s w1 ⟨rfl,C,j,n,l⟩;have v:=ah (And.intro j (And.intro n l));clear j n l u;go_wp2
 go_loopg [] (h.drain.mu+1) (fun m wr=>∃ (q:Hp) (L':PM),Hq (m=q.mu+1/\q.turns=h.settle/\Wk q/\MP q No/\Nf L L'/\M0 base S q G L' wr/\Keeps w wr S))
 case atStart=>exact ⟨h.drain,C,rfl,rfl,g.o.1,g.o.2,v.o⟩
 case round=>
  obtain ⟨q,B,HI⟩:=hrel;clear g v;obtain ⟨E,x,A,y,z⟩:=B;obtain rfl:E=L.H:=HI.out.2.2.2.2.1.H;have f:=ah (xE HI.out.2.2.2.2.2.1 HI.out.2.2.1 HI.out.2.2.2.1);cases hb:(Hp.over 0 (q,false)).2 with
  |false=>
   rw [hb] at f;have r:=ah (Hp.J9 q hb);clear hb;go_wp2_with fail;refine f.o.mono ?_;rintro s w4 ⟨rfl,p,b,d,c⟩;have i:=ah (And.intro b (And.intro d c));clear b d c;go_wp2;go_end0;exact ⟨rfl,p,HI.out.2.2.2.2.1.trans i.o.1,by rw [<-HI.out.2.1,r.o];exact i.o.2.1,HI.out.2.2.2.2.2.2.trans i.o.2.2⟩
  |true=>
   rw [hb] at f;have r:=ah (Hp.Jy HI.out.2.2.2.1 hb);have D:=ah (Hp.Jv HI.out.2.2.2.1 hb);clear hb;go_wp2_with fail;refine f.o.mono ?_;rintro s w4 ⟨rfl,p,b,d,c⟩;have i:=ah (And.intro b (And.intro d c));clear b d c;go_wp2
   go_roundg ((Hp.over 0 (q,false)).1.mu+1)
   case rel=>
    refine ⟨(Hp.over 0 (q,false)).1,p,rfl,?_,HI.out.2.2.1.over HI.out.2.2.2.1,HI.out.2.2.2.1.over,HI.out.2.2.2.2.1.trans i.o.1,i.o.2.1,HI.out.2.2.2.2.2.2.trans i.o.2.2⟩;rw [<-HI.out.2.1,r.o]
   case measure=>
    have:=HI.out.1;have:=D.o;omega
end
section
variable {G:Gh} {L:PM} {S:Nat->Prop} {base:Nat} {h:Hp} {w:World}
theorem qz (a:M0 base S h G L w) (hl:∀ n∈h.pending,h.Lv n) (R:h.nu<=20000) (a3:h.pending.length<=20000):
 Calls Tryz.prog 133 #[.pointer (some ⟨L.H,0,none⟩)] w fun e w'=>e=.returned (.tuple #[])/\∃ L',MJ 11 L L'/\M0 base S (h.Hu h.pending) G L' w'/\Keeps w w' S:=by
 obtain ⟨A,r,P,a2,-⟩:=a.II (k:=16) (by simp [eF]);have ck:w.cell? ⟨L.H,16,none⟩=some (.slice A h.pending.length r):=by
  have:=a.hp.c 16;rw [this];exact congrArg some P
 have HA:=ah a;have HL:=ah hl;have HV:Hq (L.li 16=.slice A h.pending.length r):=ah P;clear a hl P;go_enter Tryz.func133,Tryz.ntmps133;go_wp2;go_loopw [10] (fun iv wr=>∃ i:Nat,i<=h.pending.length/\iv=.int .i64 i/\Hq (∃ li',M0 base S ((h.pending.take i).foldl Hp.mark h) G ⟨L.H,L.tb,L.es,L.mp,li'⟩ wr/\(∀ j,j≠11->li' j=L.li j)/\Keeps w wr S)) (fun iv _=>h.pending.length-bF iv)
 case atStart=>exact ⟨0,by omega,rfl,L.li,HA.o,fun _ _=>rfl,Keeps.refl _ _⟩
 case round=>
  obtain ⟨i,a4,rfl,HI⟩:=hrel;by_cases T:i<h.pending.length
  ·obtain ⟨n,J⟩:∃ n,h.pending[i]?=some n:=⟨_,aN T⟩
   have v:=bD J;obtain ⟨s,d,f,p⟩:=HI.out;have m:=M7.fold Hp.mark (fun h x=>M7.mark h x) (h.pending.take i) h;have z:((h.pending.take i).foldl Hp.mark h).nu<=20000:=aI (aO (dO Hp.mark Hp.Ir _ _)) R;obtain ⟨q,Q⟩:∃ q,(h.pending.take i).foldl Hp.mark h=q:=⟨_,rfl⟩
   rw [Q] at d m z;obtain ⟨A1,E,t,V,l⟩:=d.II (k:=16) (by simp [eF]);have u:s 16=.slice A h.pending.length r:=(f 16 (by decide)).trans HV.out;have y:eU q G 16=h.pending:=m.pending;rw [y] at t l;obtain ⟨rfl,rfl⟩:A1=A/\E=r:=by
    have h9:=t.symm.trans u;simp at h9;exact h9
   obtain ⟨g,rfl,a0,C⟩:=l i n J;have a1:wr.cell? ⟨g,i,none⟩=some (.iface 127 (.pointer (some ⟨L.tb n,0,none⟩))):=C;obtain ⟨o,ho⟩:=(m.lv n).2 (HL.o n (aX J));have X:=ah (jW d ho (aI (jq q) (by omega)));have HF:Hq ((h.pending.take (i+1)).foldl Hp.mark h=q.mark n):=ah (by rw [v,bE,Q]);have Y:=ah f;have Z:=ah p;clear Q m v d p f C l t u y ho HI J z;go_wp2_with fail;refine X.o.mono ?_;rintro e9 w6 ⟨rfl,⟨F,K,W,M,N⟩,b,D,B⟩;obtain rfl:F=L.H:=b.H;obtain rfl:K=L.tb:=b.tb;obtain rfl:W=L.es:=b.es;obtain rfl:M=L.mp:=b.mp;have F:=ah (And.intro b.li (And.intro D B));clear b D B;go_wp2;go_roundw
   case rel=>
    exact ⟨i+1,by omega,by simp,N,by rw [HF.o];exact F.o.2.1,fun j hj=>(F.o.1 j hj).trans (Y.o j hj),Z.o.trans F.o.2.2⟩
   case measure=>simp [bF];omega
  ·have U:i=h.pending.length:=by omega
   subst U;rw [bf] at HI;go_wp2;go_end0;obtain ⟨s,d,f,p⟩:=HI.out;exact ⟨rfl,⟨L.H,L.tb,L.es,L.mp,s⟩,⟨rfl,rfl,rfl,rfl,f⟩,d,p⟩
theorem og (a:M0 base S h G L w) (hl:∀ n∈h.roots,h.Lv n) (F:h.nu<=20000) (a5:h.roots.length<=20000) (W:∀ n∈h.pending,h.Lv n) (V:h.pending.length<=20000):
 Calls Tryz.prog 113 #[.pointer (some ⟨L.H,0,none⟩)] w fun e w'=>e=.returned (.tuple #[])/\∃ L',MJ 11 L L'/\M0 base S h.alive G L' w'/\Keeps w w' S:=by
 obtain ⟨A,t,T,a4,-⟩:=a.II (k:=10) (by simp [eF]);have ck:w.cell? ⟨L.H,10,none⟩=some (.slice A h.roots.length t):=by
  have:=a.hp.c 10;rw [this];exact congrArg some T
 have HA:=ah a;have HL:=ah hl;have HV:Hq (L.li 10=.slice A h.roots.length t):=ah T;clear a hl T;go_enter Tryz.func113,Tryz.ntmps113;go_wp2;go_loopw [9] (fun iv wr=>∃ i:Nat,i<=h.roots.length/\iv=.int .i64 i/\Hq (∃ li',M0 base S ((h.roots.take i).foldl Hp.mark h) G ⟨L.H,L.tb,L.es,L.mp,li'⟩ wr/\(∀ j,j≠11->li' j=L.li j)/\Keeps w wr S)) (fun iv _=>h.roots.length-bF iv)
 case atStart=>exact ⟨0,by omega,rfl,L.li,HA.o,fun _ _=>rfl,Keeps.refl _ _⟩
 case round=>
  obtain ⟨i,a6,rfl,HI⟩:=hrel;by_cases X:i<h.roots.length
  ·obtain ⟨n,N⟩:∃ n,h.roots[i]?=some n:=⟨_,aN X⟩
   have D:=bD N;obtain ⟨v,f,l,m⟩:=HI.out;have b:=M7.fold Hp.mark (fun h x=>M7.mark h x) (h.roots.take i) h;have J:((h.roots.take i).foldl Hp.mark h).nu<=20000:=aI (aO (dO Hp.mark Hp.Ir _ _)) F;obtain ⟨q,U⟩:∃ q,(h.roots.take i).foldl Hp.mark h=q:=⟨_,rfl⟩
   rw [U] at f b J;obtain ⟨A1,M,y,Z,r⟩:=f.II (k:=10) (by simp [eF]);have C:v 10=.slice A h.roots.length t:=(l 10 (by decide)).trans HV.out;have E:eU q G 10=h.roots:=b.roots;rw [E] at y r;obtain ⟨rfl,rfl⟩:A1=A/\M=t:=by
    have h9:=y.symm.trans C;simp at h9;exact h9
   obtain ⟨g,rfl,a2,K⟩:=r i n N;have a3:wr.cell? ⟨g,i,none⟩=some (.iface 127 (.pointer (some ⟨L.tb n,0,none⟩))):=K;obtain ⟨o,ho⟩:=(b.lv n).2 (HL.o n (aX N));have a1:=ah (jW f ho (aI (jq q) (by omega)));have HF:Hq ((h.roots.take (i+1)).foldl Hp.mark h=q.mark n):=ah (by rw [D,bE,U]);have z:=ah l;have B:=ah m;clear U b D f m l K r y C E ho HI N J;go_wp2_with fail;refine a1.o.mono ?_;rintro e9 w6 ⟨rfl,⟨u,P,a0,Q,R⟩,d,s,p⟩;obtain rfl:u=L.H:=d.H;obtain rfl:P=L.tb:=d.tb;obtain rfl:a0=L.es:=d.es;obtain rfl:Q=L.mp:=d.mp;have u:=ah (And.intro d.li (And.intro s p));clear d s p;go_wp2;go_roundw
   case rel=>
    exact ⟨i+1,by omega,by simp,R,by rw [HF.o];exact u.o.2.1,fun j hj=>(u.o.1 j hj).trans (z.o j hj),B.o.trans u.o.2.2⟩
   case measure=>simp [bF];omega
  ·have Y:i=h.roots.length:=by omega
   subst Y;rw [bf] at HI;obtain ⟨v,f,l,m⟩:=HI.out;have b:=M7.fold Hp.mark (fun h x=>M7.mark h x) h.roots h;have HW:=ah (qz f (fun n hn=>(b.lv n).2 (W n (by rw [<-b.pending];exact hn))) (aI (aO (dO Hp.mark Hp.Ir _ _)) F) (by rw [b.pending];exact V));have HE:Hq (h.alive=(h.roots.foldl Hp.mark h).Hu (h.roots.foldl Hp.mark h).pending):=ah (by rw [b.pending];rfl);have z:=ah l;have B:=ah m;clear f l m b HI;go_wp2_with fail;refine HW.o.mono ?_;rintro e9 w6 ⟨rfl,L6,d,s,p⟩;have u:=ah (And.intro d (And.intro s p));clear d s p;go_wp2;go_end0;exact ⟨rfl,L6,MJ.trans (L':=⟨L.H,L.tb,L.es,L.mp,v⟩) ⟨rfl,rfl,rfl,rfl,z.o⟩ u.o.1,by rw [HE.o];exact u.o.2.1,B.o.trans u.o.2.2⟩
theorem M0.aux (a:M0 base S h G L w) (l:List Nat) (s:Nat):M0 base S { h with again:=l,G9:=s } G L w:=
 ⟨a.hp,a.ob,a.en,a.mp,a.li,a.ij,a.ei,a.mi,a.lj,a.bH,a.bt,a.bm,a.bs,a.sH,a.st,a.se,a.sm,a.sl,a.up⟩
theorem vG (l:List Nat) (h:Hp):(l.foldl Hp.Hr h).grey.length=h.grey.length+l.length:=by
 induction l generalizing h with
 |nil=>rfl
 |cons a l ih=>
  rw [List.foldl_cons,ih];simp [Hp.Hr,Hp.upd];omega
theorem yG (l:List Nat) (h:Hp) (n:Nat):(l.foldl Hp.Hr h).Lv n↔h.Lv n:=by
 induction l generalizing h with
 |nil=>exact Iff.rfl
 |cons a l ih=>
  rw [List.foldl_cons,ih];show (∃ o,(h.upd a _).ob n=some o)↔_;unfold Hp.Lv;rw [Hp.Ho];split
  ·cases h.ob n<;>simp
  ·rfl
theorem xH (a:M0 base S h G L w) (y:G.ag=h.again) (hl:∀ n∈h.again,h.Lv n) (b1:h.nu+h.again.length<=20000):
 Calls Tryz.prog 142 #[.pointer (some ⟨L.H,0,none⟩)] w fun e w'=>e=.returned (.tuple #[])/\∃ L',MJ 11 L L'/\M0 base S h.He G L' w'/\Keeps w w' S:=by
 obtain ⟨A,t,Q,a9,-⟩:=a.II (k:=12) (by simp [eF]);rw [show eU h G 12=h.again from y] at Q;have b0:h.again.length<=20000:=by omega
 have b3:h.grey.length<=20000:=aI (jq h) (by omega);have ck:w.cell? ⟨L.H,12,none⟩=some (.slice A h.again.length t):=by
  have:=a.hp.c 12;rw [this];exact congrArg some Q
 have HA:=ah a;have HL:=ah hl;have a5:=ah y;have HV:Hq (L.li 12=.slice A h.again.length t):=ah Q;clear a hl Q y;go_enter Tryz.func142,Tryz.ntmps142;go_wp2;go_loopw [10] (fun iv wr=>∃ i:Nat,i<=h.again.length/\iv=.int .i64 i/\Hq (∃ li',M0 base S ((h.again.take i).foldl Hp.Hr h) G ⟨L.H,L.tb,L.es,L.mp,li'⟩ wr/\(∀ j,j≠11->li' j=L.li j)/\Keeps w wr S)) (fun iv _=>h.again.length-bF iv)
 case atStart=>exact ⟨0,by omega,rfl,L.li,HA.o,fun _ _=>rfl,Keeps.refl _ _⟩
 case round=>
  obtain ⟨i,b2,rfl,HI⟩:=hrel;by_cases Y:i<h.again.length
  ·obtain ⟨n,R⟩:∃ n,h.again[i]?=some n:=⟨_,aN Y⟩
   have C:=bD R;obtain ⟨m,d,b,s⟩:=HI.out;have x:=vG (h.again.take i) h;have v:=yG (h.again.take i) h n;obtain ⟨q,W⟩:∃ q,(h.again.take i).foldl Hp.Hr h=q:=⟨_,rfl⟩
   rw [W] at d x v;obtain ⟨A1,M,u,a0,r⟩:=d.II (k:=12) (by simp [eF]);have B:m 12=.slice A h.again.length t:=(b 12 (by decide)).trans HV.out;have E:eU q G 12=h.again:=a5.o;rw [E] at u r;obtain ⟨rfl,rfl⟩:A1=A/\M=t:=by
    have h9:=u.symm.trans B;simp at h9;exact h9
   obtain ⟨g,rfl,a7,J⟩:=r i n R;have a8:wr.cell? ⟨g,i,none⟩=some (.iface 127 (.pointer (some ⟨L.tb n,0,none⟩))):=J;obtain ⟨o,ho⟩:=v.2 (HL.o n (aX R));have b4:q.grey.length<=40000:=by
    rw [x,bY];omega
   have t0:wr.cell? ⟨L.tb n,0,none⟩=some (.int .i64 (o.col:Int)):=(d.ob n o ho).c 0;have z0:=(d.ob n o ho).ME 0;have f:=ah (d.Mk n 0 (.int .i64 2) (fun o=>{ o with col:=2 }) (by decide) ho ⟨rfl,rfl⟩ (dz _ rfl rfl rfl rfl rfl rfl rfl rfl rfl rfl rfl rfl rfl));have X:=iO (L.tb n);have a4:=ah (gV wr (L.tb n));have HF:Hq ((h.again.take (i+1)).foldl Hp.Hr h=q.Hr n):=ah (by rw [C,bE,W]);have a2:=ah b;have a3:=ah s;clear W C d s b J r u B E ho HI R x v;go_wp2_with fail;refine a4.o.mono ?_;rintro e2 w2 ⟨rfl,rfl⟩;go_upto_region 4 with (fail)
   generalize w2.setCell ⟨L.tb n,0,none⟩ (.int .i64 2)=w3 at *;have N:w3.cell? ⟨L.H,11,none⟩=some (m 11):=f.o.1.hp.c 11;have z:=f.o.1.hp.ME 11;have b:=f.o.1.li 11 (by simp [eF]);have p:((eU (q.upd n fun o=>{ o with col:=2 }) G 11).map (eP L.tb 11)).length=(eU (q.upd n fun o=>{ o with col:=2 }) G 11).length:=by simp
   have a6:=ah (iI w3 base L.H 11 (m 11) ((eU (q.upd n fun o=>{ o with col:=2 }) G 11).map (eP L.tb 11)) (L.tb n) N z (by rw [p];exact b) (fun e=>ak b f.o.1.hp (by decide) e) (by rw [p];show q.grey.length<=1000000;omega) f.o.1.bs);clear b p N z t0 z0 X;go_wp2_with fail;refine a6.o.mono ?_;intro e4 w4 D;obtain ⟨rfl,⟨P,T,a1,U,V⟩,l,K,F⟩:=f.o.1.add (k:=11) (by simp [kI]) (n:=n) D;obtain rfl:P=L.H:=l.H;obtain rfl:T=L.tb:=l.tb;obtain rfl:a1=L.es:=l.es;obtain rfl:U=L.mp:=l.mp;have P:=ah (And.intro l.li (And.intro K F));clear D l K F;go_wp2;go_roundw
   case rel=>
    exact ⟨i+1,by omega,by simp,V,by rw [HF.o];exact P.o.2.1,fun j hj=>(P.o.1 j hj).trans (a2.o j hj),(a3.o.trans f.o.2).trans P.o.2.2⟩
   case measure=>simp [bF];omega
  ·have Z:i=h.again.length:=by omega
   subst Z;rw [bf] at HI;go_wp2;go_end0;obtain ⟨m,d,b,s⟩:=HI.out;exact ⟨rfl,⟨L.H,L.tb,L.es,L.mp,m⟩,⟨rfl,rfl,rfl,rfl,b⟩,d.aux [] _,s⟩
end
end Go.Proofs.YtbpcdfbmnklcjaaGreatDoor
