import Derived.Test.YtbpcdfbmnklcjaaGreatDoorKHSG2
namespace Go.Proofs.YtbpcdfbmnklcjaaGreatDoor
open Go Go.RowKit
set_option maxHeartbeats 6400000
set_option maxRecDepth 100000
set_option linter.unusedVariables false
variable {S:Nat->Prop} {base:Nat} {g h:Hp}
theorem Wk.of (s:Sm h) (t:M5 h No) (z:h.ob 0=none) (p:1<=h.objs.length) (m:∀ n o,h.ob n=some o->o.mode<=3):Wk h:=⟨s,z,p,t.cl,m,t.ll⟩
theorem Wk.alive {h:Hp} (k:Wk h):Wk h.alive:=k.Mq (Nk.alive h) (by
 show ((h.Ho h.roots).Ho h.pending).nu<=h.nu;rw [show ((h.Ho h.roots).Ho h.pending).nu=(h.Ho h.roots).nu from dQ Hp.mark Hp.Io _ _,show (h.Ho h.roots).nu=h.nu from dQ Hp.mark Hp.Io _ _];exact au _)
theorem Wk.look (k:Wk h) (t:M5 h No):Wk h.G8:=by
 have x:=kD.G8 h;exact Wk.of k.s.G8 t.G8 (Np.zero x k.z) (by rw [show h.G8.objs.length=h.objs.length from x.len];exact k.p) (Np.md x k.m)
theorem Wk.settle {h:Hp} (k:Wk h) (t:M5 h No):Wk h.settle:=k.M7 (Np.settle h) h.JY t.settle.ll
theorem MU.closed (x:MU h g) (c:h.Closed):g.Closed:=by
 intro m n e en d r hr;rcases x.ob m with ⟨y,_⟩|⟨o1,o2,b,l,_,_,_,f,k,j⟩
 ·rw [e] at y;cases y
 ·rw [e] at b;cases b
  rw [j] at d;obtain ⟨i,a,rfl⟩:=List.mem_map.1 d;exact (x.lv r).2 (c m o1 l i a r ((k i).refs r hr))
theorem MU.zero (x:MU h g) (z:h.ob 0=none):g.ob 0=none:=by
 rcases x.ob 0 with ⟨y,_⟩|⟨_,_,_,y,_⟩
 ·exact y
 ·rw [z] at y;cases y
theorem MU.wn {h g:Hp} (x:MU h g):g.wn=h.wn:=nk x.len (fun n=>by
 rcases x.ob n with ⟨y,d⟩|⟨o1,o2,c,b,a,_⟩
 ·rw [y,d]
 ·rw [c,b];simp [a])
theorem Sm.cnt (s:Sm h) (x:MU h g):Sm g:=by
 refine ⟨by rw [x.len];exact s.len,?_,by rw [x.finals,x.pending];exact s.fp,by rw [x.freed,x.live];exact s.fr,by rw [x.bytes];exact s.Nh,by rw [x.GY];exact s.cr,by rw [x.limit];exact s.lim,by rw [x.roots];exact s.rt,fun n o e=>?_⟩
 ·have:=s.nu
  simp only [Hp.nu,Hp.mu] at this ⊢;rw [x.wn,x.grey,x.GZ,x.weak,x.again];exact this
 ·rcases x.ob n with ⟨y,_⟩|⟨o1,o2,a,c,_,_,_,f,_,b⟩
  ·rw [e] at y;cases y
  ·rw [e] at a;cases a
   rw [b,bI];exact s.es n o1 c
theorem Wk.cnt {h g:Hp} (k:Wk h) (x:MU h g):Wk g:=
 ⟨k.s.cnt x,x.zero k.z,by rw [x.len];exact k.p,x.closed k.c,x.md k.m,fun n hn=>(x.lv n).2 (k.l n (by rw [x.grey,x.again,x.weak,x.GZ] at hn;exact hn))⟩
theorem Wk.at2 {h:Hp} (k:Wk h) (t:M5 h No):Wk h.at2:=by
 have c:=MU.fold bT bZ h.weak h;refine Wk.of (show Sm (h.weak.foldl Hp.Mv h).Hr from (k.s.cnt c).Hr) t.at2 ?_ (by rw [(d_ h).2.2.2.2.2.2.2];exact k.p) (Hp.JO (c.md k.m));cases e:h.at2.ob 0 with
 |none=>rfl
 |some o=>
  obtain ⟨b,a⟩:=(nV h 0).1 ⟨o,e⟩;rw [k.z] at a;cases a
structure Mi (h:Hp):Prop where
 k:Wk h
 t:M5 h No
 l:∀ n,n∈h.roots∨n∈h.pending∨n∈h.finals->h.Lv n
 w:h.white<=1
theorem uR {L:SM} {w:World} (a:MW base S h L w) (x:Mi h):
 Calls Tryz.prog 65 #[.pointer (some ⟨L.H,0,none⟩)] w fun e w'=>e=.returned (.tuple #[])/\∃ L',L'.H=L.H/\MW base S h.atomic L' w'/\Keeps w w' S:=by
 have hrl:=x.k.s.rt;have v2:=x.k.s.fp;obtain ⟨AR,r6,u6,v7,-⟩:=a.Lg;have c13:w.cell? ⟨L.H,13,none⟩=some (.slice AR h.roots.length r6):=by
  rw [<-u6];exact a.hp.c 13
 have HRS:=ah u6;have HX:=ah x;have c2:=ah (v.intro a (v.intro x.k.s (v.intro x.k.z (v.intro (show ∀ n∈h.roots,n<h.objs.length from fun n hn=>by obtain ⟨o,e⟩:=x.l n (.inl hn);exact Hp.Hy e) (show ∀ n∈h.pending,n<h.objs.length from fun n hn=>by obtain ⟨o,e⟩:=x.l n (.inr (.inl hn));exact Hp.Hy e)))));clear a u6 x;go_enter Tryz.func65,Tryz.ntmps65;go_wp2;go_loopw [21,3] (fun iv vv wr=>∃ i:Nat,i<=h.roots.length/\iv=.int .i64 i/\Hq (∃ L',Lm L L'/\MW base S ((h.roots.take i).foldl Hp.mark h) L' wr/\Keeps w wr S)) (fun iv _ _=>h.roots.length-bF iv)
 case atStart=>exact ⟨0,by omega,rfl,L,Lm.refl _,c2.o.1,Keeps.refl _ _⟩
 case round=>
  obtain ⟨i,j7,rfl,HI⟩:=hrel;by_cases A:i<h.roots.length
  ·have V:h.roots.take (i+1)=h.roots.take i++[h.roots[i]]:=bE (aN A)
   have HF:Hq ((h.roots.take (i+1)).foldl Hp.mark h=Hp.mark ((h.roots.take i).foldl Hp.mark h) h.roots[i]):=ah (by rw [V,bD]);have Y:=c2.o.2.2.2.1 _ (List.getElem_mem A);have D:=Np.fold Hp.mark Np.mark (h.roots.take i) h;have a5:=c2.o.2.1.foldM Hp.mark (fun h x s=>s.mark x) (h.roots.take i) h c2.o.2.1;obtain ⟨L1,B,f,m⟩:=HI.out;obtain ⟨q,hq⟩:∃ q,(h.roots.take i).foldl Hp.mark h=q:=⟨_,rfl⟩
   rw [hq] at D a5 f HF;clear V;have hrg:=f.Lg;obtain ⟨A1,e4,a3,j9,M⟩:=hrg;have X:q.roots=h.roots:=D.roots;rw [X] at a3;have:A1=AR/\e4=r6:=by
    have h9:=a3.symm.trans (B.rS.trans HRS.o);simp only [Value.slice.injEq] at h9;exact ⟨h9.1,h9.2.2⟩
   obtain ⟨rfl,rfl⟩:=this;obtain ⟨g,rfl,N⟩:=M i h.roots[i] (by rw [X];exact aN A);generalize h.roots[i]=n at *;have d0:=N 0 _ rfl;have d1:=N 1 _ rfl;have d2:=N 2 _ rfl;have d3:=N 3 _ rfl;have d4:=N 4 _ rfl;simp only [Nat.add_zero] at d0;obtain ⟨H1,i7,a2,k9,i8,i4⟩:=L1;obtain rfl:H1=L.H:=B.H;have e5:=ah (fE (f.alloc (.cells #[.int .i64 (vk (some (l1.inr n):HV)),.int .i64 (vi (some (l1.inr n):HV)),.int .u64 0,.string f4.empty,.int .i64 (vr (some (l1.inr n):HV))] 95)) a5 (D.zero c2.o.2.2.1) (some (.inr n)) (by rw [D.len];exact Y));have F:=ah (v.intro B (m.trans (Keeps.of (aU wr (.cells #[.int .i64 (vk (some (l1.inr n):HV)),.int .i64 (vi (some (l1.inr n):HV)),.int .u64 0,.string f4.empty,.int .i64 (vr (some (l1.inr n):HV))] 95)) (b6 _) S)));clear B f m D a5 a3 M hq N HI X Y;go_wp2_with fail;refine e5.o.mono ?_;rintro e9 w4 ⟨rfl,L4,d9,e1,e0⟩;have H4:=ah (v.intro d9 (v.intro e1 e0));clear d9 e1 e0 e5;go_wp2;go_roundw
   case rel=>
    refine ⟨i+1,by omega,by simp,?_⟩;exact ⟨L4,F.o.1.trans H4.o.1,by rw [HF.o];exact H4.o.2.1,F.o.2.trans H4.o.2.2⟩
   case measure=>simp [bF];omega
  ·obtain rfl:i=h.roots.length:=by omega
   have G:=HI.out;rw [bf] at G;obtain ⟨L6,B,f,m⟩:=G;have f3:Hq (Lm L L6/\MW base S (h.Ho h.roots) L6 wr/\Keeps w wr S):=ah ⟨B,f,m⟩;clear B f m HI;obtain ⟨AP,b4,d7,b9,-⟩:=f3.o.2.1.IC (k:=12) (by simp [eO]);have j3:=Np.Ho h h.roots;have n8:h_ (h.Ho h.roots) 12=h.pending:=j3.pending;rw [n8] at d7 b9;have l0:wr.cell? ⟨L.H,12,none⟩=some (.slice AP h.pending.length b4):=by
    have:=f3.o.2.1.hp.c 12;rw [f3.o.1.H] at this;rw [this];exact congrArg some d7
   have l5:=ah d7;have Z:=ah (v.intro f3.o.2.1 (v.intro (c2.o.2.1.Ho h.roots) (v.intro (j3.zero c2.o.2.2.1) (show ∀ n∈h.pending,n<(h.Ho h.roots).objs.length from by rw [j3.len];exact c2.o.2.2.2.2))));have HK6:=ah f3.o.2.2;have h8:=ah (show (h.Ho h.roots).pending=h.pending from j3.pending);have HAL:Hq (h.alive=(h.Ho h.roots).Ho h.pending):=ah rfl;have hpl2:h.pending.length<=5000:=by omega
   clear j3 n8 d7 HRS;obtain ⟨H6,m4,m3,n0,m5,m2⟩:=L6;obtain rfl:H6=L.H:=f3.o.1.H;clear f3 c2;generalize h.Ho h.roots=q1 at *;generalize h.pending=pd at *;rename World=>w6;go_wp2;go_loopw [34] (fun iv wr=>∃ i:Nat,i<=pd.length/\iv=.int .i64 i/\Hq (∃ L',Lm (⟨L.H,m4,m3,n0,m5,m2⟩:SM) L'/\MW base S ((pd.take i).foldl Hp.mark q1) L' wr/\Keeps w6 wr S)) (fun iv _=>pd.length-bF iv)
   case atStart=>exact ⟨0,by omega,rfl,(⟨L.H,m4,m3,n0,m5,m2⟩:SM),Lm.refl _,Z.o.1,Keeps.refl _ _⟩
   case round=>
    obtain ⟨i,j7,rfl,HI⟩:=hrel;by_cases A:i<pd.length
    ·have V:pd.take (i+1)=pd.take i++[pd[i]]:=bE (aN A)
     have HF:Hq ((pd.take (i+1)).foldl Hp.mark q1=Hp.mark ((pd.take i).foldl Hp.mark q1) pd[i]):=ah (by rw [V,bD]);have Y:=Z.o.2.2.2 _ (List.getElem_mem A);have D:=Np.fold Hp.mark Np.mark (pd.take i) q1;have a5:=Z.o.2.1.foldM Hp.mark (fun h x s=>s.mark x) (pd.take i) q1 Z.o.2.1;obtain ⟨L1,B,f,m⟩:=HI.out;obtain ⟨q,hq⟩:∃ q,(pd.take i).foldl Hp.mark q1=q:=⟨_,rfl⟩
     rw [hq] at D a5 f HF;clear V;obtain ⟨A1,e4,a3,j9,M⟩:=f.IC (k:=12) (by simp [eO]);have X:h_ q 12=pd:=D.pending.trans h8.o;rw [X] at a3;have:A1=AP/\e4=b4:=by
      have h9:=a3.symm.trans ((B.li 12 (by decide) (by decide) (by decide)).trans l5.o);simp only [Value.slice.injEq] at h9;exact ⟨h9.1,h9.2.2⟩
     obtain ⟨rfl,rfl⟩:=this;obtain ⟨g,rfl,a8⟩:=M i (by rw [X];exact A);have g0:wr.cell? ⟨g,i,none⟩=some (.int .i64 ((pd[i]:Nat):Int)):=by
      rw [a8];congr 3;simp only [X]
     generalize pd[i]=n at *;obtain ⟨H1,i7,a2,k9,i8,i4⟩:=L1;obtain rfl:H1=(⟨L.H,m4,m3,n0,m5,m2⟩:SM).H:=B.H;have e5:=ah (jQ f a5 (D.zero Z.o.2.2.1) n (by rw [D.len];exact Y));have F:=ah (v.intro B m);clear B f m D a5 a3 M hq HI X Y a8;go_wp2_with fail;refine e5.o.mono ?_;rintro e9 w4 ⟨rfl,L4,d9,e1,e0⟩;have H4:=ah (v.intro d9 (v.intro e1 e0));clear d9 e1 e0 e5;go_wp2;go_roundw
     case rel=>
      refine ⟨i+1,by omega,by simp,?_⟩;exact ⟨L4,F.o.1.trans H4.o.1,by rw [HF.o];exact H4.o.2.1,F.o.2.trans H4.o.2.2⟩
     case measure=>simp [bF];omega
    ·obtain rfl:i=pd.length:=by omega
     have G:=HI.out;rw [bf] at G;obtain ⟨L7,B,f,m⟩:=G;have n3:Hq (Lm (⟨L.H,m4,m3,n0,m5,m2⟩:SM) L7/\MW base S (q1.Ho pd) L7 wr/\Keeps w6 wr S):=ah ⟨B,f,m⟩;clear B f m HI;rename World=>w7;obtain ⟨H7,oS7,ob7,es7,li7,rS7⟩:=L7;obtain rfl:H7=L.H:=n3.o.1.H;have HA7:Hq (MW base S h.alive ⟨L.H,oS7,ob7,es7,li7,rS7⟩ w7):=ah (by rw [HAL.o];exact n3.o.2.1);have HK7:=ah (HK6.o.trans n3.o.2.2);clear n3 Z l5 h8 HAL HK6 hpl2 b9 l0;have HD:=ah (mI HA7.o HX.o.k.alive (HX.o.t.Mq (Nk.alive h)));go_wp2_with fail;refine HD.o.mono ?_;rintro e9 w8 ⟨⟨z8,rfl⟩,L8,hl8,ha8,hk8⟩;obtain ⟨H8,oS8,ob8,es8,li8,rS8⟩:=L8;obtain rfl:H8=L.H:=hl8.H;have i2:=ah ha8;have HK8:=ah (HK7.o.trans hk8);clear hl8 ha8 hk8 HD HA7 HK7;have K:=ah (v.intro (HX.o.k.alive.drain (HX.o.t.Mq (Nk.alive h))) (HX.o.t.Mq (Nk.alive h)).drain);obtain ⟨AG,g2,m7,v8,-⟩:=i2.o.IC (k:=8) (by simp [eO]);have c8:w8.cell? ⟨L.H,8,none⟩=some (.slice AG h.alive.drain.again.length g2):=by
      have:=i2.o.hp.c 8;rw [this];exact congrArg some m7
     have z8':=i2.o.hp.Nq 8;have hagl:h.alive.drain.again.length<=20000:=by
      have:=K.o.1.s.nu;omega
     have HOG:Hq (w8.ownsRow base 3 1 (.slice AG h.alive.drain.again.length g2) h.alive.drain.again.length (dZ h.alive.drain.again)):=ah (by
      have:=i2.o.li 8 (by simp [eO]);rw [m7] at this;exact this)
     obtain ⟨L9,hL9,w0,v4⟩:=i2.o.LY 8 (by simp [eO]);obtain ⟨H9,oS9,ob9,es9,li9,rS9⟩:=L9;obtain rfl:H9=L.H:=hL9.H;have n7:li8 8=.slice AG h.alive.drain.again.length g2:=m7;simp only [n7] at w0 v4;have HA9:=ah w0;have x8:=ah v4;have l9:Hq (h.M6=h.alive.drain.G8.settle):=ah rfl;have HLA:Hq (∀ q:Hp,q=h.alive.drain->q.G8=q.again.foldl Hp.Hg (dD q 8 [])):=ah (fun q _=>(BN q.again [] q).symm);have HLB:=ah (HLA.o _ rfl);clear hL9 w0 v4 m7 n7 HLA;generalize h.alive.drain=q3 at *;go_upto_region 13 with (fail)
     generalize w8.setCell ⟨L.H,8,none⟩ (.slice none 0 0)=w9 at *;have HO9:=ah (aj HOG.o x8.o (fun g hg x=>x.2 hg));generalize hT:(fun b=>S b/\(Value.slice AG q3.again.length g2).ownBlock≠some b)=T at *;have F:=ah hT;generalize hag:q3.again=ag at *;have y1:=ah hag;have HLV:Hq (∀ n∈ag,q3.Lv n):=ah (fun n hn=>K.o.2.ll n (.inr (.inl (y1.o ▸ hn))));have o0:∀ n,(dD q3 8 []).ob n=q3.ob n:=fun n=>rfl;have HS9:Hq (Sm (dD q3 8 [])):=ah (by
      refine ⟨K.o.1.s.len,?_,K.o.1.s.fp,K.o.1.s.fr,K.o.1.s.Nh,K.o.1.s.cr,K.o.1.s.lim,K.o.1.s.rt,K.o.1.s.es⟩;have:=K.o.1.s.nu;show q3.nu+0<=20000;omega)
     have i0:Hq (q3.nu+ag.length<=20000):=ah (by have:=K.o.1.s.nu;rw [y1.o] at this;exact this);have HOB:=ah o0;have hp3:1<=q3.objs.length:=K.o.1.p;have hl3:q3.objs.length<=5001:=K.o.1.s.len;clear hT hag c8 z8' o0;generalize hq4:dD q3 8 []=q4 at *;have x7:Hq (q4.nu=q3.nu/\q4.objs.length=q3.objs.length/\q4.grey=q3.grey):=ah (by rw [<-hq4];exact ⟨rfl,rfl,rfl⟩);clear hq4;go_wp2;go_loopw [53] (fun iv wr=>∃ i:Nat,i<=ag.length/\iv=.int .i64 i/\Hq (∃ L',L'.H=L.H/\MW base T ((ag.take i).foldl Hp.Hg q4) L' wr/\Keeps w9 wr T)) (fun iv _=>ag.length-bF iv)
     case atStart=>exact ⟨0,by omega,rfl,⟨L.H,oS9,ob9,es9,li9,rS9⟩,rfl,HA9.o,Keeps.refl _ _⟩
     case round=>
      obtain ⟨i,j7,rfl,HI⟩:=hrel;by_cases A:i<ag.length
      ·have V:ag.take (i+1)=ag.take i++[ag[i]]:=bE (aN A)
       have HF:Hq ((ag.take (i+1)).foldl Hp.Hg q4=Hp.Hg ((ag.take i).foldl Hp.Hg q4) ag[i]):=ah (by rw [V,bD]);have j4:=HLV.o _ (List.getElem_mem A);have D:=Np.fold Hp.Hg Np.Hg (ag.take i) q4;have hnu:=nU (ag.take i) q4;obtain ⟨L1,f2,f,m⟩:=HI.out;obtain ⟨H1,i7,a2,k9,i8,i4⟩:=L1;obtain rfl:H1=L.H:=f2;have hown:=aj HO9.o m (fun g hg x=>by rw [<-F.o] at x;exact x.2 hg);obtain ⟨g,rfl,a8⟩:=(nZ (n:=0) hown).2 i A;generalize ag[i]=n at *;generalize u9:(ag.take i).foldl Hp.Hg q4=q at *;obtain ⟨o,ho⟩:q.Lv n:=(D.lv n).2 (by obtain ⟨o,e⟩:=j4;exact ⟨o,by rw [HOB.o];exact e⟩);have Y:=Hp.Hy ho;have hql:q.objs.length=q3.objs.length:=D.len.trans x7.o.2.1;have v6:(h_ (q.upd n fun o=>{ o with col:=2 }) 7).length<=1000000:=by
        show q.grey.length<=_;have h1:=i0.o;have h2:=x7.o.1;have h3:(ag.take i).length<=ag.length:=by rw [bX];omega
        simp only [Hp.nu,Hp.mu] at hnu h1 h2;omega
       obtain ⟨go,b3,b8,f1,E⟩:=f.slot (by omega);have a9:=E n Y;have c0:wr.cell? ⟨L.H,0,none⟩=some (.slice (some ⟨go,0,none⟩) q.objs.length b3):=by
        have:=f.hp.c 0;rw [this];exact congrArg some b8
       obtain ⟨r1,h6⟩:=f.ob n o ho;have c1:wr.cell? ⟨a2 n,1,none⟩=some (.int .i64 o.col):=h6.c 1;have z1:=h6.Nq 1;have hni:(n:Int)<(q.objs.length:Int):=by omega
       have HB:=ah (f.M0 n 1 (.int .i64 2) (fun o=>{ o with col:=2 }) (by decide) ho ⟨rfl,rfl⟩ (fun r i=>by
        unfold kY;by_cases x:i=1
        ·subst x;simp
        ·simp [x]))
       have HKP:=ah m;clear V j4 D hnu f m hown u9 ho E b8 h6 HI;go_upto_region 17 with (fail)
       generalize wr.setCell ⟨a2 n,1,none⟩ (.int .i64 2)=w5 at *;obtain ⟨ag7,cg7,v5⟩:=aF (HB.o.1.li 7 (by simp [eO]));have c7:w5.cell? ⟨L.H,7,none⟩=some (.slice ag7 q.grey.length cg7):=by
        have:=HB.o.1.hp.c 7;rw [this];exact congrArg some v5
       have HG:=ah v5;clear v5 c0 c1 z1 a9 a8;go_wp2_with (first
        |(at_builtin;refine HB.o.1.app 7 (by simp [eO]) n rfl _ _ rfl HG.o.symm rfl v6 ?_;i9 gq cq w1 Q a7 j6;have cR:=Q.c 7;have zR:=Q.Nq 7;have H1:=ah a7;have K1:=ah j6;clear Q a7 j6)
        |go_in)
       go_roundw
       case rel=>
        refine ⟨i+1,by omega,by simp,?_⟩;have h9:=H1.o;refine ⟨_,?_,by rw [HF.o];exact h9,(HKP.o.trans HB.o.2).trans K1.o⟩;exact rfl
       case measure=>simp [bF];omega
      ·obtain rfl:i=ag.length:=by omega
       have G:=HI.out;rw [bf,<-HLB.o] at G;obtain ⟨L10,f2,f,m⟩:=G;obtain ⟨H10,z7,z0,es10,li10,y6⟩:=L10;obtain rfl:H10=L.H:=f2;have u2:Hq (MW base S q3.G8 ⟨L.H,z7,z0,es10,li10,y6⟩ wr):=ah (f.mono (fun b z=>by rw [<-F.o] at z;exact z.1));have t3:=ah ((HK8.o.trans (x8.o.mono (fun b z=>by rw [<-F.o] at z;exact z.1))).trans (m.mono (fun b z=>by rw [<-F.o] at z;exact z.1)));have l2:=ah (v.intro (K.o.1.look K.o.2) K.o.2.G8);clear f m HI HLB HA9 x8 F HO9 HOG i2 HK8 HLV HOB i0 x7 HS9 y1 hagl v8 K;generalize q3.G8=q5 at *;rename World=>w10;have l7:=ah (lS u2.o l2.o.1 l2.o.2);go_wp2_with fail;refine l7.o.mono ?_;rintro e9 u3 ⟨rfl,L11,a6,k6,p3⟩;obtain ⟨H11,oS11,ob11,es11,li11,rS11⟩:=L11;obtain rfl:H11=L.H:=a6.H;rw [<-l9.o] at k6;have h4:=ah k6;have t2:=ah (t3.o.trans p3);have n2:Hq (Wk h.M6):=ah (by rw [l9.o];exact l2.o.1.settle l2.o.2);clear a6 k6 p3 l7 u2 t3 l2 l9;have m8:=ru HX.o.t (fun n hn=>HX.o.l n (hn.elim .inl (fun x=>.inr (.inl x))));have HAT:Hq (h.atomic=h.M6.at2.at3.at4.Mh.Mx):=ah rfl;have x9:Hq (∀ n∈h.M6.finals,h.M6.Lv n):=ah (fun n hn=>by
        have a1:=kD.M6 h;have e:h.M6.finals=h.finals:=a1.finals;rw [e] at hn;exact (a1.lv n).2 (HX.o.l n (.inr (.inr hn))))
       have HPL:Hq (∀ n∈h.M6.pending,h.M6.Lv n):=ah (fun n hn=>by
        have a1:=kD.M6 h;have e:h.M6.pending=h.pending:=a1.pending;rw [e] at hn;exact (a1.lv n).2 (HX.o.l n (.inr (.inl hn))))
       have x5:=ah HX.o.t.M6;have HWA:Hq (h.M6.white<=1):=ah (by rw [show h.M6.white=h.white from (kD.M6 h).white];exact HX.o.w);have h7:Hq (Wk h.M6.at2):=ah (n2.o.at2 x5.o);have x6:=ah x5.o.at2;have HP8:Hq (∀ n∈h.M6.at2.pending,n<h.M6.at2.objs.length):=ah (fun n hn=>by
        rw [(d_ h.M6).2.1] at hn;have hl:h.M6.Lv n:=by
         rcases aY.1 hn with y|y
         ·exact HPL.o n y
         ·exact x9.o n (List.mem_filter.1 y).1
        obtain ⟨o,e⟩:=(nV h.M6 n).2 hl;exact Hp.Hy e)
       obtain ⟨L12,r4,k5,p2⟩:=h4.o.KF 8 (by simp [eO]);obtain ⟨H12,i6,i5,k8,f6,i3⟩:=L12;obtain rfl:H12=L.H:=r4.H;have c8:u3.cell? ⟨L.H,8,none⟩=some (li11 8):=h4.o.hp.c 8;have z8:=h4.o.hp.Nq 8;have k4:MW base S h.M6 ⟨L.H,i6,i5,k8,f6,i3⟩ (u3.setCell ⟨L.H,8,none⟩ (.slice none 0 0)):=by
        have e:dD h.M6 8 []=h.M6:=pV m8.2.1;rw [e] at k5;exact k5
       have u1:=ah k4;have t1:=ah (t2.o.trans p2);have t5:=ah m8.2.1;have HGRN:=ah m8.1;clear r4 k5 p2 k4 h4 t2 m8 HX hrl v2 v7;go_upto_region 21 with (fail)
       generalize u3.setCell ⟨L.H,8,none⟩ (.slice none 0 0)=w12 at *;clear c8 z8;generalize h.M6=q6 at *;have l8:=ah (kK u1.o n2.o);go_wp2_with fail;refine l8.o.mono ?_;rintro e9 W ⟨rfl,p9,p1⟩;have b5:=ah p9;have t0:=ah (t1.o.trans p1);have a9:=MU.fold bT bZ q6.weak q6;have HCN:Hq (MU q6 (q6.weak.foldl Hp.Mv q6)):=ah a9;have n1:Hq (Wk (q6.weak.foldl Hp.Mv q6)):=ah (n2.o.cnt a9);have HA2:Hq (q6.at2=(q6.weak.foldl Hp.Mv q6).Hr):=ah rfl;have t4:Hq (∀ n∈(q6.weak.foldl Hp.Mv q6).finals,(q6.weak.foldl Hp.Mv q6).Lv n):=ah (fun n hn=>(a9.lv n).2 (x9.o n (by rw [<-a9.finals];exact hn)));clear p9 p1 l8 u1 t1 a9 x9;generalize q6.weak.foldl Hp.Mv q6=C at *;obtain ⟨AF,r7,u7,v9,-⟩:=b5.o.IC (k:=11) (by simp [eO]);have hfl:C.finals.length<=5000:=by have:=n1.o.s.fp;omega
       have v2:C.pending.length+C.finals.length<=5000:=by have:=n1.o.s.fp;omega
       have w2:=aU W (.cells #[] 3);have m0:=ah (b5.o.low w2);have s9:=ah (t0.o.trans (Keeps.of w2 (b6 _) S));have c11:(W.alloc (.cells #[] 3)).cell? ⟨L.H,11,none⟩=some (.slice AF C.finals.length r7):=by
        have:=m0.o.hp.c 11;rw [this];exact congrArg some u7
       have HOL:Hq (World.ownsRow (W.alloc (.cells #[] 3)) base 3 1 (.slice (some ⟨W.heap.size,0,none⟩) 0 0) ([]:List Nat).length (dZ [])):=ah ⟨rfl,.inr ⟨W.heap.size,0,#[],rfl,b5.o.bs,heap_alloc_new W _,by decide,by decide,rfl,rfl⟩⟩;have HSL:Hq (MW base (fun b=>S b/\(Value.slice (some ⟨W.heap.size,0,none⟩) 0 0).ownBlock≠some b) C ⟨L.H,i6,i5,k8,f6,i3⟩ (W.alloc (.cells #[] 3))):=ah (m0.o.less _ (fun g e=>by
        have e':W.heap.size=g:=by simpa [Value.ownBlock] using e
        subst e';exact ⟨b5.o.past (b6 _),by simp⟩))
       have HSX:Hq (∀ g,(Value.slice (some ⟨W.heap.size,0,none⟩) 0 0).ownBlock=some g->S g):=ah (fun g e=>by
        have e':W.heap.size=g:=by simpa [Value.ownBlock] using e
        subst e';exact b5.o.up _ (b6 _))
       have HVF:=ah u7;clear w2 u7 b5 t0 m0;go_upto_region 23 with (fail)
       generalize W.alloc (.cells #[] 3)=w14 at *;generalize W.heap.size=X14 at *;go_wp2;go_loopw [90,9] (fun iv lv wr=>∃ (i:Nat) (A9:Option Addr) (c9:Nat) (j:List Nat),i<=C.finals.length/\iv=.int .i64 i/\lv=.slice A9 j.length c9/\Hq (∃ L',L'.H=L.H/\L'.li 11=f6 11/\((C.finals.take i).foldl Hp.Ht (C,[])).2=j/\wr.ownsRow base 3 1 (.slice A9 j.length c9) j.length (dZ j)/\MW base (fun b=>S b/\(Value.slice A9 j.length c9).ownBlock≠some b) ((C.finals.take i).foldl Hp.Ht (C,[])).1 L' wr/\Keeps w14 wr S/\∀ g,(Value.slice A9 j.length c9).ownBlock=some g->S g)) (fun iv _ _=>C.finals.length-bF iv)
       case atStart=>exact ⟨0,_,_,[],by omega,rfl,rfl,⟨L.H,i6,i5,k8,f6,i3⟩,rfl,rfl,rfl,HOL.o,HSL.o,Keeps.refl _ _,HSX.o⟩
       case round=>
        obtain ⟨i,A9,e3,j,j7,rfl,rfl,HI⟩:=hrel;by_cases A:i<C.finals.length
        ·have V:C.finals.take (i+1)=C.finals.take i++[C.finals[i]]:=bE (aN A)
         have HF:Hq ((C.finals.take (i+1)).foldl Hp.Ht (C,[])=Hp.Ht ((C.finals.take i).foldl Hp.Ht (C,[])) C.finals[i]):=ah (by rw [V,bD]);have j4:=t4.o _ (List.getElem_mem A);have e6:=dL (C.finals.take i) (C,[]);obtain ⟨L1,f2,k7,R,hown,f,m,j1⟩:=HI.out;obtain ⟨H1,i7,a2,k9,i8,i4⟩:=L1;obtain rfl:H1=L.H:=f2;have j8:((C.finals.take i).foldl Hp.Ht (C,[])).1.finals=C.finals:=by rw [e6.2.2.2.2.1]
         have v1:((C.finals.take i).foldl Hp.Ht (C,[])).1.pending.length<=5000:=by
          rw [e6.2.2.1];have h1:=List.length_filter_le C.M4 (C.finals.take i);have h2:(C.finals.take i).length<=C.finals.length:=by rw [bX];omega
          simp only [aT];omega
         have hllen:j.length<=5000:=by
          rw [<-R,e6.2.1];have h1:=List.length_filter_le (fun n=>!q7.M4 n) (C.finals.take i);have h2:(C.finals.take i).length<=C.finals.length:=by rw [bX];omega
          simp only [List.nil_append];omega
         have b1:=e6.2.2.2.1 C.finals[i];have u4:=e6.1 C.finals[i];have j5:=e6.2.2.2.2.2;simp only at b1 u4 j5;clear e6 V;obtain ⟨AF1,x1,f7,m9,f0⟩:=f.IC (k:=11) (by simp [eO]);generalize u9:(C.finals.take i).foldl Hp.Ht (C,[])=qp at *;obtain ⟨q,lf⟩:=qp;simp only at j8 v1 R f b1 u4 j5 f7 m9 f0 HF;have a6:h_ q 11=C.finals:=j8;rw [a6] at f7;have:AF1=AF/\x1=r7:=by
          have h9:=f7.symm.trans (k7.trans HVF.o);simp only [Value.slice.injEq] at h9;exact ⟨h9.1,h9.2.2⟩
         obtain ⟨rfl,rfl⟩:=this;obtain ⟨g,rfl,a8⟩:=f0 i (by rw [a6];exact A);have g0:wr.cell? ⟨g,i,none⟩=some (.int .i64 ((C.finals[i]:Nat):Int)):=by
          rw [a8];congr 3;simp only [a6]
         generalize C.finals[i]=n at *;obtain ⟨o,ho⟩:q.Lv n:=by
          obtain ⟨o7,e7⟩:=j4;rw [e7] at b1;cases e9:q.ob n with
          |none=>rw [e9] at b1;simp at b1
          |some o=>exact ⟨o,e9⟩
         have Y:=Hp.Hy ho;have hql:q.objs.length<=5001:=by rw [j5];exact n1.o.s.len
         obtain ⟨go,b3,b8,f1,E⟩:=f.slot (by omega);have a9:=E n Y;have c0:wr.cell? ⟨L.H,0,none⟩=some (.slice (some ⟨go,0,none⟩) q.objs.length b3):=by
          have:=f.hp.c 0;rw [this];exact congrArg some b8
         obtain ⟨r1,h6⟩:=f.ob n o ho;have c1:wr.cell? ⟨a2 n,1,none⟩=some (.int .i64 o.col):=h6.c 1;have hni:(n:Int)<(q.objs.length:Int):=by omega
         have i1:=ah (gW wr (a2 n) o.col c1);have x3:=ah (show gu o.col=q.M4 n from (Hp.Ju ho).symm);have F:=ah (v.intro k7 (v.intro R (v.intro hown (v.intro f (v.intro m j1)))));have HO:=ah ho;clear f m j1 hown R k7 h6 E b8 u9 ho b1 u4 f7 f0 a8 HI a6 j4 j8;go_wp2_with fail;refine i1.o.mono ?_;rintro e9 w5 ⟨rfl,u5⟩;obtain rfl:=u5.symm;cases hb:gu o.col with
         |true=>
          have HB:=ah hb;clear hb i1;obtain ⟨ap,cp,v0⟩:=aF (F.o.2.2.2.1.li 12 (by simp [eO]));have l0:wr.cell? ⟨L.H,12,none⟩=some (.slice ap q.pending.length cp):=by
           have:=F.o.2.2.2.1.hp.c 12;rw [this];exact congrArg some v0
          have HG:=ah v0;have v6:(h_ q 12).length<=1000000:=by
           show q.pending.length<=_;omega
          clear v0;go_upto_region 28 with (first
           |(at_builtin;refine F.o.2.2.2.1.app 12 (by simp [eO]) n rfl _ _ rfl HG.o.symm rfl v6 ?_;i9 gq cq w1 Q a7 j6;have cR:=Q.c 12;have zR:=Q.Nq 12;have H1:=ah a7;have K1:=ah j6;clear Q a7 j6)
           |go_in)
          generalize w1.setCell ⟨L.H,12,none⟩ (.slice (some ⟨gq,0,none⟩) ((h_ q 12).length+1) cq)=w7 at *;have v3:(dD q 12 (h_ q 12++[n])).ob n=some o:=HO.o;obtain ⟨go2,w3,o1,hcapo2,g1⟩:=H1.o.slot (show 1<=q.objs.length by omega);have hcn2:=g1 n Y;have d0:w7.cell? ⟨L.H,0,none⟩=some (.slice (some ⟨go2,0,none⟩) q.objs.length w3):=by
           have:=H1.o.hp.c 0;rw [this];exact congrArg some o1
          obtain ⟨r2,u8⟩:=H1.o.ob n o v3;have d22:w7.cell? ⟨a2 n,22,none⟩=some (.bool o.fin):=u8.c 22;have z22:=u8.Nq 22;have y0:=ah (H1.o.M0 n 22 (.bool false) (fun o=>{ o with fin:=false }) (by decide) v3 ⟨rfl,rfl⟩ (fun r i=>by
           unfold kY;by_cases x:i=22
           ·subst x;simp
           ·simp [x]))
          have HOW:=ah (aj F.o.2.2.1 K1.o (fun g hg x=>x.2 hg));clear v3 g1 o1 u8 c0 c1 a9 l0 cR zR g0;go_upto_region 30 with (fail)
          generalize w7.setCell ⟨a2 n,22,none⟩ (.bool false)=w8 at *;clear d0 d22 z22 hcn2;go_wp2;go_roundw
          case rel=>
           have h9:=y0.o.1;refine ⟨i+1,A9,e3,j,by omega,by simp,rfl,_,?_,?_,?_,aj HOW.o y0.o.2 (fun g hg x=>x.2 hg),by rw [HF.o,show Hp.Ht (q,lf) n=(q.Kh n,lf) from by unfold Hp.Ht;rw [if_pos (by rw [<-x3.o];exact HB.o)]];exact h9,(F.o.2.2.2.2.1.trans (K1.o.mono (fun b z=>z.1))).trans (y0.o.2.mono (fun b z=>z.1)),F.o.2.2.2.2.2⟩
           ·exact rfl
           ·exact F.o.1
           ·rw [HF.o,show Hp.Ht (q,lf) n=(q.Kh n,lf) from by unfold Hp.Ht;rw [if_pos (by rw [<-x3.o];exact HB.o)]]
            exact F.o.2.1
          case measure=>simp [bF];omega
         |false=>
          have HB:=ah hb;clear hb i1 c0 c1 a9 g0;go_wp2_with (first
           |(at_builtin
             refine fC rfl _ _ 30 3 1 8 (.int .i64 0) rfl Tryz.underlying30 iX rfl (by decide) base (.slice A9 j.length e3) j.length (dZ j) [.int .i64 (n:Int)] F.o.2.2.1 rfl rfl rfl (fun u hu=>by simp at hu;subst hu;rfl) (by omega) (by decide) F.o.2.2.2.1.bs ?_
             i9 v' w1 h5 e8 m6 j0
             obtain ⟨A1,k1,rfl⟩:=aF h5;have H1:=ah (v.intro h5 (v.intro (e8 base wr (aG _ _) (b6 _)) (v.intro m6 j0)));clear h5 e8 m6 j0)
           |go_in)
          go_roundw
          case rel=>
           have hw:=HF.o;rw [show Hp.Ht (q,lf) n=(q,lf++[n]) from by unfold Hp.Ht;rw [if_neg (by rw [<-x3.o,HB.o];decide)]] at hw;obtain ⟨h5,e8,m6,j0⟩:=H1.o;have kk:Keeps wr w1 (fun b=>(Value.slice A9 j.length e3).ownBlock=some b):=⟨e8.os,e8.tape,e8.output,e8.size,fun b hb hn=>m6 b hb hn⟩
           have f:=F.o.2.2.2.1;have a7:=f.out (kk.mono (fun b e x=>x.2 e));have j2:w1.ownsRow base 3 1 (.slice A1 (j++[n]).length k1) (j++[n]).length (dZ (j++[n])):=by simpa [dZ] using h5
           refine ⟨i+1,A1,k1,j++[n],by omega,by simp,by simp,⟨L.H,i7,a2,k9,i8,i4⟩,rfl,?_,?_,j2,?_,F.o.2.2.2.2.1.trans (kk.mono (fun b e=>F.o.2.2.2.2.2 b e)),fun g e=>?_⟩
           ·exact F.o.1
           ·rw [hw,<-F.o.2.1]
           ·rw [hw]
            refine (a7.mono (S':=S) (fun b z=>z.1)).less _ (fun g e=>⟨?_,(ay j2 e).lt⟩);by_cases c:(Value.slice A9 j.length e3).ownBlock=some g
            ·exact f.free (fun z=>z.2 c)
            ·have hge:wr.heap.size<=g:=by
              rcases Nat.lt_or_ge g wr.heap.size with d|d
              ·exact absurd (by simpa [Value.ownBlock] using e) (j0 g d c)
              ·exact d
             exact f.past hge
           ·by_cases c:(Value.slice A9 j.length e3).ownBlock=some g
            ·exact F.o.2.2.2.2.2 g c
            ·rcases Nat.lt_or_ge g wr.heap.size with d|d
             ·exact absurd (by simpa [Value.ownBlock] using e) (j0 g d c)
             ·exact (f.up g d).1
          case measure=>simp [bF];omega
        ·obtain rfl:i=C.finals.length:=by omega
         have G:=HI.out;rw [bf] at G;obtain ⟨L15,f2,-,R,hown,f,m,j1⟩:=G;obtain ⟨H15,oS15,ob15,es15,li15,rS15⟩:=L15;obtain rfl:H15=L.H:=f2;obtain ⟨L16,r3,p8,p0⟩:=f.Lh 11 (by simp [eO]) (.slice A9 j.length e3) j hown (fun g e=>f.free (fun z=>z.2 e)) (S':=S) (fun b z=>z.1) j1;obtain ⟨H16,d6,d5,e2,b0,c3⟩:=L16;obtain rfl:H16=L.H:=r3.H;have c11':wr.cell? ⟨L.H,11,none⟩=some (li15 11):=f.hp.c 11;have z11:=f.hp.Nq 11;have k3:MW base S q6.at2 ⟨L.H,d6,d5,e2,b0,c3⟩ (wr.setCell ⟨L.H,11,none⟩ (.slice A9 j.length e3)):=by
          rw [HA2.o];have e:C.Hr=dD (C.finals.foldl Hp.Ht (C,[])).1 11 j:=by
           unfold Hp.Hr;rw [R];rfl
          rw [e];exact p8
         have h0:=ah k3;have s8:=ah ((s9.o.trans m).trans (p0.mono (fun b z=>z.1)));clear R hown f m j1 r3 p8 p0 k3 HI HVF HSX HSL HOL s9 t4 n1 HA2 HCN hfl v2 v9;go_upto_region 32 with (fail)
         generalize wr.setCell ⟨L.H,11,none⟩ (.slice A9 j.length e3)=w16 at *;clear c11' z11 c11;have HW0:Hq (q6.at2.white<=1):=ah (by rw [(d_ q6).2.2.2.2.2.2.1];exact HWA.o);have t7:Hq (q6.at2.again=[]):=ah ((d_ q6).2.2.2.2.1.trans t5.o);clear t5 HGRN n2 x5 HPL;generalize q6.at2=U at *;obtain ⟨AP,b4,d7,b9,-⟩:=h0.o.IC (k:=12) (by simp [eO]);have l0:w16.cell? ⟨L.H,12,none⟩=some (.slice AP U.pending.length b4):=by
          have:=h0.o.hp.c 12;rw [this];exact congrArg some d7
         have l5:=ah (show b0 12=.slice AP U.pending.length b4 from d7);have Z:=ah (v.intro h0.o (v.intro h7.o.s (v.intro h7.o.z HP8.o)));have hpl8:U.pending.length<=5000:=by have:=h7.o.s.fp;omega
         have HQP8:Hq (∀ pd,U.pending=pd->U.Ho U.pending=U.Ho pd):=ah (fun pd e=>by rw [e]);clear d7 h0;generalize n9:U.pending=J at *;have h8:=ah n9;clear n9;go_wp2;go_loopw [135] (fun iv wr=>∃ i:Nat,i<=J.length/\iv=.int .i64 i/\Hq (∃ L',Lm (⟨L.H,d6,d5,e2,b0,c3⟩:SM) L'/\MW base S ((J.take i).foldl Hp.mark U) L' wr/\Keeps w16 wr S)) (fun iv _=>J.length-bF iv)
         case atStart=>exact ⟨0,by omega,rfl,(⟨L.H,d6,d5,e2,b0,c3⟩:SM),Lm.refl _,Z.o.1,Keeps.refl _ _⟩
         case round=>
          obtain ⟨i,j7,rfl,HI⟩:=hrel;by_cases A:i<J.length
          ·have V:J.take (i+1)=J.take i++[J[i]]:=bE (aN A)
           have HF:Hq ((J.take (i+1)).foldl Hp.mark U=Hp.mark ((J.take i).foldl Hp.mark U) J[i]):=ah (by rw [V,bD]);have Y:=Z.o.2.2.2 _ (List.getElem_mem A);have D:=Np.fold Hp.mark Np.mark (J.take i) U;have a5:=Z.o.2.1.foldM Hp.mark (fun h x s=>s.mark x) (J.take i) U Z.o.2.1;obtain ⟨L1,B,f,m⟩:=HI.out;obtain ⟨q,hq⟩:∃ q,(J.take i).foldl Hp.mark U=q:=⟨_,rfl⟩
           rw [hq] at D a5 f HF;clear V;obtain ⟨A1,e4,a3,j9,M⟩:=f.IC (k:=12) (by simp [eO]);have X:h_ q 12=J:=D.pending.trans h8.o;rw [X] at a3;have:A1=AP/\e4=b4:=by
            have h9:=a3.symm.trans ((B.li 12 (by decide) (by decide) (by decide)).trans l5.o);simp only [Value.slice.injEq] at h9;exact ⟨h9.1,h9.2.2⟩
           obtain ⟨rfl,rfl⟩:=this;obtain ⟨g,rfl,a8⟩:=M i (by rw [X];exact A);have g0:wr.cell? ⟨g,i,none⟩=some (.int .i64 ((J[i]:Nat):Int)):=by
            rw [a8];congr 3;simp only [X]
           generalize J[i]=n at *;obtain ⟨H1,i7,a2,k9,i8,i4⟩:=L1;obtain rfl:H1=(⟨L.H,d6,d5,e2,b0,c3⟩:SM).H:=B.H;have e5:=ah (jQ f a5 (D.zero Z.o.2.2.1) n (by rw [D.len];exact Y));have F:=ah (v.intro B m);clear B f m D a5 a3 M hq HI X Y a8;go_wp2_with fail;refine e5.o.mono ?_;rintro e9 w4 ⟨rfl,L4,d9,e1,e0⟩;have H4:=ah (v.intro d9 (v.intro e1 e0));clear d9 e1 e0 e5;go_wp2;go_roundw
           case rel=>
            refine ⟨i+1,by omega,by simp,?_⟩;exact ⟨L4,F.o.1.trans H4.o.1,by rw [HF.o];exact H4.o.2.1,F.o.2.trans H4.o.2.2⟩
           case measure=>simp [bF];omega
          ·obtain rfl:i=J.length:=by omega
           have G:=HI.out;rw [bf] at G;obtain ⟨x2,B,f,m⟩:=G;have g3:Hq (Lm (⟨L.H,d6,d5,e2,b0,c3⟩:SM) x2/\MW base S (U.Ho J) x2 wr/\Keeps w16 wr S):=ah ⟨B,f,m⟩;clear B f m HI;rename World=>w17;obtain ⟨H17,z4,y9,es17,li17,y5⟩:=x2;obtain rfl:H17=L.H:=g3.o.1.H;have u0:Hq (MW base S (U.Ho U.pending) ⟨L.H,z4,y9,es17,li17,y5⟩ w17):=ah (by rw [h8.o];exact g3.o.2.1);have s7:=ah (s8.o.trans g3.o.2.2);have l6:=ah (Nk.Ho U U.pending);have i0:Hq ((U.Ho U.pending).nu<=U.nu):=ah (aO (dQ Hp.mark Hp.Io _ _));have x4:Hq (Wk U.at3):=ah ((h7.o.Mq l6.o i0.o).settle (x6.o.Mq l6.o));have t6:Hq (U.at3.again=[]):=ah ((Np.at3 U).again.trans t7.o);have l7:=ah (lS u0.o (h7.o.Mq l6.o i0.o) (x6.o.Mq l6.o));clear g3 Z l5 h8 HQP8 s8 hpl8 b9 l0 u0 l6 i0 h7 x6 HP8 t7;go_wp2_with fail;refine l7.o.mono ?_;rintro e9 m1 ⟨rfl,L18,o2,b2,o9⟩;obtain ⟨H18,z3,y8,es18,n6,y4⟩:=L18;obtain rfl:H18=L.H:=o2.H;have HW1:Hq (U.at3.white<=1):=ah (by rw [(Np.at3 U).white];exact HW0.o);replace b2:MW base S U.at3 ⟨L.H,z3,y8,es18,n6,y4⟩ m1:=b2;generalize U.at3=q9 at *;obtain ⟨L19,r0,k2,o8⟩:=b2.KF 8 (by simp [eO]);obtain ⟨H19,f5,c4,r5,n5,n4⟩:=L19;obtain rfl:H19=L.H:=r0.H;have c8:m1.cell? ⟨L.H,8,none⟩=some (n6 8):=b2.hp.c 8;have z8:=b2.hp.Nq 8;have k0:MW base S q9 ⟨L.H,f5,c4,r5,n5,n4⟩ (m1.setCell ⟨L.H,8,none⟩ (.slice none 0 0)):=by
            have e:dD q9 8 []=q9:=pV t6.o;rw [e] at k2;exact k2
           have t9:=ah k0;have s6:=ah ((s7.o.trans o9).trans o8);clear o2 b2 o9 r0 k2 o8 k0 l7 s7 t6;go_upto_region 39 with (fail)
           generalize m1.setCell ⟨L.H,8,none⟩ (.slice none 0 0)=w19 at *;clear c8 z8;have HCK:=ah (oP t9.o x4.o);go_wp2_with fail;refine HCK.o.mono ?_;rintro e9 w20 ⟨rfl,p7,o6⟩;have t8:=ah p7;have s5:=ah (s6.o.trans o6);have l3:Hq (Wk q9.at4):=ah (x4.o.cnt (MU.at4 q9));have HWQ:Hq (q9.at4.white<=1):=ah (by rw [(MU.at4 q9).white];exact HW1.o);clear p7 o6 HCK t9 s6 x4 HW1;generalize q9.at4=q10 at *;have l8:=ah (kK t8.o l3.o);go_wp2_with fail;refine l8.o.mono ?_;rintro e9 y2 ⟨rfl,p6,o5⟩;have g9:=ah p6;have s4:=ah (s5.o.trans o5);have a0:Hq (Wk (q10.weak.foldl Hp.Mv q10)):=ah (l3.o.cnt (MU.fold bT bZ q10.weak q10));have HA5:Hq (q10.Mh=(q10.weak.foldl Hp.Mv q10).Ik):=ah rfl;clear p6 o5 l8 t8 s5 l3;generalize q10.weak.foldl Hp.Mv q10=P at *;obtain ⟨go,b3,b8,f1,-⟩:=g9.o.slot a0.o.p;have hol:P.objs.length<=5001:=a0.o.s.len;have c0:y2.cell? ⟨L.H,0,none⟩=some (.slice (some ⟨go,0,none⟩) P.objs.length b3):=by
            have:=g9.o.hp.c 0;rw [this];exact congrArg some b8
           have HOS:=ah (show f5=.slice (some ⟨go,0,none⟩) P.objs.length b3 from b8);clear b8;go_wp2;go_loopw [157] (fun iv wr=>∃ i:Nat,i<=P.objs.length/\iv=.int .i64 i/\Hq (MW base S (bn i P) ⟨L.H,f5,c4,r5,n5,n4⟩ wr/\Keeps y2 wr S)) (fun iv _=>P.objs.length-bF iv)
           case atStart=>exact ⟨0,by omega,rfl,by rw [mQ];exact g9.o,Keeps.refl _ _⟩
           case round=>
            obtain ⟨i,j7,rfl,HI⟩:=hrel;by_cases A:i<P.objs.length
            ·have f:=HI.out.1
             obtain ⟨go1,x0,f9,hcapo1,E⟩:=f.slot (by rw [dU];exact a0.o.p);rw [dU] at f9 E;have:go1=go:=by
              have h9:=(show f5=.slice (some ⟨go1,0,none⟩) P.objs.length x0 from f9).symm.trans HOS.o;simp only [Value.slice.injEq,Option.some.injEq,Addr.mk.injEq] at h9;exact h9.1.1
             subst this;have hci:=E i A;obtain ⟨r1,kd,c1,md,ev,fn,f8,hcw,b7⟩:=f.any (n:=i) (by rw [dU];exact A);have d0:wr.cell? ⟨c4 i,0,none⟩=some (.int .i64 (kd:Int)):=f8.c 0;have d1:wr.cell? ⟨c4 i,1,none⟩=some (.int .i64 (c1:Int)):=f8.c 1;have d8:(bn i P).ob i=P.ob i:=by rw [gH,if_neg (by omega)]
             rw [d8] at b7;cases ho:P.ob i with
             |none=>
              have hk0:kd=0:=by
               obtain ⟨r9,c9,_,hr9⟩:=f.dd i (by rw [dU];exact A) (d8.trans ho);have:=hr9.c 0;rw [d0] at this
               simpa [kY] using this
              subst hk0;have l4:=ah (iI (i:=i) (q:=P) (fun o e=>by rw [ho] at e;cases e));have F:=ah HI.out;clear f E f8 hcw b7 f9 d8 ho HI;go_wp2;go_roundw
              case rel=>exact ⟨i+1,by omega,by simp,by rw [l4.o];exact F.o.1,F.o.2⟩
              case measure=>simp [bF];omega
             |some o=>
              obtain ⟨rfl,rfl,rfl,-,-⟩:=b7 o ho;have i1:=ah (gW wr (c4 i) o.col d1);have HO:=ah ho;have HOI:=ah (d8.trans ho);have F:=ah HI.out;clear f E f8 hcw b7 f9 d8 ho HI;go_wp2_with fail;refine i1.o.mono ?_;rintro e9 w5 ⟨rfl,u5⟩;obtain rfl:=u5.symm;clear i1;cases hb:gu o.col with
              |true=>
               have l4:=ah (iI (i:=i) (q:=P) (fun o' e=>by rw [HO.o] at e;cases e;unfold Hp.drop1;rw [if_pos hb]));clear hb;go_wp2;go_roundw
               case rel=>exact ⟨i+1,by omega,by simp,by rw [l4.o];exact F.o.1,F.o.2⟩
               case measure=>simp [bF];omega
              |false=>
               have l4:=ah (qd HO.o hb);clear hb;have HDD:=ah (qY F.o.1 (by rw [dU];exact hol) (by rw [dU];exact a0.o.p) HOI.o (a0.o.s.es i o HO.o) (vV.of ((jA i P).zero a0.o.z) ((jA i P).closed a0.o.c) HOI.o));go_wp2_with fail;refine HDD.o.mono ?_;rintro e9 w6' ⟨rfl,ha6,hk6⟩;have H6:=ah (v.intro ha6 hk6);clear ha6 hk6 HDD;go_wp2;go_roundw
               case rel=>exact ⟨i+1,by omega,by simp,by rw [l4.o];exact H6.o.1,F.o.2.trans H6.o.2⟩
               case measure=>simp [bF];omega
            ·obtain rfl:i=P.objs.length:=by omega
             have G:=HI.out;rw [oJ,<-HA5.o] at G;have g8:=ah G.1;have s3:=ah (s4.o.trans G.2);clear G HI g9 s4 HOS c0 f1 HA5 a0;rename World=>w22;have HWH:Hq (q10.Mh.white<=1):=ah (by rw [(MU.Mh q10).white];exact HWQ.o);generalize q10.Mh=q12 at *;obtain ⟨L23,q2,p5,o4⟩:=g8.o.KF 9 (by simp [eO]);obtain ⟨H23,oS23,ob23,es23,li23,rS23⟩:=L23;obtain rfl:H23=L.H:=q2.H;have c9:=g8.o.hp.c 9;have z9:=g8.o.hp.Nq 9;have g7:=ah p5;have s2:=ah (s3.o.trans o4);clear q2 p5 o4 g8 s3;go_upto_region 48 with (fail)
             generalize w22.setCell ⟨L.H,9,none⟩ (.slice none 0 0)=w23 at *;clear c9 z9;obtain ⟨L24,q0,p4,o3⟩:=g7.o.KF 10 (by simp [eO]);obtain ⟨H24,z2,y7,es24,li24,y3⟩:=L24;obtain rfl:H24=L.H:=q0.H;have c10:=g7.o.hp.c 10;have z10:=g7.o.hp.Nq 10;have g6:=ah p4;have s1:=ah (s2.o.trans o3);clear q0 p4 o3 g7 s2;go_upto_region 49 with (fail)
             generalize w23.setCell ⟨L.H,10,none⟩ (.slice none 0 0)=w24 at *;clear c10 z10;have a4:=g6.o.num (h':={ q12 with weak:=[],GZ:=[],white:=1-q12.white }) 6 (.int .i64 ((1-q12.white:Nat):Int)) (by decide) rfl ⟨rfl,rfl,rfl,rfl,rfl,rfl,rfl⟩ rfl (bV _ rfl rfl rfl rfl rfl rfl rfl rfl rfl rfl rfl rfl rfl rfl rfl rfl rfl rfl);have h5:=HWH.o;have hwi:(1:Int)-(q12.white:Int)=((1-q12.white:Nat):Int):=by omega
             have c6:w24.cell? ⟨L.H,6,none⟩=some (.int .i64 (q12.white:Int)):=g6.o.hp.c 6;have z6:=g6.o.hp.Nq 6;have g5:=ah a4.1;have s0:=ah (s1.o.trans a4.2);clear a4;go_upto_region 50 with (fail)
             clear hwi;generalize w24.setCell ⟨L.H,6,none⟩ (.int .i64 ((1-q12.white:Nat):Int))=w25 at *;clear c6 z6 g6 s1;have a4:=g5.o.num (h':={ q12 with weak:=[],GZ:=[],white:=1-q12.white,state:=2 }) 5 (.int .i64 2) (by decide) rfl ⟨rfl,rfl,rfl,rfl,rfl,rfl,rfl⟩ rfl (bV _ rfl rfl rfl rfl rfl rfl rfl rfl rfl rfl rfl rfl rfl rfl rfl rfl rfl rfl);have c5:=g5.o.hp.c 5;have z5:=g5.o.hp.Nq 5;have g4:=ah a4.1;have r8:=ah (s0.o.trans a4.2);clear a4;go_upto_region 51 with (fail)
             generalize w25.setCell ⟨L.H,5,none⟩ (.int .i64 2)=w26 at *;clear c5 z5 g5 s0;have a4:=g4.o.num (h':=q12.Mx) 14 (.int .i64 1) (by decide) rfl ⟨rfl,rfl,rfl,rfl,rfl,rfl,rfl⟩ rfl (bV _ rfl rfl rfl rfl rfl rfl rfl rfl rfl rfl rfl rfl rfl rfl rfl rfl rfl rfl);have c14:=g4.o.hp.c 14;have z14:=g4.o.hp.Nq 14;have HAZ:=ah a4.1;have HKZ:=ah (r8.o.trans a4.2);clear a4 g4 r8;go_wp2;go_end0;exact ⟨rfl,⟨L.H,z2,y7,es24,li24,y3⟩,rfl,by rw [HAT.o];exact HAZ.o,HKZ.o⟩
end Go.Proofs.YtbpcdfbmnklcjaaGreatDoor
