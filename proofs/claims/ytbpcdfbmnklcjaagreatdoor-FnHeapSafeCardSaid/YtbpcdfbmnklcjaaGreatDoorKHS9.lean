import Derived.Test.YtbpcdfbmnklcjaaGreatDoorKHS4
import Derived.Deep.LoopGhost
namespace Go.Proofs.YtbpcdfbmnklcjaaGreatDoor
open Go Go.RowKit
set_option maxHeartbeats 6400000
set_option maxRecDepth 100000
set_option linter.unusedVariables false
section
variable {S:Nat->Prop} {base i n:Nat} {e:En} {g h:Hp} {o:Ob} {w:World}
theorem MW.ents {L:SM} (a:MW base S h L w) (ho:h.ob n=some o):∃ A cap,L.es n=.slice A o.es.length cap/\o.es.length<=cap/\∀ i e,o.es[i]?=some e->∃ g,A=some ⟨g,0,none⟩/\g<w.heap.size/\∀ j u,(iT e)[j]?=some u->w.cell? ⟨g,i*10+j,none⟩=some u:=by
 have f:=a.en n o ho;rcases f.2 with ⟨p,m⟩|⟨g,cap,q,d,_,_,l,_⟩
 ·refine ⟨none,0,by rw [p,m],by omega,fun i e hi=>?_⟩
  have:=(aJ.1 hi).1;omega
 ·refine ⟨_,cap,d,l,fun i e hi=>⟨g,rfl,?_⟩⟩
  have hr:=ay f (g:=g) (by rw [d];simp [Value.ownBlock]);refine ⟨hr.lt,fun j u hj=>?_⟩;have k:=(aJ.1 hi).1;have b:j<10:=(aJ.1 hj).1;rw [hr.c (i*10+j),bq,show (j_ o.es)[i*10+j]?=(iT e)[j]? from eX iT 10 (fun _=>rfl) o.es i j e hi b,hj];rfl
theorem lM (wr:World) (e:En):aD (wr.alloc (.cells #[.int .i64 (vk e.1),.int .i64 (vi e.1),.int .u64 0,.string ByteArray.empty,.int .i64 (vr e.1),.int .i64 (vk e.2),.int .i64 (vi e.2),.int .u64 0,.string ByteArray.empty,.int .i64 (vr e.2)] 122)) 122 wr.heap.size 10 (fun j=>(iT e).getD j (.bool false)):=by
 have h:=aD.mk' wr 122 #[.int .i64 (vk e.1),.int .i64 (vi e.1),.int .u64 0,.string ByteArray.empty,.int .i64 (vr e.1),.int .i64 (vk e.2),.int .i64 (vi e.2),.int .u64 0,.string ByteArray.empty,.int .i64 (vr e.2)];refine aD.congr (show aD _ _ _ 10 _ from h) (fun j hj=>?_);have:j=0∨j=1∨j=2∨j=3∨j=4∨j=5∨j=6∨j=7∨j=8∨j=9:=by omega
 rcases this with rfl|rfl|rfl|rfl|rfl|rfl|rfl|rfl|rfl|rfl<;>rfl
def vV (h:Hp) (es:List En):Prop:=∀ e∈es,Rg h e.1/\Rg h e.2
theorem vV.of {h:Hp} (a:h.ob 0=none) (b:h.Closed) {n:Nat} {o:Ob} (ho:h.ob n=some o):vV h o.es:=fun e he=>
 ⟨Rg.of a (fun r hr=>b n o ho e he r (List.mem_append_left _ hr)),Rg.of a (fun r hr=>b n o ho e he r (List.mem_append_right _ hr))⟩
theorem Rg.mono {v:HV} (r:Rg h v) (a:g.objs.length=h.objs.length):Rg g v:=fun x hx=>by rw [a];exact r x hx
theorem bE {α:Type} {l:List α} {x:α} (h:l[i]?=some x):l.take (i+1)=l.take i++[x]:=by
 rw [List.take_add_one,h];rfl
theorem pz {p:Hp × Bool} (h:p.1.ME e.1=true):Hp.He p e=p:=by unfold Hp.He;rw [h];rfl
theorem qc {p:Hp × Bool} (h:p.1.ME e.2=false):Hp.He p e=p:=by unfold Hp.He;rw [h];simp
theorem qo {p:Hp × Bool} (h:p.1.ME e.1=false) (h':p.1.ME e.2=true):Hp.He p e=(p.1.Hz e.2,true):=by unfold Hp.He;rw [h,h'];rfl
theorem bD {α β:Type} (f:β->α->β) (b:β) (l:List α) (x:α):(l++[x]).foldl f b=f (l.foldl f b) x:=by simp
theorem nP {L:SM} (a:MW base S h L w) (s:Sm h) (hz:h.ob 0=none) (hp:1<=h.objs.length) (n:Nat) (o:Ob) (ho:h.ob n=some o) (a1:vV h o.es):
 Calls Tryz.prog 118 #[.pointer (some ⟨L.H,0,none⟩),.pointer (some ⟨L.ob n,0,none⟩)] w fun e w'=>e=.returned (.bool (h.spread o.es).2)/\∃ L',Lm L L'/\MW base S (h.spread o.es).1 L' w'/\Keeps w w' S:=by
 obtain ⟨A,a9,R,c2,a6⟩:=a.ents ho;obtain ⟨r0,a2⟩:=a.ob n o ho;have c5:w.cell? ⟨L.ob n,5,none⟩=some (.slice A o.es.length a9):=by rw [<-R];exact a2.c 5
 have b3:=s.len;have c4:=s.es n o ho;have HA:=ah a;have HS:=ah s;have HR:=ah a1;have HO:=ah ho;have HE:=ah R;clear a s a1 ho R a6 a2;go_enter Tryz.func118,Tryz.ntmps118;go_wp2;go_loopw [5,13,7] (fun bv iv ev wr=>∃ (i:Nat) (b:Bool),i<=o.es.length/\iv=.int .i64 i/\bv=.bool b/\Hq (b=((o.es.take i).foldl Hp.He (h,k)).2/\∃ L',Lm L L'/\MW base S ((o.es.take i).foldl Hp.He (h,k)).1 L' wr/\Keeps w wr S)) (fun _ iv _ _=>o.es.length-bF iv)
 case atStart=>exact ⟨0,k,by omega,rfl,rfl,rfl,L,Lm.refl L,HA.o,Keeps.refl _ _⟩
 case round=>
  obtain ⟨i,b,c3,rfl,rfl,HI⟩:=hrel;by_cases b4:i<o.es.length
  ·obtain ⟨e,he⟩:∃ e,o.es[i]?=some e:=⟨_,aN b4⟩
   have a0:=bE he;obtain ⟨z,L1,y,x,E⟩:=HI.out;have r:=Np.I9 (o.es.take i) (h,k);have Q:((o.es.take i).foldl Hp.He (h,k)).1.nu<=h.nu:=aO (Hp.II h (o.es.take i));obtain ⟨q,hq⟩:∃ q,(o.es.take i).foldl Hp.He (h,k)=q:=⟨_,rfl⟩
   rw [hq] at z x r Q;simp only at r;obtain ⟨o1,a3,M⟩:∃ o1,q.1.ob n=some o1/\o1.es=o.es:=by
    have:=r.cont n;rw [HO.o] at this;cases N:q.1.ob n with
    |none=>rw [N] at this;simp at this
    |some o1=>rw [N] at this;simp [Ob.cont] at this;exact ⟨o1,rfl,this.2.1⟩
   obtain ⟨A1,a8,F,b5,v⟩:=x.ents a3;rw [M] at F v;have:A1=A/\a8=a9:=by
    have h9:=F.symm.trans ((congrFun y.es n).trans HE.o);simp at h9;exact h9
   obtain ⟨rfl,rfl⟩:=this;obtain ⟨g,rfl,c1,d⟩:=v i e he;have d0:=d 0 _ rfl;have d1:=d 1 _ rfl;have d2:=d 2 _ rfl;have d3:=d 3 _ rfl;have d4:=d 4 _ rfl;have d5:=d 5 _ rfl;have d6:=d 6 _ rfl;have d7:=d 7 _ rfl;have d8:=d 8 _ rfl;have d9:=d 9 _ rfl;simp only [Nat.add_zero] at d0;have P:=HR.o e (aW he);have HQ:=ah hq;have c6:=ah r;have b6:=ah a0;have U:=ah y;have K:=ah (x.alloc (.cells #[.int .i64 (vk e.1),.int .i64 (vi e.1),.int .u64 0,.string ByteArray.empty,.int .i64 (vr e.1),.int .i64 (vk e.2),.int .i64 (vi e.2),.int .u64 0,.string ByteArray.empty,.int .i64 (vr e.2)] 122));have V:=ah (E.trans (Keeps.of (aU wr (.cells #[.int .i64 (vk e.1),.int .i64 (vi e.1),.int .u64 0,.string ByteArray.empty,.int .i64 (vr e.1),.int .i64 (vk e.2),.int .i64 (vi e.2),.int .u64 0,.string ByteArray.empty,.int .i64 (vr e.2)] 122)) (au _) S));have T:=ah (show Rg q.1 e.1/\Rg q.1 e.2 from ⟨P.1.mono r.len,P.2.mono r.len⟩);have b7:=ah (HS.o.M7 r Q);have b1:=ah z;have C:=ah (show q.1.objs.length<=5001/\1<=q.1.objs.length/\q.1.ob 0=none from by rw [r.len];exact ⟨b3,hp,r.zero hz⟩);have W:=ah y.H;clear hq r a0 y x E P z a3 M F v d HI Q he;have t:=ah (lM wr e);go_upto_region 5 with (fail)
   generalize wr.alloc (.cells #[.int .i64 (vk e.1),.int .i64 (vi e.1),.int .u64 0,.string ByteArray.empty,.int .i64 (vr e.1),.int .i64 (vk e.2),.int .i64 (vi e.2),.int .u64 0,.string ByteArray.empty,.int .i64 (vr e.2)] 122)=w3 at *;generalize wr.heap.size=X at *;have x0:w3.cell? ⟨X,0,none⟩=some (.int .i64 (vk e.1)):=t.o.c 0;have x1:w3.cell? ⟨X,1,none⟩=some (.int .i64 (vi e.1)):=t.o.c 1;have x2:w3.cell? ⟨X,2,none⟩=some (.int .u64 0):=t.o.c 2;have x3:w3.cell? ⟨X,3,none⟩=some (.string ByteArray.empty):=t.o.c 3;have x4:w3.cell? ⟨X,4,none⟩=some (.int .i64 (vr e.1)):=t.o.c 4;have j:=t.o.lt;have B:=ah (f_ K.o e.1 T.o.1 C.o.1 C.o.2.1);rw [W.o] at B;have HF:Hq ((o.es.take (i+1)).foldl Hp.He (h,k)=Hp.He q e):=ah (by rw [b6.o,bD,HQ.o]);clear d0 d1 d2 d3 d4 d5 d6 d7 d8 d9;cases hb1:q.1.ME e.1 with
   |true=>
    rw [hb1] at B;have Z:=ah hb1;clear hb1;go_wp2_with (first
     |(refine B.o.mono ?_
       rintro N w4 ⟨rfl,f⟩;have l:=ah f;clear f)
     |fail)
    go_roundw
    case rel=>
     refine ⟨i+1,b,by omega,by simp,rfl,?_⟩;have G:=HF.o;rw [pz Z.o] at G;exact ⟨by rw [G];exact b1.o,L1,U.o,by rw [G];exact K.o.low l.o,V.o.trans (Keeps.of l.o (au _) S)⟩
    case measure=>simp [bF];omega
   |k=>
    rw [hb1] at B;have Z:=ah hb1;clear hb1;have J:=ah (fun (w4:World) (f:Below w3.heap.size w3 w4)=>f_ (K.o.low f) e.2 T.o.2 C.o.1 C.o.2.1);rw [W.o] at J;cases hb2:q.1.ME e.2 with
    |k=>
     rw [hb2] at J;have Y:=ah hb2;clear hb2;go_wp2_with (first
      |(have _z:=D;fail)
      |(have _z:=l
        refine (J.o w4 l.o).mono ?_;clear _z;rintro N w5 ⟨rfl,m⟩;have D:=ah m;clear m)
      |(refine B.o.mono ?_
        rintro N w4 ⟨rfl,f⟩;have x5:w4.cell? ⟨X,5,none⟩=some (.int .i64 (vk e.2)):=(f.cell (p:=⟨X,5,none⟩) j).trans (t.o.c 5);have x6:w4.cell? ⟨X,6,none⟩=some (.int .i64 (vi e.2)):=(f.cell (p:=⟨X,6,none⟩) j).trans (t.o.c 6);have x7:w4.cell? ⟨X,7,none⟩=some (.int .u64 0):=(f.cell (p:=⟨X,7,none⟩) j).trans (t.o.c 7);have x8:w4.cell? ⟨X,8,none⟩=some (.string ByteArray.empty):=(f.cell (p:=⟨X,8,none⟩) j).trans (t.o.c 8);have x9:w4.cell? ⟨X,9,none⟩=some (.int .i64 (vr e.2)):=(f.cell (p:=⟨X,9,none⟩) j).trans (t.o.c 9);have l:=ah f;clear f)
      |fail)
     go_roundw
     case rel=>
      refine ⟨i+1,b,by omega,by simp,rfl,?_⟩;have G:=HF.o;rw [qc Y.o] at G;have hb:=l.o.trans (D.o.mono l.o.size);exact ⟨by rw [G];exact b1.o,L1,U.o,by rw [G];exact K.o.low hb,V.o.trans (Keeps.of hb (au _) S)⟩
     case measure=>simp [bF];omega
    |true=>
     rw [hb2] at J;have Y:=ah hb2;clear hb2;have b0:=ah (fun (w5:World) (m:Below w3.heap.size w3 w5)=>fE (K.o.low m) b7.o C.o.2.2 e.2 (T.o.2.vr C.o.2.1));rw [W.o] at b0;go_wp2_with (first
      |(have _z:=D
        refine (b0.o _ (l.o.trans (D.o.mono l.o.size))).mono ?_;clear _z;rintro N w6 ⟨rfl,L6,a4,a7,a5⟩;have b8:=ah a4;have c0:=ah a7;have b9:=ah a5;clear a4 a7 a5)
      |(have _z:=l
        refine (J.o w4 l.o).mono ?_;clear _z;rintro N w5 ⟨rfl,m⟩;have y5:=(m.cell (p:=⟨X,5,none⟩) u).trans x5;have y6:=(m.cell (p:=⟨X,6,none⟩) u).trans x6;have y7:=(m.cell (p:=⟨X,7,none⟩) u).trans x7;have y8:=(m.cell (p:=⟨X,8,none⟩) u).trans x8;have y9:=(m.cell (p:=⟨X,9,none⟩) u).trans x9;have D:=ah m;clear m)
      |(refine B.o.mono ?_
        rintro N w4 ⟨rfl,f⟩;have u:=aX j f.size;have x5:w4.cell? ⟨X,5,none⟩=some (.int .i64 (vk e.2)):=(f.cell (p:=⟨X,5,none⟩) j).trans (t.o.c 5);have x6:w4.cell? ⟨X,6,none⟩=some (.int .i64 (vi e.2)):=(f.cell (p:=⟨X,6,none⟩) j).trans (t.o.c 6);have x7:w4.cell? ⟨X,7,none⟩=some (.int .u64 0):=(f.cell (p:=⟨X,7,none⟩) j).trans (t.o.c 7);have x8:w4.cell? ⟨X,8,none⟩=some (.string ByteArray.empty):=(f.cell (p:=⟨X,8,none⟩) j).trans (t.o.c 8);have x9:w4.cell? ⟨X,9,none⟩=some (.int .i64 (vr e.2)):=(f.cell (p:=⟨X,9,none⟩) j).trans (t.o.c 9);have l:=ah f;clear f)
      |fail)
     go_roundw
     case rel=>
      refine ⟨i+1,true,by omega,by simp,rfl,?_⟩;have G:=HF.o;rw [qo Z.o Y.o] at G;have hb:=l.o.trans (D.o.mono l.o.size);exact ⟨by rw [G],L6,U.o.trans b8.o,by rw [G];exact c0.o,(V.o.trans (Keeps.of hb (au _) S)).trans b9.o⟩
     case measure=>simp [bF];omega
  ·obtain rfl:i=o.es.length:=by omega
   have t:=HI.out;rw [bf] at t;obtain ⟨z,L1,y,x,E⟩:=t;have HT:=ah (b2.intro z (b2.intro y (b2.intro x E)));clear z y x E HI;go_wp2;go_ret;exact ⟨by rw [HT.o.1];rfl,L1,HT.o.2.1,HT.o.2.2.1,HT.o.2.2.2⟩
end
section
variable {S S':Nat->Prop} {base n:Nat} {e:En} {o:Ob} {w:World}
theorem fq (v:HV):(vk v !=0)=v.isSome:=by
 cases v with
 |none=>rfl
 |some x=>cases x<;>rfl
theorem Sm.MQ {h:Hp} (s:Sm h) (n:Nat) (a:h.nu+h.again.length+1<=20000):Sm { h with GZ:=h.GZ++[n] }:=by
 refine ⟨s.len,?_,s.fp,s.fr,s.Nh,s.cr,s.lim,s.rt,s.es⟩;have e:Hp.nu { h with GZ:=h.GZ++[n] }=h.nu+1:=by
  show h.mu+(h.GZ++[n]).length+h.weak.length=h.mu+h.GZ.length+h.weak.length+1;simp;omega
 rw [e];show h.nu+1+h.again.length<=20000;omega
theorem Np.Nj {h g:Hp} (x:Np h g) (e:h.ob n=some o):∃ o',g.ob n=some o'/\o'.mode=o.mode/\o'.es=o.es/\o'.fin=o.fin:=by
 have:=x.cont n;rw [e] at this;cases e9:g.ob n with
 |none=>rw [e9] at this;simp at this
 |some o1=>rw [e9] at this;simp [Ob.cont] at this;exact ⟨o1,rfl,this.1,this.2.1,this.2.2⟩
theorem wB {h:Hp} (a:e.2.isSome=false):h.key1 e=h:=by unfold Hp.key1;rw [a];rfl
theorem r_ {h:Hp} (a:e.2.isSome=true):h.key1 e=h.Hz e.1:=by unfold Hp.key1;rw [if_pos a]
theorem Dc {h:Hp} (hm:o.mode=0):h.Ih n o=o.es.foldl Hp.Hw h:=by unfold Hp.Ih;rw [if_pos hm]
theorem BP {h:Hp} (hm:o.mode=1):h.Ih n o=({ h with GZ:=h.GZ++[n] }.spread o.es).1:=by unfold Hp.Ih;rw [if_neg (by omega),if_pos hm]
theorem CP {h:Hp} (hm:o.mode=2):h.Ih n o={ o.es.foldl Hp.key1 h with weak:=(o.es.foldl Hp.key1 h).weak++[n] }:=by unfold Hp.Ih;rw [if_neg (by omega),if_neg (by omega),if_pos hm]
theorem Cn {h:Hp} (hm:o.mode=3):h.Ih n o={ h with weak:=h.weak++[n] }:=by unfold Hp.Ih;rw [if_neg (by omega),if_neg (by omega),if_neg (by omega)]
theorem MW.mono {h:Hp} {L:SM} (a:MW base S h L w) (c:∀ b,S b->S' b):MW base S' h L w:=
 ⟨a.hp,a.oo,a.ob,a.dd,a.en,a.li,a.ro,a.ij,a.ei,a.lj,a.bH,a.bo,a.bs,c _ a.sH,fun n h=>c _ (a.so n h),fun g h=>c _ (a.sO g h),fun n o g h h'=>c _ (a.se n o g h h'),fun k g h h'=>c _ (a.sl k g h h'),fun g h=>c _ (a.sr g h),fun b h=>c _ (a.up b h)⟩
theorem MW.hole {h:Hp} {L:SM} (a:MW base S h L w) (x:Obj):MW base (fun b=>S b/\b≠w.heap.size) h L (w.alloc x):=by
 have b:=a.alloc x;have f:∀ n,n<h.objs.length->L.ob n<w.heap.size:=by
  intro n d;cases e:h.ob n with
  |none=>obtain ⟨r,c,_,hr⟩:=a.dd n d e;exact hr.lt
  |some o=>obtain ⟨r,hr⟩:=a.ob n o e;exact hr.lt
 refine ⟨b.hp,b.oo,b.ob,b.dd,b.en,b.li,b.ro,b.ij,b.ei,b.lj,b.bH,b.bo,b.bs,⟨a.sH,?_⟩,fun n d=>⟨a.so n d,?_⟩,fun g hg=>⟨a.sO g hg,?_⟩,fun n o g d hg=>⟨a.se n o g d hg,?_⟩,fun k g hk hg=>⟨a.sl k g hk hg,?_⟩,fun g hg=>⟨a.sr g hg,?_⟩,fun c hc=>⟨b.up c hc,?_⟩⟩
 ·have:=a.hp.lt;omega
 ·have:=f n d;omega
 ·have:=(ay a.oo hg).lt;omega
 ·have:=(ay (a.en n o d) hg).lt;omega
 ·have:=(ay (a.li k hk) hg).lt;omega
 ·have:=(ay a.ro hg).lt;omega
 ·simp at hc;omega
theorem dQ {α:Type} (f:Hp->α->Hp) (b:∀ h x,(f h x).nu=h.nu):∀ (l:List α) (h:Hp),(l.foldl f h).nu=h.nu
 | [],h=>rfl
 |a::l,h=>(dQ f b l (f h a)).trans (b h a)
theorem Hp.Ku (h:Hp) (e:En):(h.key1 e).nu=h.nu:=by
 unfold Hp.nu;rw [h.J4 e,(h.IL e).1,(h.IL e).2]
theorem Hp.KD (h:Hp) (e:En):(h.Hw e).nu=h.nu:=by
 unfold Hp.nu;rw [h.J9 e,(h.I5 e).1,(h.I5 e).2]
theorem Hp.KI (h:Hp) (v:HV):(h.Hz v).nu=h.nu:=by
 unfold Hp.nu;rw [h.Jp v,(h.Iq v).1,(h.Iq v).2]
theorem rW {h:Hp} {L:SM} (a:MW base S h L w) (s:Sm h) (b4:h.nu+h.again.length+1<=20000) (hz:h.ob 0=none) (hp:1<=h.objs.length) (n:Nat) (o:Ob) (ho:h.ob n=some o) (R:vV h o.es) (hm:o.mode=0):
 Calls Tryz.prog 97 #[.pointer (some ⟨L.H,0,none⟩),.int .i64 n,.pointer (some ⟨L.ob n,0,none⟩)] w fun e w'=>e=.returned (.tuple #[])/\∃ L',Lm L L'/\MW base S (h.Ih n o) L' w'/\Keeps w w' S:=by
 obtain ⟨A,a1,G,b3,Y⟩:=a.ents ho;obtain ⟨r0,F⟩:=a.ob n o ho;have c4:w.cell? ⟨L.ob n,4,none⟩=some (.int .i64 o.mode):=F.c 4;have c5:w.cell? ⟨L.ob n,5,none⟩=some (.slice A o.es.length a1):=by rw [<-G];exact F.c 5
 rw [hm] at c4;have a7:=s.len;have b6:=s.es n o ho;have HA:=ah a;have HS:=ah s;have HR:=ah R;have HO:=ah ho;have HE:=ah G;have b0:=ah hm;clear a s R ho G Y F hm;go_enter Tryz.func97,Tryz.ntmps97;go_wp2;go_loopw [21,7] (fun iv ev wr=>∃ i:Nat,i<=o.es.length/\iv=.int .i64 i/\Hq (∃ L',Lm L L'/\MW base S ((o.es.take i).foldl Hp.Hw h) L' wr/\Keeps w wr S)) (fun iv _ _=>o.es.length-bF iv)
 case atStart=>exact ⟨0,by omega,rfl,L,Lm.refl L,HA.o,Keeps.refl _ _⟩
 case round=>
  obtain ⟨i,b5,rfl,HI⟩:=hrel;by_cases a8:i<o.es.length
  ·obtain ⟨e,he⟩:∃ e,o.es[i]?=some e:=⟨_,aN a8⟩
   obtain ⟨L1,l,k,x⟩:=HI.out;have f:=Np.fold Hp.Hw Np.Hw (o.es.take i) h;have U:((o.es.take i).foldl Hp.Hw h).nu=h.nu:=dQ Hp.Hw Hp.KD (o.es.take i) h;have HF:Hq ((o.es.take (i+1)).foldl Hp.Hw h=Hp.Hw ((o.es.take i).foldl Hp.Hw h) e):=ah (by rw [bE he,bD]);generalize (o.es.take i).foldl Hp.Hw h=q at *;obtain ⟨o1,T,_,D,_⟩:=f.Nj HO.o;obtain ⟨A1,a0,y,a9,j⟩:=k.ents T;rw [D] at y j;have:A1=A/\a0=a1:=by
    have h9:=y.symm.trans ((congrFun l.es n).trans HE.o);simp at h9;exact h9
   obtain ⟨rfl,rfl⟩:=this;obtain ⟨g,rfl,b2,d⟩:=j i e he;have d0:=d 0 _ rfl;have d1:=d 1 _ rfl;have d2:=d 2 _ rfl;have d3:=d 3 _ rfl;have d4:=d 4 _ rfl;have d5:=d 5 _ rfl;have d6:=d 6 _ rfl;have d7:=d 7 _ rfl;have d8:=d 8 _ rfl;have d9:=d 9 _ rfl;simp only [Nat.add_zero] at d0;have E:=HR.o e (aW he);have a2:=ah l;have a5:=ah (k.hole (.cells #[.int .i64 (vk e.1),.int .i64 (vi e.1),.int .u64 0,.string ByteArray.empty,.int .i64 (vr e.1),.int .i64 (vk e.2),.int .i64 (vi e.2),.int .u64 0,.string ByteArray.empty,.int .i64 (vr e.2)] 122));have b7:=ah k.up;have a3:=ah (x.trans (Keeps.of (aU wr (.cells #[.int .i64 (vk e.1),.int .i64 (vi e.1),.int .u64 0,.string ByteArray.empty,.int .i64 (vr e.1),.int .i64 (vk e.2),.int .i64 (vi e.2),.int .u64 0,.string ByteArray.empty,.int .i64 (vr e.2)] 122)) (au _) S));have P:=ah (show Rg q e.1/\Rg q e.2 from ⟨E.1.mono f.len,E.2.mono f.len⟩);have M:=ah (HS.o.M7 f (aO U));have t:=ah (show q.objs.length<=5001/\1<=q.objs.length/\q.ob 0=none from by rw [f.len];exact ⟨a7,hp,f.zero hz⟩);have Q:=ah l.H;have u:=ah (lM wr e);clear f l k x E T D y j d HI U he;go_upto_region 5 with (fail)
   generalize wr.alloc (.cells #[.int .i64 (vk e.1),.int .i64 (vi e.1),.int .u64 0,.string ByteArray.empty,.int .i64 (vr e.1),.int .i64 (vk e.2),.int .i64 (vi e.2),.int .u64 0,.string ByteArray.empty,.int .i64 (vr e.2)] 122)=w3 at *;generalize wr.heap.size=X at *;have b1:=u.o.lt;have x0:w3.cell? ⟨X,0,none⟩=some (.int .i64 (vk e.1)):=u.o.c 0;have x1:w3.cell? ⟨X,1,none⟩=some (.int .i64 (vi e.1)):=u.o.c 1;have x2:w3.cell? ⟨X,2,none⟩=some (.int .u64 0):=u.o.c 2;have x3:w3.cell? ⟨X,3,none⟩=some (.string ByteArray.empty):=u.o.c 3;have x4:w3.cell? ⟨X,4,none⟩=some (.int .i64 (vr e.1)):=u.o.c 4;have x5:w3.cell? ⟨X,5,none⟩=some (.int .i64 (vk e.2)):=u.o.c 5;have x6:w3.cell? ⟨X,6,none⟩=some (.int .i64 (vi e.2)):=u.o.c 6;have x7:w3.cell? ⟨X,7,none⟩=some (.int .u64 0):=u.o.c 7;have x8:w3.cell? ⟨X,8,none⟩=some (.string ByteArray.empty):=u.o.c 8;have x9:w3.cell? ⟨X,9,none⟩=some (.int .i64 (vr e.2)):=u.o.c 9;clear d0 d1 d2 d3 d4 d5 d6 d7 d8 d9;cases hs:e.2.isSome with
   |false=>
    have a6:(vk e.2 !=0)=false:=by rw [fq,hs]
    have HV:=ah (fE a5.o M.o t.o.2.2 e.2 (P.o.2.vr t.o.2.1));rw [Q.o] at HV;have N:=ah hs;clear hs;go_wp2_with (first
     |(refine HV.out.mono ?_
       rintro e9 w4 ⟨rfl,K,v,B,r⟩;have C:=ah (m.intro v (m.intro B r));clear v B r)
     |fail)
    go_roundw
    case rel=>
     refine ⟨i+1,by omega,by simp,?_⟩;have J:=HF.o;unfold Hp.Hw at J;rw [wB N.o] at J;exact ⟨K,a2.o.trans C.o.1,by show MW base S ((o.es.take (i+1)).foldl Hp.Hw h) K w4;rw [show (o.es.take (i+1)).foldl Hp.Hw h=q.Hz e.2 from J];exact C.o.2.1.mono (fun b z=>z.1),a3.o.trans (C.o.2.2.mono (fun b z=>z.1))⟩
    case measure=>simp [bF];omega
   |true=>
    have a6:(vk e.2 !=0)=true:=by rw [fq,hs]
    have HK:=ah (fE a5.o M.o t.o.2.2 e.1 (P.o.1.vr t.o.2.1));rw [Q.o] at HK;have HV:=ah (fun (K:SM) (w4:World) (hh:K.H=L.H) (a4:MW base (fun b=>S b/\b≠X) (q.Hz e.1) K w4)=>(by
     have h9:=fE a4 (M.o.M7 (Np.Hz q e.1) (aO (q.KI e.1))) ((Np.Hz q e.1).zero t.o.2.2) e.2 (by rw [(Np.Hz q e.1).len];exact P.o.2.vr t.o.2.1);rw [hh] at h9;exact h9))
    have N:=ah hs;clear hs;go_wp2_with (first
     |(have _z:=C
       refine (HV.out K w4 (C.o.1.H.trans Q.o) C.o.2.1).mono ?_;clear _z;rintro e9 w5 ⟨rfl,L5,V,Z,W⟩;have H5:=ah (m.intro V (m.intro Z W));clear V Z W)
     |(refine HK.o.mono ?_
       rintro e9 w4 ⟨rfl,K,v,B,r⟩;have p:=u.o.keep r (fun z=>z.2 rfl);have y5:w4.cell? ⟨X,5,none⟩=some (.int .i64 (vk e.2)):=p.c 5;have y6:w4.cell? ⟨X,6,none⟩=some (.int .i64 (vi e.2)):=p.c 6;have y7:w4.cell? ⟨X,7,none⟩=some (.int .u64 0):=p.c 7;have y8:w4.cell? ⟨X,8,none⟩=some (.string ByteArray.empty):=p.c 8;have y9:w4.cell? ⟨X,9,none⟩=some (.int .i64 (vr e.2)):=p.c 9;have C:=ah (m.intro v (m.intro B r));clear v B r p)
     |fail)
    go_roundw
    case rel=>
     refine ⟨i+1,by omega,by simp,?_⟩;have J:=HF.o;unfold Hp.Hw at J;rw [r_ N.o] at J;exact ⟨L5,a2.o.trans (C.o.1.trans H5.o.1),by show MW base S ((o.es.take (i+1)).foldl Hp.Hw h) L5 w5;rw [show (o.es.take (i+1)).foldl Hp.Hw h=(q.Hz e.1).Hz e.2 from J];exact H5.o.2.1.mono (fun b z=>z.1),(a3.o.trans (C.o.2.2.mono (fun b z=>z.1))).trans (H5.o.2.2.mono (fun b z=>z.1))⟩
    case measure=>simp [bF];omega
  ·obtain rfl:i=o.es.length:=by omega
   have HT:=HI.out;rw [bf] at HT;obtain ⟨L1,l,k,x⟩:=HT;have H9:=ah (m.intro l (m.intro k x));clear l k x HI;go_wp2;go_end0;exact ⟨rfl,L1,H9.o.1,by rw [Dc b0.o];exact H9.o.2.1,H9.o.2.2⟩
end
section
variable {S:Nat->Prop} {base:Nat} {g h:Hp} {w:World}
theorem Sm.Mt {h:Hp} (s:Sm h) (k:Nat) (hk:k=7∨k=9∨k=10):(Go.Proofs.YtbpcdfbmnklcjaaGreatDoor.h_ h k).length<=1000000:=by
 have:=s.nu;simp only [Hp.nu,Hp.mu] at this;rcases hk with rfl|rfl|rfl
 ·show h.grey.length<=_
  omega
 ·show h.weak.length<=_
  omega
 ·show h.GZ.length<=_
  omega
theorem sj {L:SM} (a:MW base S h L w) (s:Sm h) (v:h.nu+h.again.length+1<=20000) (P:h.ob 0=none) (hp:1<=h.objs.length) (n:Nat) (o:Ob) (ho:h.ob n=some o) (k:vV h o.es) (hm:o.mode=1):
 Calls Tryz.prog 97 #[.pointer (some ⟨L.H,0,none⟩),.int .i64 n,.pointer (some ⟨L.ob n,0,none⟩)] w fun e w'=>e=.returned (.tuple #[])/\∃ L',Lm L L'/\MW base S (h.Ih n o) L' w'/\Keeps w w' S:=by
 obtain ⟨A,D,j,M,q⟩:=a.ents ho;obtain ⟨r0,f⟩:=a.ob n o ho;have V:w.cell? ⟨L.ob n,4,none⟩=some (.int .i64 o.mode):=f.c 4;have c5:w.cell? ⟨L.ob n,5,none⟩=some (.slice A o.es.length D):=by rw [<-j];exact f.c 5
 rw [hm] at V;have Q:=s.len;have R:=s.es n o ho;have G:=ah a;have N:=ah s;have Z:=ah k;have HO:=ah ho;have HE:=ah j;have F:=ah hm;clear a s k ho j q f hm;have B:=N.o.Mt 10 (.inr (.inr rfl));obtain ⟨ag,t,C,i⟩:∃ ag t C,L.li 10=.slice ag t C:=by
  obtain ⟨x,y,z⟩:=aF (G.o.li 10 (by simp [eO]));exact ⟨x,_,y,z⟩
 have W:w.cell? ⟨L.H,10,none⟩=some (.slice ag t C):=by rw [<-i];exact G.o.hp.c 10
 have HG:=ah i;clear i;go_enter Tryz.func97,Tryz.ntmps97;go_upto_region 11 with (first
  |(at_builtin;refine G.o.app 10 (by simp [eO]) n rfl _ _ rfl HG.o.symm rfl B ?_;u T U w1 b d p;have cR:=b.c 10;have zR:=b.Nq 10;have H1:=ah d;have Y:=ah p;clear b d p)
  |go_in)
 generalize w1.setCell ⟨L.H,10,none⟩ (.slice (some ⟨T,0,none⟩) ((h_ h 10).length+1) U)=w5 at *;have E:=ah (nP H1.o (N.o.MQ n v) P hp n o HO.o Z.o);go_wp2_with (first
  |(refine E.o.mono ?_
    rintro e9 w6 ⟨rfl,X,l,r,m⟩;have J:=ah (K.intro l (K.intro r m));clear l r m)
  |fail)
 go_end0;exact ⟨rfl,X,(Lm.set L 10 (.inr (.inr rfl)) _).trans J.o.1,by rw [BP F.o];exact J.o.2.1,Y.o.trans J.o.2.2⟩
theorem rQ {L:SM} (a:MW base S h L w) (s:Sm h) (c1:h.nu+h.again.length+1<=20000) (hz:h.ob 0=none) (hp:1<=h.objs.length) (n:Nat) (o:Ob) (ho:h.ob n=some o) (J:vV h o.es) (hm:o.mode=2):
 Calls Tryz.prog 97 #[.pointer (some ⟨L.H,0,none⟩),.int .i64 n,.pointer (some ⟨L.ob n,0,none⟩)] w fun e w'=>e=.returned (.tuple #[])/\∃ L',Lm L L'/\MW base S (h.Ih n o) L' w'/\Keeps w w' S:=by
 obtain ⟨A,W,E,b7,R⟩:=a.ents ho;obtain ⟨r0,C⟩:=a.ob n o ho;have c4:w.cell? ⟨L.ob n,4,none⟩=some (.int .i64 o.mode):=C.c 4;have c5:w.cell? ⟨L.ob n,5,none⟩=some (.slice A o.es.length W):=by rw [<-E];exact C.c 5
 rw [hm] at c4;have a6:=s.len;have c3:=s.es n o ho;have HA:=ah a;have HS:=ah s;have HR:=ah J;have HO:=ah ho;have HE:=ah E;have b2:=ah hm;clear a s J ho E R C hm;go_enter Tryz.func97,Tryz.ntmps97;go_wp2;go_loopw [60,9] (fun iv ev wr=>∃ i:Nat,i<=o.es.length/\iv=.int .i64 i/\Hq (∃ L',Lm L L'/\MW base S ((o.es.take i).foldl Hp.key1 h) L' wr/\Keeps w wr S)) (fun iv _ _=>o.es.length-bF iv)
 case atStart=>exact ⟨0,by omega,rfl,L,Lm.refl L,HA.o,Keeps.refl _ _⟩
 case round=>
  obtain ⟨i,c2,rfl,HI⟩:=hrel;by_cases a7:i<o.es.length
  ·obtain ⟨e,he⟩:∃ e,o.es[i]?=some e:=⟨_,aN a7⟩
   obtain ⟨L1,k,j,p⟩:=HI.out;have f:=Np.fold Hp.key1 Np.key1 (o.es.take i) h;have M:((o.es.take i).foldl Hp.key1 h).nu=h.nu:=dQ Hp.key1 Hp.Ku (o.es.take i) h;have HF:Hq ((o.es.take (i+1)).foldl Hp.key1 h=Hp.key1 ((o.es.take i).foldl Hp.key1 h) e):=ah (by rw [bE he,bD]);generalize (o.es.take i).foldl Hp.key1 h=q at *;obtain ⟨o1,K,_,u,_⟩:=f.Nj HO.o;obtain ⟨A1,V,r,a9,m⟩:=j.ents K;rw [u] at r m;have:A1=A/\V=W:=by
    have h9:=r.symm.trans ((congrFun k.es n).trans HE.o);simp at h9;exact h9
   obtain ⟨rfl,rfl⟩:=this;obtain ⟨g,rfl,b6,d⟩:=m i e he;have d0:=d 0 _ rfl;have d1:=d 1 _ rfl;have d2:=d 2 _ rfl;have d3:=d 3 _ rfl;have d4:=d 4 _ rfl;have d5:=d 5 _ rfl;have d6:=d 6 _ rfl;have d7:=d 7 _ rfl;have d8:=d 8 _ rfl;have d9:=d 9 _ rfl;simp only [Nat.add_zero] at d0;have B:=HR.o e (aW he);have Z:=ah k;have a2:=ah (j.hole (.cells #[.int .i64 (vk e.1),.int .i64 (vi e.1),.int .u64 0,.string ByteArray.empty,.int .i64 (vr e.1),.int .i64 (vk e.2),.int .i64 (vi e.2),.int .u64 0,.string ByteArray.empty,.int .i64 (vr e.2)] 122));have c7:=ah j.up;have a0:=ah (p.trans (Keeps.of (aU wr (.cells #[.int .i64 (vk e.1),.int .i64 (vi e.1),.int .u64 0,.string ByteArray.empty,.int .i64 (vr e.1),.int .i64 (vk e.2),.int .i64 (vi e.2),.int .u64 0,.string ByteArray.empty,.int .i64 (vr e.2)] 122)) (au _) S));have b1:=ah (show Rg q e.1/\Rg q e.2 from ⟨B.1.mono f.len,B.2.mono f.len⟩);have b0:=ah (HS.o.M7 f (aO M));have Y:=ah (show q.objs.length<=5001/\1<=q.objs.length/\q.ob 0=none from by rw [f.len];exact ⟨a6,hp,f.zero hz⟩);have b3:=ah k.H;have t:=ah (lM wr e);clear f k j p B K u r m d HI M he;go_upto_region 16 with (fail)
   generalize wr.alloc (.cells #[.int .i64 (vk e.1),.int .i64 (vi e.1),.int .u64 0,.string ByteArray.empty,.int .i64 (vr e.1),.int .i64 (vk e.2),.int .i64 (vi e.2),.int .u64 0,.string ByteArray.empty,.int .i64 (vr e.2)] 122)=w3 at *;generalize wr.heap.size=X at *;have b5:=t.o.lt;have x0:w3.cell? ⟨X,0,none⟩=some (.int .i64 (vk e.1)):=t.o.c 0;have x1:w3.cell? ⟨X,1,none⟩=some (.int .i64 (vi e.1)):=t.o.c 1;have x2:w3.cell? ⟨X,2,none⟩=some (.int .u64 0):=t.o.c 2;have x3:w3.cell? ⟨X,3,none⟩=some (.string ByteArray.empty):=t.o.c 3;have x4:w3.cell? ⟨X,4,none⟩=some (.int .i64 (vr e.1)):=t.o.c 4;have x5:w3.cell? ⟨X,5,none⟩=some (.int .i64 (vk e.2)):=t.o.c 5;have x6:w3.cell? ⟨X,6,none⟩=some (.int .i64 (vi e.2)):=t.o.c 6;have x7:w3.cell? ⟨X,7,none⟩=some (.int .u64 0):=t.o.c 7;have x8:w3.cell? ⟨X,8,none⟩=some (.string ByteArray.empty):=t.o.c 8;have x9:w3.cell? ⟨X,9,none⟩=some (.int .i64 (vr e.2)):=t.o.c 9;clear d0 d1 d2 d3 d4 d5 d6 d7 d8 d9;cases hs:e.2.isSome with
   |false=>
    have a5:(vk e.2 !=0)=false:=by rw [fq,hs]
    have F:=ah hs;clear hs;go_wp2;go_roundw
    case rel=>
     refine ⟨i+1,by omega,by simp,?_⟩;have U:=HF.o;rw [wB F.o] at U;exact ⟨L1,Z.o,by rw [U];exact a2.o.mono (fun b z=>z.1),a0.o⟩
    case measure=>simp [bF];omega
   |true=>
    have a5:(vk e.2 !=0)=true:=by rw [fq,hs]
    have HK:=ah (fE a2.o b0.o Y.o.2.2 e.1 (b1.o.1.vr Y.o.2.1));rw [b3.o] at HK;have F:=ah hs;clear hs;go_wp2_with (first
     |(refine HK.o.mono ?_
       rintro e9 w4 ⟨rfl,L4,N,T,P⟩;have H4:=ah (G.intro N (G.intro T P));clear N T P)
     |fail)
    go_roundw
    case rel=>
     refine ⟨i+1,by omega,by simp,?_⟩;have U:=HF.o;rw [r_ F.o] at U;exact ⟨L4,Z.o.trans H4.o.1,by rw [U];exact H4.o.2.1.mono (fun b z=>z.1),a0.o.trans (H4.o.2.2.mono (fun b z=>z.1))⟩
    case measure=>simp [bF];omega
  ·obtain rfl:i=o.es.length:=by omega
   have HT:=HI.out;rw [bf] at HT;obtain ⟨L1,k,j,p⟩:=HT;obtain ⟨H1,c0,b9,c6,a3,b8⟩:=L1;obtain rfl:H1=L.H:=k.H;have f:=Np.fold Hp.key1 Np.key1 o.es h;have a8:=(HS.o.M7 f (aO (dQ Hp.key1 Hp.Ku o.es h))).Mt 9 (.inr (.inl rfl));have a1:=ah (show ∀ g:Hp,g=o.es.foldl Hp.key1 h->h.Ih n o={ g with weak:=g.weak++[n] } from fun g e=>by rw [e];exact CP b2.o);generalize hq:o.es.foldl Hp.key1 h=q at *;have b4:=ah (a1.o q rfl);clear f hq a1;obtain ⟨ag,ng,cg,D⟩:∃ ag ng cg,a3 9=.slice ag ng cg:=by
    obtain ⟨x,y,z⟩:=aF (j.li 9 (by simp [eO]));exact ⟨x,_,y,z⟩
   have c9:wr.cell? ⟨L.H,9,none⟩=some (.slice ag ng cg):=by rw [<-D];exact j.hp.c 9
   have HG:=ah D;have H9:=ah (G.intro k (G.intro j p));clear D k j p HI;go_wp2_with (first
    |(at_builtin;refine H9.o.2.1.app 9 (by simp [eO]) n rfl _ _ rfl HG.o.symm rfl a8 ?_;a4 gq cq w1 l v Q;have cR:=l.c 9;have zR:=l.Nq 9;have H1:=ah v;have K1:=ah Q;clear l v Q)
    |go_in)
   go_end0;exact ⟨rfl,_,H9.o.1.trans (Lm.set _ 9 (.inr (.inl rfl)) _),by rw [b4.o];exact H1.o,H9.o.2.2.trans K1.o⟩
theorem rY {L:SM} (a:MW base S h L w) (s:Sm h) (C:h.nu+h.again.length+1<=20000) (P:h.ob 0=none) (hp:1<=h.objs.length) (n:Nat) (o:Ob) (ho:h.ob n=some o) (k:vV h o.es) (hm:o.mode=3):
 Calls Tryz.prog 97 #[.pointer (some ⟨L.H,0,none⟩),.int .i64 n,.pointer (some ⟨L.ob n,0,none⟩)] w fun e w'=>e=.returned (.tuple #[])/\∃ L',Lm L L'/\MW base S (h.Ih n o) L' w'/\Keeps w w' S:=by
 obtain ⟨A,t,j,B,m⟩:=a.ents ho;obtain ⟨r0,f⟩:=a.ob n o ho;have F:w.cell? ⟨L.ob n,4,none⟩=some (.int .i64 o.mode):=f.c 4;have U:w.cell? ⟨L.ob n,5,none⟩=some (.slice A o.es.length t):=by rw [<-j];exact f.c 5
 rw [hm] at F;have D:=s.len;have E:=s.es n o ho;have v:=ah a;have J:=ah s;have V:=ah k;have W:=ah ho;have X:=ah j;have u:=ah hm;clear a s k ho j m f hm;have q:=J.o.Mt 9 (.inr (.inl rfl));obtain ⟨ag,p,r,i⟩:∃ ag p r,L.li 9=.slice ag p r:=by
  obtain ⟨x,y,z⟩:=aF (v.o.li 9 (by simp [eO]));exact ⟨x,_,y,z⟩
 have T:w.cell? ⟨L.H,9,none⟩=some (.slice ag p r):=by rw [<-i];exact v.o.hp.c 9
 have K:=ah i;clear i;go_enter Tryz.func97,Tryz.ntmps97;go_wp2_with (first
  |(at_builtin;refine v.o.app 9 (by simp [eO]) n rfl _ _ rfl K.o.symm rfl q ?_;intro Q R w1 b d l;have cR:=b.c 9;have N:=b.Nq 9;have M:=ah d;have G:=ah l;clear b d l)
  |go_in)
 go_end0;exact ⟨rfl,_,Lm.set L 9 (.inr (.inl rfl)) _,by rw [Cn u.o];exact M.o,G.o⟩
theorem oO {L:SM} (a:MW base S h L w) (s:Sm h) (d:h.nu+h.again.length+1<=20000) (f:h.ob 0=none) (hp:1<=h.objs.length) (n:Nat) (o:Ob) (ho:h.ob n=some o) (b:vV h o.es) (hm:o.mode<=3):
 Calls Tryz.prog 97 #[.pointer (some ⟨L.H,0,none⟩),.int .i64 n,.pointer (some ⟨L.ob n,0,none⟩)] w fun e w'=>e=.returned (.tuple #[])/\∃ L',Lm L L'/\MW base S (h.Ih n o) L' w'/\Keeps w w' S:=by
 rcases (by omega:o.mode=0∨o.mode=1∨o.mode=2∨o.mode=3) with c|c|c|c
 ·exact rW a s d f hp n o ho b c
 ·exact sj a s d f hp n o ho b c
 ·exact rQ a s d f hp n o ho b c
 ·exact rY a s d f hp n o ho b c
structure Wk (h:Hp):Prop where
 s:Sm h
 z:h.ob 0=none
 p:1<=h.objs.length
 c:h.Closed
 m:∀ n o,h.ob n=some o->o.mode<=3
 l:∀ n,n∈h.grey∨n∈h.again∨n∈h.weak∨n∈h.GZ->h.Lv n
theorem Wk.M7 {h g:Hp} (k:Wk h) (x:Np h g) (a:g.nu<=h.nu) (b:∀ n,n∈g.grey∨n∈g.again∨n∈g.weak∨n∈g.GZ->g.Lv n):Wk g:=
 ⟨k.s.M7 x a,x.zero k.z,by rw [x.len];exact k.p,x.closed k.c,x.md k.m,b⟩
theorem Wk.Mq (k:Wk h) (x:Nk h g) (b:g.nu<=h.nu):Wk g:=by
 refine k.M7 x.md b (fun n b=>(x.md.lv n).2 ?_);rcases b with a|a|a|a
 ·rcases x.lv n a with c|c
  ·exact k.l n (.inl c)
  ·exact c
 ·exact k.l n (.inr (.inl (by rw [<-x.md.again];exact a)))
 ·exact k.l n (.inr (.inr (.inl (by rw [<-x.wk];exact a))))
 ·exact k.l n (.inr (.inr (.inr (by rw [<-x.ep];exact a))))
end
section
variable {S:Nat->Prop} {base:Nat} {h:Hp} {w:World}
theorem qL (h:Hp) (n:Nat):(h.upd n fun o=>{ o with col:=3 }).nu<=h.nu:=by
 have:=h.J_ n 3 rfl;show (h.upd n fun o=>{ o with col:=3 }).wn+h.grey.length+h.GZ.length+h.weak.length<=h.wn+h.grey.length+h.GZ.length+h.weak.length;omega
theorem tV {L:SM} (a:MW base S h L w) (k:Wk h) (a4:h.nu+h.again.length+1<=20000) (n:Nat) (hl:h.Lv n):
 Calls Tryz.prog 66 #[.pointer (some ⟨L.H,0,none⟩),.int .i64 (n:Int)] w fun e w'=>e=.returned (.int .i64 ((h.scan n).2:Int))/\∃ L',Lm L L'/\MW base S (h.scan n).1 L' w'/\Keeps w w' S:=by
 obtain ⟨o,ho⟩:=hl;have hn:=Hp.Hy ho;have a6:=k.s.len;have a7:=k.s.es n o ho;obtain ⟨g,W,R,a0,d⟩:=a.slot k.p;have T:=d n hn;have c0:w.cell? ⟨L.H,0,none⟩=some (.slice (some ⟨g,0,none⟩) h.objs.length W):=by rw [<-R];exact a.hp.c 0
 obtain ⟨r0,j⟩:=a.ob n o ho;have c1:w.cell? ⟨L.ob n,1,none⟩=some (.int .i64 o.col):=j.c 1;have z1:=j.Nq 1;have HB:=ah (a.M0 n 1 (.int .i64 3) (fun o=>{ o with col:=3 }) (by decide) ho ⟨rfl,rfl⟩ (fun r i=>by
  unfold kY;by_cases x:i=1
  ·subst x;simp
  ·simp [x]))
 have b:=Np.col h n 3 rfl;have P:Hq ((h.upd n fun o=>{ o with col:=3 }).ob n=some { o with col:=3 }):=ah (by rw [Hp.Hf,if_pos rfl,ho];rfl);have N:Hq (h.scan n=((h.upd n fun o=>{ o with col:=3 }).Ih n { o with col:=3 },1+o.es.length)):=ah (by unfold Hp.scan;rw [ho];rfl);have HK:=ah (k.s.M7 b (qL h n));have HN:Hq ((h.upd n fun o=>{ o with col:=3 }).nu+(h.upd n fun o=>{ o with col:=3 }).again.length+1<=20000):=ah (by
  have:=qL h n;rw [show (h.upd n fun o=>{ o with col:=3 }).again=h.again from rfl];omega)
 have Y:=ah (b.zero k.z);have HP:Hq (1<=(h.upd n fun o=>{ o with col:=3 }).objs.length):=ah (by rw [b.len];exact k.p);have HR:=ah (vV.of (b.zero k.z) (b.closed k.c) P.o);have HM:=ah (k.m n o ho);have Z:=ah (a.ents ho);have HA:=ah a;clear d b ho j a;go_enter Tryz.func66,Tryz.ntmps66;go_upto_region 3 with (fail)
 generalize w.setCell ⟨L.ob n,1,none⟩ (.int .i64 3)=w5 at *;generalize hq:(h.upd n fun o=>{ o with col:=3 })=q at *;have HQ:=ah hq;clear hq;have X:=HB.o.1;obtain ⟨r5,v⟩:=X.ob n _ P.o;have e3:w5.cell? ⟨L.ob n,3,none⟩=some (.int .i64 0):=v.c 3;have l:=ah (jQ X HK.o Y.o 0 HP.o);have y:q.mark 0=q:=by unfold Hp.mark;rw [Y.o]
 rw [y,show ((0:Nat):Int)=(0:Int) from rfl] at l;clear v X y c0 c1 T z1;go_wp2_with fail;refine l.o.mono ?_;rintro e9 w6 ⟨rfl,L6,C,J,E⟩;have t:=ah (u.intro C (u.intro J E));clear C J E l;obtain ⟨H1,a2,Q,V,a3,a1⟩:=L6;obtain rfl:H1=L.H:=t.o.1.H;obtain rfl:Q=L.ob:=t.o.1.ob;obtain rfl:V=L.es:=t.o.1.es;obtain ⟨A,K,F,U,-⟩:=Z.o;obtain ⟨r6,f⟩:=t.o.2.1.ob n _ P.o;have f0:w6.cell? ⟨L.ob n,0,none⟩=some (.int .i64 5):=f.c 0;have f5:w6.cell? ⟨L.ob n,5,none⟩=some (.slice A o.es.length K):=by rw [<-F];exact f.c 5
 have M:=ah (oO t.o.2.1 HK.o HN.o Y.o HP.o n _ P.o HR.o HM.o);clear f F e3;go_wp2_with fail;refine M.o.mono ?_;rintro e9 w7 ⟨rfl,L7,B,G,D⟩;have H7:=ah (u.intro B (u.intro G D));clear B G D M;go_wp2;go_ret;refine ⟨by rw [N.o];simp,L7,t.o.1.trans H7.o.1,by rw [N.o];exact H7.o.2.1,(HB.o.2.trans t.o.2.2).trans H7.o.2.2⟩
end
section
variable {S:Nat->Prop} {base cap m n size:Nat} {gs:List Nat} {w:World} {xs:List Value}
theorem lI {e:Nat} {a:Option Addr} (h:w.ownsRow base e size (.slice a n cap) n xs) (hm:m<=n):w.ownsRow base e size (.slice a m cap) m (xs.take (m*size)):=by
 obtain ⟨r,q|⟨g,b,l,c,k,p,d,j,i,o⟩⟩:=h
 ·obtain ⟨c,rfl⟩:=q
  obtain rfl:m=0:=by omega
  refine ⟨by simp,.inl ⟨?_,rfl⟩⟩;exact c
 ·have f:m*size<=n*size:=Nat.mul_le_mul_right _ hm
  refine ⟨by rw [bX,r];omega,.inr ⟨g,b,l,?_,k,p,aI hm d,j,i,?_⟩⟩
  ·simp at c
   simp [c]
  ·rw [<-o,List.take_take,Nat.min_eq_left f]
theorem Wk.take {h:Hp} (k:Wk h) (t:M5 h No) (a:h.grey≠[]):Wk h.take.1:=k.M7 (Np.take h) (h.JD a) t.take.ll
theorem Hp.JE {h:Hp} (a:h.grey=gs++[n]):h.take=Hp.scan { h with grey:=gs } n:=by
 unfold Hp.take;rw [a,List.getLast?_concat,List.dropLast_concat]
theorem Eo (h:Hp) (a:h.grey=gs++[n]):Hp.nu { h with grey:=gs }+1=h.nu:=by
 show h.wn+gs.length+h.GZ.length+h.weak.length+1=h.wn+h.grey.length+h.GZ.length+h.weak.length;rw [a];simp;omega
theorem MW.pop {h:Hp} {L:SM} (a:MW base S h L w) (u:h.grey=gs++[n]):∃ g cap,L.li 7=.slice (some ⟨g,0,none⟩) (gs.length+1) cap/\gs.length+1<=cap/\w.cell? ⟨g,gs.length,none⟩=some (.int .i64 (n:Int))/\
 MW base S { h with grey:=gs } { L with li:=fun j=>if j=7 then .slice (some ⟨g,0,none⟩) gs.length cap else L.li j } (w.setCell ⟨L.H,7,none⟩ (.slice (some ⟨g,0,none⟩) gs.length cap))/\Keeps w (w.setCell ⟨L.H,7,none⟩ (.slice (some ⟨g,0,none⟩) gs.length cap)) S:=by
 have f:=a.li 7 (by simp [eO]);have q:h_ h 7=gs++[n]:=u;rw [q] at f;obtain ⟨x,cap,o⟩:=aF f;have l:(gs++[n]).length=gs.length+1:=by simp
 rw [l] at f o;rw [o] at f;rcases f.2 with ⟨_,z⟩|⟨g,r,v,i,hb,y,p,hr⟩
 ·omega
 ·simp at i
  obtain ⟨rfl,rfl⟩:=i;have k:=ay f (g:=g) (by simp [Value.ownBlock]);have b:=lI f (m:=gs.length) (by omega);have d:w.ownsRow base 3 1 (.slice (some ⟨g,0,none⟩) gs.length cap) gs.length (dZ gs):=by
   have:(dZ (gs++[n])).take (gs.length*1)=dZ gs:=by
    unfold dZ;rw [List.map_append,Nat.mul_one];rw [List.take_append_of_le_length (by simp),List.take_of_length_le (by simp)]
   rw [this] at b;exact b
  obtain ⟨p1,t,s⟩:=a.JV (w1:=w) 7 (by simp [eO]) (Keeps.refl w _) _ gs d (fun g' e=>.inl (by rw [o];simpa [Value.ownBlock] using e));refine ⟨g,cap,o,p,?_,t,s⟩;rw [k.c (gs.length)];simp [dZ,bq]
theorem Wk.pop {h:Hp} (k:Wk h) (a:h.grey=gs++[n]):Wk { h with grey:=gs }/\Hp.nu { h with grey:=gs }+(Hp.again { h with grey:=gs }).length+1<=20000/\Hp.Lv { h with grey:=gs } n:=by
 have d:=Eo h a;have b:=k.s.nu;refine ⟨⟨⟨k.s.len,?_,k.s.fp,k.s.fr,k.s.Nh,k.s.cr,k.s.lim,k.s.rt,k.s.es⟩,k.z,k.p,k.c,k.m,fun m hm=>?_⟩,?_,?_⟩
 ·show Hp.nu { h with grey:=gs }+h.again.length<=20000
  omega
 ·refine k.l m ?_
  rcases hm with x|x|x|x
  ·exact .inl (by rw [a];exact List.mem_append_left _ x)
  ·exact .inr (.inl x)
  ·exact .inr (.inr (.inl x))
  ·exact .inr (.inr (.inr x))
 ·show Hp.nu { h with grey:=gs }+h.again.length+1<=20000
  omega
 ·exact k.l n (.inl (by rw [a];simp))
theorem mI {h:Hp} {L:SM} (a:MW base S h L w) (k:Wk h) (t:M5 h No):
 Calls Tryz.prog 92 #[.pointer (some ⟨L.H,0,none⟩)] w fun e w'=>(∃ z,e=.returned (.int .i64 z))/\∃ L',Lm L L'/\MW base S h.drain L' w'/\Keeps w w' S:=by
 have M:Hq (Wk h/\M5 h No/\Lm L L/\MW base S h L w/\Keeps w w S):=ah ⟨k,t,Lm.refl L,a,Keeps.refl _ _⟩;clear a k t;go_enter Tryz.func92,Tryz.ntmps92;go_wp2
 go_loopg [3] h.mu (fun m zv wr=>∃ (z:Int) (q:Hp) (L':SM),zv=.int .i64 z/\Hq (q.mu=m/\q.drain=h.drain/\Wk q/\M5 q No/\Lm L L'/\MW base S q L' wr/\Keeps w wr S))
 case atStart=>exact ⟨0,h,L,rfl,rfl,rfl,M.o⟩
 case round=>
  obtain ⟨z,q,L1,rfl,HI⟩:=hrel;clear M;obtain ⟨H1,a3,a2,a6,a4,a1⟩:=L1;obtain rfl:H1=L.H:=HI.out.2.2.2.2.1.H;by_cases B:q.grey=[]
  ·have u:=HI.out.2.2.2.2.2.1
   have T:=u.li 7 (by simp [eO]);rw [show h_ q 7=[] from B] at T;obtain ⟨x,cap,D⟩:=aF T;have c7:wr.cell? ⟨L.H,7,none⟩=some (.slice x 0 cap):=by
    have:=u.hp.c 7;rw [this];exact congrArg some D
   have HD:=ah (q.JN B);clear u T D B;go_wp2;go_ret;exact ⟨⟨z,rfl⟩,_,HI.out.2.2.2.2.1,by rw [<-HI.out.2.1,HD.o];exact HI.out.2.2.2.2.2.1,HI.out.2.2.2.2.2.2⟩
  ·obtain ⟨gs,n,j⟩:∃ gs n,q.grey=gs++[n]:=⟨_,_,(List.dropLast_concat_getLast B).symm⟩
   obtain ⟨g,cap,D,a0,Q,r,E⟩:=HI.out.2.2.2.2.2.1.pop j;have c7:wr.cell? ⟨L.H,7,none⟩=some (.slice (some ⟨g,0,none⟩) (gs.length+1) cap):=by
    have:=HI.out.2.2.2.2.2.1.hp.c 7;rw [this];exact congrArg some D
   have z7:=HI.out.2.2.2.2.2.1.hp.Nq 7;have a5:gs.length<=20000:=by
    have:=HI.out.2.2.1.s.nu;simp only [Hp.nu,Hp.mu,j,aT,List.length_singleton] at this;omega
   have U:=ah (A.intro r E);have X:=ah B;have i:=ah j;clear D r E B j;go_wp2_with fail;go_quiet (fail);go_wp2_with fail;have N:=ah (aC (aG wr.heap.size wr) nq);generalize wr.drewN nq=w2 at *;have l:=ah (HI.out.2.2.2.2.2.1.low N.o);obtain ⟨P,b,C,R,-,d,p⟩:=l.o.pop i.o;have d7:w2.cell? ⟨L.H,7,none⟩=some (.slice (some ⟨P,0,none⟩) (gs.length+1) b):=by
    have:=l.o.hp.c 7;rw [this];exact congrArg some C
   have y7:=l.o.hp.Nq 7;have f:=ah (A.intro d p);have Z:(gs.length:Int)<=b:=by omega
   clear C d p c7 z7 Q U
   go_region
   have y:=ah (aC (aG (w2.setCell ⟨L.H,7,none⟩ (.slice (some ⟨P,0,none⟩) gs.length b)).heap.size (w2.setCell ⟨L.H,7,none⟩ (.slice (some ⟨P,0,none⟩) gs.length b))) 1);have V:=ah (f.o.1.low y.o);have W:=ah (((Keeps.of N.o (au _) S).trans f.o.2).trans (Keeps.of y.o (au _) S));have v:=ah (tV V.o (HI.out.2.2.1.pop i.o).1 (HI.out.2.2.1.pop i.o).2.1 n (HI.out.2.2.1.pop i.o).2.2);rw [<-Hp.JE i.o] at v;have J:∀ x:World,x.drew=x.drewN 1:=fun x=>rfl;rw [J];clear J;generalize (w2.setCell ⟨L.H,7,none⟩ (.slice (some ⟨P,0,none⟩) gs.length b)).drewN 1=w4 at *;clear f y l d7 y7;go_wp2_with fail;refine v.o.mono ?_;rintro e9 w5 ⟨rfl,L5,F,K,G⟩;have Y:=ah (A.intro F (A.intro K G));clear F K G v;go_wp2
   go_roundg q.take.1.mu
   case rel=>
    refine ⟨_,q.take.1,L5,rfl,rfl,?_,HI.out.2.2.1.take HI.out.2.2.2.1 X.o,HI.out.2.2.2.1.take,?_,Y.o.2.1,?_⟩
    ·rw [<-q.Jd X.o];exact HI.out.2.1
    ·exact HI.out.2.2.2.2.1.trans ((Lm.set _ 7 (.inl rfl) _).trans Y.o.1)
    ·exact (HI.out.2.2.2.2.2.2.trans W.o).trans Y.o.2.2
   case measure=>
    have:=q.IQ X.o;have:=HI.out.1;omega
end
end Go.Proofs.YtbpcdfbmnklcjaaGreatDoor
