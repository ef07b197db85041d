import Derived.Test.YtbpcdfbmnklcjaaGreatDoorKHZJ
import Derived.Maps.AppendAt
import Derived.Test.YtbpcdfbmnklcjaaGreatDoorKHUA
namespace Go.Proofs.YtbpcdfbmnklcjaaGreatDoor
open Go Go.RowKit
set_option maxHeartbeats 6400000
set_option maxRecDepth 100000
set_option linter.unusedVariables false
section
variable {H X base:Nat} {Nn li md wh:Int} {f:Nat->Value} {l:List Value} {lv:Value} {w:World}
attribute [local go_sem] bW
theorem vF {g:Nat->Value} {cr:Int} (k:aD w 77 H 19 f) (f1:f 1=.int .i64 wh) (f2:f 2=.int .i64 md) (f3:f 3=.int .i64 li) (f4:f 4=.int .i64 Nn) (f5:f 5=.int .i64 cr) (f7:f 7=lv)
 (hr:aD w 136 X 13 g) (C:g 2=.int .i64 0) (hown:w.ownsRow base 67 1 lv l.length l) (y:base<=w.heap.size) (hl:l.length<=1000000) (a7:0<=md/\md<=1000000) (a9:0<=li/\li<=1000000) (b1:0<=Nn/\Nn<=1000000) (b0:0<=cr/\cr<=1000000):
 Calls Tryz.prog 99 #[.pointer (some ⟨H,0,none⟩),.iface 127 (.pointer (some ⟨X,0,none⟩)),.int .i64 40] w fun e w'=>e=.returned (.tuple #[])/\∃ v',
  aD w' 77 H 19 (fun i=>if i=5 then .int .i64 (cr+40) else if i=4 then .int .i64 (Nn+40) else if i=7 then v' else if i=3 then .int .i64 (li+1) else if i=2 then .int .i64 (md+1) else f i)/\
  aD w' 136 X 13 (fun i=>if i=2 then .int .i64 (0+40) else if i=0 then .int .i64 wh else if i=1 then .int .i64 (md+1) else g i)/\
  w'.ownsRow base 67 1 v' (l.length+1) (l++[.iface 127 (.pointer (some ⟨X,0,none⟩))])/\Keeps w w' (fun c=>c=H∨c=X∨lv.ownBlock=some c)/\∀ q,v'.ownBlock=some q->lv.ownBlock=some q∨w.heap.size<=q:=by
 obtain ⟨n,m,hv⟩:=aF hown;subst hv;have p:H≠X:=fun c=>k.apart hr (by decide) c;have h:X≠H:=fun c=>p c.symm;have R:w.cell? ⟨H,2,none⟩=some (.int .i64 md):=by rw [k.c 2,f2]
 have c3:w.cell? ⟨H,3,none⟩=some (.int .i64 li):=by rw [k.c 3,f3]
 have z2:=k.ME 2;have z3:=k.ME 3;have U:=ah ((k.set (j:=2) (by omega) (.int .i64 (md+1))).set (j:=3) (by omega) (.int .i64 (li+1)));have F:Hq (Keeps w ((w.setCell ⟨H,2,none⟩ (.int .i64 (md+1))).setCell ⟨H,3,none⟩ (.int .i64 (li+1))) (fun c=>c=H)):=ah (Keeps.setCell (S:=fun c=>c=H) (Keeps.setCell (S:=fun c=>c=H) (Keeps.refl w _) rfl _) rfl _);have t:=ah (hr.keep F.o h);have O1:=ah (aj hown F.o (fun q hq c=>ak hown k (by decide) (c ▸ hq)));have a8:=iO X;have a3:=ah (fun w9=>gV w9 X);have a5:=ah y;have F1:=ah f1;have F4:=ah f4;have F5:=ah f5;have F7:=ah f7;have G2:=ah C;clear hown y f1 f2 f3 f4 f5 f7 C;go_enter Tryz.func99,Tryz.ntmps99;go_upto_region 2 with (fail)
 generalize (w.setCell ⟨H,2,none⟩ (.int .i64 (md+1))).setCell ⟨H,3,none⟩ (.int .i64 (li+1))=w1 at *;clear R c3 z2 z3 k hr;have c1:w1.cell? ⟨H,1,none⟩=some (.int .i64 wh):=by rw [U.o.c 1];exact congrArg some F1.o
 have R:w1.cell? ⟨H,2,none⟩=some (.int .i64 (md+1)):=U.o.c 2;have t0:=t.o.c 0;have t1:=t.o.c 1;have z0:=t.o.ME 0;have z1:=t.o.ME 1;have T:=ah ((t.o.set (j:=1) (by omega) (.int .i64 (md+1))).set (j:=0) (by omega) (.int .i64 wh));have E:Hq (Keeps w1 ((w1.setCell ⟨X,1,none⟩ (.int .i64 (md+1))).setCell ⟨X,0,none⟩ (.int .i64 wh)) (fun c=>c=X)):=ah (Keeps.setCell (S:=fun c=>c=X) (Keeps.setCell (S:=fun c=>c=X) (Keeps.refl w1 _) rfl _) rfl _);have M:=ah (U.o.keep E.o p);have W:=ah (aj O1.o E.o (fun q hq c=>ak O1.o t.o (by decide) (c ▸ hq)));go_wp2_with fail;refine (a3.o _).mono ?_;rintro e2 w2 ⟨rfl,rfl⟩;go_upto_region 5 with (fail)
 generalize (w2.setCell ⟨X,1,none⟩ (.int .i64 (md+1))).setCell ⟨X,0,none⟩ (.int .i64 wh)=w3 at *;clear c1 R t0 t1 z0 z1;have c7:w3.cell? ⟨H,7,none⟩=some (.slice n l.length m):=by rw [M.o.c 7];exact congrArg some F7.o
 have b3:=M.o.lt;have b2:=T.o.lt;have B:(Value.slice n l.length m).ownBlock≠some H:=fun c=>ak W.o M.o (by decide) c;have A:(Value.slice n l.length m).ownBlock≠some X:=fun c=>ak W.o T.o (by decide) c;have z:base<=w3.heap.size:=aI a5.o (aI F.o.size E.o.size);have a2:=ah B;have a0:=ah A;have a6:=ah z;clear B A z;go_wp2_with (first
  |(at_builtin
    refine fE rfl (.tmp 41) (.tmp 43) 70 67 1 16 .nilIface rfl Tryz.underlying70 gY rfl (by decide) base (.slice n l.length m) l.length l [.iface 127 (.pointer (some ⟨X,0,none⟩))] W.o rfl rfl rfl (fun u hu=>by simp at hu;subst hu;rfl) (by omega) (by decide) a6.o ?_;intro v' w4 Q C g3 g4;obtain ⟨s,r,P⟩:=aF Q;subst P;have a:=C base w3 (aT _ _) (au _);have v:=ah (show w4.ownsRow base 67 1 (.slice s (l.length+1) r) (l.length+1) (l++[.iface 127 (.pointer (some ⟨X,0,none⟩))])/\Keeps w3 w4 (fun c=>(Value.slice n l.length m).ownBlock=some c)/\∀ q,(Value.slice s (l.length+1) r).ownBlock=some q->(Value.slice n l.length m).ownBlock=some q∨w3.heap.size<=q from ⟨Q,⟨a.os,a.tape,a.output,a.size,fun b hb hn=>g3 b hb hn⟩,fun q e=>by
     by_cases c:(Value.slice n l.length m).ownBlock=some q
     ·exact .inl c
     ·right
      rcases Nat.lt_or_ge q w3.heap.size with d|d
      ·exact absurd e (g4 q d c)
      ·exact d⟩)
    have L:=ah (M.o.keep v.o.2.1 a2.o);have T4:=ah (T.o.keep v.o.2.1 a0.o);have p7:w4.cell? ⟨H,7,none⟩=some (.slice n l.length m):=by rw [L.o.c 7];exact congrArg some F7.o
    have q7:=L.o.ME 7;clear Q C g3 g4 a)
  |fail)
 have K:=ah (L.o.set (j:=7) (by omega) (.slice s (l.length+1) r));have Z:Hq (Keeps w4 (w4.setCell ⟨H,7,none⟩ (.slice s (l.length+1) r)) (fun c=>c=H)):=ah (Keeps.setCell (S:=fun c=>c=H) (Keeps.refl w4 _) rfl _);have J:=ah (T4.o.keep Z.o h);have V:=ah (aj v.o.1 Z.o (fun q hq c=>ak v.o.1 L.o (by decide) (c ▸ hq)));generalize w4.setCell ⟨H,7,none⟩ (.slice s (l.length+1) r)=w5 at *;clear c7 p7 q7;have a1:=ah (jK w5 X H 0 Nn 40 (by rw [J.o.c 2];exact congrArg some G2.o) (by rw [K.o.c 4];exact congrArg some F4.o) (J.o.ME 2) (K.o.ME 4) h (by omega) (by omega) (by omega));refine a1.o.mono ?_;rintro e6 G ⟨rfl,x⟩;have T6:=ah ((J.o.set (j:=2) (by omega) (.int .i64 (0+40))).keep (Keeps.setCell (S:=fun c=>c=H) (Keeps.refl _ _) rfl (.int .i64 (Nn+40)) (g:=H) (j:=4)) h);have D:=ah ((K.o.keep (Keeps.setCell (S:=fun c=>c=X) (Keeps.refl _ _) rfl (.int .i64 (0+40)) (g:=X) (j:=2)) p).set (j:=4) (by omega) (.int .i64 (Nn+40)));have Y:Hq (Keeps w5 ((w5.setCell ⟨X,2,none⟩ (.int .i64 (0+40))).setCell ⟨H,4,none⟩ (.int .i64 (Nn+40))) (fun c=>c=H∨c=X)):=ah (Keeps.setCell (S:=fun c=>c=H∨c=X) (Keeps.setCell (S:=fun c=>c=H∨c=X) (Keeps.refl w5 _) (.inr rfl) _) (.inl rfl) _);rw [<-x] at T6 D Y;clear x;have O6:=ah (aj V.o Y.o (fun q hq c=>by
  rcases c with c|c
  ·exact ak V.o K.o (by decide) (c ▸ hq)
  ·exact ak V.o J.o (by decide) (c ▸ hq)))
 have c5:G.cell? ⟨H,5,none⟩=some (.int .i64 cr):=by rw [D.o.c 5];exact congrArg some F5.o
 have z5:=D.o.ME 5;go_wp2;go_end0;have N:Keeps G (G.setCell ⟨H,5,none⟩ (.int .i64 (cr+40))) (fun c=>c=H):=Keeps.setCell (S:=fun c=>c=H) (Keeps.refl G _) rfl _;refine ⟨rfl,.slice s (l.length+1) r,D.o.set (j:=5) (by omega) _,T6.o.keep N h,aj O6.o N (fun q hq c=>ak O6.o D.o (by decide) (c ▸ hq)),?_,fun q hq=>?_⟩
 ·exact (((((F.o.mono (fun c e=>Or.inl e)).trans (E.o.mono (fun c e=>Or.inr (Or.inl e)))).trans (v.o.2.1.mono (fun c e=>Or.inr (Or.inr e)))).trans (Z.o.mono (fun c e=>Or.inl e))).trans (Y.o.mono (fun c e=>e.imp id Or.inl))).trans (N.mono (fun c e=>Or.inl e))
 ·exact (v.o.2.2 q hq).imp id (aI (aI F.o.size E.o.size))
end
section
variable {G:Gh} {L:PM} {S S':Nat->Prop} {base n:Nat} {h:Hp} {o:Ob} {w w1 w2:World}
attribute [local go_sem] bW
theorem Keeps.into (h:Keeps w w1 S) (k:Keeps w1 w2 S') (hb:∀ c,S' c->S c∨w.heap.size<=c):Keeps w w2 S:=
 ⟨k.os.trans h.os,k.tape.trans h.tape,k.output.trans h.output,aI h.size k.size,fun c hc hn=>(k.block c (aW hc h.size) (fun e=>by
  rcases hb c e with x|x
  ·exact hn x
  ·omega)).trans (h.block c hc hn)⟩
def vM (m:Nat):Array Value:=#[.int .i64 0,.int .i64 0,.int .i64 0,.int .i64 0,.bool false,.int .i64 (m:Int),.pointer none,.slice none 0 0,.map none,.int .i64 0,.int .i64 0,.int .i64 0,.int .i64 0]
theorem Ag (p:PS base S h L w) (g:Gd h) (b:MF h) (m:Nat):
 Calls Tryz.prog 68 #[.pointer (some ⟨L.H,0,none⟩),.int .i64 (m:Int)] w fun e w'=>∃ L',e=.returned (.pointer (some ⟨L'.tb h.objs.length,0,none⟩))/\L'.H=L.H/\PS base S (h.make m) L' w'/\Keeps w w' S:=by
 obtain ⟨x,y,G,a,r⟩:=p;have l:=aU w (.cells (vM m) 136);have F:=ah (show aD (w.alloc (.cells (vM m) 136)) 136 w.heap.size 13 (fun j=>(vM m).getD j (.bool false)) from aD.mk' w 136 (vM m));have T:=a.low l;have D:=T.li 7 (by simp [eF]);have k:(w.alloc (.cells (vM m) 136)).ownsRow base 67 1 (L.li 7) (G.Ns.map (eP L.tb 7)).length (G.Ns.map (eP L.tb 7)):=by rw [bY];exact D
 have B:G.Ns.length<=1000000:=by have:=r.ol;have:=g.s.len;omega
 have V:=g.i.ps;have t:=vF (X:=w.heap.size) T.hp rfl rfl rfl rfl rfl rfl F.o rfl k T.bs (by rw [bY];exact B) (by have:=g.s.len;show 0<=(h.objs.length:Int)-1/\(h.objs.length:Int)-1<=1000000;omega) (by have:=g.s.fr;show 0<=(h.live:Int)/\(h.live:Int)<=1000000;omega) (by have:=g.s.Nn;show 0<=(h.bytes:Int)/\(h.bytes:Int)<=1000000;omega) (by have:=g.s.cr;show 0<=(h.G6:Int)/\(h.G6:Int)<=1000000;omega);rw [bY] at t;have a2:=ah t;have J:=ah l;have HA:=ah a;have HR:=ah r;have HG:=ah g;have a3:=ah b;clear t l a T r g b D k F B V;go_enter Tryz.func68,Tryz.ntmps68;go_wp2_with fail;refine a2.o.mono ?_;rintro e2 w2 ⟨rfl,v',Q,P,N,M,K⟩;have H2:=ah (And.intro Q (And.intro P (And.intro N (And.intro M K))));clear Q P N M K;go_wp2;go_ret;obtain ⟨Q,P,N,M,K⟩:=H2.o;obtain ⟨A,a0⟩:=jO x;obtain ⟨z,Z⟩:=jO y;obtain ⟨u,Y⟩:=jO G.ag;obtain ⟨B4,W⟩:=jO G.Ns;have R:=HG.o.i;have f:∀ n,h.Lv n->n<h.objs.length:=fun n d=>by obtain ⟨o,ho⟩:=d;exact Hp.Ia ho
 have C:∀ n,n∈h.roots∨n∈h.grey∨n∈h.finals∨n∈h.pending->n<h.objs.length:=by
  intro n d;rcases d with d|d|d|d
  ·exact f n (Hp.IG (R.ls n (.inl d)))
  ·by_cases hs:h.state=1
   ·exact f n ((R.s1 hs).ll n (.inl d))
   ·rw [(HG.o.e hs).1] at d;simp at d
  ·exact f n (Hp.IG (R.ls n (.inr (.inr d))))
  ·exact f n (Hp.IG (R.ls n (.inr (.inl d))))
 have kk:Keeps w w2 (fun c=>c=L.H∨(L.li 7).ownBlock=some c):=Keeps.into (Keeps.of J.o (au _) _) M (fun c e=>by
  rcases e with e|e|e
  ·exact .inl (.inl e)
  ·exact .inr (by omega)
  ·exact .inl (.inr e))
 have U:w.heap.size<=(w.alloc (.cells (vM m) 136)).heap.size:=J.o.size;have key:=HA.o.made (m:=m) (X:=w.heap.size) (N0:=h.objs.length+1+A+z+u+B4) (v:=v') a3.o C (by omega) (fun n d=>by
  rcases d with d|d|d|d
  ·have:=a0 n d;omega
  ·have:=Z n d;omega
  ·have:=Y n d;omega
  ·have:=W n d;omega) kk (au _) (Q.congr (fun j hj=>?_)) (P.congr (fun j hj=>?_)) N (fun q hq=>(K q hq).imp id (aI U))
 ·refine ⟨L.mk1 h.objs.length (h.objs.length+1+A+z+u+B4) w.heap.size v',?_,rfl,⟨_,_,_,key.1,HR.o.made HG.o m _⟩,key.2⟩
  show _=Ending.returned (.pointer (some ⟨BD L.tb h.objs.length _ w.heap.size h.objs.length,0,none⟩));unfold BD;rw [if_pos rfl];rfl
 ·have E:(h.objs++[some (⟨h.white,m,[],false⟩:Ob)]).length=h.objs.length+1:=by simp
  refine bJ (fun j=>(if j=5 then (.int .i64 ((h.G6:Int)+40):Value) else if j=4 then .int .i64 ((h.bytes:Int)+40) else if j=7 then v' else if j=3 then .int .i64 ((h.live:Int)+1) else if j=2 then .int .i64 ((h.objs.length:Int)-1+1) else kK (h.wk x y) G L j)=kK ((h.make m).wk (x.map (mI h.objs.length (h.objs.length+1+A+z+u+B4))) (y.map (mI h.objs.length (h.objs.length+1+A+z+u+B4)))) (G.mk1 h.objs.length (h.objs.length+1+A+z+u+B4)) (L.mk1 h.objs.length (h.objs.length+1+A+z+u+B4) w.heap.size v') j) rfl rfl ?_ rfl rfl rfl rfl rfl rfl rfl rfl rfl rfl rfl rfl rfl rfl rfl rfl j hj;show Value.int .i64 ((h.objs.length:Int)-1+1)=Value.int .i64 (((h.objs++[some (⟨h.white,m,[],false⟩:Ob)]).length:Int)-1);rw [E];congr 1;omega
 ·refine dz (fun j=>(if j=2 then (.int .i64 (0+40):Value) else if j=0 then .int .i64 (h.white:Int) else if j=1 then .int .i64 ((h.objs.length:Int)-1+1) else (vM m).getD j (.bool false))=nM ⟨h.white,m,[],false⟩ h.objs.length (.slice none 0 0) (.map none) j) rfl ?_ rfl rfl rfl rfl rfl rfl rfl rfl rfl rfl rfl j hj
  show Value.int .i64 ((h.objs.length:Int)-1+1)=Value.int .i64 (h.objs.length:Int);congr 1;omega
theorem vI (p:PS base S h L w) (ho:h.ob n=some o) (B:h.finals.length<=20000):
 Calls Tryz.prog 80 #[.pointer (some ⟨L.H,0,none⟩),.iface 127 (.pointer (some ⟨L.tb n,0,none⟩))] w fun e w'=>e=.returned (.tuple #[])/\∃ L',Nf L L'/\PS base S (h.IB n) L' w'/\Keeps w w' S:=by
 obtain ⟨x,y,G,a,r⟩:=p;have A:w.cell? ⟨L.tb n,4,none⟩=some (.bool o.fin):=(a.ob n o ho).c 4;have z:=(a.ob n o ho).ME 4;have b:=ah (a.Mk n 4 (.bool true) (fun o=>{ o with fin:=true }) (by decide) ho ⟨rfl,rfl⟩ (dz _ rfl rfl rfl rfl rfl rfl rfl rfl rfl rfl rfl rfl rfl));have s:=iO (L.tb n);have t:=ah (gV w (L.tb n));have D:=ah r;clear a r ho;go_enter Tryz.func80,Tryz.ntmps80;go_wp2_with fail;refine t.o.mono ?_;rintro F w2 ⟨rfl,rfl⟩;go_upto_region 1 with (fail)
 generalize w2.setCell ⟨L.tb n,4,none⟩ (.bool true)=w3 at *;have q:w3.cell? ⟨L.H,15,none⟩=some (L.li 15):=b.o.1.hp.c 15;have g:=b.o.1.hp.ME 15;have f:=b.o.1.li 15 (by simp [eF]);have d:((eU ((h.wk x y).upd n fun o=>{ o with fin:=true }) G 15).map (eP L.tb 15)).length=(eU ((h.wk x y).upd n fun o=>{ o with fin:=true }) G 15).length:=by simp
 rw [<-d] at f;have u:=ah (iI w3 base L.H 15 (L.li 15) ((eU ((h.wk x y).upd n fun o=>{ o with fin:=true }) G 15).map (eP L.tb 15)) (L.tb n) q g f (fun e=>ak f b.o.1.hp (by decide) e) (by rw [d];show h.finals.length<=1000000;omega) b.o.1.bs);clear f d q g A z s;go_wp2_with fail;refine u.o.mono ?_;intro E w4 i;obtain ⟨rfl,C,j,m,l⟩:=b.o.1.add (k:=15) (by simp [kI]) i;have v:=ah (And.intro j (And.intro m l));clear i j m l;go_wp2;go_end0;exact ⟨rfl,C,v.o.1.x,⟨x,y,G,v.o.2.1,D.o.same rfl rfl rfl rfl rfl (h.Hz n _) (Av h n _)⟩,b.o.2.trans v.o.2.2⟩
theorem M0.less (a:M0 base S h G L w) (v:Value) (d:∀ g,v.ownBlock=some g->g<w.heap.size/\g≠L.H/\(∀ n o,h.ob n=some o->g≠L.tb n/\(L.es n).ownBlock≠some g/\dx (L.mp n)≠some g)/\∀ k,eF k->(L.li k).ownBlock≠some g):M0 base (fun b=>S b/\v.ownBlock≠some b) h G L w:=
 ⟨a.hp,a.ob,a.en,a.mp,a.li,a.ij,a.ei,a.mi,a.lj,a.bH,a.bt,a.bm,a.bs,⟨a.sH,fun e=>(d _ e).2.1 rfl⟩,fun n o e=>⟨a.st n o e,fun c=>((d _ c).2.2.1 n o e).1 rfl⟩,fun n o g e hg=>⟨a.se n o g e hg,fun c=>((d _ c).2.2.1 n o e).2.1 hg⟩,fun n o g e hg=>⟨a.sm n o g e hg,fun c=>((d _ c).2.2.1 n o e).2.2 hg⟩,fun k g hk hg=>⟨a.sl k g hk hg,fun c=>(d _ c).2.2.2 k hk hg⟩,fun b hb=>⟨a.up b hb,fun c=>by have:=(d _ c).1;omega⟩⟩
end
section
variable {P base n:Nat} {Q:Exit->Act->World->Prop} {a:Act} {av v:Value} {l:List Value} {ops:Array Oper} {rest:List Oper} {tb:Nat->Nat} {td:List Nat} {w w':World}
attribute [local go_sem] bW
theorem Ev (w:World):(eqGuard .eql 70 (.tmp 3) (.const (.slice none 0 0)) (.slice none 0 0) (.slice none 0 0)).run Tryz.prog w=.ok () w:=by kernel_rfl
theorem DZ (a:Addr) (n c:Nat) (w:World):(eqGuard .eql 70 (.tmp 3) (.const (.slice none 0 0)) (.slice (some a) n c) (.slice none 0 0)).run Tryz.prog w=.ok () w:=by kernel_rfl
theorem FD (w:World):(binOp .eql 70 (.slice none 0 0) (.slice none 0 0)).run Tryz.prog w=.ok (.bool true) w:=by kernel_rfl
theorem FV (a:Addr) (n c:Nat) (w:World):(binOp .eql 70 (.slice (some a) n c) (.slice none 0 0)).run Tryz.prog w=.ok (.bool false) w:=by kernel_rfl
theorem uZ {o:Oper} (b:o.guard=none) (s x:Operand) (t:TypeId)
 (ho:o.op=.call { callee:=.builtin .append,args:=#[s,x],argTypes:=#[t,t] }) (d c v':Value) (e:a.eval s=d) (hx:a.eval x=c) (hr:(Builtin.append_ #[t,t] o.type #[d,c]).run Tryz.prog w=.ok v' w')
 (h:wpList Tryz.prog ops Q rest (a.put o.dst v') w'):wpList Tryz.prog ops Q (o::rest) a w:=
 wpList_plain b fun _ hK=>by
  unfold Oper.wp execOp;simp only [ho,resolve,invoke,builtin,Sem.run_bind,Sem.run_pure,Result.andThen_ok,List.map_toArray,List.map_cons,List.map_nil,e,hx,hr];exact hK _ _ h
theorem vJ (hown:w.ownsRow base 67 1 v l.length l) (s:∀ u∈l,u.oneCell'=true) (C:l.length<=1000000):
 Calls Tryz.prog 101 #[v] w fun e w'=>∃ v',e=.returned v'/\w'.ownsRow w.heap.size 67 1 v' l.length l/\Below w.heap.size w w':=by
 have d:=hown;rcases hown.2 with ⟨rfl,y⟩|⟨g,h,J,rfl,R,H,N,M,L,G⟩
 ·have K:=ah y
  have F:=Ev w;have E:=FD w;clear hown d y C s;go_enter Tryz.func101,Tryz.ntmps101;go_wp2;go_ret;refine ⟨_,rfl,?_,aT _ _⟩;have:l=[]:=List.length_eq_zero_iff.1 K.o;subst this;exact ⟨rfl,.inl ⟨rfl,rfl⟩⟩
 ·have F:=DZ ⟨g,0,none⟩ l.length h w
  have E:=FV ⟨g,0,none⟩ l.length h w;have hb:=aU w (.cells #[] 67);have f:=ay hown (g:=g) (by simp [Value.ownBlock]);obtain ⟨A,hi,q,m,k⟩:=info_parts gY;obtain ⟨v',w',hr,ho,x,-,r⟩:=run_append_own_at (P:=Tryz.prog) (w.alloc (.cells #[] 67)) w.heap.size 70 70 67 A .nilIface 1 16 Tryz.underlying70 hi q m k rfl (by decide) (.slice (some ⟨w.heap.size,0,none⟩) 0 0) 0 [] ⟨rfl,.inr ⟨w.heap.size,0,#[],rfl,au _,Array.getElem?_push_size ..,au _,Nat.zero_le _,rfl,rfl⟩⟩ ⟨g,0,none⟩ l.length h l (by simp) (fun j u hj=>by
   have D:=(aJ.1 hj).1;rw [bL,Nat.zero_add];rw [(hb.cell (p:=⟨g,j,none⟩) f.lt),f.c j,bq,hj];rfl) s (by unfold maxLen;omega) (by omega) hb.size
  have i:=ah (And.intro ho (And.intro x r));have z:=ah hb;have t:=ah hr;clear hr;clear ho x r hb f hown d H G hi q m k s;go_enter Tryz.func101,Tryz.ntmps101;go_wp2_with (first
   |(at_builtin
     refine uZ rfl (.tmp 5) (.tmp 6) 70 rfl _ _ v' rfl rfl t.o ?_)
   |fail)
  go_ret;have ho:w'.ownsRow w.heap.size 67 1 v' l.length l:=by simpa using i.o.1
  have kk:Keeps (w.alloc (.cells #[] 67)) w' (fun b=>b=w.heap.size):=⟨i.o.2.1.os,i.o.2.1.tape,i.o.2.1.output,i.o.2.1.size,fun b hb hn=>i.o.2.1.block b hb (fun e=>hn (by simpa [Value.ownBlock] using e))⟩
  exact ⟨_,rfl,ho,z.o.trans (kk.below (B:=w.heap.size) z.o.size (fun b e=>aO e.symm))⟩
structure MB (base:Nat) (tb:Nat->Nat) (P:Nat) (av:Value) (td:List Nat) (w:World):Prop where
 r:aD w 72 P 1 (fun _=>av)
 o:w.ownsRow base 67 1 av td.length (td.map (jL tb))
 b:base<=w.heap.size
theorem MB.low (x:MB base tb P av td w) (hb:Below w.heap.size w w'):MB base tb P av td w':=
 have k:=Keeps.of hb (au _) (fun _=>False)
 ⟨x.r.keep k id,aj x.o k (fun _ _ e=>e),aI x.b hb.size⟩
theorem MB.keep {base:Nat} {tb:Nat->Nat} {P:Nat} {av:Value} {td:List Nat} {w w':World} {S:Nat->Prop} (x:MB base tb P av td w) (k:Keeps w w' S) (d:¬ S P) (c:∀ g,av.ownBlock=some g->¬ S g):MB base tb P av td w':=
 ⟨x.r.keep k d,aj x.o k c,aI x.b k.size⟩
def GI (base:Nat) (tb:Nat->Nat) (P:Nat) (av:Value) (td:List Nat) (w:World) (e:Ending) (w':World):Prop:=
 e=.returned (.tuple #[])/\∃ av',MB base tb P av' td w'/\Keeps w w' (fun c=>c=P∨av.ownBlock=some c)/\∀ g,av'.ownBlock=some g->av.ownBlock=some g∨w.heap.size<=g
theorem MB.put (x:MB base tb P av td w) {e:Ending} (r:xV 67 base P 0 av (td.map (jL tb)) (jL tb n) w e w'):GI base tb P av (td++[n]) w e w':=by
 obtain ⟨rfl,p,k,w1,rfl,i,h,m⟩:=r;rw [bY] at i m ⊢;have d:=x.r.keep h (fun c=>ak x.o x.r (by decide) c);have f:Keeps w1 (w1.setCell ⟨P,0,none⟩ (.slice p (td.length+1) k)) (fun c=>c=P):=Keeps.setCell (S:=fun c=>c=P) (Keeps.refl w1 _) rfl _;refine ⟨rfl,.slice p (td.length+1) k,⟨(d.set (j:=0) (by omega) _).congr (fun j hj=>by rw [if_pos (by omega)]),?_,aI x.b (aI h.size f.size)⟩,(h.mono (fun c e=>Or.inr e)).trans (f.mono (fun c e=>Or.inl e)),m⟩;have:=aj i f (fun g hg c=>ak i d (by decide) (c ▸ hg));rw [bI,List.map_append];exact this
theorem oI (x:MB base tb P av td w) (v:HV) (E:td.length<=999999):
 Calls Tryz.prog 103 #[.pointer (some ⟨P,0,none⟩),.agg #[.int .i64 (vk v),.int .i64 (vi v),.int .u64 0,.string ByteArray.empty,aK tb v]] w (GI base tb P av (td++bQ v) w):=by
 have m:=ah (d_ w tb v);have q:=ah (aU w (.cells (gG tb v) 143));have h:=ah (x.low (aU w (.cells (gG tb v) 143)));cases h5:(vk v==5) with
 |false=>
  have p:Hq (bQ v=[]):=ah (by
   cases v with
   |none=>rfl
   |some z=>cases z with
    |inl z=>rfl
    |inr n=>simp [vk] at h5)
  clear x;go_enter Tryz.func103,Tryz.ntmps103;go_upto_region 1 with (fail)
  generalize w.alloc (.cells (gG tb v) 143)=w1 at *;generalize j:w.heap.size=X at *;have x0:w1.cell? ⟨X,0,none⟩=some (.int .i64 (vk v)):=m.o.c 0;go_wp2;go_end0;refine ⟨rfl,av,by rw [p.o,List.append_nil];exact h.o,Keeps.of q.o (aO j) _,fun g hg=>.inl hg⟩
 |true=>
  obtain ⟨n,rfl⟩:=FX h5;have d:=h.o.o;obtain ⟨H,G,D⟩:=aF d;have f:(w.alloc (.cells (gG tb (some (.inr n):HV)) 143)).ownsRow base 67 1 av (td.map (jL tb)).length (td.map (jL tb)):=by rw [bY];exact d
  have s:=ah (iI (w.alloc (.cells (gG tb (some (.inr n):HV)) 143)) base P 0 av (td.map (jL tb)) (tb n) (h.o.r.c 0) (h.o.r.ME 0) f (fun e=>ak d h.o.r (by decide) e) (by rw [bY];omega) h.o.b);clear x h5 d f;go_enter Tryz.func103,Tryz.ntmps103;go_upto_region 1 with (fail)
  generalize w.alloc (.cells (gG tb (some (.inr n):HV)) 143)=w1 at *;generalize j:w.heap.size=X at *;have x0:w1.cell? ⟨X,0,none⟩=some (.int .i64 5):=m.o.c 0;have B:w1.cell? ⟨X,4,none⟩=some (.iface 127 (.pointer (some ⟨tb n,0,none⟩))):=m.o.c 4;go_wp2_with fail;refine s.o.mono ?_;intro F C i;have t:=ah (h.o.put (n:=n) i);obtain ⟨rfl,-⟩:=t.o;clear i;go_wp2;go_end0;obtain ⟨-,k,A,y,u⟩:=t.o;refine ⟨rfl,k,A,(Keeps.of q.o (aO j) _).trans y,fun g hg=>(u g hg).imp id (fun z=>?_)⟩;have:=q.o.size;omega
end
section
variable {F n:Nat} {sn:List Bool} {tb:Nat->Nat} {w:World} {z:Int}
attribute [local go_sem] bW
def uD (tb:Nat->Nat) (sn:List Bool) (q:Nat):Value:=if sn.getD q false then oZ tb q else .pointer none
def iW (sn:List Bool) (z:Int):Bool:=decide (1<=z)&&decide (z<=(sn.length:Int)-1)&&sn.getD z.toNat false
theorem oq (h:sn[n]?=some true):uD tb sn n=.pointer (some ⟨tb n,0,none⟩):=by
 unfold uD oZ;rw [bq,h];rfl
theorem Dy (h:sn[n]?=some false):uD tb sn n=.pointer none:=by
 unfold uD;rw [bq,h];rfl
theorem jT (h:iW sn z=true):∃ n:Nat,z=(n:Int)/\1<=n/\n<sn.length/\sn[n]?=some true:=by
 unfold iW at h;simp only [Bool.and_eq_true,decide_eq_true_eq] at h;obtain ⟨⟨d,c⟩,a⟩:=h;refine ⟨z.toNat,by omega,by omega,by omega,?_⟩;rw [bq] at a;cases h4:sn[z.toNat]? with
 |none=>rw [h4] at a;simp at a
 |some b=>rw [h4] at a;simp at a;rw [a]
theorem Al (c:1<=n) (a:sn[n]?=some true):iW sn (n:Int)=true:=by
 have b:=(aJ.1 a).1;unfold iW;simp only [Bool.and_eq_true,decide_eq_true_eq,Int.toNat_natCast,bq,a];exact ⟨⟨by omega,by omega⟩,rfl⟩
theorem iY (hr:aD w 127 F sn.length (uD tb sn)) (m:1<=sn.length) (l:sn.length<=1000000) (z:Int):
 Calls Tryz.prog 71 #[.slice (some ⟨F,0,none⟩) sn.length sn.length,.int .i64 z] w fun e w'=>e=.returned (.bool (iW sn z))/\w'=w:=by
 have c:=ah (gI w z 1 ((sn.length:Int)-1));by_cases d:1<=z/\z<=(sn.length:Int)-1
 ·rw [show (decide ((1:Int)<=z)&&decide (z<=(sn.length:Int)-1))=true by simp;omega] at c
  obtain ⟨n,rfl⟩:∃ n:Nat,z=(n:Int):=⟨z.toNat,by omega⟩
  have g:n<sn.length:=by omega
  have k:(n:Int)<(sn.length:Int):=by omega
  have h:=hr.cell (j:=n) g;have a:sn[n]?=some sn[n]:=aN g;cases hb:sn[n] with
  |true=>
   rw [hb] at a;rw [oq a] at h;rw [show iW sn (n:Int)=true from Al (by omega) a];clear hr a hb d;go_enter Tryz.func71,Tryz.ntmps71;go_wp2_with fail;refine c.o.mono ?_;rintro i f ⟨rfl,rfl⟩;go_wp2;go_ret;exact ⟨rfl,rfl⟩
  |false=>
   rw [hb] at a;rw [Dy a] at h;rw [show iW sn (n:Int)=false by unfold iW;simp [List.getD_eq_getElem?_getD,a]];clear hr a hb d;go_enter Tryz.func71,Tryz.ntmps71;go_wp2_with fail;refine c.o.mono ?_;rintro i f ⟨rfl,rfl⟩;go_wp2;go_ret;exact ⟨rfl,rfl⟩
 ·have b:(decide ((1:Int)<=z)&&decide (z<=(sn.length:Int)-1))=false:=by simp;omega
  rw [b] at c;rw [show iW sn z=false by unfold iW;rw [b];rfl];clear hr b d;go_enter Tryz.func71,Tryz.ntmps71;go_wp2_with fail;refine c.o.mono ?_;rintro i f ⟨rfl,rfl⟩;go_wp2;go_ret;exact ⟨rfl,rfl⟩
theorem qo (hr:aD w 127 F sn.length (uD tb sn)) (c:1<=sn.length) (a:sn.length<=1000000) (z:Int):
 Calls Tryz.prog 72 #[.slice (some ⟨F,0,none⟩) sn.length sn.length,.int .i64 z] w fun e w'=>e=.returned (.bool (z==0||iW sn z))/\w'=w:=by
 have d:=ah (iY hr c a z);clear hr c a;cases hz:(z==0) with
 |true=>
  rw [Bool.true_or];go_enter Tryz.func72,Tryz.ntmps72;go_wp2;go_ret;exact ⟨rfl,rfl⟩
 |false=>
  rw [Bool.false_or];obtain ⟨B,b⟩:∃ B,iW sn z=B:=⟨_,rfl⟩
  rw [b] at d ⊢;clear b;go_enter Tryz.func72,Tryz.ntmps72;go_wp2_with fail;refine d.o.mono ?_;rintro g f ⟨rfl,rfl⟩;go_wp2;go_ret;exact ⟨rfl,rfl⟩
theorem z_ (w:World) (tb:Nat->Nat) (n:Nat):Calls Tryz.prog 107 #[.iface 127 (.pointer (some ⟨tb n,0,none⟩))] w fun e w'=>e=.returned (.agg #[.int .i64 (vk (some (.inr n):HV)),.int .i64 (vi (some (.inr n):HV)),.int .u64 0,.string ByteArray.empty,aK tb (some (.inr n):HV)])/\Below w.heap.size w w':=by
 have a:=ah (sS w);have m:=ah (aU w (.cells #[.int .i64 0,.int .i64 0,.int .u64 0,.string ByteArray.empty,.nilIface] 143));go_enter Tryz.func107,Tryz.ntmps107;go_upto_region 1 with (fail)
 change Code.wp _ _ _ _ (w.alloc (.cells #[.int .i64 0,.int .i64 0,.int .u64 0,.string ByteArray.empty,.nilIface] 143));generalize w.alloc (.cells #[.int .i64 0,.int .i64 0,.int .u64 0,.string ByteArray.empty,.nilIface] 143)=w3 at *;generalize l:w.heap.size=X at *;have C:=a.o.c 0;have t:=a.o.ME 0;have A:=a.o.c 1;have s:=a.o.ME 1;have y:=a.o.c 2;have r:=a.o.ME 2;have x:=a.o.c 3;have q:=a.o.ME 3;have u:=a.o.c 4;have p:=a.o.ME 4;go_wp2;have d:=ah (show aD (((((w3.setCell ⟨X,0,none⟩ (.int .i64 5)).setCell ⟨X,1,none⟩ (.int .i64 0)).setCell ⟨X,2,none⟩ (.int .u64 0)).setCell ⟨X,3,none⟩ (.string { data:=#[] })).setCell ⟨X,4,none⟩ (.iface 127 (.pointer (some ⟨tb n,0,none⟩)))) 143 X 5 (fun j=>(kE tb (some (.inr n))).getD j (.bool false))/\Keeps w3 (((((w3.setCell ⟨X,0,none⟩ (.int .i64 5)).setCell ⟨X,1,none⟩ (.int .i64 0)).setCell ⟨X,2,none⟩ (.int .u64 0)).setCell ⟨X,3,none⟩ (.string { data:=#[] })).setCell ⟨X,4,none⟩ (.iface 127 (.pointer (some ⟨tb n,0,none⟩)))) (fun b=>b=X) from rO a.o tb (some (.inr n)));generalize (((((w3.setCell ⟨X,0,none⟩ (.int .i64 5)).setCell ⟨X,1,none⟩ (.int .i64 0)).setCell ⟨X,2,none⟩ (.int .u64 0)).setCell ⟨X,3,none⟩ (.string { data:=#[] })).setCell ⟨X,4,none⟩ (.iface 127 (.pointer (some ⟨tb n,0,none⟩))))=w7 at *;have k:w7.cell? ⟨X,0,none⟩=some (.int .i64 5):=d.o.1.c 0;have q1:w7.cell? ⟨X,1,none⟩=some (.int .i64 0):=d.o.1.c 1;have i:w7.cell? ⟨X,2,none⟩=some (.int .u64 0):=d.o.1.c 2;have h:w7.cell? ⟨X,3,none⟩=some (.string { data:=#[] }):=d.o.1.c 3;have g:w7.cell? ⟨X,4,none⟩=some (.iface 127 (.pointer (some ⟨tb n,0,none⟩))):=d.o.1.c 4;have f:=a.o.lt;refine bodyPost_ret (v:=.agg #[.int .i64 5,.int .i64 0,.int .u64 0,.string { data:=#[] },.iface 127 (.pointer (some ⟨tb n,0,none⟩))]) ?_ rfl ⟨rfl,by rw [l];exact m.o.trans (d.o.2.below (B:=X) (dh f) (fun b e=>aO e.symm))⟩;simp [results,Tryz.results107,go_sem,k,q1,i,h,g]
theorem vg (w:World) (tb:Nat->Nat) (z:Int):Calls Tryz.prog 74 #[.int .i64 z] w fun e w'=>e=.returned (.agg #[.int .i64 (vk (some (.inl z):HV)),.int .i64 (vi (some (.inl z):HV)),.int .u64 0,.string ByteArray.empty,aK tb (some (.inl z):HV)])/\Below w.heap.size w w':=by
 have a:=ah (sS w);have m:=ah (aU w (.cells #[.int .i64 0,.int .i64 0,.int .u64 0,.string ByteArray.empty,.nilIface] 143));go_enter Tryz.func74,Tryz.ntmps74;go_upto_region 1 with (fail)
 change Code.wp _ _ _ _ (w.alloc (.cells #[.int .i64 0,.int .i64 0,.int .u64 0,.string ByteArray.empty,.nilIface] 143));generalize w.alloc (.cells #[.int .i64 0,.int .i64 0,.int .u64 0,.string ByteArray.empty,.nilIface] 143)=w3 at *;generalize l:w.heap.size=X at *;have C:=a.o.c 0;have t:=a.o.ME 0;have A:=a.o.c 1;have s:=a.o.ME 1;have y:=a.o.c 2;have r:=a.o.ME 2;have x:=a.o.c 3;have q:=a.o.ME 3;have u:=a.o.c 4;have p:=a.o.ME 4;go_wp2;have d:=ah (show aD (((((w3.setCell ⟨X,0,none⟩ (.int .i64 2)).setCell ⟨X,1,none⟩ (.int .i64 z)).setCell ⟨X,2,none⟩ (.int .u64 0)).setCell ⟨X,3,none⟩ (.string { data:=#[] })).setCell ⟨X,4,none⟩ (.nilIface)) 143 X 5 (fun j=>(kE tb (some (.inl z))).getD j (.bool false))/\Keeps w3 (((((w3.setCell ⟨X,0,none⟩ (.int .i64 2)).setCell ⟨X,1,none⟩ (.int .i64 z)).setCell ⟨X,2,none⟩ (.int .u64 0)).setCell ⟨X,3,none⟩ (.string { data:=#[] })).setCell ⟨X,4,none⟩ (.nilIface)) (fun b=>b=X) from rO a.o tb (some (.inl z)));generalize (((((w3.setCell ⟨X,0,none⟩ (.int .i64 2)).setCell ⟨X,1,none⟩ (.int .i64 z)).setCell ⟨X,2,none⟩ (.int .u64 0)).setCell ⟨X,3,none⟩ (.string { data:=#[] })).setCell ⟨X,4,none⟩ (.nilIface))=w7 at *;have k:w7.cell? ⟨X,0,none⟩=some (.int .i64 2):=d.o.1.c 0;have q1:w7.cell? ⟨X,1,none⟩=some (.int .i64 z):=d.o.1.c 1;have i:w7.cell? ⟨X,2,none⟩=some (.int .u64 0):=d.o.1.c 2;have h:w7.cell? ⟨X,3,none⟩=some (.string { data:=#[] }):=d.o.1.c 3;have g:w7.cell? ⟨X,4,none⟩=some (.nilIface):=d.o.1.c 4;have f:=a.o.lt;refine bodyPost_ret (v:=.agg #[.int .i64 2,.int .i64 z,.int .u64 0,.string { data:=#[] },.nilIface]) ?_ rfl ⟨rfl,by rw [l];exact m.o.trans (d.o.2.below (B:=X) (dh f) (fun b e=>aO e.symm))⟩;simp [results,Tryz.results74,go_sem,k,q1,i,h,g]
theorem mJ (hr:aD w 127 F sn.length (uD tb sn)) (n:Nat) (L:n=0∨sn[n]?=some true) (V:sn.length<=1000000):
 Calls Tryz.prog 75 #[.slice (some ⟨F,0,none⟩) sn.length sn.length,.int .i64 (n:Int)] w fun e w'=>e=.returned (.agg #[.int .i64 (vk (cO n)),.int .i64 (vi (cO n)),.int .u64 0,.string ByteArray.empty,aK tb (cO n)])/\Below w.heap.size w w':=by
 by_cases m:n=0
 ·subst m
  have k:cO 0=none:=rfl;rw [k];clear k hr L;have a:=ah (sS w);have l:=ah (aU w (.cells #[.int .i64 0,.int .i64 0,.int .u64 0,.string ByteArray.empty,.nilIface] 143));go_enter Tryz.func75,Tryz.ntmps75;go_upto_region 1 with (fail)
  change Code.wp _ _ _ _ (w.alloc (.cells #[.int .i64 0,.int .i64 0,.int .u64 0,.string ByteArray.empty,.nilIface] 143));generalize w.alloc (.cells #[.int .i64 0,.int .i64 0,.int .u64 0,.string ByteArray.empty,.nilIface] 143)=w3 at *;generalize P:w.heap.size=X at *;have D:=a.o.c 0;have u:=a.o.ME 0;have C:=a.o.c 1;have t:=a.o.ME 1;have A:=a.o.c 2;have s:=a.o.ME 2;have y:=a.o.c 3;have r:=a.o.ME 3;have x:=a.o.c 4;have q:=a.o.ME 4;go_wp2;have f:=ah (show aD (((((w3.setCell ⟨X,0,none⟩ (.int .i64 0)).setCell ⟨X,1,none⟩ (.int .i64 0)).setCell ⟨X,2,none⟩ (.int .u64 0)).setCell ⟨X,3,none⟩ (.string { data:=#[] })).setCell ⟨X,4,none⟩ (.nilIface)) 143 X 5 (fun j=>(kE tb none).getD j (.bool false))/\Keeps w3 (((((w3.setCell ⟨X,0,none⟩ (.int .i64 0)).setCell ⟨X,1,none⟩ (.int .i64 0)).setCell ⟨X,2,none⟩ (.int .u64 0)).setCell ⟨X,3,none⟩ (.string { data:=#[] })).setCell ⟨X,4,none⟩ (.nilIface)) (fun b=>b=X) from rO a.o tb none);generalize (((((w3.setCell ⟨X,0,none⟩ (.int .i64 0)).setCell ⟨X,1,none⟩ (.int .i64 0)).setCell ⟨X,2,none⟩ (.int .u64 0)).setCell ⟨X,3,none⟩ (.string { data:=#[] })).setCell ⟨X,4,none⟩ (.nilIface))=w7 at *;have J:w7.cell? ⟨X,0,none⟩=some (.int .i64 0):=f.o.1.c 0;have q1:w7.cell? ⟨X,1,none⟩=some (.int .i64 0):=f.o.1.c 1;have H:w7.cell? ⟨X,2,none⟩=some (.int .u64 0):=f.o.1.c 2;have G:w7.cell? ⟨X,3,none⟩=some (.string { data:=#[] }):=f.o.1.c 3;have E:w7.cell? ⟨X,4,none⟩=some (.nilIface):=f.o.1.c 4;have i:=a.o.lt;refine bodyPost_ret (v:=.agg #[.int .i64 0,.int .i64 0,.int .u64 0,.string { data:=#[] },.nilIface]) ?_ rfl ⟨rfl,by rw [P];exact l.o.trans (f.o.2.below (B:=X) (dh i) (fun b e=>aO e.symm))⟩;simp [results,Tryz.results75,go_sem,J,q1,H,G,E]
 ·have g:=L.resolve_left m
  have K:=(aJ.1 g).1;have R:(n:Int)<(sn.length:Int):=by omega
  have S:((n:Int)==0)=false:=by simp;omega
  rw [gH m];have N:=hr.cell (j:=n) K;rw [oq g] at N;have T:=hr.lt;clear m L hr g;have a:=ah (sS w);have l:=ah (aU w (.cells #[.int .i64 0,.int .i64 0,.int .u64 0,.string ByteArray.empty,.nilIface] 143));go_enter Tryz.func75,Tryz.ntmps75;go_upto_region 1 with (fail)
  change Code.wp _ _ _ _ (w.alloc (.cells #[.int .i64 0,.int .i64 0,.int .u64 0,.string ByteArray.empty,.nilIface] 143));generalize w.alloc (.cells #[.int .i64 0,.int .i64 0,.int .u64 0,.string ByteArray.empty,.nilIface] 143)=w3 at *;generalize P:w.heap.size=X at *;have D:=a.o.c 0;have u:=a.o.ME 0;have C:=a.o.c 1;have t:=a.o.ME 1;have A:=a.o.c 2;have s:=a.o.ME 2;have y:=a.o.c 3;have r:=a.o.ME 3;have x:=a.o.c 4;have q:=a.o.ME 4;have M:w3.cell? ⟨F,n,none⟩=some (.pointer (some ⟨tb n,0,none⟩)):=(l.o.cell (p:=⟨F,n,none⟩) (by omega)).trans N;have U:=ah (z_ w3 tb n);clear N;go_wp2_with fail;refine U.o.mono ?_;rintro W w4 ⟨rfl,h⟩;have d:=ah (a.o.keep (Keeps.of h (au _) (fun _=>False)) id);have Q:=ah (l.o.trans (h.mono (dh a.o.lt)));clear h M D C A y x u t s r q a l;have D:=d.o.c 0;have u:=d.o.ME 0;have C:=d.o.c 1;have t:=d.o.ME 1;have A:=d.o.c 2;have s:=d.o.ME 2;have y:=d.o.c 3;have r:=d.o.ME 3;have x:=d.o.c 4;have q:=d.o.ME 4;go_wp2;have f:=ah (rO d.o tb (some (.inr n):HV));generalize (((((w4.setCell ⟨X,0,none⟩ (.int .i64 (vk (some (.inr n):HV)))).setCell ⟨X,1,none⟩ (.int .i64 (vi (some (.inr n):HV)))).setCell ⟨X,2,none⟩ (.int .u64 0)).setCell ⟨X,3,none⟩ (.string ByteArray.empty)).setCell ⟨X,4,none⟩ (aK tb (some (.inr n):HV)))=w7 at *;obtain ⟨J,q1,H,G,E⟩:NC w7 X tb (some (.inr n):HV):=f.o.1.c5;have i:=d.o.lt;refine bodyPost_ret (v:=.agg #[.int .i64 (vk (some (.inr n):HV)),.int .i64 (vi (some (.inr n):HV)),.int .u64 0,.string ByteArray.empty,aK tb (some (.inr n):HV)]) ?_ rfl ⟨rfl,by rw [P];exact Q.o.trans (f.o.2.below (B:=X) (dh i) (fun b e=>aO e.symm))⟩;simp [results,Tryz.results75,go_sem,J,q1,H,G,E]
end
section
variable {P base k n:Nat} {av:Value} {dn:List En} {e:En} {h:Hp} {o:Ob} {sn:List Bool} {tb:Nat->Nat} {td:List Nat} {w:World}
structure Df (h:Hp) (sn:List Bool) (td:List Nat) (k:Nat) (dn:List En):Prop where
 len:sn.length=h.objs.length
 tr:∀ n∈td,h.Reach n
 re:∀ n:Nat,sn[n]?=some true->h.Reach n
 ro:∀ r∈h.roots,sn[r]?=some true∨r∈td
 ex:∀ (m:Nat) o,sn[m]?=some true->h.ob m=some o->m≠k->∀ e∈o.es,e.2.isSome=true->∀ r∈dw e,sn[r]?=some true∨r∈td
 kk:∀ e∈dn,e.2.isSome=true->∀ r∈dw e,sn[r]?=some true∨r∈td
theorem Df.start (h:Hp):Df h (List.replicate h.objs.length false) h.roots 0 []:=by
 have a:∀ n:Nat,(List.replicate h.objs.length false)[n]?≠some true:=by
  intro n c;rw [List.getElem?_replicate] at c;split at c<;>simp at c
 exact ⟨List.length_replicate ..,fun n hn=>Hp.JD hn,fun n hn=>absurd hn (a n),fun r hr=>.inr hr,fun m o hm=>absurd hm (a m),fun e he=>by simp at he⟩
theorem Df.skip (d:Df h sn (td++[n]) 0 []) (a:sn[n]?=some true):Df h sn td 0 []:=by
 have hx:∀ r,sn[r]?=some true∨r∈td++[n]->sn[r]?=some true∨r∈td:=by
  intro r hr;rcases hr with c|c
  ·exact .inl c
  ·rcases eT.1 c with c|c
   ·exact .inr c
   ·simp at c;subst c;exact .inl a
 exact ⟨d.len,fun m hm=>d.tr m (List.mem_append_left _ hm),d.re,fun r hr=>hx r (d.ro r hr),fun m o hm ho hk e he hs r hr=>hx r (d.ex m o hm ho hk e he hs r hr),fun e he=>by simp at he⟩
theorem Df.take (i:Inv h) (d:Df h sn (td++[n]) 0 []) (a:n<sn.length):Df h (sn.set n true) td n []:=by
 have up:∀ r:Nat,sn[r]?=some true->(sn.set n true)[r]?=some true:=by
  intro r hr;rw [gD];split
  ·rename_i c;subst c;simp
  ·exact hr
 have dn:∀ r:Nat,(sn.set n true)[r]?=some true->r=n∨sn[r]?=some true:=by
  intro r hr;rw [gD] at hr;split at hr
  ·rename_i c;exact .inl c.symm
  ·exact .inr hr
 have hx:∀ r,sn[r]?=some true∨r∈td++[n]->(sn.set n true)[r]?=some true∨r∈td:=by
  intro r hr;rcases hr with c|c
  ·exact .inl (up r c)
  ·rcases eT.1 c with c|c
   ·exact .inr c
   ·simp at c;subst c;exact .inl (by simp [a])
 refine ⟨by rw [bX];exact d.len,fun m hm=>d.tr m (List.mem_append_left _ hm),fun r hr=>?_,fun r hr=>hx r (d.ro r hr),fun m o hm ho hk e he hs r hr=>?_,fun e he=>by simp at he⟩
 ·rcases dn r hr with c|c
  ·subst c;exact d.tr r (List.mem_append_right _ (List.mem_singleton.2 rfl))
  ·exact d.re r c
 ·rcases dn m hm with c|c
  ·exact absurd c hk
  ·exact hx r (d.ex m o c ho (fun z=>by subst z;rw [i.zero] at ho;cases ho) e he hs r hr)
theorem Df.more (d:Df h sn td k dn) (hk:h.Reach k) (ho:h.ob k=some o) (b:e∈o.es) (a:e.2.isSome=true):Df h sn (td++dw e) k (dn++[e]):=by
 have hx:∀ r,sn[r]?=some true∨r∈td->sn[r]?=some true∨r∈td++dw e:=fun r hr=>hr.imp id (List.mem_append_left _);refine ⟨d.len,fun n hn=>?_,d.re,fun r hr=>hx r (d.ro r hr),fun m o' hm ho' hk' e' he' hs' r hr=>hx r (d.ex m o' hm ho' hk' e' he' hs' r hr),fun e' he' hs' r hr=>?_⟩
 ·rcases eT.1 hn with c|c
  ·exact d.tr n c
  ·exact Hp.Jl hk ho b a c
 ·rcases eT.1 he' with c|c
  ·exact hx r (d.kk e' c hs' r hr)
  ·simp at c;subst c;exact .inr (List.mem_append_right _ hr)
theorem Df.pass (d:Df h sn td k dn) (a:e.2.isNone=true):Df h sn td k (dn++[e]):=by
 refine ⟨d.len,d.tr,d.re,d.ro,d.ex,fun e' he' hs' r hr=>?_⟩;rcases eT.1 he' with c|c
 ·exact d.kk e' c hs' r hr
 ·simp at c
  subst c;cases h9:e'.2 with
  |none=>rw [h9] at hs';cases hs'
  |some _=>rw [h9] at a;cases a
theorem Df.fin (d:Df h sn td k dn) (ho:h.ob k=some o) (hd:dn=o.es):Df h sn td 0 []:=by
 refine ⟨d.len,d.tr,d.re,d.ro,fun m o' hm ho' hk e he hs r hr=>?_,fun e he=>by simp at he⟩;by_cases c:m=k
 ·subst c
  rw [ho] at ho';cases ho';exact d.kk e (hd ▸ he) hs r hr
 ·exact d.ex m o' hm ho' c e he hs r hr
theorem Df.done (i:Inv h) (d:Df h sn [] 0 []) (n:Nat):sn[n]?=some true↔h.Reach n:=by
 have hx:∀ r:Nat,sn[r]?=some true∨r∈([]:List Nat)->sn[r]?=some true:=fun r hr=>hr.resolve_right (by simp);refine ⟨d.re n,fun r=>r (fun n=>sn[n]?=some true) (fun r hr=>hx r (d.ro r hr)) (fun m o e hm ho he hs q hq=>hx q (d.ex m o hm ho (fun c=>?_) e he hs q hq))⟩;subst c;rw [i.zero] at ho;cases ho
def wY (o:Option Ob):Nat:=match o with
 |some o=>o.es.length
 |none=>0
def dM:List (Option Ob)->List Bool->Nat
 |o::os,b::bs=>(if b then 0 else 2*wY o)+dM os bs
 |_,_=>0
theorem AX:∀ (os:List (Option Ob)) (sn:List Bool) (r:Nat) (x:Option Ob),sn[r]?=some false->os[r]?=some x->dM os (sn.set r true)+2*wY x=dM os sn
 | [],_,_,_,_,h=>by simp at h
 |_::_,[],_,_,h,_=>by simp at h
 |o::os,b::bs,0,x,h1,h2=>by
  simp at h1 h2;subst h1 h2;simp [dM];omega
 |o::os,b::bs,r+1,x,h1,h2=>by
  have:=AX os bs r x (by simpa using h1) (by simpa using h2);simp only [List.set_cons_succ,dM];omega
theorem DF:∀ (os:List (Option Ob)) (sn:List Bool),20*dM os sn<=gZ wt (os.map fun o=>o.map fun o=>o.es.length)
 | [],_=>by simp [dM]
 |o::os,[]=>by simp [dM]
 |o::os,b::bs=>by
  have h1:=DF os bs;rw [List.map_cons];have c:gZ wt ((o.map fun o=>o.es.length)::os.map fun o=>o.map fun o=>o.es.length)=wt (o.map fun o=>o.es.length)+gZ wt (os.map fun o=>o.map fun o=>o.es.length):=by simp [gZ]
  rw [c,dM];cases o with
  |none=>simp [wY];omega
  |some o=>
   have a:wt ((some o).map fun o:Ob=>o.es.length)=40+40*o.es.length:=rfl;rw [a];simp only [wY];split<;>omega
theorem wN (a:n<sn.length) (q:Nat):(if q=n then Value.pointer (some ⟨tb n,0,none⟩) else uD tb sn q)=uD tb (sn.set n true) q:=by
 unfold uD;by_cases c:q=n
 ·subst c;simp [List.getD_eq_getElem?_getD,a,oZ]
 ·have:n≠q:=fun e=>c e.symm
  simp [List.getD_eq_getElem?_getD,c,this]
theorem MB.pop (x:MB base tb P av (td++[n]) w):∃ g cap,av=.slice (some ⟨g,0,none⟩) (td.length+1) cap/\td.length+1<=cap/\w.cell? ⟨g,td.length,none⟩=some (.iface 127 (.pointer (some ⟨tb n,0,none⟩)))/\MB base tb P (.slice (some ⟨g,0,none⟩) td.length cap) td (w.setCell ⟨P,0,none⟩ (.slice (some ⟨g,0,none⟩) td.length cap)):=by
 have ho:=x.o;rw [bI,List.length_singleton,List.map_append] at ho;rcases ho.2 with ⟨_,v⟩|⟨g,cap,l,f,u,t,i,s,p,m⟩
 ·omega
 ·subst f
  have hr:=ay ho (g:=g) (by simp [Value.ownBlock]);have a:Keeps w (w.setCell ⟨P,0,none⟩ (.slice (some ⟨g,0,none⟩) td.length cap)) (fun c=>c=P):=Keeps.setCell (S:=fun c=>c=P) (Keeps.refl w _) rfl _;refine ⟨g,cap,rfl,i,?_,?_⟩
  ·rw [hr.c (td.length),bq,fI (by simp)]
   simp [jL,oZ]
  ·refine ⟨(x.r.set (j:=0) (by omega) _).congr (fun j hj=>by rw [if_pos (by omega)]),?_,aI x.b a.size⟩
   have d:=mq ho (k:=td.length) (by omega);rw [List.take_append_of_le_length (by simp),List.take_of_length_le (by simp)] at d;exact aj d a (fun q hq c=>by
    simp [Value.ownBlock] at hq;exact hr.apart x.r (by decide) (hq.trans c))
theorem Ej (w:World) {MC:Array Value} (h:MC=madeCells #[Value.pointer none] n):aD (w.alloc (.cells MC 127)) 127 w.heap.size n (fun _=>.pointer none):=by
 have a:=aD.mk' w 127 MC;have b:MC.size=n:=by rw [h];exact size_madeCells _ _
 rw [b] at a;refine a.congr (fun j hj=>?_);have d:MC.toList=List.replicate n (Value.pointer none):=by rw [h];exact toList_madeCells_one _ _
 have c:MC[j]?=some (Value.pointer none):=by
  rw [<-Array.getElem?_toList,d];simp [hj]
 simp [Array.getD_eq_getD_getElem?,c]
theorem yI (w:World) (n:Nat) (j:n<=6000) (f:Array Value) (d:f=madeCells #[Value.pointer none] n):(Instr.makeSlice 137 (.int .i64 (n:Int)) (.int .i64 (n:Int))).run Tryz.prog w=.ok (.slice (some ⟨w.heap.size,0,none⟩) n n) (w.alloc (.cells f 127)):=by
 obtain ⟨g,hi,c,b,a⟩:=info_parts um;have i:=run_make (P:=Tryz.prog) w 137 127 g (.pointer none) Tryz.underlying137 hi c .i64 .i64 n n (by omega) (Int.le_refl _) (by rw [a];omega) (by omega);rw [i,d];simp [b];rfl
end
section
variable {F P R base hand k:Nat} {L:PM} {S:Nat->Prop} {av av':Value} {dn:List En} {h:Hp} {sn:List Bool} {tb:Nat->Nat} {td td':List Nat} {w w' wr:World}
attribute [local go_sem] bW
def ES (H:Nat) (pv:Value) (k:Nat):Value:=if k=0 then .pointer (some ⟨H,0,none⟩) else pv
structure MH (h:Hp) (tb:Nat->Nat) (F P:Nat) (w:World) (sn:List Bool) (td:List Nat) (k:Nat) (dn:List En) (av:Value) (wr:World):Prop where
 f:aD wr 127 F h.objs.length (uD tb sn)
 p:MB w.heap.size tb P av td wr
 d:Df h sn td k dn
 b:Below w.heap.size w wr
theorem MH.ap (x:MH h tb F P w sn td k dn av wr):F≠P/\av.ownBlock≠some F:=⟨fun c=>x.f.apart x.p.r (by decide) c,fun c=>ak x.p.o x.f (by decide) c⟩
theorem MH.low {h:Hp} {tb:Nat->Nat} {F P:Nat} {w:World} {sn:List Bool} {td:List Nat} {k:Nat} {dn:List En} {av:Value} {wr w':World} (x:MH h tb F P w sn td k dn av wr) (hb:Below wr.heap.size wr w'):MH h tb F P w sn td k dn av w':=
 ⟨x.f.keep (Keeps.of hb (au _) (fun _=>False)) id,x.p.low hb,x.d,x.b.trans (hb.mono x.b.size)⟩
theorem MH.pile (x:MH h tb F P w sn td k dn av wr) (a:w.heap.size<=P) (p:MB w.heap.size tb P av' td' w') (kk:Keeps wr w' (fun c=>c=P∨av.ownBlock=some c)):aD w' 127 F h.objs.length (uD tb sn)/\Below w.heap.size w w':=by
 refine ⟨x.f.keep kk (fun c=>?_),x.b.trans (kk.below x.b.size (fun c e=>?_))⟩
 ·rcases c with c|c
  ·exact x.ap.1 c
  ·exact x.ap.2 c
 ·rcases e with e|e
  ·omega
  ·exact (x.p.o.lt c e).1
theorem tH (v:HV):(bQ v).length<=1:=by
 cases v with
 |none=>simp [bQ]
 |some x=>cases x<;>simp [bQ]
def GU (h:Hp) (tb:Nat->Nat) (hand:Nat) (w:World) (e:Ending) (w':World):Prop:=
 ∃ F sn,e=.returned (.slice (some ⟨F,0,none⟩) sn.length sn.length)/\sn.length=h.objs.length/\aD w' 127 F sn.length (uD tb sn)/\w.heap.size<=F/\(∀ n:Nat,1<=n->(sn[n]?=some true↔(n=hand∨h.Reach n)))/\Below w.heap.size w w'
theorem DR (w:World):(Instr.typeAssert .nilIface 67 127 true).run Tryz.prog w=.ok (.tuple #[.pointer none,.bool false]) w:=by kernel_rfl
theorem jX (p:PS base S h L w) (g:Gd h) (m5:h.objs.length<=5001) (hR:aD w 69 R 2 (ES L.H (aK L.tb (cO hand)))) (f5:hand=0∨h.Ok hand) (m1:h.roots.length<=5001):
 Calls Tryz.prog 70 #[.pointer (some ⟨R,0,none⟩)] w (GU h L.tb hand w):=by
 obtain ⟨x,y,G,a,r⟩:=p;have hp:=g.i.ps;have h0:∀ n o,h.ob n=some o->o.es.length<=5000:=fun n o e=>by
  have h1:=g.n.es e;have h2:=g.s.Nn;omega
 have g2:∀ sn,dM h.objs sn<=15000:=fun sn=>by
  have h1:=DF h.objs sn;have h2:h.bytes=gZ wt (h.objs.map fun o=>o.map fun o=>o.es.length):=g.n.1;have h3:=g.s.Nn;omega
 have r0:w.cell? ⟨R,0,none⟩=some (.pointer (some ⟨L.H,0,none⟩)):=hR.c 0;have c2:w.cell? ⟨L.H,2,none⟩=some (.int .i64 ((h.objs.length:Int)-1)):=a.hp.c 2;have b6:=a.li 10 (by simp [eF]);obtain ⟨ar,cr,b5⟩:=aF b6;have b1:w.ownsRow base 67 1 (.slice ar h.roots.length cr) (h.roots.map (jL L.tb)).length (h.roots.map (jL L.tb)):=by rw [bY,<-(show L.li 10=.slice ar h.roots.length cr from b5)];exact b6
 have m3:((h.objs.length:Int)-1+1)=(h.objs.length:Int):=by omega
 obtain ⟨MC,c8⟩:∃ MC,MC=madeCells #[Value.pointer none] h.objs.length:=⟨_,rfl⟩
 have j2:=fun w9:World=>yI w9 h.objs.length (by omega) MC c8;have h6:=ah (Ej w c8);have b0:=ah (aU w (.cells MC 127));have j8:=hR.lt;have n1:=a.hp.lt;have HA:=ah a;have HG:=ah g;have HR:=ah hR;have k3:=ah (show L.li 10=.slice ar h.roots.length cr from b5);have k4:=ah b1;have l4:=ah h0;have l5:=ah g2;have k8:=ah f5;clear a r g hR b6 b1 b5 h0 g2 f5 c8;go_enter Tryz.func70,Tryz.ntmps70;go_upto_region 2 with (fail)
 clear j2;have K1:=ah (Keeps.of b0.o (au _) (fun _=>False));generalize w.alloc (.cells MC 127)=w1 at *;have b3:=ah (aj k4.o K1.o (fun _ _ e=>e));have i1:=ah (HR.o.keep K1.o id);have i7:=ah (HA.o.low b0.o);clear r0 c2;have r0:w1.cell? ⟨R,0,none⟩=some (.pointer (some ⟨L.H,0,none⟩)):=i1.o.c 0;have j9:w1.cell? ⟨L.H,10,none⟩=some (.slice ar h.roots.length cr):=by rw [i7.o.hp.c 10];exact congrArg some k3.o
 have i6:=ah (vJ b3.o (fun u hu=>by
  obtain ⟨n,_,rfl⟩:=List.mem_map.1 hu;rfl) (by rw [bY];omega))
 go_wp2_with fail;refine i6.o.mono ?_;rintro e2 Z ⟨v2,rfl,a3,g6⟩;rw [bY] at a3;obtain ⟨a2,k2,i9⟩:=aF a3;subst i9;have i2:=ah a3;have a9:=ah g6;clear a3 g6 r0 j9 i6;go_upto_region 3 with (fail)
 have i0:=ah (show aD (Z.alloc (.cells #[.slice a2 h.roots.length k2] 72)) 72 Z.heap.size 1 _ from aD.mk' Z _ #[.slice a2 h.roots.length k2]);have a8:=ah (aU Z (.cells #[.slice a2 h.roots.length k2] 72));have g8:w.heap.size<=w1.heap.size:=b0.o.size;have n0:w1.heap.size<=Z.heap.size:=a9.o.size;have c9:Hq (MH h L.tb w.heap.size Z.heap.size w (List.replicate h.objs.length false) h.roots 0 [] (.slice a2 h.roots.length k2) (Z.alloc (.cells #[.slice a2 h.roots.length k2] 72))):=ah (by
  have e3:=Keeps.of a8.o (au _) (fun _=>False);have f2:=((h6.o.keep (Keeps.of a9.o (au _) (fun _=>False)) id).keep e3 id)
  refine ⟨f2.congr (fun j hj=>?_),⟨i0.o.congr (fun j hj=>by rw [show j=0 by omega];rfl),iq (aj i2.o e3 (fun _ _ e=>e)) g8,by have:=a8.o.size;omega⟩,Df.start h,?_⟩
  ·unfold uD
   rw [bq,List.getElem?_replicate,if_pos hj];rfl
  ·exact (b0.o.trans (a9.o.mono g8)).trans (a8.o.mono (by omega)))
 generalize Z.alloc (.cells #[.slice a2 h.roots.length k2] 72)=w3 at *;obtain ⟨P,hP⟩:∃ P,Z.heap.size=P:=⟨_,rfl⟩
 have g7:w.heap.size<=P:=by omega
 rw [hP] at c9 ⊢;clear i0 a8 hP i2 a9 b3 i1 i7 K1 h6;have g9:h.roots.length+dM h.objs (List.replicate h.objs.length false)<=20001:=by
  have:=l5.o (List.replicate h.objs.length false);omega
 have i3:=ah g9;clear g9;go_wp2
 go_loopg [] (h.roots.length+dM h.objs (List.replicate h.objs.length false)) (fun m wr=>∃ (sn:List Bool) (td:List Nat) (av:Value),m=td.length+dM h.objs sn/\m<=20001/\Hq (MH h L.tb w.heap.size P w sn td 0 [] av wr))
 case atStart=>exact ⟨_,_,_,rfl,i3.o,c9.o⟩
 case round=>
  clear c9 i3;obtain ⟨sn,td,av,hm,m4,D⟩:=hrel;have f3:=D.o.d.len;rcases List.eq_nil_or_concat td with a0|⟨td',n,a0⟩
  ·subst a0
   obtain ⟨A,v,a4⟩:=aF D.o.p.o;have cP:wr.cell? ⟨P,0,none⟩=some (.slice A 0 v):=by rw [D.o.p.r.c 0];exact congrArg some a4
   have HE:=ah (fB wr P 0 A 0 v cP);rw [show (((0:Nat):Int)==0)=true from rfl] at HE;have i5:=ah (D.o.d.done HG.o.i);have r1:wr.cell? ⟨R,1,none⟩=some (aK L.tb (cO hand)):=(D.o.b.cell (p:=⟨R,1,none⟩) j8).trans (HR.o.c 1);have T:=ah f3;clear a4 hm cP f3;by_cases c4:hand=0
   ·rw [c4] at r1
    have f0:=DR wr;have i8:wr.cell? ⟨R,1,none⟩=some .nilIface:=r1;clear r1;go_wp2_with fail;refine HE.o.mono ?_;rintro e4 w4 ⟨rfl,rfl⟩;go_wp2;go_ret;refine ⟨w.heap.size,sn,by rw [T.o];rfl,T.o,by rw [T.o];exact D.o.f,au _,fun q hq=>?_,D.o.b⟩;rw [i5.o q];exact ⟨.inr,fun c=>c.resolve_left (by omega)⟩
   ·obtain ⟨oh,a1,-⟩:=k8.o.resolve_left c4
    have c3:=Hp.Ia a1;rw [gH c4] at r1;have i8:wr.cell? ⟨R,1,none⟩=some (.iface 127 (.pointer (some ⟨L.tb hand,0,none⟩))):=r1;have f0:=vC (.pointer (some ⟨L.tb hand,0,none⟩)) wr;have t1:wr.cell? ⟨L.tb hand,1,none⟩=some (.int .i64 (hand:Int)):=(D.o.b.cell (p:=⟨L.tb hand,1,none⟩) (HA.o.ob hand oh a1).lt).trans ((HA.o.ob hand oh a1).c 1);have f1:=D.o.f.cell (j:=hand) c3;have z1:=D.o.f.ME hand;have m9:(hand:Int)<(h.objs.length:Int):=by omega
    have e0:=ah c3;clear r1 a1 c3;obtain ⟨fv,f7⟩:∃ fv,uD L.tb sn hand=fv:=⟨_,rfl⟩
    rw [f7] at f1;clear f7;go_wp2_with fail;refine HE.o.mono ?_;rintro e4 w4 ⟨rfl,rfl⟩;go_wp2;go_ret;have b8:(sn.set hand true).length=h.objs.length:=by rw [bX];exact T.o
    refine ⟨w.heap.size,sn.set hand true,by rw [b8];rfl,b8,by rw [b8];exact (D.o.f.set (j:=hand) e0.o _).congr (fun q hq=>wN (by rw [T.o];exact e0.o) q),au _,fun q hq=>?_,D.o.b.trans ((Keeps.setCell (S:=fun c=>c=w.heap.size) (Keeps.refl _ _) rfl _).below (B:=w.heap.size) D.o.b.size (fun c e=>aO e.symm))⟩;rw [gD];split
    ·rename_i c
     rw [if_pos (by rw [T.o];exact e0.o)];exact ⟨fun _=>.inl c.symm,fun _=>rfl⟩
    ·rename_i c
     rw [i5.o q];exact ⟨.inr,fun d=>d.resolve_left (fun e=>c e.symm)⟩
  ·rw [List.concat_eq_append] at a0
   subst a0;obtain ⟨gp,v,a4,g5,g4,U⟩:=D.o.p.pop;subst a4;have cP:wr.cell? ⟨P,0,none⟩=some (.slice (some ⟨gp,0,none⟩) (td'.length+1) v):=D.o.p.r.c 0;have E:=D.o.d.tr n (List.mem_append_right _ (List.mem_singleton.2 rfl));obtain ⟨o,ho,-⟩:=Hp.Jq HG.o.i E;have f6:=Hp.Ia ho;have l7:td'.length+1+dM h.objs sn<=20001:=by rw [bI,List.length_singleton] at hm;omega
   have HE:=ah (fB wr P 0 (some ⟨gp,0,none⟩) (td'.length+1) v cP);rw [show (((td'.length+1:Nat):Int)==0)=false by simp;omega] at HE;have HT:=ah (kg wr P 0 gp td'.length v (L.tb n) cP (D.o.p.r.ME 0) g4 (by omega) g5);have f0:=fun w9=>vC (.pointer (some ⟨L.tb n,0,none⟩)) w9;have kP:Keeps wr (wr.setCell ⟨P,0,none⟩ (.slice (some ⟨gp,0,none⟩) td'.length v)) (fun c=>c=P∨(Value.slice (some ⟨gp,0,none⟩) (td'.length+1) v).ownBlock=some c):=Keeps.setCell (S:=fun c=>c=P∨(Value.slice (some ⟨gp,0,none⟩) (td'.length+1) v).ownBlock=some c) (Keeps.refl _ _) (.inl rfl) _;have z:=ah (D.o.pile g7 U kP);have X:=ah U;have HD:=ah D.o.d;have HO:=ah ho;have k6:=ah E;rw [bI,List.length_singleton] at hm;clear U E ho g4 kP cP D;go_wp2_with fail;refine HE.o.mono ?_;rintro e4 w4 ⟨rfl,rfl⟩;go_wp2_with fail;refine HT.o.mono ?_;rintro e5 w5 ⟨rfl,rfl⟩;generalize w4.setCell ⟨P,0,none⟩ (.slice (some ⟨gp,0,none⟩) td'.length v)=w5 at *;have e6:=(HA.o.ob n o HO.o).lt;have t1:w5.cell? ⟨L.tb n,1,none⟩=some (.int .i64 (n:Int)):=(z.o.2.cell (p:=⟨L.tb n,1,none⟩) e6).trans ((HA.o.ob n o HO.o).c 1);have f1:=z.o.1.cell (j:=n) f6;have m2:(n:Int)<(h.objs.length:Int):=by omega
   have K:sn[n]?=some sn[n]:=aN (by omega);cases hb:sn[n] with
   |true=>
    rw [hb] at K;rw [oq K] at f1;have k1:=ah (HD.o.skip K);clear hb K;go_wp2
    go_roundg (td'.length+dM h.objs sn)
    case rel=>exact ⟨sn,td',_,rfl,by omega,z.o.1,X.o,k1.o,z.o.2⟩
    case measure=>omega
   |false=>
    rw [hb] at K;rw [Dy K] at f1;have W:=ah (HD.o.take HG.o.i (by omega));have g3:=AX h.objs sn n (some o) K (Hp.I_ HO.o);have l9:=l4.o n o HO.o;have m0:dM h.objs (sn.set n true)+2*o.es.length=dM h.objs sn:=g3;have z1:=z.o.1.ME n;have h7:=ah ((z.o.1.set (j:=n) f6 (.pointer (some ⟨L.tb n,0,none⟩))).congr (fun q hq=>wN (sn:=sn) (by omega) q));have K6:Hq (Keeps w5 (w5.setCell ⟨w.heap.size,n,none⟩ (.pointer (some ⟨L.tb n,0,none⟩))) (fun c=>c=w.heap.size)):=ah (Keeps.setCell (S:=fun c=>c=w.heap.size) (Keeps.refl _ _) rfl _);have b4:=ah (X.o.keep K6.o (fun c=>z.o.1.apart X.o.r (by decide) c.symm) (fun q hq c=>ak X.o.o z.o.1 (by decide) (c ▸ hq)));have e1:=ah (z.o.2.trans (K6.o.below (B:=w.heap.size) z.o.2.size (fun c e=>aO e.symm)));clear hb K g3;go_upto_region 7 with (fail)
    generalize w5.setCell ⟨w.heap.size,n,none⟩ (.pointer (some ⟨L.tb n,0,none⟩))=w6 at *;clear t1 f1 z1;obtain ⟨A,h4,f8,j5,b2⟩:=HA.o.ents HO.o;have c7:w6.cell? ⟨L.tb n,7,none⟩=some (.slice A o.es.length h4):=by rw [<-f8];exact (e1.o.cell (p:=⟨L.tb n,7,none⟩) e6).trans ((HA.o.ob n o HO.o).c 7)
    have l2:=ah b2;have i4:Hq (MH h L.tb w.heap.size P w (sn.set n true) td' n [] (.slice (some ⟨gp,0,none⟩) td'.length v) w6):=ah ⟨h7.o,b4.o,W.o,e1.o⟩;clear b2 f8 h7 b4 W e1 X z K6;go_wp2;go_loopw [62] (fun iv ws=>∃ (i:Nat) (V:Value) (J:List Nat),i<=o.es.length/\iv=.int .i64 i/\J.length<=td'.length+2*i/\Hq (MH h L.tb w.heap.size P w (sn.set n true) J n (o.es.take i) V ws)) (fun iv _=>o.es.length-bF iv)
    case atStart=>exact ⟨0,_,td',by omega,rfl,by omega,i4.o⟩
    case round=>
     clear i4 c7;obtain ⟨i,V,J,m8,rfl,l6,M⟩:=hrel;by_cases j3:i<o.es.length
     ·obtain ⟨e,he⟩:∃ e,o.es[i]?=some e:=⟨_,aN j3⟩
      obtain ⟨C,rfl,t,l⟩:=l2.o i e he;have g1:=aX he;have e7:o.es.take (i+1)=o.es.take i++[e]:=by rw [List.take_add_one,he];rfl
      have d0:wr.cell? ⟨C,i*10,none⟩=some (.int .i64 (vk e.1)):=(M.o.b.cell (p:=⟨C,_,none⟩) t).trans (l 0 _ rfl);have d1:wr.cell? ⟨C,i*10+1,none⟩=some (.int .i64 (vi e.1)):=(M.o.b.cell (p:=⟨C,_,none⟩) t).trans (l 1 _ rfl);have d2:wr.cell? ⟨C,i*10+2,none⟩=some (.int .u64 0):=(M.o.b.cell (p:=⟨C,_,none⟩) t).trans (l 2 _ rfl);have d3:wr.cell? ⟨C,i*10+3,none⟩=some (.string ByteArray.empty):=(M.o.b.cell (p:=⟨C,_,none⟩) t).trans (l 3 _ rfl);have d4:wr.cell? ⟨C,i*10+4,none⟩=some (aK L.tb e.1):=(M.o.b.cell (p:=⟨C,_,none⟩) t).trans (l 4 _ rfl);have d5:wr.cell? ⟨C,i*10+5,none⟩=some (.int .i64 (vk e.2)):=(M.o.b.cell (p:=⟨C,_,none⟩) t).trans (l 5 _ rfl);have d6:wr.cell? ⟨C,i*10+6,none⟩=some (.int .i64 (vi e.2)):=(M.o.b.cell (p:=⟨C,_,none⟩) t).trans (l 6 _ rfl);have d7:wr.cell? ⟨C,i*10+7,none⟩=some (.int .u64 0):=(M.o.b.cell (p:=⟨C,_,none⟩) t).trans (l 7 _ rfl);have d8:wr.cell? ⟨C,i*10+8,none⟩=some (.string ByteArray.empty):=(M.o.b.cell (p:=⟨C,_,none⟩) t).trans (l 8 _ rfl);have d9:wr.cell? ⟨C,i*10+9,none⟩=some (aK L.tb e.2):=(M.o.b.cell (p:=⟨C,_,none⟩) t).trans (l 9 _ rfl);have l8:(i:Int)<(o.es.length:Int):=by omega
      have HX:=ah (mV wr L.tb e);have n3:=ah (aU wr (.cells (NH L.tb e.1 e.2) 167));have a7:=ah (M.o.low (aU wr (.cells (NH L.tb e.1 e.2) 167)));have W:=ah e7;have l3:=ah g1;clear l he g1 e7 M;go_upto_region 10 with (fail)
      generalize wr.alloc (.cells (NH L.tb e.1 e.2) 167)=w7 at *;generalize wr.heap.size=Y at *;clear d0 d1 d2 d3 d4 d5 d6 d7 d8 d9;obtain ⟨y5,y6,y7,y8,y9⟩:OA w7 Y L.tb e.2:=HX.o.c6;have HN:=ah (bT w7 L.tb e.2);cases hb:e.2.isNone with
      |true=>
       rw [hb] at HN;have k7:=ah (a7.o.d.pass hb);clear hb;go_wp2_with fail;refine HN.o.mono ?_;rintro e8 w8 ⟨rfl,Q⟩;have N:=ah (a7.o.low Q);clear Q;go_wp2;go_roundw
       case rel=>exact ⟨i+1,V,J,by omega,by simp,by omega,N.o.f,N.o.p,by rw [W.o];exact k7.o,N.o.b⟩
       case measure=>simp [bF];omega
      |false=>
       rw [hb] at HN;have g0:e.2.isSome=true:=by cases h9:e.2 with
        |none=>rw [h9] at hb;cases hb
        |some _=>rfl
       have k9:=ah (a7.o.d.more k6.o HO.o l3.o g0);clear hb g0;go_wp2_with fail;refine HN.o.mono ?_;rintro e8 w8 ⟨rfl,Q⟩;have N:=ah (a7.o.low Q);have a5:=ah (HX.o.keep (Keeps.of Q (au _) (fun _=>False)) id);clear Q y5 y6 y7 y8 y9;have j7:Y≠P:=fun c=>a5.o.apart N.o.p.r (by decide) c;have j6:V.ownBlock≠some Y:=fun c=>ak N.o.p.o a5.o (by decide) c;have k5:=ah (oI N.o.p e.1 (by omega));obtain ⟨y0,y1,y2,y3,y4⟩:NC w8 Y L.tb e.1:=a5.o.c5;go_wp2_with fail;refine k5.o.mono ?_;rintro e9 w9 ⟨rfl,n2,b7,c1,j1⟩;have H9:=ah (N.o.pile g7 b7 c1);have a6:=ah b7;have k0:=ah (a5.o.keep c1 (fun c=>by
        rcases c with c|c
        ·exact j7 c
        ·exact j6 c))
       clear b7 c1 j1 y0 y1 y2 y3 y4;have m7:(bQ e.1).length<=1:=tH e.1;have m6:(bQ e.2).length<=1:=tH e.2;have h8:=ah (oI a6.o e.2 (by rw [bI];omega));obtain ⟨y5,y6,y7,y8,y9⟩:OA w9 Y L.tb e.2:=k0.o.c6;go_wp2_with fail;refine h8.o.mono ?_;rintro eA wA ⟨rfl,h5,f4,c0,j0⟩;have l0:Hq (MH h L.tb w.heap.size P w (sn.set n true) (J++dw e) n (o.es.take (i+1)) h5 wA):=ah (by
        have f9:=H9.o.1;have b9:=H9.o.2;have fA:aD wA 127 w.heap.size h.objs.length (uD L.tb (sn.set n true)):=f9.keep c0 (fun c=>by
         rcases c with c|c
         ·exact f9.apart a6.o.r (by decide) c
         ·exact ak a6.o.o f9 (by decide) c)
        have bA:=b9.trans (c0.below b9.size (fun c ec=>by
         rcases ec with ec|ec
         ·omega
         ·exact (a6.o.o.lt c ec).1))
        refine ⟨fA,?_,?_,bA⟩
        ·have:=f4
         rw [List.append_assoc] at this;exact this
        ·rw [W.o];exact k9.o)
       clear f4 c0 j0 y5 y6 y7 y8 y9;go_wp2;go_roundw
       case rel=>exact ⟨i+1,h5,J++dw e,by omega,by simp,by unfold dw;rw [bI,bI];omega,l0.o⟩
       case measure=>simp [bF];omega
     ·have j4:i=o.es.length:=by omega
      subst j4;rw [bN] at M;have l1:=ah (M.o.d.fin HO.o rfl);go_wp2
      go_roundg (J.length+dM h.objs (sn.set n true))
      case rel=>exact ⟨sn.set n true,J,V,rfl,by omega,M.o.f,M.o.p,l1.o,M.o.b⟩
      case measure=>omega
end
end Go.Proofs.YtbpcdfbmnklcjaaGreatDoor
