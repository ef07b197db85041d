import Derived.Test.YtbpcdfbmnklcjaaGreatDoorKHZW
import Derived.Test.YtbpcdfbmnklcjaaGreatDoorKHZQ
namespace Go.Proofs.YtbpcdfbmnklcjaaGreatDoor
open Go Go.RowKit
set_option maxHeartbeats 6400000
set_option maxRecDepth 100000
set_option linter.unusedVariables false
section
variable {L:PM} {R base hand k:Nat} {S:Nat->Prop} {h:Hp} {root:List Bool} {w:World}
attribute [local go_sem] bW
theorem mG:∀ (l:List Bool) (i:Nat),(dR i l).Pairwise (·< ·)
 | [],i=>by simp [dR]
 |a::l,i=>by
  rw [dR,List.pairwise_append];refine ⟨by split<;>simp,mG l (i+1),fun x hx y hy=>?_⟩;have h2:=(qI l (i+1) y).1 hy;split at hx
  ·simp at hx;omega
  ·simp at hx
theorem qJ:∀ (a b:List Nat),a.Pairwise (·< ·)->b.Pairwise (·< ·)->(∀ n,n∈a↔n∈b)->a=b
 | [],[],_,_,_=>rfl
 | [],y::b,_,_,h=>absurd ((h y).2 (List.mem_cons_self ..)) (by simp)
 |x::a,[],_,_,h=>absurd ((h x).1 (List.mem_cons_self ..)) (by simp)
 |x::a,y::b,ha,hb,h=>by
  rw [List.pairwise_cons] at ha hb;have hxy:x=y:=by
   rcases jm.1 ((h x).1 (List.mem_cons_self ..)) with c|c
   ·exact c
   ·have i:=hb.1 x c
    rcases jm.1 ((h y).2 (List.mem_cons_self ..)) with d|d
    ·exact d.symm
    ·have g:=ha.1 y d;omega
  subst hxy;rw [qJ a b ha.2 hb.2 (fun n=>?_)];have e:=h n;rw [jm,jm] at e;constructor
  ·intro c
   have f:=ha.1 n c;exact (e.1 (.inr c)).resolve_left (by omega)
  ·intro c
   have f:=hb.1 n c;exact (e.2 (.inr c)).resolve_left (by omega)
theorem vU {l:List Nat} {z q:Nat} (up:l.Pairwise (·< ·)) (b:Nt l z q):oO l z q=true↔z∈l:=by
 unfold oO;rw [decide_eq_true_eq];constructor
 ·exact fun e=>aX e
 ·intro e
  obtain ⟨p,hp⟩:=List.mem_iff_getElem?.1 e;rcases Nat.lt_trichotomy p q with c|c|c
  ·have:=b.lo p z hp c;omega
  ·rw [<-c];exact hp
  ·have a:q<l.length:=Nat.lt_trans c (aJ.1 hp).1
   obtain ⟨m,hm⟩:∃ m,l[q]?=some m:=⟨_,aN a⟩
   have f:=b.hi q m hm (au _);have d:=List.pairwise_iff_getElem.1 up q p a (aJ.1 hp).1 c;rw [(aJ.1 hm).2,(aJ.1 hp).2] at d;omega
theorem xM {z q:Nat} (l:z<root.length) (b:Nt (dR 0 root) z q) (hm:z∈dR 0 root):(dR 0 root).eraseIdx q=dR 0 (root.set z false):=by
 have up:=mG root 0;refine qJ _ _ (up.sublist (List.eraseIdx_sublist _ _)) (mG _ _) (fun n=>?_);have a:=(vU up b).2 hm;unfold oO at a;rw [decide_eq_true_eq] at a;rw [List.mem_eraseIdx_iff_getElem?,dQ,gD];constructor
 ·rintro ⟨p,hp,g⟩
  have f:z≠n:=by
   intro c;subst c;have j:=(aJ.1 g).1;have i:=(aJ.1 a).1;have e1:=(aJ.1 g).2;have m:=(aJ.1 a).2;rcases Nat.lt_or_ge p q with c|c
   ·have:=List.pairwise_iff_getElem.1 up p q j i c
    omega
   ·have:=List.pairwise_iff_getElem.1 up q p i j (by omega)
    omega
  rw [if_neg f];exact dQ.1 (aX g)
 ·intro c
  split at c
  ·simp at c
  ·rename_i d
   obtain ⟨p,hp⟩:=List.mem_iff_getElem?.1 (dQ.2 c);refine ⟨p,fun e=>?_,hp⟩;rw [e,a] at hp;simp at hp;exact d hp
theorem yx {z q:Nat} (j:z<root.length) (b:Nt (dR 0 root) z q) (hm:z ∉ dR 0 root):(dR 0 root).take q++z::(dR 0 root).drop q=dR 0 (root.set z true):=by
 have up:=mG root 0;refine qJ _ _ ?_ (mG _ _) (fun n=>?_)
 ·rw [List.pairwise_append,List.pairwise_cons]
  refine ⟨up.sublist (List.take_sublist _ _),⟨fun y hy=>?_,up.sublist (List.drop_sublist _ _)⟩,fun x hx y hy=>?_⟩
  ·obtain ⟨p,hp⟩:=List.mem_iff_getElem?.1 hy
   rw [List.getElem?_drop] at hp;have e:=b.hi _ y hp (by omega);rcases Nat.eq_or_lt_of_le e with c|c
   ·subst c;exact absurd (aX hp) hm
   ·exact c
  ·obtain ⟨p,hp⟩:=List.mem_iff_getElem?.1 hx
   rw [List.getElem?_take] at hp;split at hp
   ·rename_i c
    have e:=b.lo p x hp c;rcases jm.1 hy with d|d
    ·omega
    ·obtain ⟨i,a⟩:=List.mem_iff_getElem?.1 d
     rw [List.getElem?_drop] at a;have m:=b.hi _ y a (by omega);omega
   ·cases hp
 ·rw [eT,jm,dQ,gD]
  have g:n∈dR 0 root↔n∈(dR 0 root).take q∨n∈(dR 0 root).drop q:=by
   conv=>lhs;rw [<-List.take_append_drop q (dR 0 root)]
   rw [eT]
  have f:=dQ (l:=root) (n:=n);split
  ·rename_i c
   exact ⟨fun _=>rfl,fun _=>.inr (.inl c.symm)⟩
  ·rename_i c
   rw [<-f,g];constructor
   ·rintro (d|d|d)
    ·exact .inl d
    ·exact absurd d.symm c
    ·exact .inr d
   ·rintro (d|d)
    ·exact .inl d
    ·exact .inr (.inr d)
theorem oC {z:Nat} {bb:Bool} (h:root[z]?=some bb):root.set z bb=root:=by
 refine List.ext_getElem? (fun n=>?_);rw [gD];split
 ·rename_i c
  subst c;rw [if_pos (aJ.1 h).1,h]
 ·rfl
theorem kT (x:PW base S h L R hand w) (ok:Jo k h root hand) (hk:k<=5000) (b:MF h) (A B:Int) (code:Int) (h':Hp) (a3:fJ h hand A->(B=0∨B=1)->code=0/\h'=h.Hf (dR 0 (dJ root A.toNat B))) (a4:fJ h hand A->¬ (B=0∨B=1)->code=2/\h'=h) (c1:¬ fJ h hand A->code=3/\h'=h):
 Calls Tryz.prog 51 #[.pointer (some ⟨R,0,none⟩),.int .i64 A,.int .i64 B] w (jk base S L.H w (.int .i64 code) h'):=by
 have E:=ah a3;have J:=ah a4;have a1:=ah c1;clear a3 c1 a4;have HD:=ah (jX x.p ok.g ok.g.s.len x.r ok.hd ok.g.s.rt);have HX:=ah x;have a0:=ah ok;have g8:=ah b;have g4:=ok.g.s.len;have vw:=ok.g.i.ps;clear x ok b;go_enter Tryz.func51,Tryz.ntmps51;go_wp2_with fail;refine HD.o.mono ?_;rintro e1 w1 ⟨F,sn,rfl,a9,U,e0,a8,b6⟩;have Z:=ah U;have Q:=ah b6;have hN:sn.length<=1000000:=by omega
 have e8:1<=sn.length:=by omega
 have c9:=ah (lG a9 a8);have g7:=ah a8;have c6:=ah (HX.o.hole b6 e0 U.lt);have d8:=U.lt;have f1:=ah a9;clear U b6 a8 HD a9;have HH:=ah (iY Z.o e8 hN A);cases hA:iW sn A with
 |false=>
  rw [hA] at HH;obtain ⟨rfl,rfl⟩:=a1.o (fun c=>by rw [(c9.o A).2 c] at hA;cases hA);clear hA a1 E J;go_wp2_with fail;refine HH.o.mono ?_;rintro e2 w2 ⟨rfl,rfl⟩;go_wp2;go_ret;exact jk.same HX.o.p Q.o
 |true=>
  rw [hA] at HH;have V:=(c9.o _).1 hA;have X:=ah (gI w1 B 0 1);by_cases M:B=0∨B=1
  ·rw [show (decide ((0:Int)<=B)&&decide (B<=1))=true by simp;omega] at X
   obtain ⟨n,rfl,g0,d7,c3⟩:=jT hA;obtain ⟨rfl,rfl⟩:=E.o V M;obtain ⟨px,py,G,W,rP⟩:=id c6.o.p;have b1:=W.li 10 (by simp [eF]);obtain ⟨Aa,z,b8⟩:=aF b1;have f:L.li 10=.slice Aa h.roots.length z:=b8;have c4:=a0.o.l;have b0:=a0.o.o;have b2:h.roots.length<=5001:=a0.o.g.s.rt;have T:w1.ownsRow base 67 1 (.slice Aa h.roots.length z) (h.roots.map (eP L.tb 10)).length (h.roots.map (eP L.tb 10)):=by rw [bY,<-f];exact b1
   have b5:h.roots.length<=z:=by
    rcases T.2 with ⟨d1,d2⟩|⟨g9,f6,f5,d1,_,_,d4,_⟩
    ·rw [bY] at d2;omega
    ·simp only [Value.slice.injEq] at d1;rw [bY] at d4;omega
   have a7:h.roots.Pairwise (·< ·):=by rw [b0];exact mG _ _
   have c5:∀ p m:Nat,h.roots[p]?=some m->∃ g,Aa=some ⟨g,0,none⟩/\w1.cell? ⟨g,p,none⟩=some (.iface 127 (.pointer (some ⟨L.tb m,0,none⟩)))/\w1.cell? ⟨L.tb m,1,none⟩=some (.int .i64 (m:Int)):=by
    intro p m hm;obtain ⟨A2,f7,e1,e2,e3⟩:=W.II (k:=10) (by simp [eF]);have e4:=e1.symm.trans f;simp only [Value.slice.injEq] at e4;obtain ⟨g,e5,e6,e7⟩:=e3 p m hm;obtain ⟨om,d6,-⟩:=a0.o.g.i.ls m (.inl (aX hm));exact ⟨g,e4.1.symm.trans e5,e7,(W.ob m om d6).c 1⟩
   have f4:=ah (Cm a7 b2 b5 c5 n);have r0:w1.cell? ⟨R,0,none⟩=some (.pointer (some ⟨L.H,0,none⟩)):=c6.o.r.c 0;have e9:w1.cell? ⟨L.H,10,none⟩=some (.slice Aa h.roots.length z):=by rw [W.hp.c 10];exact congrArg some f
   have d5:=W.hp.ME 10;have D:=ah W;have c7:=ah rP;have N:=ah f;have P:=ah T;have Y:=ah (And.intro c4 b0);have c2:n<root.length:=by have:=f1.o;omega
   have fn:=Z.o.cell (j:=n) d7;rw [oq c3] at fn;have f9:(n:Int)<(sn.length:Int):=by omega
   have g5:=W.hp.lt;have d9:F≠L.H:=fun c=>Z.o.apart W.hp (by decide) c;have g6:L.H≠F:=fun c=>d9 c.symm;have c8:Hq (∀ u∈h.roots.map (eP L.tb 10),u.oneCell'=true):=ah (fun u hu=>by
    obtain ⟨m,_,rfl⟩:=List.mem_map.1 hu;rfl)
   have f0:=ah a7;clear hA a1 E J V W rP b1 b8 f T c5 c4 b0 c3 a7;go_wp2_with fail;refine HH.o.mono ?_;rintro e2 w2 ⟨rfl,rfl⟩;go_wp2_with fail;refine X.o.mono ?_;rintro e3 w3 ⟨rfl,rfl⟩;go_wp2_with fail;refine f4.o.mono ?_;rintro e4 w4 ⟨q,rfl,hq,rfl⟩;have HQ:=ah hq;have b9:=hq.le;have d0:=ah (vU f0.o hq);cases hhit:oO h.roots n q with
   |true=>
    have d:=d0.o.1 hhit;rcases M with M|M
    ·subst M
     have C:Hq (h.roots.eraseIdx q=dR 0 (dJ root n 0)):=ah (by
      have e1:=Y.o.2;have:=xM c2 (q:=q) (by rw [<-e1];exact HQ.o) (by rw [<-e1];exact d);rw [<-e1] at this;exact this)
     have c0:q<h.roots.length:=by
      unfold oO at hhit;rw [decide_eq_true_eq] at hhit;exact (aJ.1 hhit).1
     have d3:=ah (AL P.o c8.o (by rw [bY];omega) (i:=q) (by rw [bY];exact c0));rw [bY] at d3;clear hhit d hq;go_wp2_with fail;refine d3.o.mono ?_;rintro e5 w5 ⟨v5,rfl,v,K,t⟩;obtain ⟨a5,k5,a6⟩:=aF v;subst a6;have y:=D.o.hp.keep K (fun e=>ak P.o D.o.hp (by decide) e);have f8:w5.cell? ⟨L.H,10,none⟩=some (.slice Aa h.roots.length z):=by rw [y.c 10];exact congrArg some N.o
     have b7:=y.ME 10;have H5:=ah (And.intro v (And.intro K t));clear v K t y e9 d5;go_wp2;go_ret;obtain ⟨g1,g2,g3⟩:=H5.o;have b4:(h.roots.map (eP L.tb 10)).eraseIdx q=(h.roots.eraseIdx q).map (eP L.tb 10):=by rw [List.eraseIdx_eq_take_drop_succ,List.eraseIdx_eq_take_drop_succ,List.map_append,List.map_take,List.map_drop]
     have b3:(h.roots.eraseIdx q).length=h.roots.length-1:=by rw [List.length_eraseIdx_of_lt c0]
     obtain ⟨-,p2,p3⟩:=D.o.JW (h':=iN (h.wk px py) 10 (h.roots.eraseIdx q)) (G':=G) (w1:=w5) 10 (by simp [eF]) (by rw [N.o];exact g2) (.slice a5 (h.roots.length-1) k5) (by rw [lF (by simp [kI]),b3,<-b4];exact g1) (fun g hg=>.inl (by rw [N.o,<-g3];exact hg)) (jE _ 10 _) (fun j hj hn=>jD (by simp [kI]) hj hn _) (kQ (by simp [kI]) _ _);show jk base S L.H w _ (h.Hf (dR 0 (dJ root n 0))) _ _;rw [<-C.o];exact jk.mk' (L':={ L with li:=fun j=>if j=10 then .slice a5 (h.roots.length-1) k5 else L.li j }) Q.o (fun b e=>e.1) rfl ⟨px,py,G,p2,c7.o.same rfl rfl rfl rfl rfl rfl (fun _=>Iff.rfl)⟩ p3
    ·subst M
     have C:Hq (h.Hf (dR 0 (dJ root n 1))=h):=ah (by
      have e1:=Y.o.2;rw [e1] at d;have e2:dJ root n 1=root:=oC (dQ.1 d);rw [e2,<-e1];rfl)
     clear hhit d hq;go_wp2;go_ret;show jk base S L.H w _ (h.Hf (dR 0 (dJ root n 1))) _ _;rw [C.o];exact jk.same HX.o.p Q.o
   |false=>
    have d:n ∉ h.roots:=fun c=>by rw [d0.o.2 c] at hhit;cases hhit
    rcases M with M|M
    ·subst M
     have C:Hq (h.Hf (dR 0 (dJ root n 0))=h):=ah (by
      have e1:=Y.o.2;have e2:dJ root n 0=root:=oC (by
       cases hb9:root[n]? with
       |none=>have:=List.getElem?_eq_none_iff.1 hb9;omega
       |some bb=>
        cases bb with
        |false=>rfl
        |true=>rw [e1] at d;exact absurd (dQ.2 hb9) d)
      rw [e2,<-e1];rfl)
     clear hhit d hq;go_wp2;go_ret;show jk base S L.H w _ (h.Hf (dR 0 (dJ root n 0))) _ _;rw [C.o];exact jk.same HX.o.p Q.o
    ·subst M
     have C:Hq (h.roots.take q++n::h.roots.drop q=dR 0 (dJ root n 1)):=ah (by
      have e1:=Y.o.2;have:=yx c2 (q:=q) (by rw [<-e1];exact HQ.o) (by rw [<-e1];exact d);rw [<-e1] at this;exact this)
     have a2:Hq (Below w4.heap.size w4 (w4.alloc (.cells #[.iface 127 (.pointer (some ⟨L.tb n,0,none⟩))] 67)).drew):=ah (aU w4 _).drew;have f2:=ah (Keeps.of a2.o (au _) (fun c=>(Value.slice Aa h.roots.length z).ownBlock=some c));have f3:=ah (Bp (i:=q) (vb:=w4.heap.size) (x:=.iface 127 (.pointer (some ⟨L.tb n,0,none⟩))) (aj P.o (Keeps.of a2.o (au _) (fun _=>False)) (fun _ _ e=>e)) c8.o (by rw [bY];omega) rfl ⟨#[.iface 127 (.pointer (some ⟨L.tb n,0,none⟩))],Array.getElem?_push_size ..,rfl,fun j hj=>by rw [show j=0 by omega];rfl⟩ (fun e=>by have:=(ay P.o e).lt;omega) (by rw [bY];exact b9) (aI D.o.bs a2.o.size));clear hhit d hq;go_wp2_with fail
     go_region_with (
      (go_at_call 79
       refine f3.o.mono ?_;rintro e5 w5 ⟨v5,rfl,v,K,t⟩;obtain ⟨a5,k5,a6⟩:=aF v;subst a6;have H5:=ah (And.intro v (And.intro (f2.o.trans K) t));have y:=D.o.hp.keep H5.o.2.1 (fun e=>ak P.o D.o.hp (by decide) e);have t1:w5.cell? ⟨L.H,10,none⟩=some (.slice Aa h.roots.length z):=by rw [y.c 10];exact congrArg some N.o
       have b7:=y.ME 10;have t2:w5.cell? ⟨F,n,none⟩=some (.pointer (some ⟨L.tb n,0,none⟩)):=(bM (a:=⟨F,n,none⟩) (H5.o.2.1.block F d8 (fun e=>ak P.o Z.o (by decide) e))).trans fn;clear v K t y))
     all_goals
      go_wp2;go_ret;obtain ⟨g1,g2,g3⟩:=H5.o;have b4:(h.roots.map (eP L.tb 10)).take q++(.iface 127 (.pointer (some ⟨L.tb n,0,none⟩)))::(h.roots.map (eP L.tb 10)).drop q=(h.roots.take q++n::h.roots.drop q).map (eP L.tb 10):=by rw [List.map_append,List.map_cons,List.map_take,List.map_drop];rfl
      have b3:(h.roots.take q++n::h.roots.drop q).length=h.roots.length+1:=by rw [bI,aY,bf,List.length_drop];omega
      rw [b4,bY] at g1;obtain ⟨-,p2,p3⟩:=D.o.JW (h':=iN (h.wk px py) 10 (h.roots.take q++n::h.roots.drop q)) (G':=G) (w1:=w5) 10 (by simp [eF]) (by rw [N.o];exact g2) (.slice a5 (h.roots.length+1) k5) (by rw [lF (by simp [kI]),b3];exact g1) (fun g hg=>(g3 g (by rw [bY];exact hg)).imp (fun e=>by rw [N.o];exact e) (fun e=>aI a2.o.size e)) (jE _ 10 _) (fun j hj hn=>jD (by simp [kI]) hj hn _) (kQ (by simp [kI]) _ _);show jk base S L.H w _ (h.Hf (dR 0 (dJ root n 1))) _ _;rw [<-C.o];exact jk.mk' (L':={ L with li:=fun j=>if j=10 then .slice a5 (h.roots.length+1) k5 else L.li j }) Q.o (fun b e=>e.1) rfl ⟨px,py,G,p2,c7.o.same rfl rfl rfl rfl rfl rfl (fun _=>Iff.rfl)⟩ p3
  ·rw [show (decide ((0:Int)<=B)&&decide (B<=1))=false by simp;omega] at X
   obtain ⟨rfl,rfl⟩:=J.o V M;clear hA a1 E J V M;go_wp2_with fail;refine HH.o.mono ?_;rintro e2 w2 ⟨rfl,rfl⟩;go_wp2_with fail;refine X.o.mono ?_;rintro e3 w3 ⟨rfl,rfl⟩;go_wp2;go_ret;exact jk.same HX.o.p Q.o
end
section
variable {L:PM} {R base hand:Nat} {S:Nat->Prop} {h:Hp} {w:World}
attribute [local go_sem] bW
def oJ (base:Nat) (S:Nat->Prop) (H R:Nat) (w:World) (kd code id:Int) (h':Hp) (e:Ending) (w':World):Prop:=
 e=.returned (.tuple #[.int .i64 id,.int .i64 code])/\∃ L' pv,L'.H=H/\PS base S h' L' w'/\aD w' 69 R 2 (ES H pv)/\(kd=8->code=0->pv=aK L'.tb (cO id.toNat))/\Keeps w w' (fun b=>S b∨b=R)
theorem oJ.of {base:Nat} {S:Nat->Prop} {H R:Nat} {w w1 w':World} {kd code id:Int} {h':Hp} {v:Value} {e:Ending} {pv:Value} (hk:kd≠8) (r:aD w1 69 R 2 (ES H pv)) (n:¬ S R) (hb:Below w.heap.size w w1) (x:jk base S H w1 v h' e w'):oJ base S H R w kd code id h' (.returned (.tuple #[.int .i64 id,.int .i64 code])) w':=by
 obtain ⟨-,L',f,d,a⟩:=x;exact ⟨rfl,L',pv,f,d,r.keep a n,fun c=>absurd c hk,(Keeps.of hb (au _) _).trans (a.mono (fun b e=>Or.inl e))⟩
theorem Fb (x:PW base S h L R hand w) (A B C code:Int) (h':Hp) (e:∀ w',PW base S h L R hand w'->Calls Tryz.prog 49 #[.pointer (some ⟨R,0,none⟩),.int .i64 A,.int .i64 B,.int .i64 C] w' (jk base S L.H w' (.int .i64 code) h')):
 Calls Tryz.prog 35 #[.pointer (some ⟨R,0,none⟩),.agg #[.int .i64 2,.int .i64 A,.int .i64 B,.int .i64 C]] w (oJ base S L.H R w 2 code 0 h'):=by
 have b:=ah (fO w 2 A B C);have k:=ah (aU w (.cells #[.int .i64 2,.int .i64 A,.int .i64 B,.int .i64 C] 39));have d:=ah (x.low (aU w (.cells #[.int .i64 2,.int .i64 A,.int .i64 B,.int .i64 C] 39)));have j:=ah (e _ d.o);clear x e;go_enter Tryz.func35,Tryz.ntmps35;go_upto_region 1 with (fail)
 generalize w.alloc (.cells #[.int .i64 2,.int .i64 A,.int .i64 B,.int .i64 C] 39)=w1 at *;generalize i:w.heap.size=X at *;have x0:w1.cell? ⟨X,0,none⟩=some (.int .i64 2):=b.o.c 0;have x1:w1.cell? ⟨X,1,none⟩=some (.int .i64 A):=b.o.c 1;have g:w1.cell? ⟨X,2,none⟩=some (.int .i64 B):=b.o.c 2;have f:w1.cell? ⟨X,3,none⟩=some (.int .i64 C):=b.o.c 3;go_wp2_with fail;refine j.o.mono ?_;intro p m a;have l:=ah a;obtain ⟨rfl,-⟩:=a;clear x0 x1 g f;go_wp2
 ((try simp only [Exit.inBlock,Exit.then]);refine bodyPost_ret (results_tmp2 rfl _ _ _) rfl ?_)
 exact oJ.of (by decide) d.o.r d.o.n (by rw [i];exact k.o) l.o
theorem Fy (x:PW base S h L R hand w) (A B C code:Int) (h':Hp) (e:∀ w',PW base S h L R hand w'->Calls Tryz.prog 50 #[.pointer (some ⟨R,0,none⟩),.int .i64 A,.int .i64 B,.int .i64 C] w' (jk base S L.H w' (.int .i64 code) h')):
 Calls Tryz.prog 35 #[.pointer (some ⟨R,0,none⟩),.agg #[.int .i64 3,.int .i64 A,.int .i64 B,.int .i64 C]] w (oJ base S L.H R w 3 code 0 h'):=by
 have b:=ah (fO w 3 A B C);have k:=ah (aU w (.cells #[.int .i64 3,.int .i64 A,.int .i64 B,.int .i64 C] 39));have d:=ah (x.low (aU w (.cells #[.int .i64 3,.int .i64 A,.int .i64 B,.int .i64 C] 39)));have j:=ah (e _ d.o);clear x e;go_enter Tryz.func35,Tryz.ntmps35;go_upto_region 1 with (fail)
 generalize w.alloc (.cells #[.int .i64 3,.int .i64 A,.int .i64 B,.int .i64 C] 39)=w1 at *;generalize i:w.heap.size=X at *;have x0:w1.cell? ⟨X,0,none⟩=some (.int .i64 3):=b.o.c 0;have x1:w1.cell? ⟨X,1,none⟩=some (.int .i64 A):=b.o.c 1;have g:w1.cell? ⟨X,2,none⟩=some (.int .i64 B):=b.o.c 2;have f:w1.cell? ⟨X,3,none⟩=some (.int .i64 C):=b.o.c 3;go_wp2_with fail;refine j.o.mono ?_;intro p m a;have l:=ah a;obtain ⟨rfl,-⟩:=a;clear x0 x1 g f;go_wp2
 ((try simp only [Exit.inBlock,Exit.then]);refine bodyPost_ret (results_tmp2 rfl _ _ _) rfl ?_)
 exact oJ.of (by decide) d.o.r d.o.n (by rw [i];exact k.o) l.o
theorem Ec (x:PW base S h L R hand w) (A B C code:Int) (h':Hp) (e:∀ w',PW base S h L R hand w'->Calls Tryz.prog 51 #[.pointer (some ⟨R,0,none⟩),.int .i64 A,.int .i64 B] w' (jk base S L.H w' (.int .i64 code) h')):
 Calls Tryz.prog 35 #[.pointer (some ⟨R,0,none⟩),.agg #[.int .i64 4,.int .i64 A,.int .i64 B,.int .i64 C]] w (oJ base S L.H R w 4 code 0 h'):=by
 have b:=ah (fO w 4 A B C);have k:=ah (aU w (.cells #[.int .i64 4,.int .i64 A,.int .i64 B,.int .i64 C] 39));have d:=ah (x.low (aU w (.cells #[.int .i64 4,.int .i64 A,.int .i64 B,.int .i64 C] 39)));have j:=ah (e _ d.o);clear x e;go_enter Tryz.func35,Tryz.ntmps35;go_upto_region 1 with (fail)
 generalize w.alloc (.cells #[.int .i64 4,.int .i64 A,.int .i64 B,.int .i64 C] 39)=w1 at *;generalize i:w.heap.size=X at *;have x0:w1.cell? ⟨X,0,none⟩=some (.int .i64 4):=b.o.c 0;have x1:w1.cell? ⟨X,1,none⟩=some (.int .i64 A):=b.o.c 1;have g:w1.cell? ⟨X,2,none⟩=some (.int .i64 B):=b.o.c 2;have f:w1.cell? ⟨X,3,none⟩=some (.int .i64 C):=b.o.c 3;go_wp2_with fail;refine j.o.mono ?_;intro p m a;have l:=ah a;obtain ⟨rfl,-⟩:=a;clear x0 x1 g f;go_wp2
 ((try simp only [Exit.inBlock,Exit.then]);refine bodyPost_ret (results_tmp2 rfl _ _ _) rfl ?_)
 exact oJ.of (by decide) d.o.r d.o.n (by rw [i];exact k.o) l.o
theorem Ep (x:PW base S h L R hand w) (A B C code:Int) (h':Hp) (e:∀ w',PW base S h L R hand w'->Calls Tryz.prog 52 #[.pointer (some ⟨R,0,none⟩),.int .i64 A] w' (jk base S L.H w' (.int .i64 code) h')):
 Calls Tryz.prog 35 #[.pointer (some ⟨R,0,none⟩),.agg #[.int .i64 5,.int .i64 A,.int .i64 B,.int .i64 C]] w (oJ base S L.H R w 5 code 0 h'):=by
 have b:=ah (fO w 5 A B C);have k:=ah (aU w (.cells #[.int .i64 5,.int .i64 A,.int .i64 B,.int .i64 C] 39));have d:=ah (x.low (aU w (.cells #[.int .i64 5,.int .i64 A,.int .i64 B,.int .i64 C] 39)));have j:=ah (e _ d.o);clear x e;go_enter Tryz.func35,Tryz.ntmps35;go_upto_region 1 with (fail)
 generalize w.alloc (.cells #[.int .i64 5,.int .i64 A,.int .i64 B,.int .i64 C] 39)=w1 at *;generalize i:w.heap.size=X at *;have x0:w1.cell? ⟨X,0,none⟩=some (.int .i64 5):=b.o.c 0;have x1:w1.cell? ⟨X,1,none⟩=some (.int .i64 A):=b.o.c 1;have g:w1.cell? ⟨X,2,none⟩=some (.int .i64 B):=b.o.c 2;have f:w1.cell? ⟨X,3,none⟩=some (.int .i64 C):=b.o.c 3;go_wp2_with fail;refine j.o.mono ?_;intro p m a;have l:=ah a;obtain ⟨rfl,-⟩:=a;clear x0 x1 g f;go_wp2
 ((try simp only [Exit.inBlock,Exit.then]);refine bodyPost_ret (results_tmp2 rfl _ _ _) rfl ?_)
 exact oJ.of (by decide) d.o.r d.o.n (by rw [i];exact k.o) l.o
theorem Fz (x:PW base S h L R hand w) (A B C code:Int) (h':Hp) (e:∀ w',PW base S h L R hand w'->Calls Tryz.prog 53 #[.pointer (some ⟨R,0,none⟩),.int .i64 A] w' (jk base S L.H w' (.int .i64 code) h')):
 Calls Tryz.prog 35 #[.pointer (some ⟨R,0,none⟩),.agg #[.int .i64 6,.int .i64 A,.int .i64 B,.int .i64 C]] w (oJ base S L.H R w 6 code 0 h'):=by
 have b:=ah (fO w 6 A B C);have k:=ah (aU w (.cells #[.int .i64 6,.int .i64 A,.int .i64 B,.int .i64 C] 39));have d:=ah (x.low (aU w (.cells #[.int .i64 6,.int .i64 A,.int .i64 B,.int .i64 C] 39)));have j:=ah (e _ d.o);clear x e;go_enter Tryz.func35,Tryz.ntmps35;go_upto_region 1 with (fail)
 generalize w.alloc (.cells #[.int .i64 6,.int .i64 A,.int .i64 B,.int .i64 C] 39)=w1 at *;generalize i:w.heap.size=X at *;have x0:w1.cell? ⟨X,0,none⟩=some (.int .i64 6):=b.o.c 0;have x1:w1.cell? ⟨X,1,none⟩=some (.int .i64 A):=b.o.c 1;have g:w1.cell? ⟨X,2,none⟩=some (.int .i64 B):=b.o.c 2;have f:w1.cell? ⟨X,3,none⟩=some (.int .i64 C):=b.o.c 3;go_wp2_with fail;refine j.o.mono ?_;intro p m a;have l:=ah a;obtain ⟨rfl,-⟩:=a;clear x0 x1 g f;go_wp2
 ((try simp only [Exit.inBlock,Exit.then]);refine bodyPost_ret (results_tmp2 rfl _ _ _) rfl ?_)
 exact oJ.of (by decide) d.o.r d.o.n (by rw [i];exact k.o) l.o
theorem Fv (x:PW base S h L R hand w) (A B C code:Int) (id:Int) (h':Hp) (e:∀ w',PW base S h L R hand w'->Calls Tryz.prog 48 #[.pointer (some ⟨R,0,none⟩),.int .i64 A] w' (jk base S L.H w' (.tuple #[.int .i64 id,.int .i64 code]) h')):
 Calls Tryz.prog 35 #[.pointer (some ⟨R,0,none⟩),.agg #[.int .i64 1,.int .i64 A,.int .i64 B,.int .i64 C]] w (oJ base S L.H R w 1 code id h'):=by
 have b:=ah (fO w 1 A B C);have k:=ah (aU w (.cells #[.int .i64 1,.int .i64 A,.int .i64 B,.int .i64 C] 39));have d:=ah (x.low (aU w (.cells #[.int .i64 1,.int .i64 A,.int .i64 B,.int .i64 C] 39)));have j:=ah (e _ d.o);clear x e;go_enter Tryz.func35,Tryz.ntmps35;go_upto_region 1 with (fail)
 generalize w.alloc (.cells #[.int .i64 1,.int .i64 A,.int .i64 B,.int .i64 C] 39)=w1 at *;generalize i:w.heap.size=X at *;have x0:w1.cell? ⟨X,0,none⟩=some (.int .i64 1):=b.o.c 0;have x1:w1.cell? ⟨X,1,none⟩=some (.int .i64 A):=b.o.c 1;have g:w1.cell? ⟨X,2,none⟩=some (.int .i64 B):=b.o.c 2;have f:w1.cell? ⟨X,3,none⟩=some (.int .i64 C):=b.o.c 3;go_wp2_with fail;refine j.o.mono ?_;intro p m a;have l:=ah a;obtain ⟨rfl,-⟩:=a;clear x0 x1 g f;go_wp2
 ((try simp only [Exit.inBlock,Exit.then]);refine bodyPost_ret (results_tmp2 rfl _ _ _) rfl ?_)
 exact oJ.of (by decide) d.o.r d.o.n (by rw [i];exact k.o) l.o
theorem Gb (x:PW base S h L R hand w) (g:Gd h) (A B C:Int):
 Calls Tryz.prog 35 #[.pointer (some ⟨R,0,none⟩),.agg #[.int .i64 7,.int .i64 A,.int .i64 B,.int .i64 C]] w (oJ base S L.H R w 7 0 0 h.full):=by
 have f:=ah (fO w 7 A B C);have t:=ah (aU w (.cells #[.int .i64 7,.int .i64 A,.int .i64 B,.int .i64 C] 39));have i:=ah (x.low (aU w (.cells #[.int .i64 7,.int .i64 A,.int .i64 B,.int .i64 C] 39)));have s:=ah (xJ i.o.p g);clear x g;go_enter Tryz.func35,Tryz.ntmps35;go_upto_region 1 with (fail)
 generalize w.alloc (.cells #[.int .i64 7,.int .i64 A,.int .i64 B,.int .i64 C] 39)=w1 at *;generalize m:w.heap.size=X at *;have x0:w1.cell? ⟨X,0,none⟩=some (.int .i64 7):=f.o.c 0;have x1:w1.cell? ⟨X,1,none⟩=some (.int .i64 A):=f.o.c 1;have l:w1.cell? ⟨X,2,none⟩=some (.int .i64 B):=f.o.c 2;have k:w1.cell? ⟨X,3,none⟩=some (.int .i64 C):=f.o.c 3;have r0:w1.cell? ⟨R,0,none⟩=some (.pointer (some ⟨L.H,0,none⟩)):=i.o.r.c 0;go_wp2_with fail;refine s.o.mono ?_;rintro y u ⟨rfl,q,b,a,d⟩;have j:=ah (And.intro b (And.intro a d));clear x0 x1 l k b a d r0;go_wp2
 ((try simp only [Exit.inBlock,Exit.then]);refine bodyPost_ret (results_tmp2 rfl _ _ _) rfl ?_)
 exact oJ.of (v:=.tuple #[]) (e:=.returned (.tuple #[])) (by decide) i.o.r i.o.n (by rw [m];exact t.o) ⟨rfl,q,j.o.1.H,j.o.2.1,j.o.2.2⟩
theorem Gq (x:PW base S h L R hand w) (g:Gd h) (A B C:Int) (code:Int) (id:Nat) (i:h.pending=[]->code=4/\id=0) (f:∀ gs n,h.pending=gs++[n]->code=0/\id=n):
 Calls Tryz.prog 35 #[.pointer (some ⟨R,0,none⟩),.agg #[.int .i64 8,.int .i64 A,.int .i64 B,.int .i64 C]] w (oJ base S L.H R w 8 code (id:Int) h.pop):=by
 have b:=ah (fO w 8 A B C);have z:=ah (aU w (.cells #[.int .i64 8,.int .i64 A,.int .i64 B,.int .i64 C] 39));have m:=ah (x.low (aU w (.cells #[.int .i64 8,.int .i64 A,.int .i64 B,.int .i64 C] 39)));have y:=ah (xZ m.o g);have s:=ah i;have q:=ah f;clear x g i f;rcases List.eq_nil_or_concat h.pending with hp|⟨gs,n,hp⟩
 ·obtain ⟨rfl,rfl⟩:=s.o hp
  have e:=ah hp;have d:Hq (h.pop=h):=ah (by unfold Hp.pop;rw [hp];show { h with pending:=[] }=h;rw [<-hp]);clear hp;go_enter Tryz.func35,Tryz.ntmps35;go_upto_region 1 with (fail)
  generalize w.alloc (.cells #[.int .i64 8,.int .i64 A,.int .i64 B,.int .i64 C] 39)=w1 at *;generalize l:w.heap.size=X at *;have x0:w1.cell? ⟨X,0,none⟩=some (.int .i64 8):=b.o.c 0;have x1:w1.cell? ⟨X,1,none⟩=some (.int .i64 A):=b.o.c 1;have k:w1.cell? ⟨X,2,none⟩=some (.int .i64 B):=b.o.c 2;have j:w1.cell? ⟨X,3,none⟩=some (.int .i64 C):=b.o.c 3;go_wp2_with fail;refine y.o.mono ?_;intro G E a;obtain ⟨rfl,rfl⟩:=a.1 e.o;clear x0 x1 k j a;go_wp2
  ((try simp only [Exit.inBlock,Exit.then]);refine bodyPost_ret (results_tmp2 rfl _ _ _) rfl ?_)
  rw [d.o];exact ⟨rfl,L,_,rfl,m.o.p,m.o.r,fun _ c=>absurd c (by decide),Keeps.of z.o (aO l) _⟩
 ·rw [List.concat_eq_append] at hp
  obtain ⟨rfl,rfl⟩:=q.o gs n hp;have e:=ah hp;have d:Hq (h.pop={ h with pending:=gs }):=ah (by unfold Hp.pop;rw [hp,List.dropLast_concat]);clear hp;go_enter Tryz.func35,Tryz.ntmps35;go_upto_region 1 with (fail)
  generalize w.alloc (.cells #[.int .i64 8,.int .i64 A,.int .i64 B,.int .i64 C] 39)=w1 at *;generalize l:w.heap.size=X at *;have x0:w1.cell? ⟨X,0,none⟩=some (.int .i64 8):=b.o.c 0;have x1:w1.cell? ⟨X,1,none⟩=some (.int .i64 A):=b.o.c 1;have k:w1.cell? ⟨X,2,none⟩=some (.int .i64 B):=b.o.c 2;have j:w1.cell? ⟨X,3,none⟩=some (.int .i64 C):=b.o.c 3;go_wp2_with fail;refine y.o.mono ?_;intro G E a;have D:=ah (a.2 gs id e.o);obtain ⟨rfl,-⟩:=D.o;clear x0 x1 k j a;go_wp2
  ((try simp only [Exit.inBlock,Exit.then]);refine bodyPost_ret (results_tmp2 rfl _ _ _) rfl ?_)
  obtain ⟨-,v,u,t,F⟩:=D.o;rw [d.o];refine ⟨rfl,v,aK v.tb (cO id),u,t.p,by rw [<-u];exact t.r,fun _ _=>by rw [Int.toNat_natCast],(Keeps.of z.o (aO l) _).trans F⟩
theorem Gt (x:PW base S h L R hand w) (A B C:Int):
 Calls Tryz.prog 35 #[.pointer (some ⟨R,0,none⟩),.agg #[.int .i64 9,.int .i64 A,.int .i64 B,.int .i64 C]] w (oJ base S L.H R w 9 0 0 h):=by
 have a:=ah (fO w 9 A B C);have e:=ah (aU w (.cells #[.int .i64 9,.int .i64 A,.int .i64 B,.int .i64 C] 39));have b:=ah (x.low (aU w (.cells #[.int .i64 9,.int .i64 A,.int .i64 B,.int .i64 C] 39)));clear x;go_enter Tryz.func35,Tryz.ntmps35;go_upto_region 1 with (fail)
 generalize w.alloc (.cells #[.int .i64 9,.int .i64 A,.int .i64 B,.int .i64 C] 39)=w1 at *;generalize d:w.heap.size=X at *;have x0:w1.cell? ⟨X,0,none⟩=some (.int .i64 9):=a.o.c 0;have x1:w1.cell? ⟨X,1,none⟩=some (.int .i64 A):=a.o.c 1;have g:w1.cell? ⟨X,2,none⟩=some (.int .i64 B):=a.o.c 2;have f:w1.cell? ⟨X,3,none⟩=some (.int .i64 C):=a.o.c 3;go_wp2
 ((try simp only [Exit.inBlock,Exit.then]);refine bodyPost_ret (results_tmp2 rfl _ _ _) rfl ?_)
 exact ⟨rfl,L,_,rfl,b.o.p,b.o.r,fun c=>absurd c (by decide),Keeps.of e.o (aO d) _⟩
theorem EY (x:PW base S h L R hand w) (kd A B C:Int) (hk:kd<1∨9<kd):
 Calls Tryz.prog 35 #[.pointer (some ⟨R,0,none⟩),.agg #[.int .i64 kd,.int .i64 A,.int .i64 B,.int .i64 C]] w (oJ base S L.H R w kd 1 0 h):=by
 have a:=ah (fO w kd A B C);have f:=ah (aU w (.cells #[.int .i64 kd,.int .i64 A,.int .i64 B,.int .i64 C] 39));have d:=ah (x.low (aU w (.cells #[.int .i64 kd,.int .i64 A,.int .i64 B,.int .i64 C] 39)));clear x;go_enter Tryz.func35,Tryz.ntmps35;go_upto_region 1 with (fail)
 generalize w.alloc (.cells #[.int .i64 kd,.int .i64 A,.int .i64 B,.int .i64 C] 39)=w1 at *;generalize e:w.heap.size=X at *;have x0:w1.cell? ⟨X,0,none⟩=some (.int .i64 kd):=a.o.c 0;have x1:w1.cell? ⟨X,1,none⟩=some (.int .i64 A):=a.o.c 1;have i:w1.cell? ⟨X,2,none⟩=some (.int .i64 B):=a.o.c 2;have g:w1.cell? ⟨X,3,none⟩=some (.int .i64 C):=a.o.c 3;have t:(kd==1)=false:=by simp;omega
 have s:(kd==2)=false:=by simp;omega
 have q:(kd==3)=false:=by simp;omega
 have n:(kd==4)=false:=by simp;omega
 have k5:(kd==5)=false:=by simp;omega
 have m:(kd==6)=false:=by simp;omega
 have l:(kd==7)=false:=by simp;omega
 have k:(kd==8)=false:=by simp;omega
 have j:(kd==9)=false:=by simp;omega
 have b:Hq (kd≠8):=ah (by omega);go_wp2
 ((try simp only [Exit.inBlock,Exit.then]);refine bodyPost_ret (results_tmp2 rfl _ _ _) rfl ?_)
 exact ⟨rfl,L,_,rfl,d.o.p,d.o.r,fun c=>absurd c b.out,Keeps.of f.o (aO e) _⟩
theorem zV (x:PW base S h L R hand w) (A:Int) (hA:A<0∨3<A):
 Calls Tryz.prog 48 #[.pointer (some ⟨R,0,none⟩),.int .i64 A] w (jk base S L.H w (.tuple #[.int .i64 0,.int .i64 2]) h):=by
 have a:=ah (gI w A 0 3);rw [show (decide ((0:Int)<=A)&&decide (A<=3))=false by simp;omega] at a;have b:=ah x.p;clear x hA;go_enter Tryz.func48,Tryz.ntmps48;go_wp2_with fail;refine a.o.mono ?_;rintro d c ⟨rfl,rfl⟩;go_wp2
 ((try simp only [Exit.inBlock,Exit.then]);refine bodyPost_ret (results_tmp2 rfl _ _ _) rfl ?_)
 exact jk.same b.o (aT _ _)
end
section
variable {A C kd:Int} {g h:Hp} {hand k:Nat} {r:Rn} {root:List Bool}
theorem MF.MS (b:MF h) (x:kJ h g) (q:g.objs.length=h.objs.length):MF g:=by
 refine ⟨fun n o ho e he r hr=>?_,fun n o ho e he hs=>?_⟩
 ·obtain ⟨a,m,s,l⟩:=x n o ho
  obtain ⟨j,d⟩:=List.mem_iff_getElem?.1 he;obtain ⟨p,i,f⟩:=l j e d;rw [q];refine b.r n a m p (aX i) r ?_;rcases f with c|c|c
  ·rw [<-c];exact hr
  ·rw [c] at hr
   simp [dw,bQ] at hr;unfold dw;rw [eT];left;exact hr
  ·rw [c] at hr
   simp [dw,bQ] at hr
 ·obtain ⟨a,m,s,l⟩:=x n o ho
  obtain ⟨j,d⟩:=List.mem_iff_getElem?.1 he;obtain ⟨p,i,f⟩:=l j e d;rcases f with c|c|c
  ·rw [c] at hs ⊢;exact b.k n a m p (aX i) hs
  ·rw [c] at hs;simp at hs
  ·rw [c] at hs;simp at hs
theorem MF.cl (b:MF h) (x:Cl h g):MF g:=b.MS x.es x.len
theorem MF.same {h g:Hp} (b:MF h) (a:∀ n,(g.ob n).map Ob.es=(h.ob n).map Ob.es) (c:g.objs.length=h.objs.length):MF g:=b.MS (kJ.same (fun n o e=>by
 have:=a n;rw [e] at this;cases e2:h.ob n with
 |none=>rw [e2] at this;simp at this
 |some o2=>rw [e2] at this;simp at this;exact ⟨o2,rfl,this.symm⟩)) c
theorem MF.new:MF Hp.new:=by
 have a:∀ n,Hp.new.ob n=none:=by
  intro n;simp only [Hp.ob,Hp.new];cases n<;>rfl
 exact ⟨fun n o e=>(by rw [a] at e;cases e),fun n o e=>(by rw [a] at e;cases e)⟩
theorem MF.make {h:Hp} (b:MF h) (m:Nat):MF (h.make m):=by
 have a:(h.make m).objs.length=h.objs.length+1:=by show (h.objs++[_]).length=_;simp
 refine ⟨fun n o ho e he r hr=>?_,fun n o ho e he hs=>?_⟩
 ·rw [gP] at ho
  split at ho
  ·simp at ho;rw [<-ho] at he;simp at he
  ·have:=b.r n o ho e he r hr;omega
 ·rw [gP] at ho
  split at ho
  ·simp at ho;rw [<-ho] at he;simp at he
  ·exact b.k n o ho e he hs
theorem MF.put {h:Hp} (b:MF h) (n:Nat) {k v:HV} (x:k.isSome=true) (hk:∀ r∈bQ k,r<h.objs.length) (w:∀ r∈bQ v,r<h.objs.length):MF (h.put n k v):=by
 have key:∀ (es':Ob->List En) (g:Hp),(∀ m,(g.ob m).map Ob.es=if n=m then (h.ob m).map es' else (h.ob m).map Ob.es)->g.objs.length=h.objs.length->(∀ o,h.ob n=some o->∀ e∈es' o,(∀ r∈dw e,r<h.objs.length)/\(e.2.isSome=true->e.1.isSome=true))->MF g:=by
  intro es' g B z p;have s:∀ m o,g.ob m=some o->∃ o2,h.ob m=some o2/\((n=m/\o.es=es' o2)∨(n≠m/\o.es=o2.es)):=by
   intro m o e;have:=B m;rw [e] at this;split at this
   ·rename_i c
    cases e2:h.ob m with
    |none=>rw [e2] at this;simp at this
    |some o2=>rw [e2] at this;simp at this;exact ⟨o2,rfl,.inl ⟨c,this⟩⟩
   ·rename_i c
    cases e2:h.ob m with
    |none=>rw [e2] at this;simp at this
    |some o2=>rw [e2] at this;simp at this;exact ⟨o2,rfl,.inr ⟨c,this⟩⟩
  refine ⟨fun m o ho e hm r hr=>?_,fun m o ho e hm hs'=>?_⟩
  ·rw [z]
   obtain ⟨o2,q,⟨c,l⟩|⟨c,l⟩⟩:=s m o ho
   ·subst c;rw [l] at hm;exact (p o2 q e hm).1 r hr
   ·rw [l] at hm;exact b.r m o2 q e hm r hr
  ·obtain ⟨o2,q,⟨c,l⟩|⟨c,l⟩⟩:=s m o ho
   ·subst c;rw [l] at hm;exact (p o2 q e hm).2 hs'
   ·rw [l] at hm;exact b.k m o2 q e hm hs'
 unfold Hp.put;split
 ·exact b
 ·rename_i o ho
  split
  ·rename_i i hi
   obtain ⟨y,u,t⟩:=vQ hi;refine key (fun o=>o.es.modify i fun e=>(e.1,v)) _ (fun m=>?_) ((Hp.Ig _ n).1.trans (h.Hz n _)) (fun o2 ho2 e p=>?_)
   ·unfold Hp.putAt
    rw [lQ,Hp.Ho];split
    ·cases h.ob m<;>rfl
    ·rfl
   ·rw [ho] at ho2;cases ho2
    obtain ⟨j,a⟩:=List.mem_iff_getElem?.1 p;rw [List.getElem?_modify] at a;cases hb:o.es[j]? with
    |none=>rw [hb] at a;simp at a
    |some e1=>
     rw [hb] at a;have f:=aX hb;by_cases c:i=j
     ·simp [c] at a
      subst a;subst c;rw [u] at hb;cases hb;refine ⟨fun r hr=>?_,fun _=>by show y.1.isSome=true;rw [t];exact x⟩;rcases eT.1 hr with d|d
      ·exact b.r n o ho y f r (List.mem_append_left _ d)
      ·exact w r d
     ·simp [c] at a
      subst a;exact ⟨b.r n o ho e1 f,b.k n o ho e1 f⟩
  ·split
   ·exact b
   ·refine key (fun o=>aS o.es++[(k,v)]) _ (fun m=>?_) ((Hp.Ig _ n).1.trans (h.Hz n _)) (fun o2 ho2 e p=>?_)
    ·unfold Hp.Ic
     rw [lQ];show ((h.upd n _).ob m).map Ob.es=_;rw [Hp.Ho];split
     ·cases h.ob m<;>rfl
     ·rfl
    ·rw [ho] at ho2;cases ho2
     rcases eT.1 p with c|c
     ·exact ⟨b.r n o ho e (iT c),b.k n o ho e (iT c)⟩
     ·simp at c
      subst c;refine ⟨fun r hr=>?_,fun _=>x⟩;rcases eT.1 hr with d|d
      ·exact hk r d
      ·exact w r d
theorem MF.act {B:Int} (b:MF h) (x:Jo k h root hand) (hk:k+1<=5000) (z:h.freed=[]) (y:bG h hand kd A B C):MF (fF h root kd A B C).h:=by
 have a:∀ n,h.Ok n->n<h.objs.length:=fun n hn=>by obtain ⟨o,ho,-⟩:=hn;exact Hp.Ia ho
 unfold fF;by_cases w:kd=1
 ·subst w
  rw [if_pos rfl];split
  ·exact b
  ·rename_i hA
   have hm:A.toNat<=3:=by omega
   obtain ⟨H,b1⟩:=x.g.make x.b hk z hm;have d:(root++[true]).length=root.length+1:=by simp
   obtain ⟨G,b2⟩:=H.Hf b1 hk z (iB x.g.i hm x.l x.o) (by
    have F:=gU (root++[true]) 0;rw [d,x.l] at F;have L:=b1.len;have E:(h.make A.toNat).objs.length=h.objs.length+1:=by show (h.objs++[_]).length=_;simp
    omega)
   exact MF.cl ((b.make A.toNat).same (g:=(h.make A.toNat).Hf (dR 0 (root++[true]))) (fun _=>rfl) rfl) G.J3
 rw [if_neg w];by_cases v:kd=2
 ·subst v
  rw [if_pos rfl];obtain ⟨J,f⟩:=bG.two.1 y;obtain ⟨c,rfl,e⟩:=jw x f;exact b.put _ rfl (fun r hr=>by simp [bQ] at hr) (fun r hr=>a r (e r (by simpa using hr)))
 rw [if_neg v];by_cases t:kd=3
 ·subst t
  rw [if_pos rfl];obtain ⟨J,D,f⟩:=bG.three.1 y;obtain ⟨m,rfl,hm⟩:=jw x (.inr D);obtain ⟨c,rfl,e⟩:=jw x f;obtain ⟨K,e1,P,N,M⟩:=D.ok x;exact b.put _ (by rw [Int.toNat_natCast,gH (by omega)];rfl) (fun r hr=>a r (hm r (by simpa using hr))) (fun r hr=>a r (e r (by simpa using hr)))
 rw [if_neg t];by_cases s:kd=4
 ·subst s
  rw [if_pos rfl];split
  ·exact b
  ·exact b.same (fun _=>rfl) rfl
 rw [if_neg s];by_cases k5:kd=5
 ·subst k5
  rw [if_pos rfl];split
  ·exact b
  ·refine b.same (fun m=>?_) (fP h _).1
   show ((h.upd _ fun o=>{ o with fin:=true }).ob m).map _=_;rw [Hp.Ho];split
   ·cases h.ob m<;>rfl
   ·rfl
 rw [if_neg k5];by_cases q:kd=6
 ·subst q
  rw [if_pos rfl];split
  ·exact b
  ·exact b.cl (x.g.JR (u:=A))
 rw [if_neg q];by_cases p:kd=7
 ·subst p
  rw [if_pos rfl];exact b.cl x.g.KE
 rw [if_neg p];by_cases j:kd=8
 ·subst j
  rw [if_pos rfl];exact b.same (fun _=>rfl) rfl
 rw [if_neg j];split<;>exact b
theorem Ab (b:MF r.h) (x:r.Ok k) (hk:k+1<=5000) (kd A B C:Int):MF (cK r kd A B C).2.h:=by
 unfold cK;split
 ·rename_i a
  have c:=MF.act (b.same (g:=r.h.forget) (fun _=>rfl) rfl) (x.forget (by omega)) hk rfl (dP.2 a);simp only;split<;>exact c
 ·exact b
end
section
variable {L:PM} {R base hand k:Nat} {S:Nat->Prop} {h:Hp} {root:List Bool} {w:World}
attribute [local go_sem] bW
theorem Eh (x:PW base S h L R hand w) (ok:Jo k h root hand) (hk:k+1<=5000) (r:h.freed=[]) (b:MF h) (kd A B C:Int) (s: -9223372036854775808<=B/\B<=9223372036854775807) (d:bG h hand kd A B C):
 Calls Tryz.prog 35 #[.pointer (some ⟨R,0,none⟩),.agg #[.int .i64 kd,.int .i64 A,.int .i64 B,.int .i64 C]] w (oJ base S L.H R w kd (fF h root kd A B C).code (fF h root kd A B C).id (fF h root kd A B C).h):=by
 unfold fF;by_cases q:kd=1
 ·subst q
  rw [if_pos rfl];split
  ·rename_i hA
   exact Fv x A B C 2 0 h (fun w' x'=>zV x' A hA)
  ·rename_i hA
   obtain ⟨m,rfl⟩:∃ m:Nat,A=(m:Int):=⟨A.toNat,by omega⟩
   have:=Fv x (m:Int) B C 0 (h.objs.length:Int) ((h.make m).Hf (dR 0 (root++[true]))).I6 (fun w' x'=>yB x' ok hk r b m (by omega))
   simpa using this
 rw [if_neg q];by_cases p:kd=2
 ·subst p
  rw [if_pos rfl];have a:=bG.two.1 d;exact Fb x A B C 0 _ (fun w' x'=>ql x' ok (by omega) b A B C s 0 _ (fun _=>⟨rfl,rfl⟩) (fun c=>absurd a c))
 rw [if_neg p];by_cases o:kd=3
 ·subst o
  rw [if_pos rfl];have a:=bG.three.1 d;exact Fy x A B C 0 _ (fun w' x'=>qj x' ok (by omega) b A B C 0 _ (fun _=>⟨rfl,rfl⟩) (fun c=>absurd a c))
 rw [if_neg o];by_cases l:kd=4
 ·subst l
  rw [if_pos rfl];have a:=(bG.four (.inl rfl)).1 d;split
  ·rename_i hb
   exact Ec x A B C 2 _ (fun w' x'=>kT x' ok (by omega) b A B 2 _ (fun _ c=>by omega) (fun _ _=>⟨rfl,rfl⟩) (fun c=>absurd a c))
  ·rename_i hb
   exact Ec x A B C 0 _ (fun w' x'=>kT x' ok (by omega) b A B 0 _ (fun _ _=>⟨rfl,rfl⟩) (fun _ c=>by omega) (fun c=>absurd a c))
 rw [if_neg l];by_cases k5:kd=5
 ·subst k5
  rw [if_pos rfl];have a:=(bG.four (.inr rfl)).1 d;split
  ·rename_i hb
   exact Ep x A B C 4 _ (fun w' x'=>mH x' ok (by omega) b A 4 _ (fun _ c=>by rw [hb] at c;cases c) (fun _ _=>⟨rfl,rfl⟩) (fun c=>absurd a c))
  ·rename_i hb
   exact Ep x A B C 0 _ (fun w' x'=>mH x' ok (by omega) b A 0 _ (fun _ _=>⟨rfl,rfl⟩) (fun _ c=>absurd c hb) (fun c=>absurd a c))
 rw [if_neg k5];by_cases j:kd=6
 ·subst j
  rw [if_pos rfl];split
  ·rename_i hA
   exact Fz x A B C 2 _ (fun w' x'=>by simpa [if_pos hA] using oH x' ok.g A)
  ·rename_i hA
   exact Fz x A B C 0 _ (fun w' x'=>by simpa [if_neg hA] using oH x' ok.g A)
 rw [if_neg j];by_cases i:kd=7
 ·subst i
  rw [if_pos rfl];exact Gb x ok.g A B C
 rw [if_neg i];by_cases f:kd=8
 ·subst f
  rw [if_pos rfl];exact Gq x ok.g A B C _ _ (fun hp=>by rw [hp];exact ⟨rfl,rfl⟩) (fun gs n hp=>by rw [hp];exact ⟨if_neg (by simp),by simp⟩)
 rw [if_neg f];by_cases e:kd=9
 ·subst e
  rw [if_pos rfl];exact Gt x A B C
 rw [if_neg e];exact EY x kd A B C (by omega)
theorem DN (x:PW base S h L R hand w) (ok:Jo k h root hand) (hk:k+1<=5000) (b:MF h) (kd A B C:Int) (i: -9223372036854775808<=B/\B<=9223372036854775807) (d:¬ bG h hand kd A B C):
 kd≠8/\Calls Tryz.prog 35 #[.pointer (some ⟨R,0,none⟩),.agg #[.int .i64 kd,.int .i64 A,.int .i64 B,.int .i64 C]] w (oJ base S L.H R w kd 3 0 h):=by
 by_cases g:kd=2
 ·subst g
  have a:¬ (fJ h hand A/\(C=0∨fJ h hand C)):=fun c=>d (bG.two.2 c);exact ⟨by decide,Fb x A B C 3 _ (fun w' x'=>ql x' ok (by omega) b A B C i 3 _ (fun c=>absurd c a) (fun _=>⟨rfl,rfl⟩))⟩
 by_cases f:kd=3
 ·subst f
  have a:¬ (fJ h hand A/\fJ h hand B/\(C=0∨fJ h hand C)):=fun c=>d (bG.three.2 c);exact ⟨by decide,Fy x A B C 3 _ (fun w' x'=>qj x' ok (by omega) b A B C 3 _ (fun c=>absurd c a) (fun _=>⟨rfl,rfl⟩))⟩
 by_cases e:kd=4
 ·subst e
  have a:¬ fJ h hand A:=fun c=>d ((bG.four (.inl rfl)).2 c);exact ⟨by decide,Ec x A B C 3 _ (fun w' x'=>kT x' ok (by omega) b A B 3 _ (fun c=>absurd c a) (fun c=>absurd c a) (fun _=>⟨rfl,rfl⟩))⟩
 by_cases k5:kd=5
 ·subst k5
  have a:¬ fJ h hand A:=fun c=>d ((bG.four (.inr rfl)).2 c);exact ⟨by decide,Ep x A B C 3 _ (fun w' x'=>mH x' ok (by omega) b A 3 _ (fun c=>absurd c a) (fun c=>absurd c a) (fun _=>⟨rfl,rfl⟩))⟩
 exact absurd (bG.rest g f e k5) d
end
end Go.Proofs.YtbpcdfbmnklcjaaGreatDoor
