import Derived.Test.YtbpcdfbmnklcjaaGreatDoorKHS9
namespace Go.Proofs.YtbpcdfbmnklcjaaGreatDoor
open Go Go.RowKit
set_option maxHeartbeats 6400000
set_option maxRecDepth 100000
set_option linter.unusedVariables false
section
variable {S:Nat->Prop} {base k n:Nat} {o:Ob} {w:World}
theorem Wk.spread {h:Hp} (k:Wk h) (es:List En):Wk (h.spread es).1:=k.Mq (Nk.spread h es) (aO (h.II es))
theorem Wk.drain {h:Hp} (k:Wk h) (t:M5 h No):Wk h.drain:=k.M7 (Np.drain h) h.Jo t.drain.ll
theorem Wk.over {p:Hp × Bool} {j:Nat} (k:Wk p.1) (t:M5 p.1 No):Wk (Hp.over j p).1:=k.M7 (Np.over j p) (Hp.JF j p) t.over.ll
theorem Hp.JX {h:Hp} (e:h.ob n=some o):h.Jf n=o.es:=by unfold Hp.Jf;rw [e];rfl
theorem MW.IC {h:Hp} {L:SM} (a:MW base S h L w) (hk:eO k):∃ A cap,L.li k=.slice A (h_ h k).length cap/\(h_ h k).length<=cap/\∀ i (hi:i<(h_ h k).length),∃ g,A=some ⟨g,0,none⟩/\w.cell? ⟨g,i,none⟩=some (.int .i64 (((h_ h k)[i]:Nat):Int)):=by
 have d:=a.li k hk;rcases d.2 with ⟨j,f⟩|⟨g,cap,l,b,_,_,e,_⟩
 ·exact ⟨none,0,by rw [j,f],by omega,fun i hi=>by omega⟩
 ·refine ⟨_,cap,b,e,fun i hi=>⟨g,rfl,?_⟩⟩
  have hr:=ay d (g:=g) (by rw [b];simp [Value.ownBlock]);rw [hr.c i];simp [dZ,bq,hi]
def GH (b:Bool) (m:Nat) (q T:Hp):Prop:=(b=true->m=q.mu+1/\q.turns=T)/\(b=false->q=T)
theorem lS {h:Hp} {L:SM} (a:MW base S h L w) (k:Wk h) (t:M5 h No):
 Calls Tryz.prog 93 #[.pointer (some ⟨L.H,0,none⟩)] w fun e w'=>e=.returned (.tuple #[])/\∃ L',Lm L L'/\MW base S h.settle L' w'/\Keeps w w' S:=by
 have HD:=ah (mI a k t);have K:=ah (r.intro (k.drain t) t.drain);clear a k t;go_enter Tryz.func93,Tryz.ntmps93;go_wp2_with fail;refine HD.o.mono ?_;rintro e9 w1 ⟨⟨z,rfl⟩,L1,Q,a0,U⟩;have H1:=ah (r.intro Q (r.intro a0 U));clear Q a0 U HD;go_wp2
 go_loopg [2] (h.drain.mu+1) (fun m bv wr=>∃ (b:Bool) (q:Hp) (L':SM),bv=.bool b/\Hq (GH b m q h.settle/\Wk q/\M5 q No/\Lm L L'/\MW base S q L' wr/\Keeps w wr S))
 case atStart=>exact ⟨true,h.drain,L1,rfl,⟨fun _=>⟨rfl,rfl⟩,fun c=>by cases c⟩,K.o.1,K.o.2,H1.o⟩
 case round=>
  obtain ⟨b,q,L2,rfl,HI⟩:=hrel;clear K H1;cases b with
  |false=>
   go_wp2;go_end0;exact ⟨rfl,L2,HI.out.2.2.2.1,by rw [<-HI.out.1.2 rfl];exact HI.out.2.2.2.2.1,HI.out.2.2.2.2.2⟩
  |true=>
   go_wp2
   go_loopg [2,3] (q.mu+q.GZ.length) (fun m bv jv wr=>∃ (j:Nat) (E:Bool) (d:Hp) (L':SM),jv=.int .i64 (j:Int)/\bv=.bool E/\Hq (m=d.mu+d.GZ.length-j/\Hp.over j (d,E)=Hp.over 0 (q,false)/\Wk d/\M5 d No/\Lm L L'/\MW base S d L' wr/\Keeps w wr S/\j<=100000))
   case atStart=>exact ⟨0,false,q,L2,rfl,rfl,by omega,rfl,HI.out.2.1,HI.out.2.2.1,HI.out.2.2.2.1,HI.out.2.2.2.2.1,HI.out.2.2.2.2.2,by omega⟩
   case round=>
    obtain ⟨j,E,d,L3,rfl,rfl,f⟩:=hrel;obtain ⟨H3,a7,a6,b2,a8,a5⟩:=L3;obtain rfl:H3=L.H:=f.o.2.2.2.2.1.H;have i:=f.o.2.2.2.2.2.1;obtain ⟨A,b3,hv,b6,v⟩:=i.IC (k:=10) (by simp [eO]);have c6:d.GZ.length<=20000:=by
     have:=f.o.2.2.1.s.nu;simp only [Hp.nu] at this;omega
    have c5:=f.o.2.2.2.2.2.2.2;have c9:wr.cell? ⟨L.H,10,none⟩=some (.slice A d.GZ.length b3):=by
     have:=i.hp.c 10;rw [this];exact congrArg some hv
    by_cases V:j<d.GZ.length
    ·obtain ⟨g,rfl,W⟩:=v j V
     have b0:=f.o.2.2.2.1.ll _ (.inr (.inr (.inr (List.getElem_mem V))));have y:=ah (Hp.JC j (d,E) V);have B:=ah (Hp.J2 j (d,E) V);have b5:wr.cell? ⟨g,j,none⟩=some (.int .i64 ((d.GZ[j]:Nat):Int)):=W;generalize d.GZ[j]=n at *;obtain ⟨o,ho⟩:=b0;have a9:=Hp.Hy ho;obtain ⟨go,a1,M,b1,x⟩:=i.slot f.o.2.2.1.p;have c7:=x n a9;have c0:wr.cell? ⟨L.H,0,none⟩=some (.slice (some ⟨go,0,none⟩) d.objs.length a1):=by
      have:=i.hp.c 0;rw [this];exact congrArg some M
     have X:=Hp.JX ho;have F:Below wr.heap.size wr wr.drew:=(aG _ _).drew;have a3:=ah F;have b4:=ah (nP (i.low F) f.o.2.2.1.s f.o.2.2.1.z f.o.2.2.1.p n o ho (vV.of f.o.2.2.1.z f.o.2.2.1.c ho));simp only [X] at y B;have c3:=f.o.2.2.1.s.len;have c4:(j:Int)<(d.GZ.length:Int):=by omega
     have c2:(n:Int)<(d.objs.length:Int):=by omega
     have l:=ah (r.intro (f.o.2.2.1.spread o.es) (f.o.2.2.2.1.Mq (Nk.spread d o.es)));have C:Hq ((d.spread o.es).1.mu=d.mu/\(d.spread o.es).1.GZ=d.GZ):=ah ⟨Hp.Ii d o.es,(Hp.Ic d o.es).1⟩;clear i v W x ho X M hv F;go_wp2_with fail
     go_cut [30] (fun sv wc=>∃ G,sv=.bool (d.spread o.es).2/\Hq (Lm ⟨L.H,a7,a6,b2,a8,a5⟩ G/\MW base S (d.spread o.es).1 G wc/\Keeps wr.drew wc S))
     case first=>
      go_region_with (go_at_call 118;refine b4.o.mono ?_;rintro e9 w4 ⟨rfl,G,P,Z,T⟩;have D:=ah (r.intro P (r.intro Z T));clear P Z T)
      all_goals
       go_wp2_with fail;go_meet;exact ⟨G,rfl,D.o⟩
     case rest=>
     obtain ⟨G,rfl,D⟩:=hcut;rename_i w4;cases hs2:(d.spread o.es).2 with
     |false=>
      have J:=ah (B.o hs2);clear hs2 B y;go_wp2
      go_roundg (d.mu+d.GZ.length-(j+1))
      case rel=>
       refine ⟨j+1,E,(d.spread o.es).1,G,by simp,rfl,?_,J.o.symm.trans f.o.2.1,l.o.1,l.o.2,f.o.2.2.2.2.1.trans D.o.1,D.o.2.1,(f.o.2.2.2.2.2.2.1.trans (Keeps.of a3.o (au _) S)).trans D.o.2.2,by omega⟩;rw [C.o.1,C.o.2]
      case measure=>
       have:=f.o.1;omega
     |true=>
      have J:=ah (y.o hs2);clear hs2 B y;obtain ⟨H5,b9,b8,c8,c1,b7⟩:=G;obtain rfl:H5=L.H:=D.o.1.H;have a2:=ah (mI D.o.2.1 l.o.1 l.o.2);go_wp2_with fail;refine a2.o.mono ?_;rintro e9 w6 ⟨⟨z6,rfl⟩,L6,N,Y,R⟩;have H6:=ah (r.intro N (r.intro Y R));clear N Y R a2;go_wp2
      go_roundg ((d.spread o.es).1.drain.mu+(d.spread o.es).1.drain.GZ.length-(j+1))
      case rel=>
       exact ⟨j+1,true,(d.spread o.es).1.drain,L6,by simp,rfl,rfl,J.o.symm.trans f.o.2.1,l.o.1.drain l.o.2,l.o.2.drain,f.o.2.2.2.2.1.trans (D.o.1.trans H6.o.1),H6.o.2.1,((f.o.2.2.2.2.2.2.1.trans (Keeps.of a3.o (au _) S)).trans D.o.2.2).trans H6.o.2.2,by omega⟩
      case measure=>
       have h1:=f.o.1;have h2:=Hp.Jb (d.spread o.es).1;rw [C.o.1,C.o.2] at h2;omega
    ·have u:=ah ((Hp.JH j (d,E) V).symm.trans f.o.2.1)
     have a4:=ah i;clear i v hv;go_wp2;cases E with
     |false=>
      go_wp2
      go_roundg 0
      case rel=>
       refine ⟨false,d,_,rfl,⟨fun c=>(by cases c),fun _=>?_⟩,f.o.2.2.1,f.o.2.2.2.1,f.o.2.2.2.2.1,a4.o,f.o.2.2.2.2.2.2.1⟩;rw [<-(HI.out.1.1 rfl).2,Hp.J7 q (by rw [<-u.o]),<-u.o]
      case measure=>
       have:=(HI.out.1.1 rfl).1;omega
     |true=>
      go_wp2
      go_roundg (d.mu+1)
      case rel=>
       refine ⟨true,d,_,rfl,⟨fun _=>⟨rfl,?_⟩,fun c=>by cases c⟩,f.o.2.2.1,f.o.2.2.2.1,f.o.2.2.2.2.1,a4.o,f.o.2.2.2.2.2.2.1⟩;rw [<-(HI.out.1.1 rfl).2,Hp.Jw HI.out.2.2.1 (by rw [<-u.o]),<-u.o]
      case measure=>
       have h1:=(HI.out.1.1 rfl).1;have h2:=Hp.Jv HI.out.2.2.1 (by rw [<-u.o]);rw [<-u.o] at h2;simp only at h2;omega
end
section
variable {S:Nat->Prop} {T base cap i j n s:Nat} {e:En} {es es':List En} {o:Ob} {w w':World} {xs:List Value}
def bg (f:En->En) (j:Nat) (es:List En):List En:=(es.take j).map f++es.drop j
theorem cB (f:En->En) (j:Nat) (es:List En):(bg f j es).length=es.length:=by
 unfold bg;simp;omega
theorem gK (f:En->En) (es:List En):bg f 0 es=es:=by simp [bg]
theorem ig (f:En->En) (es:List En):bg f es.length es=es.map f:=by simp [bg]
theorem dG (f:En->En) (h:es[j]?=some e):(bg f j es)[j]?=some e:=by
 have a:=(aJ.1 h).1;unfold bg;rw [fI (by simp;omega)];simp only [bI,bX];rw [Nat.min_eq_left (by omega),Nat.sub_self,List.getElem?_drop]
 simpa using h
theorem fM (f:En->En) (h:es[j]?=some e):bg f (j+1) es=(bg f j es).set j (f e):=by
 have a:=(aJ.1 h).1;refine List.ext_getElem? (fun i=>?_);rw [bY];unfold bg;by_cases c:j=i
 ·subst c
  rw [if_pos rfl,if_pos (by simp;omega),dF (by simp;omega)];simp [h]
 ·rw [if_neg c]
  by_cases d:i<j
  ·rw [dF (by simp;omega),dF (by simp;omega)]
   simp [d,show i<j+1 by omega]
  ·rw [fI (by simp;omega),fI (by simp;omega)]
   simp only [bI,bX,List.getElem?_drop];rw [Nat.min_eq_left (by omega),Nat.min_eq_left (by omega)];congr 1;omega
theorem fO (f:En->En) (h:es[j]?=some e) (a:f e=e):bg f (j+1) es=bg f j es:=by
 rw [fM f h,a];refine List.ext_getElem? (fun i=>?_);rw [bY];split
 ·rename_i c
  subst c;rw [dG f h];have:=(aJ.1 h).1;rw [if_pos (by rw [cB];exact this)]
 ·rfl
def Hp.ents (h:Hp) (n:Nat) (es:List En):Hp:=h.upd n fun o=>{ o with es:=es }
theorem Hp.Ie {h:Hp} (ho:h.ob n=some o) (es:List En):(h.ents n es).ob n=some { o with es:=es }:=by
 unfold Hp.ents;rw [Hp.Hf,if_pos rfl,ho];rfl
theorem Hp.KM (h:Hp) (n:Nat) (es:List En) (m:Nat):(h.ents n es).M4 m=h.M4 m:=by
 unfold Hp.M4 Hp.ents;rw [Hp.Hf];by_cases c:n=m
 ·rw [if_pos c]
  cases h.ob m<;>rfl
 ·rw [if_neg c]
theorem Hp.IZ (h:Hp) (n:Nat) (es:List En) (v:HV):(h.ents n es).ME v=h.ME v:=by
 unfold Hp.ME;split
 ·exact h.KM n es _
 ·rfl
theorem Hp.Ia (h:Hp) (n:Nat) (es:List En):(h.ents n es).objs.length=h.objs.length:=h.Hu n _
theorem Hp.Ij {h:Hp} (ho:h.ob n=some o):h.ents n o.es=h:=by
 have hx:=Hp.I8 ho;have:h.objs.modify n (Option.map fun o':Ob=>{ o' with es:=o.es })=h.objs:=by
  refine List.ext_getElem? (fun i=>?_);rw [List.getElem?_modify];by_cases c:n=i
  ·subst c
   rw [hx];simp
  ·simp [c]
 unfold Hp.ents Hp.upd;rw [this]
theorem Hp.Ir (h:Hp) (n:Nat) (es es':List En):(h.ents n es).ents n es'=h.ents n es':=by
 unfold Hp.ents Hp.upd;simp only;congr 1;refine List.ext_getElem? (fun i=>?_);simp only [List.getElem?_modify];by_cases c:n=i
 ·cases hx:h.objs[i]? with
  |none=>simp
  |some x=>cases x<;>simp [c]
 ·simp [c]
theorem MW.Li {h:Hp} {L:SM} (a:MW base S h L w) (ho:h.ob n=some o) (hk:Keeps w w' (fun b=>(L.es n).ownBlock=some b)) (hown:w'.ownsRow base 122 10 (L.es n) es'.length (j_ es')):
 MW base S (h.ents n es') L w'/\Keeps w w' S:=by
 have q:(h.ents n es').objs.length=h.objs.length:=h.Hu n _;have H:=Hp.Hy ho;have B:=a.en n o ho;have hH:∀ {T s n':Nat} {v:Value} {xs:List Value},w.ownsRow base T s v n' xs->T≠122->∀ g,v.ownBlock=some g->¬ (L.es n).ownBlock=some g:=fun h1 h2 g t z=>aV h1 B h2 z t;have y:∀ {T g N:Nat} {f:Nat->Value},aD w T g N f->T≠122->¬ (L.es n).ownBlock=some g:=fun h1 h2 t=>ak B h1 (Ne.symm h2) t;have l:∀ m k,(h.ents n es').ob m=some k->∃ o2,h.ob m=some o2/\k.col=o2.col/\k.mode=o2.mode/\k.fin=o2.fin/\(m=n->k.es=es')/\(m≠n->k.es=o2.es):=by
  intro m k e;unfold Hp.ents at e;rw [Hp.Hf] at e;split at e
  ·rename_i c
   subst c;rw [ho] at e;simp at e;subst e;exact ⟨o,ho,rfl,rfl,rfl,fun _=>rfl,fun c=>absurd rfl c⟩
  ·rename_i c
   exact ⟨k,e,rfl,rfl,rfl,fun d=>absurd d.symm c,fun _=>rfl⟩
 refine ⟨⟨a.hp.keep hk (y a.hp (by decide)),?_,fun m k e=>?_,fun m hm e=>?_,fun m k e=>?_,fun j hj=>aj (a.li j hj) hk (hH (a.li j hj) (by decide)),aj a.ro hk (hH a.ro (by decide)),?_,?_,a.lj,a.bH,?_,aI a.bs hk.size,a.sH,?_,a.sO,?_,a.sl,a.sr,fun b hb=>a.up b (aI hk.size hb)⟩,hk.mono (fun b e=>a.se n o b ho e)⟩
 ·rw [q];exact aj a.oo hk (hH a.oo (by decide))
 ·obtain ⟨o2,p,t,z,G,_⟩:=l m k e
  obtain ⟨r,hr⟩:=a.ob m o2 p;refine ⟨r,?_⟩;rw [t,z,G];exact hr.keep hk (y hr (by decide))
 ·rw [q] at hm
  unfold Hp.ents at e;rw [Hp.Hf] at e;have p:h.ob m=none:=by
   split at e
   ·cases hb:h.ob m with
    |none=>rfl
    |some x=>rw [hb] at e;simp at e
   ·exact e
  obtain ⟨r,c,u,hr⟩:=a.dd m hm p;exact ⟨r,c,u,hr.keep hk (y hr (by decide))⟩
 ·obtain ⟨o2,p,_,_,_,F,E⟩:=l m k e
  by_cases c:m=n
  ·rw [F c,c];exact hown
  ·rw [E c]
   refine aj (a.en m o2 p) hk (fun g hg hg'=>c (a.ei m n o2 o g p ho hg hg'))
 ·rw [q];exact a.ij
 ·intro m A o1 o2 g e1 p
  obtain ⟨p1,q1,_⟩:=l m o1 e1;obtain ⟨D,C,_⟩:=l A o2 p;exact a.ei m A p1 D g q1 C
 ·rw [q];exact a.bo
 ·rw [q];exact a.so
 ·intro m k g e
  obtain ⟨p1,q1,_⟩:=l m k e;exact a.se m p1 g q1
theorem aL {g:Nat} (h:w.ownsRow base T s (.slice (some ⟨g,0,none⟩) n cap) n xs) (hi:i<n*s) (x:Value):(w.setCell ⟨g,i,none⟩ x).ownsRow base T s (.slice (some ⟨g,0,none⟩) n cap) n (xs.set i x):=by
 obtain ⟨r,⟨q,_⟩|⟨u,l,f,k,d,p,a,c,b,m⟩⟩:=h
 ·simp at q
 ·simp at k
  obtain ⟨rfl,rfl⟩:=k;refine ⟨by simpa using r,.inr ⟨g,cap,_,rfl,d,heap_setCell_same w g i _ _ x p,a,c,by simpa using b,?_⟩⟩;have t:i<f.size:=by
   rw [b];exact aX hi (Nat.mul_le_mul_right _ a)
  rw [<-m];simp [List.take_set]
theorem jZ (es:List En) (p:Nat):(j_ es)[p]?=(es[p/10]?).bind (fun e=>(iT e)[p%10]?):=by
 cases h:es[p/10]? with
 |none=>
  have:=List.getElem?_eq_none_iff.1 h;rw [fD (by rw [ny];omega)];rfl
 |some e=>
  have:=eX iT 10 (fun _=>rfl) es (p/10) (p%10) e h (Nat.mod_lt _ (by decide));rw [show p/10*10+p%10=p by omega] at this;exact this
theorem zI (h:es[j]?=some e):(((((j_ es).set (j*10+5) (.int .i64 0)).set (j*10+5+1) (.int .i64 0)).set (j*10+5+2) (.int .u64 0)).set (j*10+5+3) (.string { data:=#[] })).set (j*10+5+4) (.int .i64 0)=j_ (es.set j (e.1,none)):=by
 have g:=(aJ.1 h).1;have a:=ny es;refine List.ext_getElem? (fun p=>?_);by_cases c:p/10=j
 ·have b:∀ r,r<10->(j_ es)[j*10+r]?=(iT e)[r]?:=fun r hr=>eX iT 10 (fun _=>rfl) es j r e h hr
  have f:∀ r,r<10->(j_ (es.set j (e.1,none)))[j*10+r]?=(iT (e.1,none))[r]?:=fun r hr=>eX iT 10 (fun _=>rfl) _ j r _ (dY (by omega)) hr;obtain ⟨r,hr,rfl⟩:∃ r,r<10/\p=j*10+r:=⟨p%10,Nat.mod_lt _ (by decide),by omega⟩
  rw [f r hr];have d:r=0∨r=1∨r=2∨r=3∨r=4∨r=5∨r=6∨r=7∨r=8∨r=9:=by omega
  rcases d with rfl|rfl|rfl|rfl|rfl|rfl|rfl|rfl|rfl|rfl
  ·rw [aH (by omega)];rw [aH (by omega)];rw [aH (by omega)];rw [aH (by omega)];rw [aH (by omega)];rw [b 0 (by decide)];rfl
  ·rw [aH (by omega)];rw [aH (by omega)];rw [aH (by omega)];rw [aH (by omega)];rw [aH (by omega)];rw [b 1 (by decide)];rfl
  ·rw [aH (by omega)];rw [aH (by omega)];rw [aH (by omega)];rw [aH (by omega)];rw [aH (by omega)];rw [b 2 (by decide)];rfl
  ·rw [aH (by omega)];rw [aH (by omega)];rw [aH (by omega)];rw [aH (by omega)];rw [aH (by omega)];rw [b 3 (by decide)];rfl
  ·rw [aH (by omega)];rw [aH (by omega)];rw [aH (by omega)];rw [aH (by omega)];rw [aH (by omega)];rw [b 4 (by decide)];rfl
  ·rw [aH (by omega)];rw [aH (by omega)];rw [aH (by omega)];rw [aH (by omega)];rw [show j*10+5=j*10+5 by omega];rw [dY (Nat.lt_of_lt_of_eq (show _<es.length*10 by omega) (by simp [a]))];rfl
  ·rw [aH (by omega)];rw [aH (by omega)];rw [aH (by omega)];rw [show j*10+6=j*10+5+1 by omega];rw [dY (Nat.lt_of_lt_of_eq (show _<es.length*10 by omega) (by simp [a]))];rfl
  ·rw [aH (by omega)];rw [aH (by omega)];rw [show j*10+7=j*10+5+2 by omega];rw [dY (Nat.lt_of_lt_of_eq (show _<es.length*10 by omega) (by simp [a]))];rfl
  ·rw [aH (by omega)];rw [show j*10+8=j*10+5+3 by omega];rw [dY (Nat.lt_of_lt_of_eq (show _<es.length*10 by omega) (by simp [a]))];rfl
  ·rw [show j*10+9=j*10+5+4 by omega];rw [dY (Nat.lt_of_lt_of_eq (show _<es.length*10 by omega) (by simp [a]))];rfl
 ·rw [show (j_ (es.set j (e.1,none)))[p]?=(j_ es)[p]? by rw [jZ,jZ,aH (by omega)]]
  rw [aH (by omega)];rw [aH (by omega)];rw [aH (by omega)];rw [aH (by omega)];rw [aH (by omega)]
theorem xB (h:es[j]?=some e):((((((((((j_ es).set (j*10) (.int .i64 0)).set (j*10+1) (.int .i64 0)).set (j*10+2) (.int .u64 0)).set (j*10+3) (.string { data:=#[] })).set (j*10+4) (.int .i64 0)).set (j*10+5) (.int .i64 0)).set (j*10+6) (.int .i64 0)).set (j*10+7) (.int .u64 0)).set (j*10+8) (.string { data:=#[] })).set (j*10+9) (.int .i64 0)=j_ (es.set j (none,none)):=by
 have f:=(aJ.1 h).1;have a:=ny es;refine List.ext_getElem? (fun p=>?_);by_cases c:p/10=j
 ·have g:∀ r,r<10->(j_ es)[j*10+r]?=(iT e)[r]?:=fun r hr=>eX iT 10 (fun _=>rfl) es j r e h hr
  have d:∀ r,r<10->(j_ (es.set j (none,none)))[j*10+r]?=(iT (none,none))[r]?:=fun r hr=>eX iT 10 (fun _=>rfl) _ j r _ (dY (by omega)) hr;obtain ⟨r,hr,rfl⟩:∃ r,r<10/\p=j*10+r:=⟨p%10,Nat.mod_lt _ (by decide),by omega⟩
  rw [d r hr];have b:r=0∨r=1∨r=2∨r=3∨r=4∨r=5∨r=6∨r=7∨r=8∨r=9:=by omega
  rcases b with rfl|rfl|rfl|rfl|rfl|rfl|rfl|rfl|rfl|rfl
  ·rw [aH (by omega)];rw [aH (by omega)];rw [aH (by omega)];rw [aH (by omega)];rw [aH (by omega)];rw [aH (by omega)];rw [aH (by omega)];rw [aH (by omega)];rw [aH (by omega)];rw [show j*10+0=j*10 by omega];rw [dY (Nat.lt_of_lt_of_eq (show _<es.length*10 by omega) (by simp [a]))];rfl
  ·rw [aH (by omega)];rw [aH (by omega)];rw [aH (by omega)];rw [aH (by omega)];rw [aH (by omega)];rw [aH (by omega)];rw [aH (by omega)];rw [aH (by omega)];rw [show j*10+1=j*10+1 by omega];rw [dY (Nat.lt_of_lt_of_eq (show _<es.length*10 by omega) (by simp [a]))];rfl
  ·rw [aH (by omega)];rw [aH (by omega)];rw [aH (by omega)];rw [aH (by omega)];rw [aH (by omega)];rw [aH (by omega)];rw [aH (by omega)];rw [show j*10+2=j*10+2 by omega];rw [dY (Nat.lt_of_lt_of_eq (show _<es.length*10 by omega) (by simp [a]))];rfl
  ·rw [aH (by omega)];rw [aH (by omega)];rw [aH (by omega)];rw [aH (by omega)];rw [aH (by omega)];rw [aH (by omega)];rw [show j*10+3=j*10+3 by omega];rw [dY (Nat.lt_of_lt_of_eq (show _<es.length*10 by omega) (by simp [a]))];rfl
  ·rw [aH (by omega)];rw [aH (by omega)];rw [aH (by omega)];rw [aH (by omega)];rw [aH (by omega)];rw [show j*10+4=j*10+4 by omega];rw [dY (Nat.lt_of_lt_of_eq (show _<es.length*10 by omega) (by simp [a]))];rfl
  ·rw [aH (by omega)];rw [aH (by omega)];rw [aH (by omega)];rw [aH (by omega)];rw [show j*10+5=j*10+5 by omega];rw [dY (Nat.lt_of_lt_of_eq (show _<es.length*10 by omega) (by simp [a]))];rfl
  ·rw [aH (by omega)];rw [aH (by omega)];rw [aH (by omega)];rw [show j*10+6=j*10+6 by omega];rw [dY (Nat.lt_of_lt_of_eq (show _<es.length*10 by omega) (by simp [a]))];rfl
  ·rw [aH (by omega)];rw [aH (by omega)];rw [show j*10+7=j*10+7 by omega];rw [dY (Nat.lt_of_lt_of_eq (show _<es.length*10 by omega) (by simp [a]))];rfl
  ·rw [aH (by omega)];rw [show j*10+8=j*10+8 by omega];rw [dY (Nat.lt_of_lt_of_eq (show _<es.length*10 by omega) (by simp [a]))];rfl
  ·rw [show j*10+9=j*10+9 by omega];rw [dY (Nat.lt_of_lt_of_eq (show _<es.length*10 by omega) (by simp [a]))];rfl
 ·rw [show (j_ (es.set j (none,none)))[p]?=(j_ es)[p]? by rw [jZ,jZ,aH (by omega)]]
  rw [aH (by omega)];rw [aH (by omega)];rw [aH (by omega)];rw [aH (by omega)];rw [aH (by omega)];rw [aH (by omega)];rw [aH (by omega)];rw [aH (by omega)];rw [aH (by omega)];rw [aH (by omega)]
theorem MW.Ma {h:Hp} {L:SM} (a:MW base S h L w) {o:Ob} (ho:h.ob n=some { o with es:=es }) {g:Nat} (c:L.es n=.slice (some ⟨g,0,none⟩) es.length cap) (f:es[j]?=some e):
 MW base S (h.ents n (es.set j (e.1,none))) L (((((w.setCell ⟨g,j*10+5,none⟩ (.int .i64 0)).setCell ⟨g,j*10+5+1,none⟩ (.int .i64 0)).setCell ⟨g,j*10+5+2,none⟩ (.int .u64 0)).setCell ⟨g,j*10+5+3,none⟩ (.string { data:=#[] })).setCell ⟨g,j*10+5+4,none⟩ (.int .i64 0))/\Keeps w (((((w.setCell ⟨g,j*10+5,none⟩ (.int .i64 0)).setCell ⟨g,j*10+5+1,none⟩ (.int .i64 0)).setCell ⟨g,j*10+5+2,none⟩ (.int .u64 0)).setCell ⟨g,j*10+5+3,none⟩ (.string { data:=#[] })).setCell ⟨g,j*10+5+4,none⟩ (.int .i64 0)) S:=by
 have l:=(aJ.1 f).1;have d:=a.en n _ ho;simp only at d;rw [c] at d;have k:=(aL (aL (aL (aL (aL d (show j*10+5<es.length*10 by omega) (.int .i64 0)) (show j*10+5+1<es.length*10 by omega) (.int .i64 0)) (show j*10+5+2<es.length*10 by omega) (.int .u64 0)) (show j*10+5+3<es.length*10 by omega) (.string { data:=#[] })) (show j*10+5+4<es.length*10 by omega) (.int .i64 0))
 rw [zI f] at k;refine a.Li ho (Keeps.mono (S:=fun b=>b=g) (Keeps.setCell (S:=fun b=>b=g) (Keeps.setCell (S:=fun b=>b=g) (Keeps.setCell (S:=fun b=>b=g) (Keeps.setCell (S:=fun b=>b=g) (Keeps.setCell (S:=fun b=>b=g) (Keeps.refl w (fun b=>b=g)) rfl (.int .i64 0)) rfl (.int .i64 0)) rfl (.int .u64 0)) rfl (.string { data:=#[] })) rfl (.int .i64 0)) (fun b e=>?_)) ?_
 ·rw [c,e];simp [Value.ownBlock]
 ·rw [c,bN];exact k
theorem MW.KX {h:Hp} {L:SM} (a:MW base S h L w) {o:Ob} (ho:h.ob n=some { o with es:=es }) {g:Nat} (c:L.es n=.slice (some ⟨g,0,none⟩) es.length cap) (f:es[j]?=some e):
 MW base S (h.ents n (es.set j (none,none))) L ((((((((((w.setCell ⟨g,j*10,none⟩ (.int .i64 0)).setCell ⟨g,j*10+1,none⟩ (.int .i64 0)).setCell ⟨g,j*10+2,none⟩ (.int .u64 0)).setCell ⟨g,j*10+3,none⟩ (.string { data:=#[] })).setCell ⟨g,j*10+4,none⟩ (.int .i64 0)).setCell ⟨g,j*10+5,none⟩ (.int .i64 0)).setCell ⟨g,j*10+6,none⟩ (.int .i64 0)).setCell ⟨g,j*10+7,none⟩ (.int .u64 0)).setCell ⟨g,j*10+8,none⟩ (.string { data:=#[] })).setCell ⟨g,j*10+9,none⟩ (.int .i64 0))/\Keeps w ((((((((((w.setCell ⟨g,j*10,none⟩ (.int .i64 0)).setCell ⟨g,j*10+1,none⟩ (.int .i64 0)).setCell ⟨g,j*10+2,none⟩ (.int .u64 0)).setCell ⟨g,j*10+3,none⟩ (.string { data:=#[] })).setCell ⟨g,j*10+4,none⟩ (.int .i64 0)).setCell ⟨g,j*10+5,none⟩ (.int .i64 0)).setCell ⟨g,j*10+6,none⟩ (.int .i64 0)).setCell ⟨g,j*10+7,none⟩ (.int .u64 0)).setCell ⟨g,j*10+8,none⟩ (.string { data:=#[] })).setCell ⟨g,j*10+9,none⟩ (.int .i64 0)) S:=by
 have l:=(aJ.1 f).1;have d:=a.en n _ ho;simp only at d;rw [c] at d;have k:=(aL (aL (aL (aL (aL (aL (aL (aL (aL (aL d (show j*10<es.length*10 by omega) (.int .i64 0)) (show j*10+1<es.length*10 by omega) (.int .i64 0)) (show j*10+2<es.length*10 by omega) (.int .u64 0)) (show j*10+3<es.length*10 by omega) (.string { data:=#[] })) (show j*10+4<es.length*10 by omega) (.int .i64 0)) (show j*10+5<es.length*10 by omega) (.int .i64 0)) (show j*10+6<es.length*10 by omega) (.int .i64 0)) (show j*10+7<es.length*10 by omega) (.int .u64 0)) (show j*10+8<es.length*10 by omega) (.string { data:=#[] })) (show j*10+9<es.length*10 by omega) (.int .i64 0))
 rw [xB f] at k;refine a.Li ho (Keeps.mono (S:=fun b=>b=g) (Keeps.setCell (S:=fun b=>b=g) (Keeps.setCell (S:=fun b=>b=g) (Keeps.setCell (S:=fun b=>b=g) (Keeps.setCell (S:=fun b=>b=g) (Keeps.setCell (S:=fun b=>b=g) (Keeps.setCell (S:=fun b=>b=g) (Keeps.setCell (S:=fun b=>b=g) (Keeps.setCell (S:=fun b=>b=g) (Keeps.setCell (S:=fun b=>b=g) (Keeps.setCell (S:=fun b=>b=g) (Keeps.refl w (fun b=>b=g)) rfl (.int .i64 0)) rfl (.int .i64 0)) rfl (.int .u64 0)) rfl (.string { data:=#[] })) rfl (.int .i64 0)) rfl (.int .i64 0)) rfl (.int .i64 0)) rfl (.int .u64 0)) rfl (.string { data:=#[] })) rfl (.int .i64 0)) (fun b e=>?_)) ?_
 ·rw [c,e];simp [Value.ownBlock]
 ·rw [c,bN];exact k
end
section
variable {S:Nat->Prop} {base n:Nat} {h:Hp} {o:Ob} {w:World}
theorem jK (c:Hp->En->En) {q:Hp} (ho:q.ob n=some o):Hp.Nb c q n=q.ents n (o.es.map (c q)):=by
 have hx:=Hp.I8 ho;unfold Hp.Nb Hp.ents Hp.upd;congr 1;refine List.ext_getElem? (fun i=>?_);simp only [List.getElem?_modify];by_cases e:n=i
 ·subst e
  rw [hx];simp
 ·simp [e]
theorem kK {L:SM} (a:MW base S h L w) (k:Wk h):
 Calls Tryz.prog 94 #[.pointer (some ⟨L.H,0,none⟩)] w fun e w'=>e=.returned (.tuple #[])/\MW base S (h.weak.foldl Hp.Mv h) L w'/\Keeps w w' S:=by
 obtain ⟨A,b8,hv,f0,-⟩:=a.IC (k:=9) (by simp [eO]);have c9:w.cell? ⟨L.H,9,none⟩=some (.slice A h.weak.length b8):=by
  have:=a.hp.c 9;rw [this];exact congrArg some hv
 have f1:h.weak.length<=20000:=by
  have:=k.s.nu;simp only [Hp.nu] at this;omega
 have HA:=ah a;have HK:=ah k;have HV:=ah hv;clear a k hv;go_enter Tryz.func94,Tryz.ntmps94;go_wp2;go_loopw [12] (fun iv wr=>∃ i:Nat,i<=h.weak.length/\iv=.int .i64 i/\Hq (MW base S ((h.weak.take i).foldl Hp.Mv h) L wr/\Keeps w wr S)) (fun iv _=>h.weak.length-bF iv)
 case atStart=>exact ⟨0,by omega,rfl,HA.o,Keeps.refl _ _⟩
 case round=>
  obtain ⟨i,f6,rfl,HI⟩:=hrel;by_cases P:i<h.weak.length
  ·have a5:h.weak.take (i+1)=h.weak.take i++[h.weak[i]]:=bE (aN P)
   have b3:=MU.fold bT bZ (h.weak.take i) h;have HF:Hq ((h.weak.take (i+1)).foldl Hp.Mv h=Hp.Mv ((h.weak.take i).foldl Hp.Mv h) h.weak[i]):=ah (by rw [a5,bD]);have b1:=HK.o.l _ (.inr (.inr (.inl (List.getElem_mem P))));have f:MU h ((h.weak.take i).foldl Hp.Mv h):=b3;obtain ⟨q,hq⟩:∃ q,(h.weak.take i).foldl Hp.Mv h=q:=⟨_,rfl⟩
   rw [hq] at f HF HI;clear b3 a5;obtain ⟨A1,b7,M,-,u⟩:=HI.out.1.IC (k:=9) (by simp [eO]);have D:h_ q 9=h.weak:=f.weak;rw [D] at M;have:A1=A/\b7=b8:=by
    have U:=M.symm.trans HV.out;simp only [Value.slice.injEq] at U;exact ⟨U.1,U.2.2⟩
   obtain ⟨rfl,rfl⟩:=this;obtain ⟨g,rfl,b2⟩:=u i (by rw [D];exact P);have e7:wr.cell? ⟨g,i,none⟩=some (.int .i64 ((h.weak[i]:Nat):Int)):=by
    rw [b2];congr 3;simp only [D]
   generalize h.weak[i]=n at *;obtain ⟨o,ho⟩:=(f.lv n).2 b1;have c1:=Hp.Hy ho;have a4:q.ob 0=none:=by
    rcases f.ob 0 with ⟨x,_⟩|⟨_,_,_,x,_⟩
    ·exact x
    ·rw [HK.o.z] at x;cases x
   have b4:q.Closed:=by
    intro m o' e en R r hr;rcases f.ob m with ⟨x,_⟩|⟨o1,o2,x1,x2,_,_,_,c,x3,x4⟩
    ·rw [e] at x;cases x
    ·rw [e] at x1;cases x1
     rw [x4] at R;obtain ⟨e0,c4,rfl⟩:=List.mem_map.1 R;exact (f.lv r).2 (HK.o.c m o1 x2 e0 c4 r ((x3 e0).refs r hr))
   have c2:q.objs.length<=5001:=by rw [f.len];exact HK.o.s.len
   have a8:1<=q.objs.length:=by rw [f.len];exact HK.o.p
   have f8:o.es.length<=5000:=by
    rcases f.ob n with ⟨x,_⟩|⟨o1,o2,x1,x2,_,_,_,c,x3,x4⟩
    ·rw [ho] at x;cases x
    ·rw [ho] at x1;cases x1
     rw [x4,bI];exact HK.o.s.es n o1 x2
   obtain ⟨go,b6,b0,c6,B⟩:=HI.out.1.slot a8;have e8:=B n c1;have c0:wr.cell? ⟨L.H,0,none⟩=some (.slice (some ⟨go,0,none⟩) q.objs.length b6):=by
    have:=HI.out.1.hp.c 0;rw [this];exact congrArg some b0
   obtain ⟨E,K,Q,c7,-⟩:=HI.out.1.ents ho;obtain ⟨r0,a7⟩:=HI.out.1.ob n o ho;have c5:wr.cell? ⟨L.ob n,5,none⟩=some (.slice E o.es.length K):=by rw [<-Q];exact a7.c 5
   have HQ:=ah f;have HO:=ah ho;have e2:=ah (vV.of a4 b4 ho);have G:=ah Q;have f2:(n:Int)<(q.objs.length:Int):=by omega
   clear f ho b4 a4 b1 B a7 Q D M u b2 hq b0;go_wp2;go_loopw [28,6,5] (fun jv e6 e5 ws=>∃ j:Nat,j<=o.es.length/\jv=.int .i64 j/\Hq (MW base S (q.ents n (bg (bT q) j o.es)) L ws/\Keeps w ws S)) (fun jv _ _ _=>o.es.length-bF jv)
   case atStart=>
    refine ⟨0,by omega,rfl,?_,HI.out.2⟩;rw [gK];rw [Hp.Ij HO.o];exact HI.out.1
   case round=>
    obtain ⟨j,f4,rfl,HJ⟩:=hrel;by_cases c3:j<o.es.length
    ·obtain ⟨e,R⟩:∃ e,o.es[j]?=some e:=⟨_,aN c3⟩
     have a9:=Hp.Ie HO.o (bg (bT q) j o.es);obtain ⟨A2,C,v,T,y⟩:=HJ.o.1.ents a9;simp only [cB] at v T;have:A2=E/\C=K:=by
      have U:=v.symm.trans G.o;simp only [Value.slice.injEq] at U;exact ⟨U.1,U.2.2⟩
     obtain ⟨rfl,rfl⟩:=this;obtain ⟨V,rfl,f7,b⟩:=y j e (dG _ R);have d0:=b 0 _ rfl;have d1:=b 1 _ rfl;have d2:=b 2 _ rfl;have d3:=b 3 _ rfl;have d4:=b 4 _ rfl;have d5:=b 5 _ rfl;have d6:=b 6 _ rfl;have d7:=b 7 _ rfl;have d8:=b 8 _ rfl;have d9:=b 9 _ rfl;simp only [Nat.add_zero] at d0;have N:=e2.o e (aW R);have a2:=ah (HJ.o.1.alloc (.cells #[.int .i64 (vk e.1),.int .i64 (vi e.1),.int .u64 0,.string ByteArray.empty,.int .i64 (vr e.1),.int .i64 (vk e.2),.int .i64 (vi e.2),.int .u64 0,.string ByteArray.empty,.int .i64 (vr e.2)] 122));have b9:=ah (HJ.o.2.trans (Keeps.of (aU wr (.cells #[.int .i64 (vk e.1),.int .i64 (vi e.1),.int .u64 0,.string ByteArray.empty,.int .i64 (vr e.1),.int .i64 (vk e.2),.int .i64 (vi e.2),.int .u64 0,.string ByteArray.empty,.int .i64 (vr e.2)] 122)) (au _) S));have e1:=ah (show Rg (q.ents n (bg (bT q) j o.es)) e.1/\Rg (q.ents n (bg (bT q) j o.es)) e.2 from ⟨N.1.mono (q.Ia n _),N.2.mono (q.Ia n _)⟩);have HX:=ah (lM wr e);have a0:=ah R;clear a9 v y b N R;go_upto_region 7 with (fail)
     generalize wr.alloc (.cells #[.int .i64 (vk e.1),.int .i64 (vi e.1),.int .u64 0,.string ByteArray.empty,.int .i64 (vr e.1),.int .i64 (vk e.2),.int .i64 (vi e.2),.int .u64 0,.string ByteArray.empty,.int .i64 (vr e.2)] 122)=w3 at *;generalize wr.heap.size=X at *;have e4:=HX.o.lt;have x5:w3.cell? ⟨X,5,none⟩=some (.int .i64 (vk e.2)):=HX.o.c 5;have x6:w3.cell? ⟨X,6,none⟩=some (.int .i64 (vi e.2)):=HX.o.c 6;have x7:w3.cell? ⟨X,7,none⟩=some (.int .u64 0):=HX.o.c 7;have x8:w3.cell? ⟨X,8,none⟩=some (.string ByteArray.empty):=HX.o.c 8;have x9:w3.cell? ⟨X,9,none⟩=some (.int .i64 (vr e.2)):=HX.o.c 9;clear d0 d1 d2 d3 d4 d5 d6 d7 d8 d9;have W:=ah (f_ a2.o e.2 e1.o.2 (by rw [Hp.Ia];exact c2) (by rw [Hp.Ia];exact a8));rw [Hp.IZ] at W;go_wp2_with fail;refine W.o.mono ?_;rintro e9 w4 ⟨rfl,b5⟩;have J:=ah b5;clear b5 W;cases hb:q.ME e.2 with
     |false=>
      have Z:=ah (fO (bT q) a0.o (by unfold bT;rw [hb];rfl));clear hb;go_wp2;go_roundw
      case rel=>
       refine ⟨j+1,by omega,by simp,?_⟩;exact ⟨by rw [Z.o];exact a2.o.low J.o,b9.o.trans (Keeps.of J.o (au _) S)⟩
      case measure=>simp [bF];omega
     |true=>
      have Z:=ah (fM (bT q) a0.o);have e3:Hq (bT q e=(e.1,none)):=ah (by unfold bT;rw [hb];rfl);clear hb;have a3:=ah (a2.o.low J.o);obtain ⟨r4,a6⟩:=a3.o.ob n _ (Hp.Ie HO.o (bg (bT q) j o.es));have f5:w4.cell? ⟨L.ob n,5,none⟩=some (.slice (some ⟨V,0,none⟩) o.es.length C):=by rw [<-G.o];exact a6.c 5
      have d:=ay (a3.o.en n _ (Hp.Ie HO.o (bg (bT q) j o.es))) (g:=V) (by rw [G.o];simp [Value.ownBlock]);have c8:(o.es.length:Int)<=C:=by omega
      have f3:(j:Int)<(o.es.length:Int):=by omega
      have t:(bg (bT q) j o.es).length=o.es.length:=cB _ _ _;have zf:=d.Nq (j*10+5);have zg:=d.Nq (j*10+6);have zh:=d.Nq (j*10+7);have zi:=d.Nq (j*10+8);have zj:=d.Nq (j*10+9);have g5:=d.cell (j:=j*10+5) (by simp only [t];omega);have g6:=d.cell (j:=j*10+6) (by simp only [t];omega);have g7:=d.cell (j:=j*10+7) (by simp only [t];omega);have g8:=d.cell (j:=j*10+8) (by simp only [t];omega);have g9:=d.cell (j:=j*10+9) (by simp only [t];omega);clear a6 d t;have a1:=ah (a3.o.Ma (Hp.Ie HO.o (bg (bT q) j o.es)) (by rw [cB];exact G.o) (dG (bT q) a0.o));rw [Hp.Ir] at a1;go_upto_region 9 with (fail)
      generalize (((((w4.setCell ⟨V,j*10+5,none⟩ (.int .i64 0)).setCell ⟨V,j*10+5+1,none⟩ (.int .i64 0)).setCell ⟨V,j*10+5+2,none⟩ (.int .u64 0)).setCell ⟨V,j*10+5+3,none⟩ (.string { data:=#[] })).setCell ⟨V,j*10+5+4,none⟩ (.int .i64 0))=w5 at *;clear g5 g6 g7 g8 g9 zf zg zh zi zj f5;go_wp2;go_roundw
      case rel=>
       refine ⟨j+1,by omega,by simp,?_⟩;exact ⟨by rw [Z.o,e3.o];exact a1.o.1,(b9.o.trans (Keeps.of J.o (au _) S)).trans a1.o.2⟩
      case measure=>simp [bF];omega
    ·obtain rfl:j=o.es.length:=by omega
     have Y:=HJ.o;rw [ig] at Y;have F:=ah Y;clear Y HJ;go_wp2;go_roundw
     case rel=>
      refine ⟨i+1,by omega,by simp,?_⟩;refine ⟨?_,F.o.2⟩;rw [HF.o];have:q.Mv n=q.ents n (o.es.map (bT q)):=jK bT HO.o;rw [this];exact F.o.1
     case measure=>simp [bF];omega
  ·obtain rfl:i=h.weak.length:=by omega
   have Y:=HI.out;rw [bf] at Y;have F:=ah Y;clear Y HI;go_wp2;go_end0;exact ⟨rfl,F.o⟩
end
end Go.Proofs.YtbpcdfbmnklcjaaGreatDoor
