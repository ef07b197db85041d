import Derived.Test.YtbpcdfbmnklcjaaGreatDoorKHS9
namespace Go.Proofs.YtbpcdfbmnklcjaaGreatDoor
open Go Go.RowKit
set_option maxHeartbeats 6400000
set_option maxRecDepth 100000
set_option linter.unusedVariables false
section
variable {S:Nat->Prop} {base k n:Nat} {o:Ob} {w:World}
theorem Wk.spread {h:Hp} (k:Wk h) (es:List En):Wk (h.spread es).1:=k.MQ (Mt.spread h es) (aO (h.IL es))
theorem Wk.drain {h:Hp} (k:Wk h) (t:MP h No):Wk h.drain:=k.MZ (M7.drain h) h.Jr t.drain.ll
theorem Wk.over {p:Hp × Bool} {j:Nat} (k:Wk p.1) (t:MP p.1 No):Wk (Hp.over j p).1:=k.MZ (M7.over j p) (Hp.JL j p) t.over.ll
theorem Hp.JU {h:Hp} (e:h.ob n=some o):h.Jj n=o.es:=by unfold Hp.Jj;rw [e];rfl
theorem MV.II {h:Hp} {L:SM} (a:MV base S h L w) (hk:eO k):∃ A cap,L.li k=.slice A (g_ h k).length cap/\(g_ h k).length<=cap/\∀ i (hi:i<(g_ h k).length),∃ g,A=some ⟨g,0,none⟩/\w.cell? ⟨g,i,none⟩=some (.int .i64 (((g_ h k)[i]:Nat):Int)):=by
 have d:=a.li k hk;rcases d.2 with ⟨j,f⟩|⟨g,cap,l,b,_,_,e,_⟩
 ·exact ⟨none,0,by rw [j,f],by omega,fun i hi=>by omega⟩
 ·refine ⟨_,cap,b,e,fun i hi=>⟨g,rfl,?_⟩⟩
  have hr:=ay d (g:=g) (by rw [b];simp [Value.ownBlock]);rw [hr.c i];simp [eu,List.getD_eq_getElem?_getD,hi]
def GL (b:Bool) (m:Nat) (q T:Hp):Prop:=(b=true->m=q.mu+1/\q.turns=T)/\(b=false->q=T)
theorem lX {h:Hp} {L:SM} (a:MV base S h L w) (k:Wk h) (t:MP h No):
 Calls Tryz.prog 93 #[.pointer (some ⟨L.H,0,none⟩)] w fun e w'=>e=.returned (.tuple #[])/\∃ L',Lm L L'/\MV base S h.settle L' w'/\Keeps w w' S:=by
 have HD:=ah (mo a k t);have J:=ah (And.intro (k.drain t) t.drain);clear a k t;go_enter Tryz.func93,Tryz.ntmps93;go_wp2_with fail;refine HD.o.mono ?_;rintro e9 w1 ⟨⟨z,rfl⟩,L1,P,Z,T⟩;have H1:=ah (And.intro P (And.intro Z T));clear P Z T HD;go_wp2
 go_loopg [2] (h.drain.mu+1) (fun m bv wr=>∃ (b:Bool) (q:Hp) (L':SM),bv=.bool b/\Hq (GL b m q h.settle/\Wk q/\MP q No/\Lm L L'/\MV base S q L' wr/\Keeps w wr S))
 case atStart=>exact ⟨true,h.drain,L1,rfl,⟨fun _=>⟨rfl,rfl⟩,fun c=>by cases c⟩,J.o.1,J.o.2,H1.o⟩
 case round=>
  obtain ⟨b,q,L2,rfl,HI⟩:=hrel;clear J H1;cases b with
  |false=>
   go_wp2;go_end0;exact ⟨rfl,L2,HI.out.2.2.2.1,by rw [<-HI.out.1.2 rfl];exact HI.out.2.2.2.2.1,HI.out.2.2.2.2.2⟩
  |true=>
   go_wp2
   go_loopg [2,3] (q.mu+q.G8.length) (fun m bv jv wr=>∃ (j:Nat) (D:Bool) (d:Hp) (L':SM),jv=.int .i64 (j:Int)/\bv=.bool D/\Hq (m=d.mu+d.G8.length-j/\Hp.over j (d,D)=Hp.over 0 (q,false)/\Wk d/\MP d No/\Lm L L'/\MV base S d L' wr/\Keeps w wr S/\j<=100000))
   case atStart=>exact ⟨0,false,q,L2,rfl,rfl,by omega,rfl,HI.out.2.1,HI.out.2.2.1,HI.out.2.2.2.1,HI.out.2.2.2.2.1,HI.out.2.2.2.2.2,by omega⟩
   case round=>
    obtain ⟨j,D,d,L3,rfl,rfl,f⟩:=hrel;obtain ⟨H3,a6,a5,b1,a7,a4⟩:=L3;obtain rfl:H3=L.H:=f.o.2.2.2.2.1.H;have i:=f.o.2.2.2.2.2.1;obtain ⟨A,b2,hv,b5,u⟩:=i.II (k:=10) (by simp [eO]);have c5:d.G8.length<=20000:=by
     have:=f.o.2.2.1.s.nu;simp only [Hp.nu] at this;omega
    have c4:=f.o.2.2.2.2.2.2.2;have c8:wr.cell? ⟨L.H,10,none⟩=some (.slice A d.G8.length b2):=by
     have:=i.hp.c 10;rw [this];exact congrArg some hv
    by_cases U:j<d.G8.length
    ·obtain ⟨g,rfl,V⟩:=u j U
     have a9:=f.o.2.2.2.1.ll _ (.inr (.inr (.inr (List.getElem_mem U))));have x:=ah (Hp.JH j (d,D) U);have y:=ah (Hp.J4 j (d,D) U);have b4:wr.cell? ⟨g,j,none⟩=some (.int .i64 ((d.G8[j]:Nat):Int)):=V;generalize d.G8[j]=n at *;obtain ⟨o,ho⟩:=a9;have a8:=Hp.Ia ho;obtain ⟨go,a0,K,b0,v⟩:=i.slot f.o.2.2.1.p;have c6:=v n a8;have c0:wr.cell? ⟨L.H,0,none⟩=some (.slice (some ⟨go,0,none⟩) d.objs.length a0):=by
      have:=i.hp.c 0;rw [this];exact congrArg some K
     have W:=Hp.JU ho;have E:Below wr.heap.size wr wr.drew:=(aT _ _).drew;have a2:=ah E;have b3:=ah (nV (i.low E) f.o.2.2.1.s f.o.2.2.1.z f.o.2.2.1.p n o ho (wJ.of f.o.2.2.1.z f.o.2.2.1.c ho));simp only [W] at x y;have c2:=f.o.2.2.1.s.len;have c3:(j:Int)<(d.G8.length:Int):=by omega
     have c1:(n:Int)<(d.objs.length:Int):=by omega
     have l:=ah (And.intro (f.o.2.2.1.spread o.es) (f.o.2.2.2.1.MQ (Mt.spread d o.es)));have B:Hq ((d.spread o.es).1.mu=d.mu/\(d.spread o.es).1.G8=d.G8):=ah ⟨Hp.Il d o.es,(Hp.Ih d o.es).1⟩;clear i u V v ho W K hv E;go_wp2_with fail
     go_cut [30] (fun sv wc=>∃ F,sv=.bool (d.spread o.es).2/\Hq (Lm ⟨L.H,a6,a5,b1,a7,a4⟩ F/\MV base S (d.spread o.es).1 F wc/\Keeps wr.drew wc S))
     case first=>
      go_region_with (go_at_call 118;refine b3.o.mono ?_;rintro e9 w4 ⟨rfl,F,N,Y,R⟩;have C:=ah (And.intro N (And.intro Y R));clear N Y R)
      all_goals
       go_wp2_with fail;go_meet;exact ⟨F,rfl,C.o⟩
     case rest=>
     obtain ⟨F,rfl,C⟩:=hcut;rename_i w4;cases hs2:(d.spread o.es).2 with
     |false=>
      have G:=ah (y.o hs2);clear hs2 y x;go_wp2
      go_roundg (d.mu+d.G8.length-(j+1))
      case rel=>
       refine ⟨j+1,D,(d.spread o.es).1,F,by simp,rfl,?_,G.o.symm.trans f.o.2.1,l.o.1,l.o.2,f.o.2.2.2.2.1.trans C.o.1,C.o.2.1,(f.o.2.2.2.2.2.2.1.trans (Keeps.of a2.o (au _) S)).trans C.o.2.2,by omega⟩;rw [B.o.1,B.o.2]
      case measure=>
       have:=f.o.1;omega
     |true=>
      have G:=ah (x.o hs2);clear hs2 y x;obtain ⟨H5,b8,b7,c7,b9,b6⟩:=F;obtain rfl:H5=L.H:=C.o.1.H;have a1:=ah (mo C.o.2.1 l.o.1 l.o.2);go_wp2_with fail;refine a1.o.mono ?_;rintro e9 w6 ⟨⟨z6,rfl⟩,L6,M,X,Q⟩;have H6:=ah (And.intro M (And.intro X Q));clear M X Q a1;go_wp2
      go_roundg ((d.spread o.es).1.drain.mu+(d.spread o.es).1.drain.G8.length-(j+1))
      case rel=>
       exact ⟨j+1,true,(d.spread o.es).1.drain,L6,by simp,rfl,rfl,G.o.symm.trans f.o.2.1,l.o.1.drain l.o.2,l.o.2.drain,f.o.2.2.2.2.1.trans (C.o.1.trans H6.o.1),H6.o.2.1,((f.o.2.2.2.2.2.2.1.trans (Keeps.of a2.o (au _) S)).trans C.o.2.2).trans H6.o.2.2,by omega⟩
      case measure=>
       have h1:=f.o.1;have h2:=Hp.Jd (d.spread o.es).1;rw [B.o.1,B.o.2] at h2;omega
    ·have r:=ah ((Hp.JG j (d,D) U).symm.trans f.o.2.1)
     have a3:=ah i;clear i u hv;go_wp2;cases D with
     |false=>
      go_wp2
      go_roundg 0
      case rel=>
       refine ⟨false,d,_,rfl,⟨fun c=>(by cases c),fun _=>?_⟩,f.o.2.2.1,f.o.2.2.2.1,f.o.2.2.2.2.1,a3.o,f.o.2.2.2.2.2.2.1⟩;rw [<-(HI.out.1.1 rfl).2,Hp.J9 q (by rw [<-r.o]),<-r.o]
      case measure=>
       have:=(HI.out.1.1 rfl).1;omega
     |true=>
      go_wp2
      go_roundg (d.mu+1)
      case rel=>
       refine ⟨true,d,_,rfl,⟨fun _=>⟨rfl,?_⟩,fun c=>by cases c⟩,f.o.2.2.1,f.o.2.2.2.1,f.o.2.2.2.2.1,a3.o,f.o.2.2.2.2.2.2.1⟩;rw [<-(HI.out.1.1 rfl).2,Hp.Jy HI.out.2.2.1 (by rw [<-r.o]),<-r.o]
      case measure=>
       have h1:=(HI.out.1.1 rfl).1;have h2:=Hp.Jv HI.out.2.2.1 (by rw [<-r.o]);rw [<-r.o] at h2;simp only at h2;omega
end
section
variable {S:Nat->Prop} {T base cap i j n s:Nat} {e:En} {es es':List En} {o:Ob} {w w':World} {xs:List Value}
def bg (f:En->En) (j:Nat) (es:List En):List En:=(es.take j).map f++es.drop j
theorem cB (f:En->En) (j:Nat) (es:List En):(bg f j es).length=es.length:=by
 unfold bg;simp;omega
theorem gK (f:En->En) (es:List En):bg f 0 es=es:=by simp [bg]
theorem ig (f:En->En) (es:List En):bg f es.length es=es.map f:=by simp [bg]
theorem dH (f:En->En) (h:es[j]?=some e):(bg f j es)[j]?=some e:=by
 have a:=(aJ.1 h).1;unfold bg;rw [fI (by simp;omega)];simp only [bY,bf];rw [Nat.min_eq_left (by omega),Nat.sub_self,List.getElem?_drop]
 simpa using h
theorem fK (f:En->En) (h:es[j]?=some e):bg f (j+1) es=(bg f j es).set j (f e):=by
 have a:=(aJ.1 h).1;refine List.ext_getElem? (fun i=>?_);rw [gD];unfold bg;by_cases c:j=i
 ·subst c
  rw [if_pos rfl,if_pos (by simp;omega),dF (by simp;omega)];simp [h]
 ·rw [if_neg c]
  by_cases d:i<j
  ·rw [dF (by simp;omega),dF (by simp;omega)]
   simp [d,show i<j+1 by omega]
  ·rw [fI (by simp;omega),fI (by simp;omega)]
   simp only [bY,bf,List.getElem?_drop];rw [Nat.min_eq_left (by omega),Nat.min_eq_left (by omega)];congr 1;omega
theorem fM (f:En->En) (h:es[j]?=some e) (a:f e=e):bg f (j+1) es=bg f j es:=by
 rw [fK f h,a];refine List.ext_getElem? (fun i=>?_);rw [gD];split
 ·rename_i c
  subst c;rw [dH f h];have:=(aJ.1 h).1;rw [if_pos (by rw [cB];exact this)]
 ·rfl
def Hp.ents (h:Hp) (n:Nat) (es:List En):Hp:=h.upd n fun o=>{ o with es:=es }
theorem Hp.Ij {h:Hp} (ho:h.ob n=some o) (es:List En):(h.ents n es).ob n=some { o with es:=es }:=by
 unfold Hp.ents;rw [Hp.Ho,if_pos rfl,ho];rfl
theorem Hp.KM (h:Hp) (n:Nat) (es:List En) (m:Nat):(h.ents n es).M5 m=h.M5 m:=by
 unfold Hp.M5 Hp.ents;rw [Hp.Ho];by_cases c:n=m
 ·rw [if_pos c]
  cases h.ob m<;>rfl
 ·rw [if_neg c]
theorem Hp.I9 (h:Hp) (n:Nat) (es:List En) (v:HV):(h.ents n es).MO v=h.MO v:=by
 unfold Hp.MO;split
 ·exact h.KM n es _
 ·rfl
theorem Hp.Ie (h:Hp) (n:Nat) (es:List En):(h.ents n es).objs.length=h.objs.length:=h.Hz n _
theorem Hp.Io {h:Hp} (ho:h.ob n=some o):h.ents n o.es=h:=by
 have hx:=Hp.I_ ho;have:h.objs.modify n (Option.map fun o':Ob=>{ o' with es:=o.es })=h.objs:=by
  refine List.ext_getElem? (fun i=>?_);rw [List.getElem?_modify];by_cases c:n=i
  ·subst c
   rw [hx];simp
  ·simp [c]
 unfold Hp.ents Hp.upd;rw [this]
theorem Hp.Iz (h:Hp) (n:Nat) (es es':List En):(h.ents n es).ents n es'=h.ents n es':=by
 unfold Hp.ents Hp.upd;simp only;congr 1;refine List.ext_getElem? (fun i=>?_);simp only [List.getElem?_modify];by_cases c:n=i
 ·cases hx:h.objs[i]? with
  |none=>simp
  |some x=>cases x<;>simp [c]
 ·simp [c]
theorem MV.Ll {h:Hp} {L:SM} (a:MV base S h L w) (ho:h.ob n=some o) (hk:Keeps w w' (fun b=>(L.es n).ownBlock=some b)) (hown:w'.ownsRow base 122 10 (L.es n) es'.length (kr es')):
 MV base S (h.ents n es') L w'/\Keeps w w' S:=by
 have q:(h.ents n es').objs.length=h.objs.length:=h.Hz n _;have H:=Hp.Ia ho;have B:=a.en n o ho;have hH:∀ {T s n':Nat} {v:Value} {xs:List Value},w.ownsRow base T s v n' xs->T≠122->∀ g,v.ownBlock=some g->¬ (L.es n).ownBlock=some g:=fun h1 h2 g t z=>aV h1 B h2 z t;have y:∀ {T g N:Nat} {f:Nat->Value},aD w T g N f->T≠122->¬ (L.es n).ownBlock=some g:=fun h1 h2 t=>ak B h1 (Ne.symm h2) t;have l:∀ m k,(h.ents n es').ob m=some k->∃ o2,h.ob m=some o2/\k.col=o2.col/\k.mode=o2.mode/\k.fin=o2.fin/\(m=n->k.es=es')/\(m≠n->k.es=o2.es):=by
  intro m k e;unfold Hp.ents at e;rw [Hp.Ho] at e;split at e
  ·rename_i c
   subst c;rw [ho] at e;simp at e;subst e;exact ⟨o,ho,rfl,rfl,rfl,fun _=>rfl,fun c=>absurd rfl c⟩
  ·rename_i c
   exact ⟨k,e,rfl,rfl,rfl,fun d=>absurd d.symm c,fun _=>rfl⟩
 refine ⟨⟨a.hp.keep hk (y a.hp (by decide)),?_,fun m k e=>?_,fun m hm e=>?_,fun m k e=>?_,fun j hj=>aj (a.li j hj) hk (hH (a.li j hj) (by decide)),aj a.ro hk (hH a.ro (by decide)),?_,?_,a.lj,a.bH,?_,aI a.bs hk.size,a.sH,?_,a.sO,?_,a.sl,a.sr,fun b hb=>a.up b (aI hk.size hb)⟩,hk.mono (fun b e=>a.se n o b ho e)⟩
 ·rw [q];exact aj a.oo hk (hH a.oo (by decide))
 ·obtain ⟨o2,p,t,z,G,_⟩:=l m k e
  obtain ⟨r,hr⟩:=a.ob m o2 p;refine ⟨r,?_⟩;rw [t,z,G];exact hr.keep hk (y hr (by decide))
 ·rw [q] at hm
  unfold Hp.ents at e;rw [Hp.Ho] at e;have p:h.ob m=none:=by
   split at e
   ·cases hb:h.ob m with
    |none=>rfl
    |some x=>rw [hb] at e;simp at e
   ·exact e
  obtain ⟨r,c,u,hr⟩:=a.dd m hm p;exact ⟨r,c,u,hr.keep hk (y hr (by decide))⟩
 ·obtain ⟨o2,p,_,_,_,F,E⟩:=l m k e
  by_cases c:m=n
  ·rw [F c,c];exact hown
  ·rw [E c]
   refine aj (a.en m o2 p) hk (fun g hg hg'=>c (a.ei m n o2 o g p ho hg hg'))
 ·rw [q];exact a.ij
 ·intro m A o1 o2 g e1 p
  obtain ⟨p1,q1,_⟩:=l m o1 e1;obtain ⟨D,C,_⟩:=l A o2 p;exact a.ei m A p1 D g q1 C
 ·rw [q];exact a.bo
 ·rw [q];exact a.so
 ·intro m k g e
  obtain ⟨p1,q1,_⟩:=l m k e;exact a.se m p1 g q1
theorem aL {g:Nat} (h:w.ownsRow base T s (.slice (some ⟨g,0,none⟩) n cap) n xs) (hi:i<n*s) (x:Value):(w.setCell ⟨g,i,none⟩ x).ownsRow base T s (.slice (some ⟨g,0,none⟩) n cap) n (xs.set i x):=by
 obtain ⟨r,⟨q,_⟩|⟨u,l,f,k,d,p,a,c,b,m⟩⟩:=h
 ·simp at q
 ·simp at k
  obtain ⟨rfl,rfl⟩:=k;refine ⟨by simpa using r,.inr ⟨g,cap,_,rfl,d,heap_setCell_same w g i _ _ x p,a,c,by simpa using b,?_⟩⟩;have t:i<f.size:=by
   rw [b];exact aW hi (Nat.mul_le_mul_right _ a)
  rw [<-m];simp [List.take_set]
theorem jY (es:List En) (p:Nat):(kr es)[p]?=(es[p/10]?).bind (fun e=>(iX e)[p%10]?):=by
 cases h:es[p/10]? with
 |none=>
  have:=List.getElem?_eq_none_iff.1 h;rw [aM (by rw [m_];omega)];rfl
 |some e=>
  have:=eX iX 10 (fun _=>rfl) es (p/10) (p%10) e h (Nat.mod_lt _ (by decide));rw [show p/10*10+p%10=p by omega] at this;exact this
theorem zx (h:es[j]?=some e):(((((kr es).set (j*10+5) (.int .i64 0)).set (j*10+5+1) (.int .i64 0)).set (j*10+5+2) (.int .u64 0)).set (j*10+5+3) (.string { data:=#[] })).set (j*10+5+4) (.int .i64 0)=kr (es.set j (e.1,none)):=by
 have g:=(aJ.1 h).1;have a:=m_ es;refine List.ext_getElem? (fun p=>?_);by_cases c:p/10=j
 ·have b:∀ r,r<10->(kr es)[j*10+r]?=(iX e)[r]?:=fun r hr=>eX iX 10 (fun _=>rfl) es j r e h hr
  have f:∀ r,r<10->(kr (es.set j (e.1,none)))[j*10+r]?=(iX (e.1,none))[r]?:=fun r hr=>eX iX 10 (fun _=>rfl) _ j r _ (dY (by omega)) hr;obtain ⟨r,hr,rfl⟩:∃ r,r<10/\p=j*10+r:=⟨p%10,Nat.mod_lt _ (by decide),by omega⟩
  rw [f r hr];have d:r=0∨r=1∨r=2∨r=3∨r=4∨r=5∨r=6∨r=7∨r=8∨r=9:=by omega
  rcases d with rfl|rfl|rfl|rfl|rfl|rfl|rfl|rfl|rfl|rfl
  ·rw [aH (by omega)];rw [aH (by omega)];rw [aH (by omega)];rw [aH (by omega)];rw [aH (by omega)];rw [b 0 (by decide)];rfl
  ·rw [aH (by omega)];rw [aH (by omega)];rw [aH (by omega)];rw [aH (by omega)];rw [aH (by omega)];rw [b 1 (by decide)];rfl
  ·rw [aH (by omega)];rw [aH (by omega)];rw [aH (by omega)];rw [aH (by omega)];rw [aH (by omega)];rw [b 2 (by decide)];rfl
  ·rw [aH (by omega)];rw [aH (by omega)];rw [aH (by omega)];rw [aH (by omega)];rw [aH (by omega)];rw [b 3 (by decide)];rfl
  ·rw [aH (by omega)];rw [aH (by omega)];rw [aH (by omega)];rw [aH (by omega)];rw [aH (by omega)];rw [b 4 (by decide)];rfl
  ·rw [aH (by omega)];rw [aH (by omega)];rw [aH (by omega)];rw [aH (by omega)];rw [show j*10+5=j*10+5 by omega];rw [dY (Nat.lt_of_lt_of_eq (show _<es.length*10 by omega) (by simp [a]))];rfl
  ·rw [aH (by omega)];rw [aH (by omega)];rw [aH (by omega)];rw [show j*10+6=j*10+5+1 by omega];rw [dY (Nat.lt_of_lt_of_eq (show _<es.length*10 by omega) (by simp [a]))];rfl
  ·rw [aH (by omega)];rw [aH (by omega)];rw [show j*10+7=j*10+5+2 by omega];rw [dY (Nat.lt_of_lt_of_eq (show _<es.length*10 by omega) (by simp [a]))];rfl
  ·rw [aH (by omega)];rw [show j*10+8=j*10+5+3 by omega];rw [dY (Nat.lt_of_lt_of_eq (show _<es.length*10 by omega) (by simp [a]))];rfl
  ·rw [show j*10+9=j*10+5+4 by omega];rw [dY (Nat.lt_of_lt_of_eq (show _<es.length*10 by omega) (by simp [a]))];rfl
 ·rw [show (kr (es.set j (e.1,none)))[p]?=(kr es)[p]? by rw [jY,jY,aH (by omega)]]
  rw [aH (by omega)];rw [aH (by omega)];rw [aH (by omega)];rw [aH (by omega)];rw [aH (by omega)]
theorem xI (h:es[j]?=some e):((((((((((kr es).set (j*10) (.int .i64 0)).set (j*10+1) (.int .i64 0)).set (j*10+2) (.int .u64 0)).set (j*10+3) (.string { data:=#[] })).set (j*10+4) (.int .i64 0)).set (j*10+5) (.int .i64 0)).set (j*10+6) (.int .i64 0)).set (j*10+7) (.int .u64 0)).set (j*10+8) (.string { data:=#[] })).set (j*10+9) (.int .i64 0)=kr (es.set j (none,none)):=by
 have f:=(aJ.1 h).1;have a:=m_ es;refine List.ext_getElem? (fun p=>?_);by_cases c:p/10=j
 ·have g:∀ r,r<10->(kr es)[j*10+r]?=(iX e)[r]?:=fun r hr=>eX iX 10 (fun _=>rfl) es j r e h hr
  have d:∀ r,r<10->(kr (es.set j (none,none)))[j*10+r]?=(iX (none,none))[r]?:=fun r hr=>eX iX 10 (fun _=>rfl) _ j r _ (dY (by omega)) hr;obtain ⟨r,hr,rfl⟩:∃ r,r<10/\p=j*10+r:=⟨p%10,Nat.mod_lt _ (by decide),by omega⟩
  rw [d r hr];have b:r=0∨r=1∨r=2∨r=3∨r=4∨r=5∨r=6∨r=7∨r=8∨r=9:=by omega
  rcases b with rfl|rfl|rfl|rfl|rfl|rfl|rfl|rfl|rfl|rfl
  ·rw [aH (by omega)];rw [aH (by omega)];rw [aH (by omega)];rw [aH (by omega)];rw [aH (by omega)];rw [aH (by omega)];rw [aH (by omega)];rw [aH (by omega)];rw [aH (by omega)];rw [show j*10+0=j*10 by omega];rw [dY (Nat.lt_of_lt_of_eq (show _<es.length*10 by omega) (by simp [a]))];rfl
  ·rw [aH (by omega)];rw [aH (by omega)];rw [aH (by omega)];rw [aH (by omega)];rw [aH (by omega)];rw [aH (by omega)];rw [aH (by omega)];rw [aH (by omega)];rw [show j*10+1=j*10+1 by omega];rw [dY (Nat.lt_of_lt_of_eq (show _<es.length*10 by omega) (by simp [a]))];rfl
  ·rw [aH (by omega)];rw [aH (by omega)];rw [aH (by omega)];rw [aH (by omega)];rw [aH (by omega)];rw [aH (by omega)];rw [aH (by omega)];rw [show j*10+2=j*10+2 by omega];rw [dY (Nat.lt_of_lt_of_eq (show _<es.length*10 by omega) (by simp [a]))];rfl
  ·rw [aH (by omega)];rw [aH (by omega)];rw [aH (by omega)];rw [aH (by omega)];rw [aH (by omega)];rw [aH (by omega)];rw [show j*10+3=j*10+3 by omega];rw [dY (Nat.lt_of_lt_of_eq (show _<es.length*10 by omega) (by simp [a]))];rfl
  ·rw [aH (by omega)];rw [aH (by omega)];rw [aH (by omega)];rw [aH (by omega)];rw [aH (by omega)];rw [show j*10+4=j*10+4 by omega];rw [dY (Nat.lt_of_lt_of_eq (show _<es.length*10 by omega) (by simp [a]))];rfl
  ·rw [aH (by omega)];rw [aH (by omega)];rw [aH (by omega)];rw [aH (by omega)];rw [show j*10+5=j*10+5 by omega];rw [dY (Nat.lt_of_lt_of_eq (show _<es.length*10 by omega) (by simp [a]))];rfl
  ·rw [aH (by omega)];rw [aH (by omega)];rw [aH (by omega)];rw [show j*10+6=j*10+6 by omega];rw [dY (Nat.lt_of_lt_of_eq (show _<es.length*10 by omega) (by simp [a]))];rfl
  ·rw [aH (by omega)];rw [aH (by omega)];rw [show j*10+7=j*10+7 by omega];rw [dY (Nat.lt_of_lt_of_eq (show _<es.length*10 by omega) (by simp [a]))];rfl
  ·rw [aH (by omega)];rw [show j*10+8=j*10+8 by omega];rw [dY (Nat.lt_of_lt_of_eq (show _<es.length*10 by omega) (by simp [a]))];rfl
  ·rw [show j*10+9=j*10+9 by omega];rw [dY (Nat.lt_of_lt_of_eq (show _<es.length*10 by omega) (by simp [a]))];rfl
 ·rw [show (kr (es.set j (none,none)))[p]?=(kr es)[p]? by rw [jY,jY,aH (by omega)]]
  rw [aH (by omega)];rw [aH (by omega)];rw [aH (by omega)];rw [aH (by omega)];rw [aH (by omega)];rw [aH (by omega)];rw [aH (by omega)];rw [aH (by omega)];rw [aH (by omega)];rw [aH (by omega)]
theorem MV.LW {h:Hp} {L:SM} (a:MV base S h L w) {o:Ob} (ho:h.ob n=some { o with es:=es }) {g:Nat} (c:L.es n=.slice (some ⟨g,0,none⟩) es.length cap) (f:es[j]?=some e):
 MV base S (h.ents n (es.set j (e.1,none))) L (((((w.setCell ⟨g,j*10+5,none⟩ (.int .i64 0)).setCell ⟨g,j*10+5+1,none⟩ (.int .i64 0)).setCell ⟨g,j*10+5+2,none⟩ (.int .u64 0)).setCell ⟨g,j*10+5+3,none⟩ (.string { data:=#[] })).setCell ⟨g,j*10+5+4,none⟩ (.int .i64 0))/\Keeps w (((((w.setCell ⟨g,j*10+5,none⟩ (.int .i64 0)).setCell ⟨g,j*10+5+1,none⟩ (.int .i64 0)).setCell ⟨g,j*10+5+2,none⟩ (.int .u64 0)).setCell ⟨g,j*10+5+3,none⟩ (.string { data:=#[] })).setCell ⟨g,j*10+5+4,none⟩ (.int .i64 0)) S:=by
 have l:=(aJ.1 f).1;have d:=a.en n _ ho;simp only at d;rw [c] at d;have k:=(aL (aL (aL (aL (aL d (show j*10+5<es.length*10 by omega) (.int .i64 0)) (show j*10+5+1<es.length*10 by omega) (.int .i64 0)) (show j*10+5+2<es.length*10 by omega) (.int .u64 0)) (show j*10+5+3<es.length*10 by omega) (.string { data:=#[] })) (show j*10+5+4<es.length*10 by omega) (.int .i64 0))
 rw [zx f] at k;refine a.Ll ho (Keeps.mono (S:=fun b=>b=g) (Keeps.setCell (S:=fun b=>b=g) (Keeps.setCell (S:=fun b=>b=g) (Keeps.setCell (S:=fun b=>b=g) (Keeps.setCell (S:=fun b=>b=g) (Keeps.setCell (S:=fun b=>b=g) (Keeps.refl w (fun b=>b=g)) rfl (.int .i64 0)) rfl (.int .i64 0)) rfl (.int .u64 0)) rfl (.string { data:=#[] })) rfl (.int .i64 0)) (fun b e=>?_)) ?_
 ·rw [c,e];simp [Value.ownBlock]
 ·rw [c,bX];exact k
theorem MV.Lg {h:Hp} {L:SM} (a:MV base S h L w) {o:Ob} (ho:h.ob n=some { o with es:=es }) {g:Nat} (c:L.es n=.slice (some ⟨g,0,none⟩) es.length cap) (f:es[j]?=some e):
 MV base S (h.ents n (es.set j (none,none))) L ((((((((((w.setCell ⟨g,j*10,none⟩ (.int .i64 0)).setCell ⟨g,j*10+1,none⟩ (.int .i64 0)).setCell ⟨g,j*10+2,none⟩ (.int .u64 0)).setCell ⟨g,j*10+3,none⟩ (.string { data:=#[] })).setCell ⟨g,j*10+4,none⟩ (.int .i64 0)).setCell ⟨g,j*10+5,none⟩ (.int .i64 0)).setCell ⟨g,j*10+6,none⟩ (.int .i64 0)).setCell ⟨g,j*10+7,none⟩ (.int .u64 0)).setCell ⟨g,j*10+8,none⟩ (.string { data:=#[] })).setCell ⟨g,j*10+9,none⟩ (.int .i64 0))/\Keeps w ((((((((((w.setCell ⟨g,j*10,none⟩ (.int .i64 0)).setCell ⟨g,j*10+1,none⟩ (.int .i64 0)).setCell ⟨g,j*10+2,none⟩ (.int .u64 0)).setCell ⟨g,j*10+3,none⟩ (.string { data:=#[] })).setCell ⟨g,j*10+4,none⟩ (.int .i64 0)).setCell ⟨g,j*10+5,none⟩ (.int .i64 0)).setCell ⟨g,j*10+6,none⟩ (.int .i64 0)).setCell ⟨g,j*10+7,none⟩ (.int .u64 0)).setCell ⟨g,j*10+8,none⟩ (.string { data:=#[] })).setCell ⟨g,j*10+9,none⟩ (.int .i64 0)) S:=by
 have l:=(aJ.1 f).1;have d:=a.en n _ ho;simp only at d;rw [c] at d;have k:=(aL (aL (aL (aL (aL (aL (aL (aL (aL (aL d (show j*10<es.length*10 by omega) (.int .i64 0)) (show j*10+1<es.length*10 by omega) (.int .i64 0)) (show j*10+2<es.length*10 by omega) (.int .u64 0)) (show j*10+3<es.length*10 by omega) (.string { data:=#[] })) (show j*10+4<es.length*10 by omega) (.int .i64 0)) (show j*10+5<es.length*10 by omega) (.int .i64 0)) (show j*10+6<es.length*10 by omega) (.int .i64 0)) (show j*10+7<es.length*10 by omega) (.int .u64 0)) (show j*10+8<es.length*10 by omega) (.string { data:=#[] })) (show j*10+9<es.length*10 by omega) (.int .i64 0))
 rw [xI f] at k;refine a.Ll ho (Keeps.mono (S:=fun b=>b=g) (Keeps.setCell (S:=fun b=>b=g) (Keeps.setCell (S:=fun b=>b=g) (Keeps.setCell (S:=fun b=>b=g) (Keeps.setCell (S:=fun b=>b=g) (Keeps.setCell (S:=fun b=>b=g) (Keeps.setCell (S:=fun b=>b=g) (Keeps.setCell (S:=fun b=>b=g) (Keeps.setCell (S:=fun b=>b=g) (Keeps.setCell (S:=fun b=>b=g) (Keeps.setCell (S:=fun b=>b=g) (Keeps.refl w (fun b=>b=g)) rfl (.int .i64 0)) rfl (.int .i64 0)) rfl (.int .u64 0)) rfl (.string { data:=#[] })) rfl (.int .i64 0)) rfl (.int .i64 0)) rfl (.int .i64 0)) rfl (.int .u64 0)) rfl (.string { data:=#[] })) rfl (.int .i64 0)) (fun b e=>?_)) ?_
 ·rw [c,e];simp [Value.ownBlock]
 ·rw [c,bX];exact k
end
section
variable {S:Nat->Prop} {base n:Nat} {h q:Hp} {o:Ob} {w:World}
theorem jN (c:Hp->En->En) (ho:q.ob n=some o):Hp.Nb c q n=q.ents n (o.es.map (c q)):=by
 have hx:=Hp.I_ ho;unfold Hp.Nb Hp.ents Hp.upd;congr 1;refine List.ext_getElem? (fun i=>?_);simp only [List.getElem?_modify];by_cases e:n=i
 ·subst e
  rw [hx];simp
 ·simp [e]
theorem kL {L:SM} (a:MV base S h L w) (k:Wk h):
 Calls Tryz.prog 94 #[.pointer (some ⟨L.H,0,none⟩)] w fun e w'=>e=.returned (.tuple #[])/\MV base S (h.weak.foldl Hp.MN h) L w'/\Keeps w w' S:=by
 obtain ⟨A,b8,hv,f1,-⟩:=a.II (k:=9) (by simp [eO]);have c9:w.cell? ⟨L.H,9,none⟩=some (.slice A h.weak.length b8):=by
  have:=a.hp.c 9;rw [this];exact congrArg some hv
 have f2:h.weak.length<=20000:=by
  have:=k.s.nu;simp only [Hp.nu] at this;omega
 have HA:=ah a;have HK:=ah k;have HV:=ah hv;clear a k hv;go_enter Tryz.func94,Tryz.ntmps94;go_wp2;go_loopw [12] (fun iv wr=>∃ i:Nat,i<=h.weak.length/\iv=.int .i64 i/\Hq (MV base S ((h.weak.take i).foldl Hp.MN h) L wr/\Keeps w wr S)) (fun iv _=>h.weak.length-bF iv)
 case atStart=>exact ⟨0,by omega,rfl,HA.o,Keeps.refl _ _⟩
 case round=>
  obtain ⟨i,f7,rfl,HI⟩:=hrel;by_cases P:i<h.weak.length
  ·have a5:h.weak.take (i+1)=h.weak.take i++[h.weak[i]]:=bD (aN P)
   have b3:=Np.fold bU bZ (h.weak.take i) h;have HF:Hq ((h.weak.take (i+1)).foldl Hp.MN h=Hp.MN ((h.weak.take i).foldl Hp.MN h) h.weak[i]):=ah (by rw [a5,bE]);have b1:=HK.o.l _ (.inr (.inr (.inl (List.getElem_mem P))));have f:Np h ((h.weak.take i).foldl Hp.MN h):=b3;obtain ⟨q,hq⟩:∃ q,(h.weak.take i).foldl Hp.MN h=q:=⟨_,rfl⟩
   rw [hq] at f HF HI;clear b3 a5;obtain ⟨A1,b7,M,-,u⟩:=HI.out.1.II (k:=9) (by simp [eO]);have D:g_ q 9=h.weak:=f.weak;rw [D] at M;have:A1=A/\b7=b8:=by
    have U:=M.symm.trans HV.out;simp only [Value.slice.injEq] at U;exact ⟨U.1,U.2.2⟩
   obtain ⟨rfl,rfl⟩:=this;obtain ⟨g,rfl,b2⟩:=u i (by rw [D];exact P);have e8:wr.cell? ⟨g,i,none⟩=some (.int .i64 ((h.weak[i]:Nat):Int)):=by
    rw [b2];congr 3;simp only [D]
   generalize h.weak[i]=n at *;obtain ⟨o,ho⟩:=(f.lv n).2 b1;have c1:=Hp.Ia ho;have a4:q.ob 0=none:=by
    rcases f.ob 0 with ⟨x,_⟩|⟨_,_,_,x,_⟩
    ·exact x
    ·rw [HK.o.z] at x;cases x
   have b4:q.Closed:=by
    intro m o' e en R r hr;rcases f.ob m with ⟨x,_⟩|⟨o1,o2,x1,x2,_,_,_,c,x3,x4⟩
    ·rw [e] at x;cases x
    ·rw [e] at x1;cases x1
     rw [x4] at R;obtain ⟨e0,c4,rfl⟩:=List.mem_map.1 R;exact (f.lv r).2 (HK.o.c m o1 x2 e0 c4 r ((x3 e0).refs r hr))
   have c2:q.objs.length<=5001:=by rw [f.len];exact HK.o.s.len
   have a8:1<=q.objs.length:=by rw [f.len];exact HK.o.p
   have f9:o.es.length<=5000:=by
    rcases f.ob n with ⟨x,_⟩|⟨o1,o2,x1,x2,_,_,_,c,x3,x4⟩
    ·rw [ho] at x;cases x
    ·rw [ho] at x1;cases x1
     rw [x4,bY];exact HK.o.s.es n o1 x2
   obtain ⟨go,b6,b0,c7,B⟩:=HI.out.1.slot a8;have f0:=B n c1;have c0:wr.cell? ⟨L.H,0,none⟩=some (.slice (some ⟨go,0,none⟩) q.objs.length b6):=by
    have:=HI.out.1.hp.c 0;rw [this];exact congrArg some b0
   obtain ⟨E,K,Q,c8,-⟩:=HI.out.1.ents ho;obtain ⟨r0,a7⟩:=HI.out.1.ob n o ho;have c5:wr.cell? ⟨L.ob n,5,none⟩=some (.slice E o.es.length K):=by rw [<-Q];exact a7.c 5
   have HQ:=ah f;have HO:=ah ho;have e3:=ah (wJ.of a4 b4 ho);have G:=ah Q;have f3:(n:Int)<(q.objs.length:Int):=by omega
   clear f ho b4 a4 b1 B a7 Q D M u b2 hq b0;go_wp2;go_loopw [28,6,5] (fun jv e6 e5 ws=>∃ j:Nat,j<=o.es.length/\jv=.int .i64 j/\Hq (MV base S (q.ents n (bg (bU q) j o.es)) L ws/\Keeps w ws S)) (fun jv _ _ _=>o.es.length-bF jv)
   case atStart=>
    refine ⟨0,by omega,rfl,?_,HI.out.2⟩;rw [gK];rw [Hp.Io HO.o];exact HI.out.1
   case round=>
    obtain ⟨j,f6,rfl,HJ⟩:=hrel;by_cases c3:j<o.es.length
    ·obtain ⟨e,R⟩:∃ e,o.es[j]?=some e:=⟨_,aN c3⟩
     have a9:=Hp.Ij HO.o (bg (bU q) j o.es);obtain ⟨A2,C,v,T,y⟩:=HJ.o.1.ents a9;simp only [cB] at v T;have:A2=E/\C=K:=by
      have U:=v.symm.trans G.o;simp only [Value.slice.injEq] at U;exact ⟨U.1,U.2.2⟩
     obtain ⟨rfl,rfl⟩:=this;obtain ⟨V,rfl,f8,b⟩:=y j e (dH _ R);have d0:=b 0 _ rfl;have d1:=b 1 _ rfl;have d2:=b 2 _ rfl;have d3:=b 3 _ rfl;have d4:=b 4 _ rfl;have d5:=b 5 _ rfl;have d6:=b 6 _ rfl;have d7:=b 7 _ rfl;have d8:=b 8 _ rfl;have d9:=b 9 _ rfl;simp only [Nat.add_zero] at d0;have N:=e3.o e (aX R);have a2:=ah (HJ.o.1.alloc (.cells (Nw e.1 e.2) 122));have b9:=ah (HJ.o.2.trans (Keeps.of (aU wr (.cells (Nw e.1 e.2) 122)) (au _) S));have e2:=ah (show Rg (q.ents n (bg (bU q) j o.es)) e.1/\Rg (q.ents n (bg (bU q) j o.es)) e.2 from ⟨N.1.mono (q.Ie n _),N.2.mono (q.Ie n _)⟩);have HX:=ah (lV wr e);have a0:=ah R;clear a9 v y b N R;go_upto_region 7 with (fail)
     generalize wr.alloc (.cells (Nw e.1 e.2) 122)=w3 at *;generalize wr.heap.size=X at *;have e7:=HX.o.lt;obtain ⟨x5,x6,x7,x8,x9⟩:OV w3 X e.2:=HX.o.c6;clear d0 d1 d2 d3 d4 d5 d6 d7 d8 d9;have W:=ah (gy a2.o e.2 e2.o.2 (by rw [Hp.Ie];exact c2) (by rw [Hp.Ie];exact a8));rw [Hp.I9] at W;go_wp2_with fail;refine W.o.mono ?_;rintro e9 w4 ⟨rfl,b5⟩;have J:=ah b5;clear b5 W;cases hb:q.MO e.2 with
     |false=>
      have Z:=ah (fM (bU q) a0.o (by unfold bU;rw [hb];rfl));clear hb;go_wp2;go_roundw
      case rel=>
       refine ⟨j+1,by omega,by simp,?_⟩;exact ⟨by rw [Z.o];exact a2.o.low J.o,b9.o.trans (Keeps.of J.o (au _) S)⟩
      case measure=>simp [bF];omega
     |true=>
      have Z:=ah (fK (bU q) a0.o);have e4:Hq (bU q e=(e.1,none)):=ah (by unfold bU;rw [hb];rfl);clear hb;have a3:=ah (a2.o.low J.o);obtain ⟨r4,a6⟩:=a3.o.ob n _ (Hp.Ij HO.o (bg (bU q) j o.es));have f5:w4.cell? ⟨L.ob n,5,none⟩=some (.slice (some ⟨V,0,none⟩) o.es.length C):=by rw [<-G.o];exact a6.c 5
      have d:=ay (a3.o.en n _ (Hp.Ij HO.o (bg (bU q) j o.es))) (g:=V) (by rw [G.o];simp [Value.ownBlock]);have e1:(o.es.length:Int)<=C:=by omega
      have f4:(j:Int)<(o.es.length:Int):=by omega
      have t:(bg (bU q) j o.es).length=o.es.length:=cB _ _ _;have zf:=d.ME (j*10+5);have zg:=d.ME (j*10+6);have zh:=d.ME (j*10+7);have zi:=d.ME (j*10+8);have zj:=d.ME (j*10+9);have g5:=d.cell (j:=j*10+5) (by simp only [t];omega);have g6:=d.cell (j:=j*10+6) (by simp only [t];omega);have g7:=d.cell (j:=j*10+7) (by simp only [t];omega);have g8:=d.cell (j:=j*10+8) (by simp only [t];omega);have g9:=d.cell (j:=j*10+9) (by simp only [t];omega);clear a6 d t;have a1:=ah (a3.o.LW (Hp.Ij HO.o (bg (bU q) j o.es)) (by rw [cB];exact G.o) (dH (bU q) a0.o));rw [Hp.Iz] at a1;go_upto_region 9 with (fail)
      generalize (((((w4.setCell ⟨V,j*10+5,none⟩ (.int .i64 0)).setCell ⟨V,j*10+5+1,none⟩ (.int .i64 0)).setCell ⟨V,j*10+5+2,none⟩ (.int .u64 0)).setCell ⟨V,j*10+5+3,none⟩ (.string { data:=#[] })).setCell ⟨V,j*10+5+4,none⟩ (.int .i64 0))=w5 at *;clear g5 g6 g7 g8 g9 zf zg zh zi zj f5;go_wp2;go_roundw
      case rel=>
       refine ⟨j+1,by omega,by simp,?_⟩;exact ⟨by rw [Z.o,e4.o];exact a1.o.1,(b9.o.trans (Keeps.of J.o (au _) S)).trans a1.o.2⟩
      case measure=>simp [bF];omega
    ·obtain rfl:j=o.es.length:=by omega
     have Y:=HJ.o;rw [ig] at Y;have F:=ah Y;clear Y HJ;go_wp2;go_roundw
     case rel=>
      refine ⟨i+1,by omega,by simp,?_⟩;refine ⟨?_,F.o.2⟩;rw [HF.o];have:q.MN n=q.ents n (o.es.map (bU q)):=jN bU HO.o;rw [this];exact F.o.1
     case measure=>simp [bF];omega
  ·obtain rfl:i=h.weak.length:=by omega
   have Y:=HI.out;rw [bN] at Y;have F:=ah Y;clear Y HI;go_wp2;go_end0;exact ⟨rfl,F.o⟩
end
end Go.Proofs.YtbpcdfbmnklcjaaGreatDoor
