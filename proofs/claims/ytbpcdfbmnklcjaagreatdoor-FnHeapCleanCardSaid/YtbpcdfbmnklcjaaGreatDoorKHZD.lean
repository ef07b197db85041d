import Derived.Test.YtbpcdfbmnklcjaaGreatDoorKHWA
import Derived.Deep.RegionLaw
import Derived.Test.YtbpcdfbmnklcjaaGreatDoorKHYY
import Derived.Test.YtbpcdfbmnklcjaaGreatDoorKHSP
namespace Go.Proofs.YtbpcdfbmnklcjaaGreatDoor
open Go Go.RowKit
set_option maxHeartbeats 6400000
set_option maxRecDepth 100000
set_option linter.unusedVariables false
section
variable {R base hand n:Nat} {S:Nat->Prop} {gs:List Nat} {root:List Bool} {rv:Value} {w:World}
theorem MV.Le {h:Hp} {L:SM} (a:MV base S h L w) (u:h.pending=gs++[n]):∃ g cap,L.li 12=.slice (some ⟨g,0,none⟩) (gs.length+1) cap/\gs.length+1<=cap/\w.cell? ⟨g,gs.length,none⟩=some (.int .i64 (n:Int))/\
 MV base S { h with pending:=gs } { L with li:=fun j=>if j=12 then .slice (some ⟨g,0,none⟩) gs.length cap else L.li j } (w.setCell ⟨L.H,12,none⟩ (.slice (some ⟨g,0,none⟩) gs.length cap))/\Keeps w (w.setCell ⟨L.H,12,none⟩ (.slice (some ⟨g,0,none⟩) gs.length cap)) S:=by
 have f:=a.li 12 (by simp [eO]);have q:g_ h 12=gs++[n]:=u;rw [q] at f;obtain ⟨x,cap,o⟩:=aF f;have l:(gs++[n]).length=gs.length+1:=by simp
 rw [l] at f o;rw [o] at f;rcases f.2 with ⟨_,z⟩|⟨g,r,v,i,hb,y,p,hr⟩
 ·omega
 ·simp at i
  obtain ⟨rfl,rfl⟩:=i;have k:=ay f (g:=g) (by simp [Value.ownBlock]);have b:=lJ f (m:=gs.length) (by omega);have d:w.ownsRow base 3 1 (.slice (some ⟨g,0,none⟩) gs.length cap) gs.length (eu gs):=by
   have:(eu (gs++[n])).take (gs.length*1)=eu gs:=by
    unfold eu;rw [List.map_append,Nat.mul_one];rw [List.take_append_of_le_length (by simp),List.take_of_length_le (by simp)]
   rw [this] at b;exact b
  obtain ⟨p1,t,s⟩:=a.JW (w1:=w) 12 (by simp [eO]) (Keeps.refl w _) _ gs d (fun g' e=>.inl (by rw [o];simpa [Value.ownBlock] using e));refine ⟨g,cap,o,p,?_,t,s⟩;rw [k.c (gs.length)];simp [eu,List.getD_eq_getElem?_getD]
theorem Hp.Lc {h:Hp} (a:h.pending=gs++[n]):h.pop={ h with pending:=gs }:=by
 unfold Hp.pop;rw [a];simp
theorem FM {h:Hp} {L:SM} (x:RW base S h L R hand rv root w) (g:Gd h) (A B C:Int):
 Calls Tryz.prog 34 #[.pointer (some ⟨R,0,none⟩),.agg #[.int .i64 8,.int .i64 A,.int .i64 B,.int .i64 C]] w (gF base S R hand rv w (if h.pending=[] then 4 else 0) ((h.pending.getLast?.getD 0:Nat):Int) h.pop root):=by
 have T:=ah (fO w 8 A B C);have U:=ah (aU w (.cells #[.int .i64 8,.int .i64 A,.int .i64 B,.int .i64 C] 39));have m:=ah (x.hole (.cells #[.int .i64 8,.int .i64 A,.int .i64 B,.int .i64 C] 39));clear x;by_cases hp:h.pending=[]
 ·have e1:((h.pending.getLast?.getD 0:Nat):Int)=0:=by rw [hp];rfl
  have Q:h.pop=h:=by unfold Hp.pop;rw [hp];simp;rw [<-hp]
  rw [if_pos hp,e1,Q];clear e1 Q;go_enter Tryz.func34,Tryz.ntmps34;go_upto_region 1 with (fail)
  generalize w.alloc (.cells #[.int .i64 8,.int .i64 A,.int .i64 B,.int .i64 C] 39)=w1 at *;generalize K:w.heap.size=X at *;have x0:w1.cell? ⟨X,0,none⟩=some (.int .i64 8):=T.o.c 0;have r0:w1.cell? ⟨R,0,none⟩=some (.pointer (some ⟨L.H,0,none⟩)):=m.o.x.r.c 0;have J:=m.o.x.a.li 12 (by simp [eO]);rw [show g_ h 12=[] from hp] at J;obtain ⟨y,p,t⟩:=aF J;have v:w1.cell? ⟨L.H,12,none⟩=some (.slice y 0 p):=by
   have:=m.o.x.a.hp.c 12;rw [this];exact congrArg some t
  clear J t hp;go_wp2
  ((try simp only [Exit.inBlock,Exit.then]);refine bodyPost_ret (results_tmp2 rfl _ _ _) rfl ?_)
  exact gF.mk' (by rw [K];exact U.o) (fun b e=>e.1) (Keeps.refl _ _) m.o
 ·obtain ⟨gs,n,i⟩:∃ gs n,h.pending=gs++[n]:=⟨_,_,(List.dropLast_concat_getLast hp).symm⟩
  have e1:((h.pending.getLast?.getD 0:Nat):Int)=(n:Int):=by rw [i];simp
  rw [if_neg hp,e1,Hp.Lc i];have V:gs.length<=5000:=by
   have:=g.s.fp;rw [i] at this;simp at this;omega
  have z:=ah i;clear e1 hp i;go_enter Tryz.func34,Tryz.ntmps34;go_upto_region 1 with (fail)
  generalize w.alloc (.cells #[.int .i64 8,.int .i64 A,.int .i64 B,.int .i64 C] 39)=w1 at *;generalize K:w.heap.size=X at *;have x0:w1.cell? ⟨X,0,none⟩=some (.int .i64 8):=T.o.c 0;have r0:w1.cell? ⟨R,0,none⟩=some (.pointer (some ⟨L.H,0,none⟩)):=m.o.x.r.c 0;obtain ⟨W,p,t,P,F,u,E⟩:=m.o.x.a.Le z.o;have v:w1.cell? ⟨L.H,12,none⟩=some (.slice (some ⟨W,0,none⟩) (gs.length+1) p):=by
   have:=m.o.x.a.hp.c 12;rw [this];exact congrArg some t
  clear t u E;go_wp2_with fail;go_quiet (fail);go_wp2_with fail;have D:=ah (aC (aT w1.heap.size w1) nq);generalize w1.drewN nq=w2 at *;have k:=ah (m.o.low D.o);obtain ⟨M,d,q,G,-,f,l⟩:=k.o.x.a.Le z.o;have d7:w2.cell? ⟨L.H,12,none⟩=some (.slice (some ⟨M,0,none⟩) (gs.length+1) d):=by
   have:=k.o.x.a.hp.c 12;rw [this];exact congrArg some q
  have y7:=k.o.x.a.hp.ME 12;have j:=ah (And.intro f l);have N:(gs.length:Int)<=d:=by omega
  clear q f l v F
  go_region
  have Z:=ah ((k.o.heap (h':={ h with pending:=gs }) j.o.1 rfl j.o.2 rfl rfl).low (aC (aT _ _) 1));have Y:=ah ((Keeps.of D.o (au _) (fun b=>S b/\b≠X)).trans (j.o.2.trans (Keeps.of (aC (aT (w2.setCell ⟨L.H,12,none⟩ (.slice (some ⟨M,0,none⟩) gs.length d)).heap.size (w2.setCell ⟨L.H,12,none⟩ (.slice (some ⟨M,0,none⟩) gs.length d))) 1) (au _) (fun b=>S b/\b≠X))));go_wp2
  ((try simp only [Exit.inBlock,Exit.then]);refine bodyPost_ret (results_tmp2 rfl _ _ _) rfl ?_)
  exact gF.mk' (by rw [K];exact U.o) (fun b e=>e.1) Y.o Z.o
end
section
variable {G:Gh} {L:PM} {S:Nat->Prop} {base:Nat} {h:Hp} {w:World}
structure PR (h:Hp) (x y:List Nat) (G:Gh):Prop where
 s1:h.state=1->x=h.weak/\y=h.G8/\G.ag=h.again
 s2:h.state=2->Nh G h h.G9
 s0:h.state≠2->MX G h
 ol:G.Ns.length<=h.objs.length
def PS (base:Nat) (S:Nat->Prop) (h:Hp) (L:PM) (w:World):Prop:=∃ x y G,M0 base S (h.wk x y) G L w/\PR h x y G
theorem PS.low {base:Nat} {S:Nat->Prop} {h:Hp} {L:PM} {w w':World} (p:PS base S h L w) (k:Below w.heap.size w w'):PS base S h L w':=by
 obtain ⟨x,y,G,a,r⟩:=p;exact ⟨x,y,G,a.low k,r⟩
theorem PS.out {base:Nat} {S:Nat->Prop} {h:Hp} {L:PM} {w w':World} (p:PS base S h L w) (k:Keeps w w' (fun b=>¬ S b)):PS base S h L w':=by
 obtain ⟨x,y,G,a,r⟩:=p;exact ⟨x,y,G,a.out k,r⟩
theorem PS.cells (p:PS base S h L w):w.cell? ⟨L.H,0,none⟩=some (.int .i64 (h.state:Int))/\w.cell? ⟨L.H,2,none⟩=some (.int .i64 ((h.objs.length:Int)-1))/\w.cell? ⟨L.H,3,none⟩=some (.int .i64 (h.live:Int))/\w.cell? ⟨L.H,4,none⟩=some (.int .i64 (h.bytes:Int))/\w.cell? ⟨L.H,5,none⟩=some (.int .i64 (h.G6:Int))/\w.cell? ⟨L.H,6,none⟩=some (.int .i64 (h.limit:Int))/\(∀ j,w.frozen? ⟨L.H,j,none⟩=false)/\L.H<w.heap.size:=by
 obtain ⟨x,y,G,a,r⟩:=p;exact ⟨a.hp.c 0,a.hp.c 2,a.hp.c 3,a.hp.c 4,a.hp.c 5,a.hp.c 6,fun j=>a.hp.ME j,a.hp.lt⟩
theorem PS.JB (p:PS base S h L w) (c:Nat):PS base S { h with G6:=c } L (w.setCell ⟨L.H,5,none⟩ (.int .i64 (c:Int)))/\Keeps w (w.setCell ⟨L.H,5,none⟩ (.int .i64 (c:Int))) S:=by
 obtain ⟨x,y,G,a,r⟩:=p;have:=a.num (h':=Hp.wk { h with G6:=c } x y) (G':=G) 5 (.int .i64 (c:Int)) (by decide) (fun _=>rfl) ⟨rfl,rfl,rfl,rfl,rfl,rfl,rfl⟩ ⟨rfl,rfl⟩ (bJ _ rfl rfl rfl rfl rfl rfl rfl rfl rfl rfl rfl rfl rfl rfl rfl rfl rfl rfl rfl);exact ⟨⟨x,y,G,this.1,r.s1,fun e=>⟨(r.s2 e).ks,(r.s2 e).sl,(r.s2 e).ku,(r.s2 e).kl,(r.s2 e).du,(r.s2 e).dl⟩,fun e=>(r.s0 e).of (fun _=>Iff.rfl),r.ol⟩,this.2⟩
theorem PS.MK (p:PS base S h L w) (b:h.state=1):∃ G,M0 base S h G L w/\MX G h/\G.ag=h.again/\G.Ns.length<=h.objs.length:=by
 obtain ⟨x,y,G,a,r⟩:=p;obtain ⟨rfl,rfl,e⟩:=r.s1 b;exact ⟨G,a,r.s0 (by omega),e,r.ol⟩
theorem PS.mk1 (a:M0 base S h G L w) (b:h.state=1) (g:MX G h) (e:G.ag=h.again) (ol:G.Ns.length<=h.objs.length):PS base S h L w:=
 ⟨h.weak,h.G8,G,a,fun _=>⟨rfl,rfl,e⟩,fun c=>by omega,fun _=>g,ol⟩
theorem qd (h:Hp) (n:Nat):h.atomic.Lv n↔h.Lv n:=
 (show h.atomic.Lv n↔h.MK.at2.at3.at4.Mi.Lv n from Iff.rfl).trans (((Np.Mi _).lv n).trans (((Np.at4 _).lv n).trans (((M7.at3 _).lv n).trans ((ou h.MK n).trans ((jM.MK h).lv n)))))
theorem uV (h:Hp):h.atomic.objs.length=h.objs.length:=by
 show h.MK.at2.at3.at4.Mi.objs.length=_;rw [(Np.Mi _).len,(Np.at4 _).len,(M7.at3 _).len,(dX h.MK).2.2.2.2.2.2.2];exact (jM.MK h).len
theorem rJ (p:PS base S h L w) (gd:Gd h) (hs:h.state≠0):
 Calls Tryz.prog 112 #[.pointer (some ⟨L.H,0,none⟩)] w fun e w'=>e=.returned (.int .i64 (h.advance.2:Int))/\∃ L',Nf L L'/\PS base S h.advance.1 L' w'/\Keeps w w' S:=by
 have c0:=p.cells.1;by_cases J:h.state=2
 ·obtain ⟨x,y,G,a,r⟩:=p
  have a0:=ah (BA a gd J (r.s2 J) (by have:=r.ol;have:=gd.s.len;omega));have v:=ah (qg J);have a2:Hq (h.Hg.objs.length=h.objs.length/\G.Ns.length<=h.objs.length):=ah ⟨(gd.Kz J).len,r.ol⟩;have Z:((h.state:Int)==2)=true:=by simp [J]
  clear a r gd J hs;go_enter Tryz.func112,Tryz.ntmps112;go_wp2_with fail;refine a0.o.mono ?_;rintro e1 w1 ⟨rfl,L1,b,u,f⟩;have H1:=ah (And.intro b (And.intro u f));clear b u f;go_wp2;go_ret;rw [v.o];obtain ⟨b,⟨G1,b1,b2,b3,b4,b5,b6⟩,f⟩:=H1.o;refine ⟨rfl,L1,b,⟨x,y,G1,b1,fun c=>?_,b2,fun c=>?_,?_⟩,f⟩
  ·exfalso
   have c':h.Hg.state=1:=c;rcases b4 with d|d<;>omega
  ·rcases b4 with d|d
   ·exact absurd d c
   ·exact b3 d
  ·have:=a2.o
   show G1.Ns.length<=h.Hg.objs.length;omega
 ·have N:h.state=1:=by have:=gd.i.st;omega
  obtain ⟨G,a,gl,C,B⟩:=p.MK N;have Z:((h.state:Int)==2)=false:=by simp;omega
  by_cases M:h.grey=[]
  ·obtain ⟨A,l,K,-⟩:=a.II (k:=11) (by simp [eF])
   rw [show eU h G 11=[] from M] at K;have D:w.cell? ⟨L.H,11,none⟩=some (.slice A 0 l):=by
    have:=a.hp.c 11;rw [this];exact congrArg some K
   have Y:=ah (fB w L.H 11 A 0 l D);rw [show (((0:Nat):Int)==0)=true from rfl] at Y;have a3:=ah (zW a (gd.Mx N) gl (by have:=gd.s.len;omega) C);have v:=ah (qm N M);have q:Hq (Nh { G with kept:=0,Ht:=0 } h.atomic h.atomic.G9/\G.Ns.length<=h.objs.length):=ah ⟨by
    refine ⟨au _,Nat.zero_le _,by simp,fun n=>?_,by simpa using gl.up,fun n=>?_⟩
    ·show n∈G.Ns.take 0↔h.atomic.Lv n/\n<1
     rw [qd];constructor
     ·intro c;simp at c
     ·rintro ⟨⟨o,ho⟩,c⟩
      rw [show n=0 by omega,gd.i.zero] at ho;cases ho
    ·show n∈G.Ns.drop 0↔h.atomic.Lv n/\1<=n
     rw [qd,List.drop_zero,gl.lv];refine ⟨fun c=>⟨c,?_⟩,fun c=>c.1⟩;rcases Nat.eq_zero_or_pos n with d|d
     ·subst d
      obtain ⟨o,ho⟩:=c;rw [gd.i.zero] at ho;cases ho
     ·exact d,B⟩
   clear a gl C B K M gd p J;go_enter Tryz.func112,Tryz.ntmps112;go_wp2_with fail;refine Y.o.mono ?_;rintro e2 w2 ⟨rfl,rfl⟩;go_wp2_with fail;refine a3.o.mono ?_;rintro e3 w3 ⟨rfl,L1,b,u,f⟩;have H1:=ah (And.intro b (And.intro u f));clear b u f;go_wp2;go_ret;rw [v.o];obtain ⟨b,⟨x,y,b1⟩,f⟩:=H1.o;refine ⟨rfl,L1,b,⟨x,y,{ G with kept:=0,Ht:=0 },b1,fun c=>?_,fun _=>q.o.1,fun c=>?_,?_⟩,f⟩
   ·exact absurd (show (2:Nat)=1 from c) (by decide)
   ·exact absurd rfl c
   ·show G.Ns.length<=h.atomic.objs.length
    rw [uV];exact q.o.2
  ·obtain ⟨z,n,j⟩:∃ z n,h.grey=z++[n]:=⟨_,_,(List.dropLast_concat_getLast M).symm⟩
   obtain ⟨g,l,K,W,V,F,R⟩:=a.pop (k:=11) (by simp [kI]) j;have D:w.cell? ⟨L.H,11,none⟩=some (.slice (some ⟨g,0,none⟩) (z.length+1) l):=by
    have:=a.hp.c 11;rw [this];exact congrArg some K
   have Q:=(gd.Mx N).k;have a4:z.length<=20000:=by
    have:=Q.s.nu;simp only [Hp.nu,Hp.mu,j,bI,List.length_singleton] at this;omega
   have Y:=ah (fB w L.H 11 (some ⟨g,0,none⟩) (z.length+1) l D);rw [show (((z.length+1:Nat):Int)==0)=false by simp;omega] at Y;have HT:=ah (kg w L.H 11 g z.length l (L.tb n) D (a.hp.ME 11) V (by omega) W);have q:=ah (qh F (Q.pop j).1 (Q.pop j).2.1 n (Q.pop j).2.2);rw [show iN h 11 z={ h with grey:=z } from rfl,<-Hp.JI j] at q;have v:=ah (pE N M);have t:=M7.take h;have E:Hq (h.take.1.state=1/\MX G h.take.1/\G.ag=h.take.1.again/\G.Ns.length<=h.take.1.objs.length):=ah ⟨t.state.trans N,gl.of (fun m=>t.lv m),C.trans t.again.symm,by rw [t.len];exact B⟩;have a1:=ah R;clear a gl C B K M gd p J j F R V Q t;go_enter Tryz.func112,Tryz.ntmps112;go_wp2_with fail;refine Y.o.mono ?_;rintro e2 w2 ⟨rfl,rfl⟩;go_wp2_with fail;refine HT.o.mono ?_;rintro e3 w3 ⟨rfl,rfl⟩;generalize w2.setCell ⟨L.H,11,none⟩ (.slice (some ⟨g,0,none⟩) z.length l)=w4 at *;go_wp2_with fail;refine q.o.mono ?_;rintro e9 w5 ⟨rfl,L5,T,X,U⟩;have P:=ah (And.intro T (And.intro X U));clear T X U q;go_wp2;go_ret;rw [v.o];exact ⟨rfl,L5,⟨P.o.1.H,P.o.1.tb,P.o.1.es,P.o.1.mp⟩,PS.mk1 P.o.2.1 E.o.1 E.o.2.1 E.o.2.2.1 E.o.2.2.2,a1.o.trans P.o.2.2⟩
end
section
variable {L:PM} {S:Nat->Prop} {base:Nat} {h:Hp} {w:World}
theorem Eb (g:Gd h) (a:h.state≠0):h.advance.2<=6000:=by
 unfold Hp.advance;split
 ·exact (by decide:1<=6000)
 ·split
  ·exact (by decide:1<=6000)
  ·exact wH h g.s
theorem Af (h:Hp) (n:Nat):h.begin.Lv n↔h.Lv n:=(M7.lv (M7.alive h.Ii) n)
theorem wS (p:PS base S h L w) (gd:Gd h) (f:h.state=0):
 Calls Tryz.prog 83 #[.pointer (some ⟨L.H,0,none⟩)] w fun e w'=>e=.returned (.tuple #[])/\∃ L',Nf L L'/\PS base S h.begin L' w'/\Keeps w w' S:=by
 obtain ⟨x,y,G,a,r⟩:=p;refine (uW a gd.s (fun n hn=>Hp.IG (gd.i.ls n (by rcases hn with c|c;exact .inl c;exact .inr (.inl c))))).mono ?_;rintro e w' ⟨rfl,L',b,d,hk⟩;have hm:=M7.alive h.Ii;exact ⟨rfl,L',b,PS.mk1 d (show h.begin.state=1 from hm.state) ⟨(r.s0 (by omega)).up,fun n=>((r.s0 (by omega)).lv n).trans (Af h n).symm⟩ (show []=h.begin.again from hm.again.symm) (by show G.Ns.length<=h.begin.objs.length;rw [show h.begin.objs.length=h.objs.length from hm.len];exact r.ol),hk⟩
theorem mE (p:PS base S h L w) (g:Gd h) (u:Int) (hu: -10000<=u/\u<=1073741824):
 Calls Tryz.prog 81 #[.pointer (some ⟨L.H,0,none⟩),.int .i64 u] w fun e w'=>e=.returned (.tuple #[])/\∃ L',Nf L L'/\PS base S (Hp.step u h) L' w'/\Keeps w w' S:=by
 have U:=p.cells.1;have X:=ah p;have Q:=ah g;have W:=ah (fun l=>wS p g l);clear p g;go_enter Tryz.func81,Tryz.ntmps81
 go_upto_if 8 with (fail)
 go_cut [1] (fun uv wc=>∃ (v:Int) (q:Hp),uv=.int .i64 v/\ -20000<=v/\v<=1073741824/\Hq (∃ L',Nf L L'/\PS base S q L' wc/\Gd q/\Keeps w wc S/\Hp.step u h=Hp.work v q))
 case first=>
  by_cases l:h.state=0
  ·have J:((h.state:Int)==0)=true:=by simp [l]
   have r:Hq (Hp.step u h=Hp.work (u-1) h.begin):=ah (by unfold Hp.step;rw [if_pos l]);have N:=ah (Q.o.begin l);have R:=ah (W.o l);clear l;go_wp2_with fail;refine R.o.mono ?_;rintro e9 w1 ⟨rfl,M,t,B,z⟩;have E:=ah (And.intro t (And.intro B z));clear t B z;go_wp2_with fail;go_meet;exact ⟨u-1,h.begin,rfl,by omega,by omega,M,E.o.1,E.o.2.1,N.o,E.o.2.2,r.o⟩
  ·have J:((h.state:Int)==0)=false:=by simp;omega
   have r:Hq (Hp.step u h=Hp.work u h):=ah (by unfold Hp.step;rw [if_neg l]);clear l;go_wp2_with fail;go_meet;exact ⟨u,h,rfl,by omega,by omega,L,Nf.refl L,X.o,Q.o,Keeps.refl _ _,r.o⟩
 case rest=>
 obtain ⟨v,q,rfl,G,F,V⟩:=hcut;rename World=>w1;clear X Q W U;go_wp2
 go_loopg [1] (v+20000).toNat (fun m uv wr=>∃ (v':Int) (d:Hp),uv=.int .i64 v'/\ -20000<=v'/\v'<=1073741824/\m=(v'+20000).toNat/\Hq (∃ L',Nf L L'/\PS base S d L' wr/\Gd d/\Keeps w wr S/\Hp.step u h=Hp.work v' d))
 case atStart=>exact ⟨v,q,rfl,G,F,rfl,V.o⟩
 case round=>
  clear V;obtain ⟨v',d,rfl,a2,a1,hm,HI⟩:=hrel;obtain ⟨M,c,b,j,i,f⟩:=HI.out;obtain ⟨E,Y,a5,Z,a0⟩:=M;obtain rfl:E=L.H:=c.H;have U:=b.cells.1;by_cases n:0<v'
  ·by_cases a:d.state=0
   ·have K:((d.state:Int) !=0)=false:=by simp [a]
    have C:=ah (Hp.Je v' d (fun x=>x.2 a));have k:=ah (And.intro b (And.intro i (And.intro f c)));clear b j i f HI a c;go_wp2;go_end0;exact ⟨rfl,_,k.o.2.2.2,by rw [k.o.2.2.1,C.o];exact k.o.1,k.o.2.1⟩
   ·have K:((d.state:Int) !=0)=true:=by simp;omega
    have C:=ah (Hp.JK v' d ⟨n,a⟩);have P:=ah (j.advance a);have a4:=Eb j a;have a3:=d.Jb;have D:=ah (rJ b j a);have k:=ah (And.intro i (And.intro f c));clear b j i f HI a c;go_wp2_with fail;refine D.o.mono ?_;rintro e9 w2 ⟨rfl,L2,s,A,y⟩;have T:=ah (And.intro s (And.intro A y));clear s A y D;go_wp2
    go_roundg (v'-(d.advance.2:Int)+20000).toNat
    case rel=>exact ⟨v'-(d.advance.2:Int),d.advance.1,rfl,by omega,by omega,rfl,L2,k.o.2.2.trans T.o.1,T.o.2.1,P.o,k.o.1.trans T.o.2.2,by rw [k.o.2.1,C.o]⟩
    case measure=>omega
  ·have C:=ah (Hp.Je v' d (fun x=>n x.1))
   have k:=ah (And.intro b (And.intro i (And.intro f c)));clear b j i f HI c;go_wp2;go_end0;exact ⟨rfl,_,k.o.2.2.2,by rw [k.o.2.2.1,C.o];exact k.o.1,k.o.2.1⟩
theorem tL (p:PS base S h L w) (g:Gd h):
 Calls Tryz.prog 82 #[.pointer (some ⟨L.H,0,none⟩)] w fun e w'=>e=.returned (.tuple #[])/\∃ L',Nf L L'/\PS base S h.finish L' w'/\Keeps w w' S:=by
 have t:=ah p;have C:=ah g;clear p g;go_enter Tryz.func82,Tryz.ntmps82;go_wp2
 go_loopg [] h.phi (fun m wr=>∃ q:Hp,Hq (m=q.phi/\q.finish=h.finish/\Gd q/\(∃ L',Nf L L'/\PS base S q L' wr)/\Keeps w wr S))
 case atStart=>exact ⟨h,rfl,rfl,C.o,⟨L,Nf.refl L,t.o⟩,Keeps.refl _ _⟩
 case round=>
  clear t;obtain ⟨q,HI⟩:=hrel;obtain ⟨A,c,b⟩:=HI.out.2.2.2.1;obtain ⟨D,u,y,v,x⟩:=A;obtain rfl:D=L.H:=c.H;have K:=b.cells.1;by_cases a:q.state=0
  ·have n:((q.state:Int) !=0)=false:=by simp [a]
   have B:Hq (h.finish=q):=ah (by rw [<-HI.out.2.1,Hp.I7 q a]);have l:=ah (And.intro c b);clear b a c;go_wp2;go_end0;exact ⟨rfl,_,l.o.1,by rw [B.o];exact l.o.2,HI.out.2.2.2.2⟩
  ·have n:((q.state:Int) !=0)=true:=by simp;omega
   have k:=ah (rJ b HI.out.2.2.1 a);have r:=ah (And.intro (Hp.Iy HI.out.2.2.1.i a) (And.intro (Hp.Jw HI.out.2.2.1.i a) (HI.out.2.2.1.advance a)));have l:=ah c;clear b a c;go_wp2_with fail;refine k.o.mono ?_;rintro J E ⟨rfl,z,d,j,f⟩;have s:=ah (And.intro d (And.intro j f));clear d j f k;go_wp2
   go_roundg q.advance.1.phi
   case rel=>exact ⟨q.advance.1,rfl,by rw [<-r.o.2.1];exact HI.out.2.1,r.o.2.2,⟨z,l.o.trans s.o.1,s.o.2.1⟩,HI.out.2.2.2.2.trans s.o.2.2⟩
   case measure=>
    have G:=HI.out.1;have F:=r.o.1;omega
theorem xJ (p:PS base S h L w) (g:Gd h):
 Calls Tryz.prog 54 #[.pointer (some ⟨L.H,0,none⟩)] w fun e w'=>e=.returned (.tuple #[])/\∃ L',Nf L L'/\PS base S h.full L' w'/\Keeps w w' S:=by
 have A:=ah (tL p g);have c:=ah g;clear p g;go_enter Tryz.func54,Tryz.ntmps54;go_wp2_with fail;refine A.o.mono ?_;rintro e1 w1 ⟨rfl,⟨x,l,t,n,r⟩,a,b,hk⟩;obtain rfl:x=L.H:=a.H;have j:=ah (And.intro a (And.intro b hk));clear a b hk;have z:=ah (wS j.o.2.1 c.o.finish c.o.i.finish.2);go_wp2_with fail;refine z.o.mono ?_;rintro D B ⟨rfl,⟨v,k,s,m,q⟩,a,b,hk⟩;obtain rfl:v=L.H:=a.H;have f:=ah (And.intro (j.o.1.trans a) (And.intro b (j.o.2.2.trans hk)));clear a b hk;have y:=ah (tL f.o.2.1 (c.o.finish.begin c.o.i.finish.2));go_wp2_with fail;refine y.o.mono ?_;rintro C w3 ⟨rfl,u,a,b,hk⟩;have d:=ah (And.intro (f.o.1.trans a) (And.intro b (f.o.2.2.trans hk)));clear a b hk;go_wp2;go_end0;exact ⟨rfl,u,d.o.1,d.o.2.1,d.o.2.2⟩
theorem yL (p:PS base S h L w):
 Calls Tryz.prog 100 #[.pointer (some ⟨L.H,0,none⟩)] w fun e w'=>e=.returned (.bool (decide (h.state=0)&&decide (h.bytes<h.limit)))/\Below w.heap.size w w':=by
 have g:=p.cells.1;have f:=p.cells.2.2.2.1;have d:=p.cells.2.2.2.2.2.1;clear p;by_cases a:h.state=0
 ·have b:((h.state:Int)==0)=true:=by simp [a]
  have c:Hq ((decide (h.state=0)&&decide (h.bytes<h.limit))=decide (h.bytes<h.limit)):=ah (by rw [a];simp);clear a;go_enter Tryz.func100,Tryz.ntmps100;go_wp2_with fail;go_quiet (fail);go_wp2;go_ret;rw [c.o];exact ⟨rfl,aC (aT _ _) _⟩
 ·have b:((h.state:Int)==0)=false:=by simp;omega
  have c:Hq ((decide (h.state=0)&&decide (h.bytes<h.limit))=false):=ah (by simp [a]);clear a;go_enter Tryz.func100,Tryz.ntmps100;go_wp2_with fail;go_quiet (fail);go_wp2;go_ret;rw [c.o];exact ⟨rfl,aC (aT _ _) _⟩
theorem xG (p:PS base S h L w) (g:Gd h):
 Calls Tryz.prog 69 #[.pointer (some ⟨L.H,0,none⟩),.int .i64 64] w fun e w'=>e=.returned (.tuple #[])/\∃ L',Nf L L'/\PS base S h.I6 L' w'/\Keeps w w' S:=by
 have HI:=ah (yL p);have E:=ah p;have N:=ah g;by_cases l:h.state=0
 ·by_cases hb:h.bytes<h.limit
  ·rw [show (decide (h.state=0)&&decide (h.bytes<h.limit))=true by simp [l,hb]] at HI
   have u:Hq (h.I6=h):=ah (by unfold Hp.I6;rw [if_pos l,if_pos hb]);clear p g l hb;go_enter Tryz.func69,Tryz.ntmps69;go_wp2_with fail;refine HI.out.mono ?_;rintro e1 w1 ⟨rfl,a⟩;have d:=ah a;clear a;go_wp2
   ((try simp only [Exit.inBlock,Exit.then]);refine bodyPost_ret (results_none rfl _ _ _) rfl ?_)
   exact ⟨rfl,L,Nf.refl L,by rw [u.o];exact E.o.low d.o,Keeps.of d.o (au _) S⟩
  ·rw [show (decide (h.state=0)&&decide (h.bytes<h.limit))=false by simp [hb]] at HI
   have u:Hq (h.I6=Hp.step 64 { h with G6:=0 }):=ah (by unfold Hp.I6;rw [if_pos l,if_neg hb]);have v:((h.state:Int)==0)=true:=by simp [l]
   clear p g l hb;go_enter Tryz.func69,Tryz.ntmps69;go_wp2_with fail;refine HI.out.mono ?_;rintro e1 w1 ⟨rfl,a⟩;have d:=ah a;have c:=ah (E.o.low a);have C:=c.o.cells.1;have J:=c.o.cells.2.2.2.2.1;have F:=c.o.cells.2.2.2.2.2.2.1 5;have n:=ah (c.o.JB 0);have j:=ah (mE n.o.1 (N.o.JB 0 (by omega)) 64 (by omega));rw [show ((0:Nat):Int)=0 from rfl] at n j;clear a;go_upto_region 3 with (fail)
   generalize w1.setCell ⟨L.H,5,none⟩ (.int .i64 0)=w2 at *;clear C J F;go_wp2_with fail;refine j.o.mono ?_;rintro V w3 ⟨rfl,K,y,B,hk⟩;have k:=ah (And.intro y (And.intro B hk));clear y B hk;go_wp2
   ((try simp only [Exit.inBlock,Exit.then]);refine bodyPost_ret (results_none rfl _ _ _) rfl ?_)
   exact ⟨rfl,K,k.o.1,by rw [u.o];exact k.o.2.1,((Keeps.of d.o (au _) S).trans n.o.2).trans k.o.2.2⟩
 ·rw [show (decide (h.state=0)&&decide (h.bytes<h.limit))=false by simp [l]] at HI
  have u:Hq (h.I6=h.Ip):=ah (by unfold Hp.I6;rw [if_neg l]);have v:((h.state:Int)==0)=false:=by simp;omega
  clear p g l;go_enter Tryz.func69,Tryz.ntmps69;go_wp2_with fail;refine HI.out.mono ?_;rintro e1 w1 ⟨rfl,a⟩;have d:=ah a;have c:=ah (E.o.low a);have C:=c.o.cells.1;clear a;go_wp2
  go_loopg [] h.G6 (fun m wr=>∃ q:Hp,Hq (m=q.G6/\q.Ip=h.Ip/\Gd q/\(∃ L',Nf L L'/\PS base S q L' wr)/\Keeps w wr S))
  case atStart=>exact ⟨h,rfl,rfl,N.o,⟨L,Nf.refl L,c.o⟩,Keeps.of d.o (au _) S⟩
  case round=>
   clear E c C v HI d;obtain ⟨q,HI⟩:=hrel;obtain ⟨W,i,b⟩:=HI.out.2.2.2.1;obtain ⟨X,P,U,Q,R⟩:=W;obtain rfl:X=L.H:=i.H;have C:=b.cells.1;have J:=b.cells.2.2.2.2.1;have F:=b.cells.2.2.2.2.2.2.1 5;have D:=ah (And.intro i b);by_cases A:256<=q.G6
   ·by_cases f:q.state=0
    ·have z:((q.G6:Int) ≥ 256):=by omega
     have G:((q.state:Int) !=0)=false:=by simp [f]
     have M:Hq (h.Ip=q):=ah (by rw [<-HI.out.2.1,Hp.IZ q (fun x=>x.2 f)]);clear b f i A;go_wp2;go_end0;exact ⟨rfl,_,D.o.1,by rw [u.o,M.o];exact D.o.2,HI.out.2.2.2.2⟩
    ·have z:((q.G6:Int) ≥ 256):=by omega
     have G:((q.state:Int) !=0)=true:=by simp;omega
     have T:=HI.out.2.2.1.s.cr;have n:=ah (b.JB (q.G6-256));have t:=HI.out.2.2.1.JB (q.G6-256) (by omega);have j:=ah (mE n.o.1 t 64 (by omega));have r:Hq (q.Ip=Hp.Ip (Hp.step 64 { q with G6:=q.G6-256 })/\(Hp.step 64 { q with G6:=q.G6-256 }).G6<q.G6/\Gd (Hp.step 64 { q with G6:=q.G6-256 })):=ah ⟨Hp.JJ q A f,by
      have:=Hp.Jc 64 { q with G6:=q.G6-256 };simp only at this;omega,t.step⟩
     rw [show ((q.G6-256:Nat):Int)=(q.G6:Int)-256 by omega] at n j;clear b f i A t;go_upto_region 6 with (fail)
     generalize wr.setCell ⟨L.H,5,none⟩ (.int .i64 ((q.G6:Int)-256))=w2 at *;clear C J F;go_wp2_with fail;refine j.o.mono ?_;rintro V w3 ⟨rfl,K,y,B,hk⟩;have k:=ah (And.intro y (And.intro B hk));clear y B hk;go_wp2
     go_roundg (Hp.step 64 { q with G6:=q.G6-256 }).G6
     case rel=>exact ⟨_,rfl,by rw [<-r.o.1];exact HI.out.2.1,r.o.2.2,⟨K,D.o.1.trans ⟨k.o.1.H,k.o.1.tb,k.o.1.es,k.o.1.mp⟩,k.o.2.1⟩,(HI.out.2.2.2.2.trans n.o.2).trans k.o.2.2⟩
     case measure=>
      have Z:=HI.out.1;have Y:=r.o.2.1;omega
   ·have z:¬ ((q.G6:Int) ≥ 256):=by omega
    have M:Hq (h.Ip=q):=ah (by rw [<-HI.out.2.1,Hp.IZ q (fun x=>A x.1)]);clear b i A;go_wp2;go_end0;exact ⟨rfl,_,D.o.1,by rw [u.o,M.o];exact D.o.2,HI.out.2.2.2.2⟩
end
end Go.Proofs.YtbpcdfbmnklcjaaGreatDoor
namespace Go.Proofs.YtbpcdfbmnklcjaaGreatDoor
open Go Go.RowKit Go.WideMaps
open Go.ChangeMaps (setBlock)
set_option linter.unusedVariables false
section
variable {S:Nat->Prop} {es:List En} {j:Nat} {w w':World}
structure Na (ents:List MapEntry) (R:HV->Nat->Prop):Prop where
 tt:∀ m∈ents,∃ k i,R k i/\k.isSome=true/\m.key=jR k/\m.val=.int .i64 (i:Nat)
 Mv:∀ k i,R k i->k.isSome=true->∃ m∈ents,m.key=jR k
 nd:ents.Pairwise (fun a b=>a.key≠b.key)
 kk:∀ k i,R k i->oW k
 fn:∀ k i j,R k i->R k j->k.isSome=true->i=j
def mW (es:List En) (k:HV) (i:Nat):Prop:=∃ e,es[i]?=some e/\e.1=k
theorem M_.p {ents:List MapEntry} (c:M_ ents es):Na ents (mW es):=by
 refine ⟨fun m hm=>?_,fun k i hr hs=>?_,c.nd,fun k i hr=>?_,fun k i j a h2 hs=>?_⟩
 ·obtain ⟨i,e,b,h,g,f⟩:=c.tt m hm
  exact ⟨e.1,i,⟨e,b,rfl⟩,h,g,f⟩
 ·obtain ⟨e,a,rfl⟩:=hr
  exact c.Mv i e a hs
 ·obtain ⟨e,a,rfl⟩:=hr
  exact c.kk e (aX a)
 ·obtain ⟨e,b,rfl⟩:=a
  obtain ⟨d,b1,b2⟩:=h2;exact c.kd i j e d b b1 hs b2.symm
theorem Na.c {ents:List MapEntry} (p:Na ents (mW es)):M_ ents es:=by
 refine ⟨fun m hm=>?_,fun i e he hs=>p.Mv e.1 i ⟨e,he,rfl⟩ hs,p.nd,fun e he=>?_,fun i j x y hx hy hs hxy=>p.fn x.1 i j ⟨x,hx,rfl⟩ ⟨y,hy,hxy.symm⟩ hs⟩
 ·obtain ⟨k,i,⟨e,a,rfl⟩,f,d,b⟩:=p.tt m hm
  exact ⟨i,e,a,f,d,b⟩
 ·obtain ⟨i,hi⟩:=List.mem_iff_getElem?.1 he
  exact p.kk e.1 i ⟨e,hi,rfl⟩
theorem Na.congr {ents:List MapEntry} {R R':HV->Nat->Prop} (p:Na ents R) (c:∀ k i,k.isSome=true->(R' k i↔R k i)):Na ents R':=by
 refine ⟨fun m hm=>?_,fun k i hr hs=>p.Mv k i ((c k i hs).1 hr) hs,p.nd,fun k i hr=>?_,fun k i j a b hs=>p.fn k i j ((c k i hs).1 a) ((c k j hs).1 b) hs⟩
 ·obtain ⟨k,i,f,d,e⟩:=p.tt m hm
  exact ⟨k,i,(c k i d).2 f,d,e⟩
 ·cases hk:k with
  |none=>trivial
  |some x=>rw [<-hk];exact p.kk k i ((c k i (by rw [hk];rfl)).1 hr)
theorem Na.find {ents:List MapEntry} {R:HV->Nat->Prop} (c:Na ents R) (w:World) {k:HV} (hk:oW k):
 ((Instr.findKey 194 (jR k) ents).run Tryz.prog w=.ok none w/\(k.isSome=true->∀ i,¬ R k i)/\∀ m∈ents,m.key≠jR k)∨∃ j m i,(Instr.findKey 194 (jR k) ents).run Tryz.prog w=.ok (some (j,m.val)) w/\ents[j]?=some m/\m.key=jR k/\m.val=.int .i64 (i:Nat)/\R k i/\k.isSome=true:=by
 obtain ⟨l,n⟩:=Dw hk;have a:∀ m∈ents,∃ l,keyOf Tryz.prog 194 m.key=some l:=by
  intro m hm;obtain ⟨f,i,d,_,e,_⟩:=c.tt m hm;rw [e];exact Dw (c.kk f i d)
 rcases qV.find w n ents a with ⟨d,b⟩|⟨j,m,d,b,e⟩
 ·refine .inl ⟨d,fun hs i hr=>?_,b⟩
  obtain ⟨m,hm,g⟩:=c.Mv k i hr hs;exact b m hm g
 ·obtain ⟨f,i,r,q,p,o⟩:=c.tt m (aX b)
  have h:f=k:=lT (p.symm.trans e);subst h;exact .inr ⟨j,m,i,d,b,e,o,r,q⟩
def kZ (w:World) (b:Nat) (R:HV->Nat->Prop):Prop:=∃ ents clk,w.heap[b]?=some (.map ents clk)/\Na ents.toList R
theorem kZ.lt {b:Nat} {R:HV->Nat->Prop} (h:kZ w b R):b<w.heap.size:=by
 obtain ⟨d,e,a,_⟩:=h;rcases Nat.lt_or_ge b w.heap.size with c|c
 ·exact c
 ·rw [Array.getElem?_eq_none c] at a;cases a
theorem kZ.keep {b:Nat} {R:HV->Nat->Prop} (h:kZ w b R) (k:Keeps w w' S) (d:¬ S b):kZ w' b R:=by
 have e:=h.lt;obtain ⟨a,c,g,f⟩:=h;exact ⟨a,c,(k.block b e d).trans g,f⟩
theorem kZ.congr {w:World} {b:Nat} {R R':HV->Nat->Prop} (h:kZ w b R) (f:∀ k i,k.isSome=true->(R' k i↔R k i)):kZ w b R':=by
 obtain ⟨a,c,e,d⟩:=h;exact ⟨a,c,e,d.congr f⟩
theorem kZ.a {b:Nat} (h:kZ w b (mW es)):ni w (.map (some b)) es:=by
 obtain ⟨d,e,g,f⟩:=h;exact .inr ⟨b,d,e,rfl,g,f.c⟩
theorem Dv {ents:List MapEntry} (nd:ents.Pairwise (fun a b=>a.key≠b.key)) {q:Nat} {m m':MapEntry} (h:ents[j]?=some m) (g:ents[q]?=some m') (k:q≠j):m'.key≠m.key:=by
 intro e;have d:=(aJ.1 g).1;have f:=(aJ.1 h).1;have e1:=(aJ.1 g).2;have i:=(aJ.1 h).2;have hp:=List.pairwise_iff_getElem.1 nd;rcases Nat.lt_or_ge q j with c|c
 ·exact hp q j d f c (by rw [e1,i];exact e)
 ·exact hp j q f d (by omega) (by rw [e1,i];exact e.symm)
theorem Bw {b:Nat} {R:HV->Nat->Prop} (h:kZ w b R) {k:HV} (hk:oW k) (B:TypeId):∃ w1,(Builtin.delete_ #[132,194] B #[.map (some b),jR k]).run Tryz.prog w=.ok (.tuple #[]) w1/\kZ w1 b (fun k' i=>R k' i/\k'≠k)/\Keeps w w1 (fun c=>c=b)/\w1.heap.size=w.heap.size:=by
 obtain ⟨d,f,hb,g⟩:=h;obtain ⟨l,F⟩:=Dw hk;have s:=qV.check w d.isEmpty F;rcases g.find w hk with ⟨z,n,y⟩|⟨j,m,i,z,n,y,N,M,L⟩
 ·refine ⟨setBlock w b (.map d f),?_,⟨d,f,fT hb,g.congr (fun k' i hs=>⟨fun e=>e.1,fun e=>⟨e,fun c=>?_⟩⟩)⟩,eD w b _,by simp [setBlock]⟩
  ·simp [Builtin.delete_,run_underlying Tryz.underlying132,MapKept.run_getObj_map hb,s,z,MapKept.run_setObj_map _ hb,Result.andThen,setBlock]
  ·subst c
   exact n hs i e
 ·have x:=(aJ.1 n).1
  refine ⟨setBlock w b (.map (d.eraseIdxIfInBounds j) f),?_,⟨_,f,fT hb,?_⟩,eD w b _,by simp [setBlock]⟩
  ·simp [Builtin.delete_,run_underlying Tryz.underlying132,MapKept.run_getObj_map hb,s,z,MapKept.run_setObj_map _ hb,Result.andThen,setBlock]
  ·have u:(d.eraseIdxIfInBounds j).toList=d.toList.eraseIdx j:=by
    have r:j<d.size:=by simpa using x
    rw [Array.eraseIdxIfInBounds,dif_pos r,Array.toList_eraseIdx]
   rw [u];refine ⟨fun t hm'=>?_,fun k' i' hr hs=>?_,g.nd.sublist (List.eraseIdx_sublist _ _),fun k' i' hr=>g.kk k' i' hr.1,fun k' i' j' a b hs=>g.fn k' i' j' a.1 b.1 hs⟩
   ·obtain ⟨q,v,o⟩:=List.mem_eraseIdx_iff_getElem?.1 hm'
    obtain ⟨D,E,K,J,A,H⟩:=g.tt t (aX o);refine ⟨D,E,⟨K,fun c=>?_⟩,J,A,H⟩;subst c;exact Dv g.nd n o v (A.trans y.symm)
   ·obtain ⟨t,b1,b2⟩:=g.Mv k' i' hr.1 hs
    refine ⟨t,?_,b2⟩;obtain ⟨C,p,rfl⟩:=List.getElem_of_mem b1;refine List.mem_eraseIdx_iff_getElem?.2 ⟨C,?_,aN p⟩;intro G;subst G;rw [aN p] at n;cases n;exact hr.2 (lT (b2.symm.trans y))
theorem AY {b:Nat} {R:HV->Nat->Prop} (h:kZ w b R) {k:HV} (hk:oW k) (P:k.isSome=true) (v:Nat):∃ w1,(Instr.mapUpdate 132 (.map (some b)) (jR k) (.int .i64 (v:Int))).run Tryz.prog w=.ok () w1/\kZ w1 b (fun k' i=>(k'=k/\i=v)∨(k'≠k/\R k' i))/\Keeps w w1 (fun c=>c=b)/\w1.heap.size=w.heap.size:=by
 obtain ⟨f,z,hb,n⟩:=h;obtain ⟨l,Q⟩:=Dw hk;have C:=qV.check w false Q;rcases n.find w hk with ⟨K,r,u⟩|⟨j,m,i,K,r,u,W,V,U⟩
 ·refine ⟨setBlock w b (.map (f.push ⟨jR k,.int .i64 (v:Int),z⟩) (z+1)),?_,⟨_,_,fT hb,?_⟩,eD w b _,by simp [setBlock]⟩
  ·simp [Instr.mapUpdate,run_underlying Tryz.underlying132,MapKept.run_getObj_map hb,C,K,MapKept.run_setObj_map _ hb,Result.andThen,setBlock]
  ·rw [Array.toList_push]
   refine ⟨fun o hm'=>?_,fun k' i' hr hs'=>?_,?_,fun k' i' hr=>?_,fun k' i' j' a b hs'=>?_⟩
   ·rcases eT.1 hm' with c|c
    ·obtain ⟨E,F,N,M,D,L⟩:=n.tt o c
     exact ⟨E,F,.inr ⟨fun d=>u o c (by rw [D,d]),N⟩,M,D,L⟩
    ·simp at c
     subst c;exact ⟨k,v,.inl ⟨rfl,rfl⟩,P,rfl,rfl⟩
   ·rcases hr with ⟨rfl,rfl⟩|⟨_,d⟩
    ·exact ⟨_,List.mem_append_right _ (List.mem_singleton.2 rfl),rfl⟩
    ·obtain ⟨o,b1,b2⟩:=n.Mv k' i' d hs'
     exact ⟨o,List.mem_append_left _ b1,b2⟩
   ·rw [List.pairwise_append]
    refine ⟨n.nd,List.pairwise_singleton _ _,fun a ha b' hb'=>?_⟩;simp at hb';subst hb';exact u a ha
   ·rcases hr with ⟨rfl,rfl⟩|⟨_,d⟩
    ·exact hk
    ·exact n.kk k' i' d
   ·rcases a with ⟨rfl,rfl⟩|⟨c,d⟩<;>rcases b with ⟨e1,y⟩|⟨e1,y⟩
    ·exact y.symm
    ·exact absurd rfl e1
    ·exact absurd e1 c
    ·exact n.fn k' i' j' d y hs'
 ·have T:f[j]?=some m:=by simpa using r
  have H:=qV.stays w Q;have s:(f.modify j (fun e'=>{ e' with key:=jR k,val:=.int .i64 (v:Int) })).toList=f.toList.set j { m with key:=jR k,val:=.int .i64 (v:Int) }:=by
   rw [Array.toList_modify];refine List.ext_getElem? (fun q=>?_);rw [List.getElem?_modify,gD];by_cases c:j=q
   ·subst c
    have t:=(aJ.1 r).1;rw [r,if_pos rfl,if_pos t];simp
   ·simp [c]
  have t:=(aJ.1 r).1;refine ⟨setBlock w b (.map (f.modify j (fun e'=>{ e' with key:=jR k,val:=.int .i64 (v:Int) })) z),?_,⟨_,_,fT hb,?_⟩,eD w b _,by simp [setBlock]⟩
  ·simp [Instr.mapUpdate,run_underlying Tryz.underlying132,MapKept.run_getObj_map hb,C,K,T,u,H,MapKept.run_setObj_map _ hb,Result.andThen,setBlock]
  ·rw [s]
   refine ⟨fun o hm'=>?_,fun k' i' hr hs'=>?_,?_,fun k' i' hr=>?_,fun k' i' j' a b hs'=>?_⟩
   ·obtain ⟨q,g⟩:=List.mem_iff_getElem?.1 hm'
    rw [gD] at g;split at g
    ·simp at g
     obtain ⟨_,rfl⟩:=g;exact ⟨k,v,.inl ⟨rfl,rfl⟩,P,rfl,rfl⟩
    ·rename_i c
     obtain ⟨E,F,N,M,D,L⟩:=n.tt o (aX g);exact ⟨E,F,.inr ⟨fun d=>Dv n.nd r g (fun x=>c x.symm) (by rw [D,u,d]),N⟩,M,D,L⟩
   ·rcases hr with ⟨rfl,rfl⟩|⟨e,d⟩
    ·exact ⟨_,List.mem_iff_getElem?.2 ⟨j,dY t⟩,rfl⟩
    ·obtain ⟨o,b1,b2⟩:=n.Mv k' i' d hs'
     obtain ⟨q,g⟩:=List.mem_iff_getElem?.1 b1;refine ⟨o,List.mem_iff_getElem?.2 ⟨q,?_⟩,b2⟩;rw [gD,if_neg ?_]
     ·exact g
     ·intro c
      subst c;rw [r] at g;cases g;exact e (lT (b2.symm.trans u))
   ·rw [List.pairwise_iff_getElem]
    intro p q hp g J;have B:p<f.toList.length:=by simpa using hp
    have A:q<f.toList.length:=by simpa using g
    have key:∀ x (hx:x<(f.toList.set j { m with key:=jR k,val:=.int .i64 (v:Int) }).length) (G:x<f.toList.length),(f.toList.set j { m with key:=jR k,val:=.int .i64 (v:Int) })[x].key=f.toList[x].key:=by
     intro x hx G;rw [List.getElem_set];split
     ·rename_i c
      subst c;have:=(aJ.1 r).2;rw [this,u]
     ·rfl
    rw [key p hp B,key q g A];exact List.pairwise_iff_getElem.1 n.nd p q B A J
   ·rcases hr with ⟨rfl,rfl⟩|⟨_,d⟩
    ·exact hk
    ·exact n.kk k' i' d
   ·rcases a with ⟨rfl,rfl⟩|⟨c,d⟩<;>rcases b with ⟨e1,y⟩|⟨e1,y⟩
    ·exact y.symm
    ·exact absurd rfl e1
    ·exact absurd e1 c
    ·exact n.fn k' i' j' d y hs'
end
end Go.Proofs.YtbpcdfbmnklcjaaGreatDoor
namespace Go.Proofs.YtbpcdfbmnklcjaaGreatDoor
open Go Go.RowKit
set_option maxHeartbeats 6400000
set_option maxRecDepth 100000
set_option linter.unusedVariables false
section
variable {K:Act->World->Prop} {Q:Exit->Act->World->Prop} {a:Act} {base cap i t:Nat} {f:Nat->Value} {ms:List En} {tb:Nat->Nat} {v:Value} {w w':World}
attribute [local go_sem] bW
def tV (o:Ob) (n:Nat) (sz:Int) (es:List En) (ev mv:Value) (k:Nat):Value:=if k=2 then .int .i64 sz else if k=9 then .int .i64 (aZ es) else nM o n ev mv k
structure M4 (base:Nat) (tb:Nat->Nat) (t n:Nat) (o:Ob) (sz:Int) (es:List En) (ev mv:Value) (w:World):Prop where
 r:aD w 136 t 13 (tV o n sz es ev mv)
 e:w.ownsRow base 167 10 ev es.length (jg tb es)
 m:ni w mv es
def Hd (tb:Nat->Nat) (w:World) (v:HV):Prop:=∀ m,v=some (.inr m)->∃ f,aD w 136 (tb m) 13 f/\f 1=.int .i64 (m:Int)
theorem Hd.c {v:HV} (h:Hd tb w v):∀ m,v=some (.inr m)->w.cell? ⟨tb m,1,none⟩=some (.int .i64 (m:Int)):=by
 intro m hm;obtain ⟨f,d,b⟩:=h m hm;rw [d.c 1,b]
theorem Hd.keep {tb:Nat->Nat} {w w':World} {v:HV} {S:Nat->Prop} (h:Hd tb w v) (k:Keeps w w' S) (d:∀ b f,aD w 136 b 13 f->¬ S b):Hd tb w' v:=by
 intro m hm;obtain ⟨f,c,e⟩:=h m hm;exact ⟨f,c.keep k (d _ _ c),e⟩
theorem Hd.low {v:HV} (h:Hd tb w v) (k:Below w.heap.size w w'):Hd tb w' v:=h.keep (Keeps.of k (au _) (fun _=>False)) (fun _ _ _ e=>e)
theorem iA (k:w.ownsRow base 167 10 v ms.length (jg tb ms)):∃ A cap,v=.slice A ms.length cap/\ms.length<=cap/\∀ i e,ms[i]?=some e->∃ g,A=some ⟨g,0,none⟩/\g<w.heap.size/\∀ j u,(jG tb e)[j]?=some u->w.cell? ⟨g,i*10+j,none⟩=some u:=by
 obtain ⟨A,cap,h⟩:=aF k;refine ⟨A,cap,h,?_,fun i e hi=>?_⟩
 ·rcases k.2 with ⟨q,p⟩|⟨g,d,l,b,_,_,o,_⟩
  ·omega
  ·rw [h] at b
   simp only [Value.slice.injEq] at b;omega
 ·have n:=(aJ.1 hi).1
  rcases k.2 with ⟨q,p⟩|⟨g,d,l,b,_,_,o,_⟩
  ·omega
  ·rw [h] at b
   simp only [Value.slice.injEq] at b;have hr:=ay k (g:=g) (by rw [h,b.1];simp [Value.ownBlock]);refine ⟨g,b.1,hr.lt,fun j u hu=>?_⟩;have m:j<10:=(aJ.1 hu).1;rw [hr.c (i*10+j),bq];unfold jg;rw [eX (jG tb) 10 (fun _=>rfl) ms i j e hi m,hu];rfl
theorem xY {o:Oper} (m x:Operand)
 (ho:o.op=.call { callee:=.builtin .delete,args:=#[m,x],argTypes:=#[132,194] }) (b:Nat) (R:HV->Nat->Prop) (k:HV) (hm:a.eval m=.map (some b)) (hx:a.eval x=jR k) (d:kZ w b R) (hk:oW k)
 (h:∀ w',kZ w' b (fun k' i=>R k' i/\k'≠k)->Keeps w w' (fun c=>c=b)->w'.heap.size=w.heap.size->K (a.put o.dst (.tuple #[])) w'):Oper.wp Tryz.prog o a w K Q:=by
 obtain ⟨w1,l,j,g,e⟩:=Bw d hk o.type;unfold Oper.wp execOp;simp only [ho,resolve,invoke,builtin,Sem.run_bind,Sem.run_pure,Result.andThen_ok,List.map_toArray,List.map_cons,List.map_nil,hm,hx,l];exact h w1 j g e
theorem Ap {g:Nat} {e:En} (h:w.ownsRow base 167 10 (.slice (some ⟨g,0,none⟩) ms.length cap) ms.length (jg tb ms)) (hi:ms[i]?=some e):
 World.ownsRow (((((w.setCell ⟨g,i*10,none⟩ (.int .i64 0)).setCell ⟨g,i*10+1,none⟩ (.int .i64 0)).setCell ⟨g,i*10+2,none⟩ (.int .u64 0)).setCell ⟨g,i*10+3,none⟩ (.string ByteArray.empty)).setCell ⟨g,i*10+4,none⟩ .nilIface) base 167 10 (.slice (some ⟨g,0,none⟩) ms.length cap) ms.length (jg tb (ms.set i (none,e.2)))/\
 Keeps w (((((w.setCell ⟨g,i*10,none⟩ (.int .i64 0)).setCell ⟨g,i*10+1,none⟩ (.int .i64 0)).setCell ⟨g,i*10+2,none⟩ (.int .u64 0)).setCell ⟨g,i*10+3,none⟩ (.string ByteArray.empty)).setCell ⟨g,i*10+4,none⟩ .nilIface) (fun b=>b=g):=by
 have d:=(aJ.1 hi).1;have c:=aL (aL (aL (aL (aL h (show i*10<ms.length*10 by omega) (.int .i64 0)) (show i*10+1<ms.length*10 by omega) (.int .i64 0)) (show i*10+2<ms.length*10 by omega) (.int .u64 0)) (show i*10+3<ms.length*10 by omega) (.string ByteArray.empty)) (show i*10+4<ms.length*10 by omega) .nilIface;rw [rR tb hi] at c;exact ⟨c,Keeps.setCell (S:=fun b=>b=g) (Keeps.setCell (S:=fun b=>b=g) (Keeps.setCell (S:=fun b=>b=g) (Keeps.setCell (S:=fun b=>b=g) (Keeps.setCell (S:=fun b=>b=g) (Keeps.refl w (fun b=>b=g)) rfl (.int .i64 0)) rfl (.int .i64 0)) rfl (.int .u64 0)) rfl (.string ByteArray.empty)) rfl .nilIface⟩
theorem zC {b g:Nat} {R:HV->Nat->Prop} (hr:aD w 136 t 13 f) (V:f 7=.slice (some ⟨g,0,none⟩) ms.length cap) (U:f 8=.map (some b)) (F:w.ownsRow base 167 10 (.slice (some ⟨g,0,none⟩) ms.length cap) ms.length (jg tb ms)) (E:kZ w b R) {e:En} (hi:ms[i]?=some e) (hk:oW e.1) (hd:Hd tb w e.1) (P:ms.length<=5000):
 Calls Tryz.prog 137 #[.pointer (some ⟨t,0,none⟩),.int .i64 (i:Int)] w fun e' w'=>e'=.returned (.tuple #[])/\w'.ownsRow base 167 10 (.slice (some ⟨g,0,none⟩) ms.length cap) ms.length (jg tb (ms.set i (none,e.2)))/\kZ w' b (fun k' j=>R k' j/\k'≠e.1)/\Keeps w w' (fun c=>c=g∨c=b):=by
 have a0:i<ms.length:=(aJ.1 hi).1;have S:(i:Int)<(ms.length:Int):=by omega
 obtain ⟨A',Z,C,T,s⟩:=iA F;obtain ⟨g',B,h,d⟩:=s i e hi;simp only [Value.slice.injEq,true_and] at C;obtain ⟨hA,hc⟩:=C;subst hc;rw [B] at hA;simp only [Option.some.injEq,Addr.mk.injEq,and_true] at hA;subst hA;have r:=hr.lt;have x:=ay F (g:=g) (by simp [Value.ownBlock]);have a1:=E.lt;have n:b≠g:=fun c=>by
  obtain ⟨en,ck,y,_⟩:=E;obtain ⟨M,L,_⟩:=x;rw [c] at y;rw [L] at y;cases y
 have D:b≠t:=fun c=>by
  obtain ⟨en,ck,y,_⟩:=E;obtain ⟨M,L,_⟩:=hr;rw [c] at y;rw [L] at y;cases y
 have HT:=ah (fun (w':World) (hb:Below w.heap.size w w')=>(hd.low hb).c);have HM:=ah (fun (w':World) (hb:Below w.heap.size w w')=>E.keep (Keeps.of hb (au _) (fun _=>False)) (fun e=>e));have c7:w.cell? ⟨t,7,none⟩=some (.slice (some ⟨g,0,none⟩) ms.length cap):=by rw [hr.c 7,V]
 have c8:w.cell? ⟨t,8,none⟩=some (.map (some b)):=by rw [hr.c 8,U]
 have d0:=d 0 _ rfl;have d1:=d 1 _ rfl;have Y:=d 2 _ rfl;have X:=d 3 _ rfl;have W:=d 4 _ rfl;simp only [Nat.add_zero] at d0;have HK:=ah hk;have HE:=ah F;have HI:=ah hi;have N:=ah x;clear hr V U F E hi hk hd s d B x;go_enter Tryz.func137,Tryz.ntmps137;go_wp2_with fail
 go_region_held3 (fun w'=>w'.cell? ⟨t,7,none⟩=some (.slice (some ⟨g,0,none⟩) ms.length cap)/\w'.cell? ⟨t,8,none⟩=some (.map (some b))/\w'.cell? ⟨g,i*10,none⟩=some (.int .i64 (vk e.1))/\w'.cell? ⟨g,i*10+1,none⟩=some (.int .i64 (vi e.1))/\w'.cell? ⟨g,i*10+2,none⟩=some (.int .u64 0)/\w'.cell? ⟨g,i*10+3,none⟩=some (.string ByteArray.empty)/\w'.cell? ⟨g,i*10+4,none⟩=some (aK tb e.1)) (go_keep)
  (first
    |(refine iD (.tmp 15) rfl tb e.1 rfl (HT.o _ (aC (aT _ _) _)) ?_
      intro w9 u;have l:Below w.heap.size w w9:=(aC (aT w.heap.size w) _).trans u;have m:=ah l;have t0:=(l.cell (p:=⟨t,7,none⟩) r).trans c7;have t1:=(l.cell (p:=⟨t,8,none⟩) r).trans c8;have t2:=(l.cell (p:=⟨g,i*10,none⟩) h).trans d0;have t3:=(l.cell (p:=⟨g,i*10+1,none⟩) h).trans d1;have t4:=(l.cell (p:=⟨g,i*10+2,none⟩) h).trans Y;have t5:=(l.cell (p:=⟨g,i*10+3,none⟩) h).trans X;have t6:=(l.cell (p:=⟨g,i*10+4,none⟩) h).trans W;clear l u)
    |(refine xY (.tmp 7) (.tmp 16) rfl b R e.1 rfl rfl (HM.o _ m.o) HK.o ?_
      intro H A k J;have u0:=(bM (a:=⟨t,7,none⟩) (k.block _ (aW r m.o.size) D.symm)).trans t0;have u1:=(bM (a:=⟨t,8,none⟩) (k.block _ (aW r m.o.size) D.symm)).trans t1;have u2:=(bM (a:=⟨g,i*10,none⟩) (k.block _ (aW h m.o.size) n.symm)).trans t2;have u3:=(bM (a:=⟨g,i*10+1,none⟩) (k.block _ (aW h m.o.size) n.symm)).trans t3;have u4:=(bM (a:=⟨g,i*10+2,none⟩) (k.block _ (aW h m.o.size) n.symm)).trans t4;have u5:=(bM (a:=⟨g,i*10+3,none⟩) (k.block _ (aW h m.o.size) n.symm)).trans t5;have u6:=(bM (a:=⟨g,i*10+4,none⟩) (k.block _ (aW h m.o.size) n.symm)).trans t6;have G:=ah (show kZ H b (fun k' j=>R k' j/\k'≠e.1)/\Keeps w H (fun c=>c=b) from ⟨A,(Keeps.of m.o (au _) _).trans k⟩);clear A k J))
 have zz:∀ j,H.frozen? ⟨g,j,none⟩=false:=fun j=>(N.o.keep G.o.2 n.symm).ME j;have z:=ah (Ap (aj HE.o G.o.2 (fun q hq c=>by
  simp [Value.ownBlock] at hq;exact n (c.symm.trans hq.symm))) HI.out)
 clear c7 c8 d0 d1 Y X W;go_wp2;go_end0;exact ⟨rfl,z.o.1,G.o.1.keep z.o.2 n,(G.o.2.mono (fun c e=>.inr e)).trans (z.o.2.mono (fun c e=>.inl e))⟩
end
end Go.Proofs.YtbpcdfbmnklcjaaGreatDoor
namespace Go.Proofs.YtbpcdfbmnklcjaaGreatDoor
open Go Go.RowKit Go.WideMaps
open Go.ChangeMaps (setBlock)
set_option maxHeartbeats 6400000
set_option maxRecDepth 100000
set_option linter.unusedVariables false
section
variable {K:Act->World->Prop} {Q:Exit->Act->World->Prop} {a:Act} {base n t:Nat} {es:List En} {ev mv:Value} {f:Nat->Value} {o:Ob} {sz:Int} {tb:Nat->Nat} {w wr:World}
attribute [local go_sem] bW
theorem qP (h:ni w mv es) {k:HV} (hk:oW k) (z:k.isSome=true):
 (Instr.lookup 132 mv (jR k) true).run Tryz.prog w=.ok (match kG es k with
   |some i=>.tuple #[.int .i64 (i:Int),.bool true]
   |none=>.tuple #[.int .i64 0,.bool false]) w:=by
 obtain ⟨l,x⟩:=Dw hk;rcases h with ⟨rfl,rfl⟩|⟨b,u,G,rfl,hb,A⟩
 ·have d:=qV.check w true x
  have D:(Instr.findKey 194 (jR k) []).run Tryz.prog w=.ok none w:=by
   rcases qV.find w x [] (fun m hm=>by simp at hm) with ⟨q,_⟩|⟨j,m,q,v,C⟩
   ·exact q
   ·simp at v
  simp [Instr.lookup,run_underlying Tryz.underlying132,d,D,Result.andThen,kG]
 ·have d:=qV.check w u.isEmpty x
  rcases A.p.find w hk with ⟨q,v,C⟩|⟨j,m,i,q,v,C,F,⟨e,B,s⟩,H⟩
  ·have g:kG es k=none:=by
    unfold kG;rw [List.findIdx?_eq_none_iff];intro e E;obtain ⟨i,hi⟩:=List.mem_iff_getElem?.1 E;rw [iG];simp only [decide_eq_false_iff_not];exact fun c=>v z i ⟨e,hi,c⟩
   rw [g];simp [Instr.lookup,run_underlying Tryz.underlying132,MapKept.run_getObj_map hb,d,q,Result.andThen]
  ·have g:kG es k=some i:=by
    unfold kG;obtain ⟨r,y⟩:=aJ.1 B;rw [List.findIdx?_eq_some_iff_getElem];refine ⟨r,by rw [y,iG];simpa using s,fun p hp=>?_⟩;rw [iG];simp only [decide_eq_true_eq];intro c;have:=A.kd p i _ e (aN (Nat.lt_trans hp r)) B (by rw [c];exact z) (c.trans s.symm);omega
   rw [g];simp [Instr.lookup,run_underlying Tryz.underlying132,MapKept.run_getObj_map hb,d,q,F,Result.andThen]
theorem qW {o:Oper} (s x:Operand) (G T size bytes:Nat) (z:Value)
 (ho:o.op=.call { callee:=.builtin .append,args:=#[s,x],argTypes:=#[G,G] }) (S:Tryz.prog.underlying G=some (.slice T)) (X:(Tryz.prog.info? T).map (fun i=>(i.zero,i.size,i.bytes))=some (some z,size,bytes)) (M:z.cells.size=size) (C:0<size)
 (base:Nat) (v:Value) (n:Nat) (q d:List Value) (hown:wr.ownsRow base T size v n q) (V:a.eval s=v) (hx:a.eval x=.slice (some ⟨wr.heap.size,0,none⟩) 1 1) (E:d.length=size) (U:∀ u∈d,u.oneCell'=true)
 (m:(n+1)*bytes<=140737488355328) (J:0<bytes) (p:base<=wr.heap.size)
 (h:∀ v' w',w'.ownsRow base T size v' (n+1) (q++d)->Keeps wr w' (fun b=>v.ownBlock=some b)->(∀ g,v'.ownBlock=some g->v.ownBlock=some g∨wr.heap.size<=g)->K (a.put o.dst v') w'):
 Oper.wp Tryz.prog o a (wr.alloc (.cells d.toArray T)).drew K Q:=by
 obtain ⟨L,hi,B,A,r⟩:=info_parts X;have N:n+1<=140737488355328:=aI (Nat.le_mul_of_pos_right _ J) m;have c:Below wr.heap.size wr (wr.alloc (.cells d.toArray T)).drew:=(aU wr _).drew;have k:(wr.alloc (.cells d.toArray T)).drew.ownsRow base T size v n q:=aj hown (Keeps.of c (au _) (fun _=>False)) (fun _ _ x=>x);have D:aD (wr.alloc (.cells d.toArray T)).drew T wr.heap.size size (fun j=>d.toArray.getD j (.bool false)):=by
  have:=aD.mk' wr T d.toArray;rw [show d.toArray.size=size by simpa using E] at this;exact this
 have l:∀ j u,d[j]?=some u->(wr.alloc (.cells d.toArray T)).drew.cell? ((⟨wr.heap.size,0,none⟩:Addr).add j)=some u:=by
  intro j u R;have H:j<size:=by rw [<-E];exact (aJ.1 R).1
  rw [bL];have:=D.cell (j:=j) H;rw [show (⟨wr.heap.size,0+j,none⟩:Addr)=⟨wr.heap.size,j,none⟩ by rw [Nat.zero_add],this];have W:d.toArray.getD j (.bool false)=u:=by
   rw [Array.getD_eq_getD_getElem?,List.getElem?_toArray,R];rfl
  rw [W]
 obtain ⟨v',w',hr,Z,F,h4⟩:=run_append_own (P:=Tryz.prog) (wr.alloc (.cells d.toArray T)).drew base G o.type T L z size bytes S hi B A r M C v n q k ⟨wr.heap.size,0,none⟩ 1 1 d (by omega) l U (by unfold maxLen;omega) m (aI p c.size);have Y:=fG (wr.alloc (.cells d.toArray T)).drew base G o.type T L z size bytes S hi B A r M C v n q k ⟨wr.heap.size,0,none⟩ 1 1 d (by omega) l U (by unfold maxLen;omega) m (by omega) hr;unfold Oper.wp execOp;simp only [ho,resolve,invoke,builtin,Sem.run_bind,Sem.run_pure,Result.andThen_ok,List.map_toArray,List.map_cons,List.map_nil,V,hx,hr];refine h v' w' Z ?_ (fun g e=>?_)
 ·refine ⟨F.os.trans c.os,F.tape.trans c.tape,F.output.trans c.output,aI c.size F.size,fun b hb N=>?_⟩
  exact (F.block b (aW hb c.size) (fun e=>N e.symm)).trans (c.block b hb)
 ·rcases Y g e with y|y
  ·exact .inl y
  ·right
   have:=c.size;omega
theorem Aq:(Tryz.prog.info? 167).map (fun i=>(i.zero,i.size,i.bytes))=some (some (.agg #[.int .i64 0,.int .i64 0,.int .u64 0,.string ByteArray.empty,.nilIface,.int .i64 0,.int .i64 0,.int .u64 0,.string ByteArray.empty,.nilIface]),10,112):=by kernel_rfl
theorem wP (tb:Nat->Nat) (v:HV):∀ u∈kE tb v,u.oneCell'=true:=by
 intro u b;simp [kE] at b;rcases b with rfl|rfl|rfl|rfl|rfl
 ·rfl
 ·rfl
 ·rfl
 ·rfl
 ·unfold aK
  split<;>rfl
theorem uK (x:M4 base tb t n o sz es ev mv w) (k:es.length<=5000):
 Calls Tryz.prog 124 #[.pointer (some ⟨t,0,none⟩)] w fun e w'=>e=.returned (.bool (decide (16<=es.length/\es.length<2*aZ es)))/\Below w.heap.size w w':=by
 obtain ⟨A,j,h,b,-⟩:=iA x.e;subst h;have p:w.cell? ⟨t,7,none⟩=some (.slice A es.length j):=x.r.c 7;have m:w.cell? ⟨t,9,none⟩=some (.int .i64 (aZ es:Int)):=x.r.c 9;have i:=fZ es;clear x b;by_cases d:16<=es.length
 ·have hd:decide ((es.length:Int) ≥ 16)=true:=by simp;omega
  have g:Hq (decide (16<=es.length/\es.length<2*aZ es)=decide ((aZ es:Int) > (es.length:Int)-(aZ es:Int))):=ah (by
   rw [decide_eq_decide];omega)
  rw [g.o];obtain ⟨B,l⟩:∃ B,aZ es=B:=⟨_,rfl⟩
  rw [l] at m i ⊢;clear l d g;go_enter Tryz.func124,Tryz.ntmps124;go_wp2_with fail;go_quiet (fail);go_wp2;go_ret;exact ⟨rfl,aC (aT _ _) _⟩
 ·have hd:decide ((es.length:Int) ≥ 16)=false:=by simp;omega
  have g:Hq (decide (16<=es.length/\es.length<2*aZ es)=false):=ah (by simp;omega);rw [g.o];clear d g;go_enter Tryz.func124,Tryz.ntmps124;go_wp2_with fail;go_quiet (fail);go_wp2;go_ret;exact ⟨rfl,aC (aT _ _) _⟩
theorem GJ (v:HV):(vk v==3)=false:=by
 cases v with
 |none=>rfl
 |some x=>cases x<;>rfl
theorem sS (wr:World):aD (wr.alloc (.cells #[.int .i64 0,.int .i64 0,.int .u64 0,.string ByteArray.empty,.nilIface] 143)) 143 wr.heap.size 5 (fun j=>(kE (fun _=>0) none).getD j (.bool false)):=d_ wr (fun _=>0) none
theorem rO {g:Nat} (h:aD w 143 g 5 f) (tb:Nat->Nat) (v:HV):
 aD (((((w.setCell ⟨g,0,none⟩ (.int .i64 (vk v))).setCell ⟨g,1,none⟩ (.int .i64 (vi v))).setCell ⟨g,2,none⟩ (.int .u64 0)).setCell ⟨g,3,none⟩ (.string ByteArray.empty)).setCell ⟨g,4,none⟩ (aK tb v)) 143 g 5 (fun j=>(kE tb v).getD j (.bool false))/\
 Keeps w (((((w.setCell ⟨g,0,none⟩ (.int .i64 (vk v))).setCell ⟨g,1,none⟩ (.int .i64 (vi v))).setCell ⟨g,2,none⟩ (.int .u64 0)).setCell ⟨g,3,none⟩ (.string ByteArray.empty)).setCell ⟨g,4,none⟩ (aK tb v)) (fun b=>b=g):=by
 refine ⟨?_,?_⟩
 ·refine (((((h.set (j:=0) (by omega) (.int .i64 (vk v))).set (j:=1) (by omega) (.int .i64 (vi v))).set (j:=2) (by omega) (.int .u64 0)).set (j:=3) (by omega) (.string ByteArray.empty)).set (j:=4) (by omega) (aK tb v)).congr (fun j hj=>?_)
  have:j=0∨j=1∨j=2∨j=3∨j=4:=by omega
  rcases this with rfl|rfl|rfl|rfl|rfl<;>rfl
 ·exact Keeps.setCell (S:=fun b=>b=g) (Keeps.setCell (S:=fun b=>b=g) (Keeps.setCell (S:=fun b=>b=g) (Keeps.setCell (S:=fun b=>b=g) (Keeps.setCell (S:=fun b=>b=g) (Keeps.refl w (fun b=>b=g)) rfl (.int .i64 (vk v))) rfl (.int .i64 (vi v))) rfl (.int .u64 0)) rfl (.string ByteArray.empty)) rfl (aK tb v)
theorem kV (w:World) (tb:Nat->Nat) (v:HV):Calls Tryz.prog 121 #[.agg #[.int .i64 (vk v),.int .i64 (vi v),.int .u64 0,.string ByteArray.empty,aK tb v]] w fun e w'=>e=.returned (.agg #[.int .i64 (vk v),.int .i64 (vi v),.int .u64 0,.string ByteArray.empty,aK tb v])/\Below w.heap.size w w':=by
 have d:=ah (sS (w.alloc (.cells (gG tb v) 143)));have k:=ah ((d_ w tb v).keep (Keeps.of (aU (w.alloc (.cells (gG tb v) 143)) (.cells #[.int .i64 0,.int .i64 0,.int .u64 0,.string ByteArray.empty,.nilIface] 143)) (au _) (fun _=>False)) (fun x=>x));have u:=ah ((aU w (.cells (gG tb v) 143)).trans ((aU (w.alloc (.cells (gG tb v) 143)) (.cells #[.int .i64 0,.int .i64 0,.int .u64 0,.string ByteArray.empty,.nilIface] 143)).mono (aU w (.cells (gG tb v) 143)).size));have i:(w.alloc (.cells (gG tb v) 143)).heap.size=w.heap.size+1:=aG _;rw [i] at d;clear i;have P:=GJ v;go_enter Tryz.func121,Tryz.ntmps121;go_upto_region 1 with (fail)
 change Code.wp _ _ _ _ ((w.alloc (.cells (gG tb v) 143)).alloc (.cells #[.int .i64 0,.int .i64 0,.int .u64 0,.string ByteArray.empty,.nilIface] 143));generalize (w.alloc (.cells (gG tb v) 143)).alloc (.cells #[.int .i64 0,.int .i64 0,.int .u64 0,.string ByteArray.empty,.nilIface] 143)=w3 at *;generalize s:w.heap.size=X at *;obtain ⟨x0,x1,N,M,L⟩:NC w3 X tb v:=k.o.c5;have J:=d.o.c 0;have H:=d.o.c 1;have G:=d.o.c 2;have F:=d.o.c 3;have E:=d.o.c 4;have D:=d.o.ME 0;have C:=d.o.ME 1;have A:=d.o.ME 2;have z:=d.o.ME 3;have y:=d.o.ME 4;go_wp2;obtain ⟨g,j⟩:∃ g,g=((((w3.setCell ⟨X+1,0,none⟩ (.int .i64 (vk v))).setCell ⟨X+1,1,none⟩ (.int .i64 (vi v))).setCell ⟨X+1,2,none⟩ (.int .u64 0)).setCell ⟨X+1,3,none⟩ (.string ByteArray.empty)).setCell ⟨X+1,4,none⟩ (aK tb v):=⟨_,rfl⟩
 have h:=ah (rO d.o tb v);rw [<-j] at h ⊢;clear j;have q:g.cell? ⟨X+1,0,none⟩=some (.int .i64 (vk v)):=h.o.1.c 0;have q1:g.cell? ⟨X+1,1,none⟩=some (.int .i64 (vi v)):=h.o.1.c 1;have p:g.cell? ⟨X+1,2,none⟩=some (.int .u64 0):=h.o.1.c 2;have m:g.cell? ⟨X+1,3,none⟩=some (.string ByteArray.empty):=h.o.1.c 3;have l:g.cell? ⟨X+1,4,none⟩=some (aK tb v):=h.o.1.c 4;have r:=k.o.lt;refine bodyPost_ret (v:=.agg #[.int .i64 (vk v),.int .i64 (vi v),.int .u64 0,.string ByteArray.empty,aK tb v]) ?_ rfl ⟨rfl,by rw [s];exact u.o.trans (h.o.2.below (B:=X) (by omega) (fun b e=>by omega))⟩;simp [results,Tryz.results121,go_sem,q,q1,p,m,l]
end
end Go.Proofs.YtbpcdfbmnklcjaaGreatDoor
namespace Go.Proofs.YtbpcdfbmnklcjaaGreatDoor
open Go Go.RowKit
set_option maxHeartbeats 6400000
set_option maxRecDepth 100000
set_option linter.unusedVariables false
section
variable {base cap i j n:Nat} {es ms:List En} {ev mv:Value} {f:Nat->Value} {o:Ob} {sz:Int} {tb:Nat->Nat} {w w' w4 w5 w6 w8 wr:World}
attribute [local go_sem] bW
def kp (es:List En) (i:Nat):List En:=(es.take i).filter fun e=>e.2.isSome
theorem BK (es:List En):kp es 0=[]:=rfl
theorem wT {e:En} (h:es[i]?=some e):kp es (i+1)=kp es i++(if e.2.isSome then [e] else []):=by
 unfold kp;rw [List.take_add_one,h,Option.toList_some,List.filter_append];congr 1;cases h1:e.2.isSome<;>simp [h1]
theorem rG {e:En} (h:es[i]?=some e) (hb:e.2.isNone=true):kp es (i+1)=kp es i:=by
 rw [wT h];cases h1:e.2 with
 |none=>simp
 |some x=>rw [h1] at hb;cases hb
theorem qU {e:En} (h:es[i]?=some e) (hb:e.2.isNone=false):kp es (i+1)=kp es i++[e]:=by
 rw [wT h];cases h1:e.2 with
 |none=>rw [h1] at hb;cases hb
 |some x=>simp
theorem zB (es:List En) (i:Nat):(kp es i).length<=i:=by
 unfold kp;have b:=List.length_filter_le (fun e:En=>e.2.isSome) (es.take i);have a:=List.length_take_le i es;omega
theorem qF (es:List En):kp es es.length=es.filter fun e=>e.2.isSome:=by unfold kp;rw [bN]
theorem C_ {k:HV} (h:mW (kp es i) k j):∃ p,p<i/\mW es k p:=by
 obtain ⟨e,b,a⟩:=h;have hm:=(List.mem_filter.1 (aX b)).1;obtain ⟨p,hp⟩:=List.mem_iff_getElem?.1 hm;rw [List.getElem?_take] at hp;split at hp
 ·rename_i c;exact ⟨p,c,e,hp,a⟩
 ·cases hp
def Rt (es:List En) (i:Nat) (k:HV) (j:Nat):Prop:=mW (kp es i) k j∨(i<=j/\mW es k j)
theorem Di (es:List En) (k:HV) (j:Nat):Rt es 0 k j↔mW es k j:=by
 unfold Rt;rw [BK];constructor
 ·rintro (⟨e,a,_⟩|h)
  ·simp at a
  ·exact h.2
 ·exact fun h=>.inr ⟨Nat.zero_le _,h⟩
theorem EB (es:List En) (k:HV) (j:Nat):mW (es.filter fun e=>e.2.isSome) k j↔Rt es es.length k j:=by
 unfold Rt;rw [qF];constructor
 ·exact fun h=>.inl h
 ·rintro (h|⟨b,e,a,_⟩)
  ·exact h
  ·have:=(aJ.1 a).1
   omega
theorem Dz (kd:Kd es) {e:En} {k:HV} (h:es[i]?=some e) (d:k.isSome=true) (hr:mW (kp es i) k j∨(i+1<=j/\mW es k j)):k≠e.1:=by
 intro c;rcases hr with hr|⟨g,x,b,a⟩
 ·obtain ⟨p,hp,x,b,a⟩:=C_ hr
  have:=kd p i x e b h (by rw [a];exact d) (a.trans c);omega
 ·have:=kd j i x e b h (by rw [a];exact d) (a.trans c)
  omega
theorem BQ (kd:Kd es) {e:En} (h:es[i]?=some e) (hb:e.2.isNone=true) (k:HV) (j:Nat) (g:k.isSome=true):Rt es (i+1) k j↔(Rt es i k j/\k≠e.1):=by
 unfold Rt;rw [rG h hb];constructor
 ·intro hr
  refine ⟨?_,Dz kd h g hr⟩;rcases hr with hr|⟨d,a⟩
  ·exact .inl hr
  ·exact .inr ⟨by omega,a⟩
 ·rintro ⟨hr|⟨d,x,a,b⟩,l⟩
  ·exact .inl hr
  ·refine .inr ⟨?_,x,a,b⟩
   rcases Nat.eq_or_lt_of_le d with c|c
   ·subst c
    rw [h] at a;cases a;exact absurd b.symm l
   ·exact c
theorem Ce (kd:Kd es) {e:En} (h:es[i]?=some e) (hb:e.2.isNone=false) (k:HV) (j:Nat) (m:k.isSome=true):Rt es (i+1) k j↔((k=e.1/\j=(kp es i).length)∨(k≠e.1/\Rt es i k j)):=by
 have d:=Dz kd (j:=j) h m;unfold Rt;rw [qU h hb];have p:mW (kp es i++[e]) k j↔mW (kp es i) k j∨(j=(kp es i).length/\e.1=k):=by
  unfold mW;constructor
  ·rintro ⟨x,a,b⟩
   rw [List.getElem?_append] at a;split at a
   ·exact .inl ⟨x,a,b⟩
   ·rename_i c
    rw [List.getElem?_singleton] at a;split at a
    ·simp at a
     exact .inr ⟨by omega,by rw [a];exact b⟩
    ·cases a
  ·rintro (⟨x,a,b⟩|⟨a,b⟩)
   ·exact ⟨x,by rw [dF (aJ.1 a).1];exact a,b⟩
   ·exact ⟨e,by rw [a,fI (au _)];simp,b⟩
 rw [p];constructor
 ·rintro ((hr|⟨a,b⟩)|hr)
  ·exact .inr ⟨d (.inl hr),.inl hr⟩
  ·exact .inl ⟨b.symm,a⟩
  ·exact .inr ⟨d (.inr hr),.inr ⟨by omega,hr.2⟩⟩
 ·rintro (⟨a,b⟩|⟨a,hr|⟨b,x,g,l⟩⟩)
  ·exact .inl (.inr ⟨b,a.symm⟩)
  ·exact .inl (.inl hr)
  ·refine .inr ⟨?_,x,g,l⟩
   rcases Nat.eq_or_lt_of_le b with c|c
   ·subst c
    rw [h] at g;cases g;exact absurd l.symm a
   ·exact c
structure Ms (es ms:List En) (i:Nat):Prop where
 l:ms.length=es.length
 t:ms.take (kp es i).length=kp es i
 d:ms.drop i=es.drop i
theorem Ms.at_ (m:Ms es ms i) {e:En} (h:es[i]?=some e):ms[i]?=some e:=by
 have a:(ms.drop i)[0]?=(es.drop i)[0]?:=by rw [m.d]
 simpa [h] using a
theorem tF {q:Nat} (x:En) (h:q<i):(ms.set q x).drop i=ms.drop i:=by
 refine List.ext_getElem? (fun p=>?_);rw [List.getElem?_drop,List.getElem?_drop,gD,if_neg (by omega)]
theorem Ms.bare (m:Ms es ms i) {e:En} (h:es[i]?=some e) (hb:e.2.isNone=true) (x:En):Ms es (ms.set i x) (i+1):=by
 refine ⟨by rw [bX];exact m.l,?_,?_⟩
 ·rw [rG h hb,List.take_set_of_le (zB es i)]
  exact m.t
 ·rw [tF x (by omega),<-List.drop_drop,m.d,List.drop_drop]
theorem Ms.keep (m:Ms es ms i) {e:En} (h:es[i]?=some e) (hb:e.2.isNone=false):Ms es (ms.set (kp es i).length e) (i+1):=by
 have hk:=zB es i;have hi:=(aJ.1 h).1;have a:=m.l;refine ⟨by rw [bX];exact m.l,?_,?_⟩
 ·rw [qU h hb,bI,List.length_singleton,List.take_add_one,List.take_set_of_le (au _),m.t,dY (by omega)]
  rfl
 ·rw [tF e (by omega),<-List.drop_drop,m.d,List.drop_drop]
theorem yN (es:List En):(es.filter fun e=>e.2.isSome).length+aZ es=es.length:=by
 unfold aZ
 induction es with
 |nil=>rfl
 |cons e l ih=>
  rw [List.filter_cons,List.filter_cons,aY];cases h:e.2<;>simp<;>omega
theorem xW (es:List En):aZ (es.filter fun e=>e.2.isSome)=0:=by
 unfold aZ;rw [List.length_eq_zero_iff,List.filter_eq_nil_iff];intro e a;have:=(List.mem_filter.1 a).2;cases h:e.2 with
 |none=>rw [h] at this;cases this
 |some x=>simp
theorem yt (tb:Nat->Nat) (e:En) (h:j<es.length):(((((((((((jg tb es).set (j*10) (.int .i64 (vk e.1))).set (j*10+1) (.int .i64 (vi e.1))).set (j*10+2) (.int .u64 0)).set (j*10+3) (.string ByteArray.empty)).set (j*10+4) (aK tb e.1)).set (j*10+5) (.int .i64 (vk e.2))).set (j*10+6) (.int .i64 (vi e.2))).set (j*10+7) (.int .u64 0)).set (j*10+8) (.string ByteArray.empty)).set (j*10+9) (aK tb e.2))=jg tb (es.set j e):=by
 obtain ⟨c,b⟩:=kS (jG tb) (aN h) e;have a:=qQ tb es h;unfold jg;rw [c,b,show j*10=j*10+0 from rfl,bK _ _ _ _ _ _ _ a (by simp [jG,kE]),show j*10+0+1=j*10+1 from rfl,show j*10+0+2=j*10+2 from rfl,show j*10+0+3=j*10+3 from rfl,show j*10+0+4=j*10+4 from rfl,show j*10+0+5=j*10+5 from rfl,show j*10+0+6=j*10+6 from rfl,show j*10+0+7=j*10+7 from rfl,show j*10+0+8=j*10+8 from rfl,show j*10+0+9=j*10+9 from rfl,bK _ _ _ _ _ _ _ a (by simp [jG,kE]),bK _ _ _ _ _ _ _ a (by simp [jG,kE]),bK _ _ _ _ _ _ _ a (by simp [jG,kE]),bK _ _ _ _ _ _ _ a (by simp [jG,kE]),bK _ _ _ _ _ _ _ a (by simp [jG,kE]),bK _ _ _ _ _ _ _ a (by simp [jG,kE]),bK _ _ _ _ _ _ _ a (by simp [jG,kE]),bK _ _ _ _ _ _ _ a (by simp [jG,kE]),bK _ _ _ _ _ _ _ a (by simp [jG,kE])];rfl
theorem yj {g q:Nat} (e:En) (h:w.ownsRow base 167 10 (.slice (some ⟨g,0,none⟩) ms.length cap) ms.length (jg tb ms)) (c:q<ms.length):
 World.ownsRow ((((((((((w.setCell ⟨g,q*10,none⟩ (.int .i64 (vk e.1))).setCell ⟨g,q*10+1,none⟩ (.int .i64 (vi e.1))).setCell ⟨g,q*10+2,none⟩ (.int .u64 0)).setCell ⟨g,q*10+3,none⟩ (.string ByteArray.empty)).setCell ⟨g,q*10+4,none⟩ (aK tb e.1)).setCell ⟨g,q*10+5,none⟩ (.int .i64 (vk e.2))).setCell ⟨g,q*10+6,none⟩ (.int .i64 (vi e.2))).setCell ⟨g,q*10+7,none⟩ (.int .u64 0)).setCell ⟨g,q*10+8,none⟩ (.string ByteArray.empty)).setCell ⟨g,q*10+9,none⟩ (aK tb e.2)) base 167 10 (.slice (some ⟨g,0,none⟩) ms.length cap) ms.length (jg tb (ms.set q e))/\
 Keeps w ((((((((((w.setCell ⟨g,q*10,none⟩ (.int .i64 (vk e.1))).setCell ⟨g,q*10+1,none⟩ (.int .i64 (vi e.1))).setCell ⟨g,q*10+2,none⟩ (.int .u64 0)).setCell ⟨g,q*10+3,none⟩ (.string ByteArray.empty)).setCell ⟨g,q*10+4,none⟩ (aK tb e.1)).setCell ⟨g,q*10+5,none⟩ (.int .i64 (vk e.2))).setCell ⟨g,q*10+6,none⟩ (.int .i64 (vi e.2))).setCell ⟨g,q*10+7,none⟩ (.int .u64 0)).setCell ⟨g,q*10+8,none⟩ (.string ByteArray.empty)).setCell ⟨g,q*10+9,none⟩ (aK tb e.2)) (fun b=>b=g):=by
 have a:=aL (aL (aL (aL (aL (aL (aL (aL (aL (aL (h) (show q*10<ms.length*10 by omega) (.int .i64 (vk e.1))) (show q*10+1<ms.length*10 by omega) (.int .i64 (vi e.1))) (show q*10+2<ms.length*10 by omega) (.int .u64 0)) (show q*10+3<ms.length*10 by omega) (.string ByteArray.empty)) (show q*10+4<ms.length*10 by omega) (aK tb e.1)) (show q*10+5<ms.length*10 by omega) (.int .i64 (vk e.2))) (show q*10+6<ms.length*10 by omega) (.int .i64 (vi e.2))) (show q*10+7<ms.length*10 by omega) (.int .u64 0)) (show q*10+8<ms.length*10 by omega) (.string ByteArray.empty)) (show q*10+9<ms.length*10 by omega) (aK tb e.2);rw [yt tb e c] at a;exact ⟨a,Keeps.setCell (S:=fun b=>b=g) (Keeps.setCell (S:=fun b=>b=g) (Keeps.setCell (S:=fun b=>b=g) (Keeps.setCell (S:=fun b=>b=g) (Keeps.setCell (S:=fun b=>b=g) (Keeps.setCell (S:=fun b=>b=g) (Keeps.setCell (S:=fun b=>b=g) (Keeps.setCell (S:=fun b=>b=g) (Keeps.setCell (S:=fun b=>b=g) (Keeps.setCell (S:=fun b=>b=g) (Keeps.refl w (fun b=>b=g)) rfl (.int .i64 (vk e.1))) rfl (.int .i64 (vi e.1))) rfl (.int .u64 0)) rfl (.string ByteArray.empty)) rfl (aK tb e.1)) rfl (.int .i64 (vk e.2))) rfl (.int .i64 (vi e.2))) rfl (.int .u64 0)) rfl (.string ByteArray.empty)) rfl (aK tb e.2)⟩
structure Mg (base:Nat) (tb:Nat->Nat) (t b g cap:Nat) (f:Nat->Value) (es:List En) (w:World) (i:Nat) (ms:List En) (wr:World):Prop where
 m:Ms es ms i
 r:aD wr 136 t 13 f
 e:wr.ownsRow base 167 10 (.slice (some ⟨g,0,none⟩) ms.length cap) ms.length (jg tb ms)
 p:kZ wr b (Rt es i)
 k:Keeps w wr (fun c=>c=g∨c=b)
theorem Mg.low {t b g:Nat} (x:Mg base tb t b g cap f es w i ms wr) (hb:Below wr.heap.size wr w'):Mg base tb t b g cap f es w i ms w':=
 have k:=fun S=>Keeps.of hb (au _) S
 ⟨x.m,x.r.keep (k fun _=>False) id,aj x.e (k fun _=>False) (fun _ _ e=>e),x.p.keep (k fun _=>False) id,x.k.trans (k _)⟩
theorem Mg.bare {base:Nat} {tb:Nat->Nat} {t b g cap:Nat} {f:Nat->Value} {es:List En} {w:World} {i:Nat} {ms:List En} {w4 w5:World} (x:Mg base tb t b g cap f es w i ms w4) {e:En} (h:es[i]?=some e) (hb:e.2.isNone=true) (a:g≠t) (d:b≠t)
 (p:w5.ownsRow base 167 10 (.slice (some ⟨g,0,none⟩) ms.length cap) ms.length (jg tb (ms.set i (none,e.2)))) (l:kZ w5 b (fun k' j=>Rt es i k' j/\k'≠e.1)) (hk:Keeps w4 w5 (fun c=>c=g∨c=b)) (kd:Kd es):Mg base tb t b g cap f es w (i+1) (ms.set i (none,e.2)) w5:=by
 refine ⟨x.m.bare h hb _,x.r.keep hk (fun c=>?_),by rw [bX];exact p,l.congr (fun k j hs=>BQ kd h hb k j hs),x.k.trans hk⟩;rcases c with c|c
 ·exact a c.symm
 ·exact d c.symm
theorem Mg.KX {t b g q:Nat} (x:Mg base tb t b g cap f es w i ms w4) {e:En} (p:es[i]?=some e) (hb:e.2.isNone=false) (d:g≠t) (h:b≠g) (r:(kp es i).length=q) (hr:aD w8 136 t 13 f)
 (u:w5.ownsRow base 167 10 (.slice (some ⟨g,0,none⟩) ms.length cap) ms.length (jg tb (ms.set q e))) (s:kZ w8 b (fun k' j=>(k'=e.1/\j=q)∨(k'≠e.1/\Rt es i k' j))) (hk:Keeps w4 w8 (fun c=>c=b)) (a:Keeps w8 w5 (fun c=>c=g)) (l:Below w5.heap.size w5 w6) (kd:Kd es):Mg base tb t b g cap f es w (i+1) (ms.set q e) w6:=by
 subst r;have v:Mg base tb t b g cap f es w (i+1) (ms.set (kp es i).length e) w5:=
  ⟨x.m.keep p hb,hr.keep a (fun c=>d c.symm),by rw [bX];exact u,(s.congr (fun k j hs=>Ce kd p hb k j hs)).keep a h,(x.k.trans (hk.mono (fun c e=>.inr e))).trans (a.mono (fun c e=>.inl e))⟩
 exact v.low l
theorem zJ (w:World):(zeroValue 167).run Tryz.prog w=.ok (.agg #[.int .i64 0,.int .i64 0,.int .u64 0,.string ByteArray.empty,.nilIface,.int .i64 0,.int .i64 0,.int .u64 0,.string ByteArray.empty,.nilIface]) w:=by kernel_rfl
theorem Cy {t:Nat} (x:M4 base tb t n o sz es ev mv w) (i5:es.length<=5000) (R:1<=aZ es) (hd:∀ e∈es,Hd tb w e.1) (c0:∀ e∈es,e.2.isSome=true->e.1.isSome=true):
 Calls Tryz.prog 125 #[.pointer (some ⟨t,0,none⟩)] w fun e' w'=>e'=.returned (.tuple #[])/\∃ ev',M4 base tb t n o sz (es.filter fun e=>e.2.isSome) ev' mv w'/\Keeps w w' (fun c=>c=t∨ev.ownBlock=some c∨dx mv=some c)/\ev'.ownBlock=ev.ownBlock:=by
 have e0:=yN es;obtain ⟨A,cap,g0,i8,Z⟩:=iA x.e;obtain ⟨g,rfl⟩:∃ g,A=some ⟨g,0,none⟩:=by
  have h1:0<es.length:=by omega
  obtain ⟨g,hg,_⟩:=Z 0 _ (aN h1);exact ⟨g,hg⟩
 subst g0;obtain ⟨b,hb,b7,c1,c2⟩:∃ b,mv=.map (some b)/\kZ w b (mW es)/\(∀ e∈es,oW e.1)/\Kd es:=by
  rcases x.m with ⟨_,h⟩|⟨b,e6,g9,h1,h2,h3⟩
  ·rw [h] at R;simp [aZ] at R
  ·exact ⟨b,h1,⟨e6,g9,h2,h3.p⟩,h3.kk,h3.kd⟩
 subst hb;have a7:b≠g:=fun c=>(x.m).apart (ay x.e (g:=g) (by simp [Value.ownBlock])) (by rw [c];rfl);have U:b≠t:=fun c=>(x.m).apart x.r (by rw [c];rfl);have T:g≠t:=fun c=>(ay x.e (g:=g) (by simp [Value.ownBlock])).apart x.r (by decide) c;have c7:w.cell? ⟨t,7,none⟩=some (.slice (some ⟨g,0,none⟩) es.length cap):=x.r.c 7;have f2:Hq (Mg base tb t b g cap (tV o n sz es (.slice (some ⟨g,0,none⟩) es.length cap) (.map (some b))) es w 0 es w):=ah ⟨⟨rfl,rfl,rfl⟩,x.r,x.e,b7.congr (fun k i _=>Di es k i),Keeps.refl _ _⟩;have i4:=ah (fun (b':Nat) (f':Nat->Value) (hr:aD w 136 b' 13 f')=>show ¬ (b'=g∨b'=b) from fun c=>by
  rcases c with c|c
  ·exact (ay x.e (g:=g) (by simp [Value.ownBlock])).apart hr (by decide) c.symm
  ·exact x.m.apart hr (by rw [c];rfl))
 have HD:=ah hd;have e8:=ah c0;have f0:=ah c1;have b0:=ah c2;have i2:=ah e0;have j1:=x.r.lt;clear x hd c0 c1 c2 e0 b7 Z;go_enter Tryz.func125,Tryz.ntmps125;go_wp2;go_loopw [2,10] (fun kv iv wr=>∃ i:Nat,i<=es.length/\kv=.int .i64 ((kp es i).length:Nat)/\iv=.int .i64 i/\Hq (∃ ms,Mg base tb t b g cap (tV o n sz es (.slice (some ⟨g,0,none⟩) es.length cap) (.map (some b))) es w i ms wr)) (fun _ iv _=>es.length-bF iv)
 case atStart=>exact ⟨0,by omega,rfl,rfl,es,f2.o⟩
 case round=>
  obtain ⟨i,j6,rfl,rfl,HJ⟩:=hrel;obtain ⟨ms,G⟩:=HJ.o;clear HJ f2;by_cases f7:i<es.length
  ·obtain ⟨e,he⟩:∃ e,es[i]?=some e:=⟨_,aN f7⟩
   have b8:=G.m.at_ he;obtain ⟨A1,j0,Y,g4,Q⟩:=iA G.e;simp only [Value.slice.injEq,true_and] at Y;obtain ⟨g8,g6⟩:=Y;subst g8 g6;obtain ⟨g1,c4,i7,v⟩:=Q i e b8;simp only [Option.some.injEq,Addr.mk.injEq,and_true] at c4;subst c4;have i6:(i:Int)<(es.length:Int):=by omega
   have d0:=v 0 _ rfl;have d1:=v 1 _ rfl;have d2:=v 2 _ rfl;have d3:=v 3 _ rfl;have d4:=v 4 _ rfl;have d5:=v 5 _ rfl;have d6:=v 6 _ rfl;have d7:=v 7 _ rfl;have d8:=v 8 _ rfl;have d9:=v 9 _ rfl;simp only [Nat.add_zero] at d0;have a5:=aX he;have a6:Hd tb wr e.1:=(HD.o e a5).keep G.k i4.o;have k1:=ah a6;have f1:=ah (f0.o e a5);have f6:=zB es i;have L:=ah he;have a3:=G.m.l;have a4:(kp es i).length<ms.length:=by omega
   have HX:=ah (mV wr tb e);have HB:=ah (aU wr (.cells (NH tb e.1 e.2) 167));have b1:=ah (G.low (aU wr (.cells (NH tb e.1 e.2) 167)));have b4:=ah (a6.low (aU wr (.cells (NH tb e.1 e.2) 167)));have j8:wr.heap.size≠g:=by omega
   have K:wr.heap.size≠b:=by have:=G.p.lt;omega
   clear a6 he b8 Q v a5 G;go_upto_region 4 with (fail)
   generalize wr.alloc (.cells (NH tb e.1 e.2) 167)=w3 at *;generalize wr.heap.size=X at *;clear d0 d1 d2 d3 d4 d5 d6 d7 d8 d9;obtain ⟨y5,y6,y7,y8,y9⟩:OA w3 X tb e.2:=HX.o.c6;have HN:=ah (bT w3 tb e.2);obtain ⟨q,N⟩:∃ q,(kp es i).length=q:=⟨_,rfl⟩
   rw [N];rw [N] at a4 f6;have HQ:=ah N;clear N;cases hb:e.2.isNone with
   |true=>
    rw [hb] at HN;have M:=ah hb;clear hb;go_wp2_with fail;refine HN.o.mono ?_;rintro e9 w4 ⟨rfl,E⟩;have B:=ah (b1.o.low E);have b3:=ah (b4.o.low E);have h8:=ah (zC B.o.r (show _=Value.slice (some ⟨g,0,none⟩) ms.length cap by rw [a3];rfl) rfl B.o.e B.o.p (B.o.m.at_ L.o) f1.o b3.o (by omega));clear E y5 y6 y7 y8 y9;go_wp2_with fail;refine h8.o.mono ?_;rintro e5 w5 ⟨rfl,e4,e1,e2⟩;have H5:Hq (Mg base tb t b g cap (tV o n sz es (.slice (some ⟨g,0,none⟩) es.length cap) (.map (some b))) es w (i+1) (ms.set i (none,e.2)) w5):=ah (B.o.bare L.o M.o T U e4 e1 e2 b0.o);have a9:=ah ((congrArg List.length (rG L.o M.o)).trans HQ.o);clear e4 e1 e2;go_wp2;go_roundw
    case rel=>exact ⟨i+1,by omega,by rw [a9.o],by simp,_,H5.o⟩
    case measure=>simp [bF];omega
   |false=>
    rw [hb] at HN;have M:=ah hb;clear hb;go_wp2_with fail;refine HN.o.mono ?_;rintro e9 w4 ⟨rfl,E⟩;have B:=ah (b1.o.low E);have b3:=ah (b4.o.low E);have a8:=ah (HX.o.keep (Keeps.of E (au _) (fun _=>False)) (fun x=>x));clear E y5 y6 y7 y8 y9 HX HN b1 b4;have HT:=ah (fun (w':World) (hb:Below w4.heap.size w4 w')=>(b3.o.low hb).c);have HM:=ah (fun (w':World) (hb:Below w4.heap.size w4 w')=>B.o.p.keep (Keeps.of hb (au _) (fun _=>False)) (fun e=>e));have c9:e.1.isSome=true:=e8.o e (aX L.o) (by cases h9:e.2 with
     |none=>have:=M.o;rw [h9] at this;cases this
     |some _=>rfl)
    have i1:=ah c9;clear c9;have V:=B.o.r.lt;have y:=a8.o.lt;have c8:w4.cell? ⟨t,8,none⟩=some (.map (some b)):=B.o.r.c 8;obtain ⟨x0,x1,x2,x3,x4⟩:NC w4 X tb e.1:=a8.o.c5;go_wp2_with fail
    go_region_held3 (fun w'=>w'.cell? ⟨t,8,none⟩=some (.map (some b))/\w'.cell? ⟨X,0,none⟩=some (.int .i64 (vk e.1))/\w'.cell? ⟨X,1,none⟩=some (.int .i64 (vi e.1))/\w'.cell? ⟨X,2,none⟩=some (.int .u64 0)/\w'.cell? ⟨X,3,none⟩=some (.string ByteArray.empty)/\w'.cell? ⟨X,4,none⟩=some (aK tb e.1)) (go_keep)
     (first
       |(refine iD (.tmp 26) rfl tb e.1 rfl (HT.o _ (aC (aT _ _) _)) ?_
         intro w9 a0;have D:Below w4.heap.size w4 w9:=(aC (aT w4.heap.size w4) _).trans a0;have F:=ah D;have t1:=(D.cell (p:=⟨t,8,none⟩) V).trans c8;have t2:=(D.cell (p:=⟨X,0,none⟩) y).trans x0;have t3:=(D.cell (p:=⟨X,1,none⟩) y).trans x1;have t4:=(D.cell (p:=⟨X,2,none⟩) y).trans x2;have t5:=(D.cell (p:=⟨X,3,none⟩) y).trans x3;have t6:=(D.cell (p:=⟨X,4,none⟩) y).trans x4;clear D a0;obtain ⟨w8,f3,b9,C,f4⟩:=AY (HM.o _ F.o) f1.o i1.o q;have u1:=(bM (a:=⟨t,8,none⟩) (C.block _ (aW V F.o.size) U.symm)).trans t1;have u2:=(bM (a:=⟨X,0,none⟩) (C.block _ (aW y F.o.size) K)).trans t2;have u3:=(bM (a:=⟨X,1,none⟩) (C.block _ (aW y F.o.size) K)).trans t3;have u4:=(bM (a:=⟨X,2,none⟩) (C.block _ (aW y F.o.size) K)).trans t4;have u5:=(bM (a:=⟨X,3,none⟩) (C.block _ (aW y F.o.size) K)).trans t5;have u6:=(bM (a:=⟨X,4,none⟩) (C.block _ (aW y F.o.size) K)).trans t6;have H8:=ah (show kZ w8 b (fun k' j=>(k'=e.1/\j=q)∨(k'≠e.1/\Rt es i k' j))/\Keeps w4 w8 (fun c=>c=b) from ⟨b9,(Keeps.of F.o (au _) _).trans C⟩);clear b9 C f4))
    clear f3 c8 x0 x1 x2 x3 x4 t1 t2 t3 t4 t5 t6 u1 u2 u3 u4 u5 u6;have e7:=ah (a8.o.keep H8.o.2 K);have b2:=ah (aj B.o.e H8.o.2 (fun p hp c=>by
     simp [Value.ownBlock] at hp;exact a7 (c.symm.trans hp.symm)))
    have a1:=B.o.r.keep H8.o.2 (fun c=>U c.symm);have c7:w8.cell? ⟨t,7,none⟩=some (.slice (some ⟨g,0,none⟩) es.length cap):=a1.c 7;obtain ⟨A2,i9,W,g3,P⟩:=iA b2.o;simp only [Value.slice.injEq,true_and] at W;obtain ⟨g7,g5⟩:=W;subst g7 g5;obtain ⟨g2,c3,f9,d⟩:=P q _ (aN a4);simp only [Option.some.injEq,Addr.mk.injEq,and_true] at c3;subst c3;have z:∀ j,w8.frozen? ⟨g,j,none⟩=false:=fun j=>(ay b2.o (g:=g) (by simp [Value.ownBlock])).ME j;obtain ⟨v0,v1,v2,v3,v4⟩:NC w8 X tb e.1:=e7.o.c5;obtain ⟨v5,v6,v7,v8,v9⟩:OA w8 X tb e.2:=e7.o.c6;have s0:=d 0 _ rfl;have s1:=d 1 _ rfl;have s2:=d 2 _ rfl;have s3:=d 3 _ rfl;have s4:=d 4 _ rfl;have s5:=d 5 _ rfl;have s6:=d 6 _ rfl;have s7:=d 7 _ rfl;have s8:=d 8 _ rfl;have s9:=d 9 _ rfl;simp only [Nat.add_zero] at s0;have j2:(q:Int)<(es.length:Int):=by omega
    have HS:=ah (yj e b2.o a4);have h0:=ah a1;clear a1 P d;go_wp2_with fail
    go_cut [] (fun wc=>wc=((((((((((w8.setCell ⟨g,q*10,none⟩ (.int .i64 (vk e.1))).setCell ⟨g,q*10+1,none⟩ (.int .i64 (vi e.1))).setCell ⟨g,q*10+2,none⟩ (.int .u64 0)).setCell ⟨g,q*10+3,none⟩ (.string ByteArray.empty)).setCell ⟨g,q*10+4,none⟩ (aK tb e.1)).setCell ⟨g,q*10+5,none⟩ (.int .i64 (vk e.2))).setCell ⟨g,q*10+6,none⟩ (.int .i64 (vi e.2))).setCell ⟨g,q*10+7,none⟩ (.int .u64 0)).setCell ⟨g,q*10+8,none⟩ (.string ByteArray.empty)).setCell ⟨g,q*10+9,none⟩ (aK tb e.2)).drewN 1)
    case first=>
     go_region
     all_goals
      go_wp2_with fail;go_meet;rfl
    case rest=>
    obtain rfl:=hcut;have i3:=ah (aC (aT (((((((((((w8.setCell ⟨g,q*10,none⟩ (.int .i64 (vk e.1))).setCell ⟨g,q*10+1,none⟩ (.int .i64 (vi e.1))).setCell ⟨g,q*10+2,none⟩ (.int .u64 0)).setCell ⟨g,q*10+3,none⟩ (.string ByteArray.empty)).setCell ⟨g,q*10+4,none⟩ (aK tb e.1)).setCell ⟨g,q*10+5,none⟩ (.int .i64 (vk e.2))).setCell ⟨g,q*10+6,none⟩ (.int .i64 (vi e.2))).setCell ⟨g,q*10+7,none⟩ (.int .u64 0)).setCell ⟨g,q*10+8,none⟩ (.string ByteArray.empty)).setCell ⟨g,q*10+9,none⟩ (aK tb e.2))).heap.size (((((((((((w8.setCell ⟨g,q*10,none⟩ (.int .i64 (vk e.1))).setCell ⟨g,q*10+1,none⟩ (.int .i64 (vi e.1))).setCell ⟨g,q*10+2,none⟩ (.int .u64 0)).setCell ⟨g,q*10+3,none⟩ (.string ByteArray.empty)).setCell ⟨g,q*10+4,none⟩ (aK tb e.1)).setCell ⟨g,q*10+5,none⟩ (.int .i64 (vk e.2))).setCell ⟨g,q*10+6,none⟩ (.int .i64 (vi e.2))).setCell ⟨g,q*10+7,none⟩ (.int .u64 0)).setCell ⟨g,q*10+8,none⟩ (.string ByteArray.empty)).setCell ⟨g,q*10+9,none⟩ (aK tb e.2)))) 1);have H6:Hq (Mg base tb t b g cap (tV o n sz es (.slice (some ⟨g,0,none⟩) es.length cap) (.map (some b))) es w (i+1) (ms.set q e) (((((((((((w8.setCell ⟨g,q*10,none⟩ (.int .i64 (vk e.1))).setCell ⟨g,q*10+1,none⟩ (.int .i64 (vi e.1))).setCell ⟨g,q*10+2,none⟩ (.int .u64 0)).setCell ⟨g,q*10+3,none⟩ (.string ByteArray.empty)).setCell ⟨g,q*10+4,none⟩ (aK tb e.1)).setCell ⟨g,q*10+5,none⟩ (.int .i64 (vk e.2))).setCell ⟨g,q*10+6,none⟩ (.int .i64 (vi e.2))).setCell ⟨g,q*10+7,none⟩ (.int .u64 0)).setCell ⟨g,q*10+8,none⟩ (.string ByteArray.empty)).setCell ⟨g,q*10+9,none⟩ (aK tb e.2)).drewN 1)):=ah (B.o.KX L.o M.o T a7 HQ.o h0.o HS.o.1 H8.o.1 H8.o.2 HS.o.2 i3.o b0.o);generalize ((((((((((w8.setCell ⟨g,q*10,none⟩ (.int .i64 (vk e.1))).setCell ⟨g,q*10+1,none⟩ (.int .i64 (vi e.1))).setCell ⟨g,q*10+2,none⟩ (.int .u64 0)).setCell ⟨g,q*10+3,none⟩ (.string ByteArray.empty)).setCell ⟨g,q*10+4,none⟩ (aK tb e.1)).setCell ⟨g,q*10+5,none⟩ (.int .i64 (vk e.2))).setCell ⟨g,q*10+6,none⟩ (.int .i64 (vi e.2))).setCell ⟨g,q*10+7,none⟩ (.int .u64 0)).setCell ⟨g,q*10+8,none⟩ (.string ByteArray.empty)).setCell ⟨g,q*10+9,none⟩ (aK tb e.2)).drewN 1=w6 at *;have a9:Hq ((kp es (i+1)).length=q+1):=ah (by rw [qU L.o M.o,bI,HQ.o];rfl);clear c7 z v0 v1 v2 v3 v4 v5 v6 v7 v8 v9 s0 s1 s2 s3 s4 s5 s6 s7 s8 s9;go_wp2;go_roundw
    case rel=>exact ⟨i+1,by omega,by rw [a9.o];simp,by simp,_,H6.o⟩
    case measure=>simp [bF];omega
  ·have f8:i=es.length:=by omega
   subst f8;have b5:=i2.o;rw [<-qF] at b5;have k0:=ah G;have a3:=G.m.l;obtain ⟨q,N⟩:∃ q,(kp es es.length).length=q:=⟨_,rfl⟩
   rw [N];rw [N] at b5;have HQ:=ah N;have e3:wr.ownsRow base 167 10 (.slice (some ⟨g,0,none⟩) es.length cap) es.length (jg tb ms):=by rw [<-a3];exact G.e
   obtain ⟨w1,j7,a2,H,f5⟩:=mK (w:=wr) (c:=cap-q) Tryz.underlying131 zJ (s:=10) rfl (fun u hu=>by simp [Value.cells] at hu;rcases hu with rfl|rfl|rfl|rfl|rfl|rfl|rfl|rfl|rfl|rfl<;>rfl) e3 (show q<es.length by omega) 0;have j9:wr.cell? ⟨t,7,none⟩=some (.slice (some ⟨g,0,none⟩) es.length cap):=G.r.c 7;have J:=G.r.keep H (fun c=>T c.symm);have b6:=G.p.keep H a7;have d7:w1.cell? ⟨t,7,none⟩=some (.slice (some ⟨g,0,none⟩) es.length cap):=J.c 7;have d9:w1.cell? ⟨t,9,none⟩=some (.int .i64 (aZ es:Int)):=J.c 9;have z7:=J.ME 7;have z9:=J.ME 9;have h5:=ah J;have h6:=ah b6;have h7:Hq (w1.ownsRow base 167 10 (.slice (some ⟨g,0,none⟩) q cap) (es.filter fun e=>e.2.isSome).length (jg tb (es.filter fun e=>e.2.isSome))/\(es.filter fun e=>e.2.isSome).length=q):=ah (by
    have h2:=G.m.t;rw [N,qF] at h2;have h3:(es.filter fun e=>e.2.isSome).length=q:=by rw [<-qF];exact N
    have h4:(jg tb ms).take (q*10)=jg tb (es.filter fun e=>e.2.isSome):=by
     rw [<-h2]
     conv=>lhs;rw [<-List.take_append_drop q ms]
     unfold jg;rw [List.flatMap_append,List.take_append_of_le_length (by rw [show (ms.take q).flatMap (jG tb)=jg tb (ms.take q) from rfl,qD,bf];omega)];refine List.take_of_length_le ?_;rw [show (ms.take q).flatMap (jG tb)=jg tb (ms.take q) from rfl,qD,bf];omega
    rw [h4] at a2;refine ⟨?_,h3⟩;rw [h3];exact a2)
   have i0:=ah ((G.k.mono (fun c e=>e.imp id id)).trans (H.mono (fun c e=>Or.inl e)));have j5:(q:Int)<=(es.length:Int):=by omega
   have j4:(q:Int)<=(cap:Int):=by omega
   have j3:(q:Int)<(es.length:Int):=by omega
   clear G N e3 a2 H f5 J b6 HD e8 f0 b0;go_wp2;go_end0;have k2:Keeps w1 ((w1.setCell ⟨t,7,none⟩ (.slice (some ⟨g,0,none⟩) q cap)).setCell ⟨t,9,none⟩ (.int .i64 0)) (fun c=>c=t):=Keeps.setCell (S:=fun c=>c=t) (Keeps.setCell (S:=fun c=>c=t) (Keeps.refl w1 _) rfl _) rfl _;refine ⟨rfl,.slice (some ⟨g,0,none⟩) q cap,⟨?_,?_,?_⟩,?_,rfl⟩
   ·refine ((h5.o.set (j:=7) (by omega) (.slice (some ⟨g,0,none⟩) q cap)).set (j:=9) (by omega) (.int .i64 0)).congr (fun k hk=>?_)
    refine dz (fun k=>(if k=9 then (.int .i64 0:Value) else if k=7 then .slice (some ⟨g,0,none⟩) q cap else tV o n sz es (.slice (some ⟨g,0,none⟩) es.length cap) (.map (some b)) k)=tV o n sz (es.filter fun e=>e.2.isSome) (.slice (some ⟨g,0,none⟩) q cap) (.map (some b)) k) rfl rfl rfl rfl rfl rfl rfl rfl rfl ?_ rfl rfl rfl k hk;simp [tV,xW]
   ·exact aj h7.o.1 k2 (fun p hp c=>by
     simp [Value.ownBlock] at hp;exact T (hp.trans c))
   ·exact ((h6.o.congr (fun k j _=>EB es k j)).keep k2 U).a
   ·exact (i0.o.mono (fun c e=>by
     rcases e with e|e
     ·exact .inr (.inl (by rw [e];simp [Value.ownBlock]))
     ·exact .inr (.inr (by rw [e];rfl)))).trans (k2.mono (fun c e=>.inl e))
end
end Go.Proofs.YtbpcdfbmnklcjaaGreatDoor
