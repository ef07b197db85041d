import Derived.Test.YtbpcdfbmnklcjaaGreatDoorKHSK
import Derived.Test.YtbpcdfbmnklcjaaGreatDoorKLH6
namespace Go.Proofs.YtbpcdfbmnklcjaaGreatDoor
open Go Go.RowKit
set_option maxHeartbeats 6400000
set_option maxRecDepth 100000
set_option linter.unusedVariables false
section
variable {S:Nat->Prop} {base:Nat} {h:Hp} {w:World}
theorem qg (a:h.state=2):h.advance=(h.Hg,1):=by unfold Hp.advance;rw [if_pos a]
theorem qm (b:h.state=1) (a:h.grey=[]):h.advance=(h.atomic,1):=by unfold Hp.advance;rw [if_neg (by omega),if_pos a]
theorem pE (b:h.state=1) (a:h.grey≠[]):h.advance=h.take:=by unfold Hp.advance;rw [if_neg (by omega),if_neg a]
theorem wH (h:Hp) (s:Sm h):h.take.2<=6000:=by
 unfold Hp.take;split
 ·unfold Hp.scan
  split
  ·rename_i o ho
   have:=s.es _ o ho;simp only;omega
  ·simp
 ·simp
theorem jS {L:SM} (a:MV base S h L w) (g:Gd h) (u:Int) (hu: -10000<=u/\u<=1073741824):
 Calls Tryz.prog 46 #[.pointer (some ⟨L.H,0,none⟩),.int .i64 u] w fun e w'=>e=.returned (.tuple #[])/\∃ L',L'.H=L.H/\MV base S (Hp.step u h) L' w'/\Keeps w w' S:=by
 have c5:w.cell? ⟨L.H,5,none⟩=some (.int .i64 (h.state:Int)):=a.hp.c 5;have key:∀ (v:Int) (q:Hp) (W:SM) (w1:World),-20000<=v->v<=1073741824->W.H=L.H->MV base S q W w1->Gd q->Keeps w w1 S->Hp.step u h=Hp.work v q->Hq (∃ L',L'.H=L.H/\MV base S q L' w1/\Gd q/\Keeps w w1 S/\Hp.step u h=Hp.work v q):=fun v q W w1 _ _ h1 h2 h3 h4 h5=>⟨W,h1,h2,h3,h4,h5⟩
 have b7:=ah key;have HA:=ah a;have HG:=ah g;have HB:=ah (pI a g.s g.i.zero (fun n hn=>by obtain ⟨o,e⟩:=Hp.IG (g.i.ls n (.inl hn));exact Hp.Ia e) (fun n hn=>by obtain ⟨o,e⟩:=Hp.IG (g.i.ls n (.inr (.inl hn)));exact Hp.Ia e));clear a g key;go_enter Tryz.func46,Tryz.ntmps46
 go_upto_if 9 with (fail)
 go_cut [1] (fun uv wc=>∃ (v:Int) (q:Hp),uv=.int .i64 v/\ -20000<=v/\v<=1073741824/\Hq (∃ L',L'.H=L.H/\MV base S q L' wc/\Gd q/\Keeps w wc S/\Hp.step u h=Hp.work v q))
 case first=>
  by_cases hs:h.state=0
  ·have c1:((h.state:Int)==0)=true:=by simp [hs]
   have Z:Hq (Hp.step u h=Hp.work (u-1) h.begin):=ah (by unfold Hp.step;rw [if_pos hs]);have d1:=ah (HG.o.begin hs);clear hs;go_wp2_with fail;refine HB.o.mono ?_;rintro e9 w1 ⟨rfl,W,a8,b4,b0⟩;have H1:=ah (And.intro a8 (And.intro b4 b0));clear a8 b4 b0;go_wp2_with fail;go_meet;exact ⟨u-1,h.begin,rfl,by omega,by omega,W,H1.o.1,H1.o.2.1,d1.o,H1.o.2.2,Z.o⟩
  ·have c1:((h.state:Int)==0)=false:=by simp;omega
   have Z:Hq (Hp.step u h=Hp.work u h):=ah (by unfold Hp.step;rw [if_neg hs]);clear hs;go_wp2_with fail;go_meet;exact ⟨u,h,rfl,by omega,by omega,L,rfl,HA.o,HG.o,Keeps.refl _ _,Z.o⟩
 case rest=>
 obtain ⟨v,q,rfl,c0,b9,HQ⟩:=hcut;rename World=>w1;clear HA HG HB b7 c5;go_wp2
 go_loopg [1,4] (v+20000).toNat (fun m uv xv wr=>∃ (v':Int) (f:Hp),uv=.int .i64 v'/\ -20000<=v'/\v'<=1073741824/\m=(v'+20000).toNat/\Hq (∃ L',L'.H=L.H/\MV base S f L' wr/\Gd f/\Keeps w wr S/\Hp.step u h=Hp.work v' f))
 case atStart=>exact ⟨v,q,rfl,c0,b9,rfl,HQ.o⟩
 case round=>
  clear HQ;obtain ⟨v',f,rfl,d5,d4,hm,HI⟩:=hrel;obtain ⟨W,c8,d,b,l,j⟩:=HI.out;obtain ⟨H1,a5,a4,b5,a6,a3⟩:=W;obtain rfl:H1=L.H:=c8;have c5:wr.cell? ⟨L.H,5,none⟩=some (.int .i64 (f.state:Int)):=d.hp.c 5;by_cases U:0<v'
  ·by_cases p:f.state=0
   ·have c3:((f.state:Int) !=0)=false:=by simp [p]
    have Y:=ah (Hp.Je v' f (fun x=>x.2 p));have y:=ah (And.intro d (And.intro l j));clear d b l j HI p;go_wp2;go_end0;exact ⟨rfl,⟨L.H,a5,a4,b5,a6,a3⟩,rfl,by rw [y.o.2.2,Y.o];exact y.o.1,y.o.2.1⟩
   ·have c3:((f.state:Int) !=0)=true:=by simp;omega
    have Y:=ah (Hp.JK v' f ⟨U,p⟩);have a1:=ah (b.advance p);by_cases A:f.state=2
    ·have c2:((f.state:Int)==2)=true:=by simp [A]
     have t:=ah (qg A);have b6:=ah (qM d b.s b.n b.i.ps (b.i.s2 A).2.2.1 b.i.w1);have y:=ah (And.intro l j);clear d b l j HI p A;go_wp2_with fail;refine b6.o.mono ?_;rintro e9 w2 ⟨rfl,L2,E,G,F⟩;have H2:=ah (And.intro E (And.intro G F));clear E G F b6;go_wp2
     go_roundg (v'-1+20000).toNat
     case rel=>
      refine ⟨v'-1,f.Hg,rfl,by omega,by omega,rfl,L2,H2.o.1,H2.o.2.1,?_,y.o.1.trans H2.o.2.2,?_⟩
      ·have:=a1.o;rw [t.o] at this;exact this
      ·rw [y.o.2,Y.o,t.o];rfl
     case measure=>omega
    ·have c2:((f.state:Int)==2)=false:=by simp;omega
     have B:f.state=1:=by have:=b.i.st;omega
     by_cases z:f.grey=[]
     ·have t:=ah (qm B z)
      have R:=ah (vo d (b.Mx B));have ha:=d.li 7 (by simp [eO]);rw [show g_ f 7=[] from z] at ha;obtain ⟨x7,J,C⟩:=aF ha;have c7:wr.cell? ⟨L.H,7,none⟩=some (.slice x7 0 J):=by
       have:=d.hp.c 7;rw [this];exact congrArg some C
      have y:=ah (And.intro l j);clear d b l j HI p A B z ha C;go_wp2_with fail;refine R.o.mono ?_;rintro e9 w2 ⟨rfl,L2,E,G,F⟩;have H2:=ah (And.intro E (And.intro G F));clear E G F R;go_wp2
      go_roundg (v'-1+20000).toNat
      case rel=>
       refine ⟨v'-1,f.atomic,rfl,by omega,by omega,rfl,L2,H2.o.1,H2.o.2.1,?_,y.o.1.trans H2.o.2.2,?_⟩
       ·have:=a1.o;rw [t.o] at this;exact this
       ·rw [y.o.2,Y.o,t.o];rfl
      case measure=>omega
     ·have t:=ah (pE B z)
      have d8:=wH f b.s;have d6:=f.J_ z;obtain ⟨N,n,P⟩:∃ N n,f.grey=N++[n]:=⟨_,_,(List.dropLast_concat_getLast z).symm⟩
      obtain ⟨g7,J,C,c4,b2,-,-⟩:=d.pop P;have c7:wr.cell? ⟨L.H,7,none⟩=some (.slice (some ⟨g7,0,none⟩) (N.length+1) J):=by
       have:=d.hp.c 7;rw [this];exact congrArg some C
      have d9:N.length<=20000:=by
       have:=b.s.nu;simp only [Hp.nu,Hp.mu,P,bI,List.length_singleton] at this;omega
      have d2:(((N.length:Int)+1)==0)=false:=by simp;omega
      have M:=ah P;have X:=ah (b.Mx B).k;have R:=ah d;have y:=ah (And.intro l j);clear d b l j HI p A B z C P;go_wp2_with fail;go_quiet (fail);go_wp2_with fail;have b8:=ah (aC (aT wr.heap.size wr) nq);generalize wr.drewN nq=w2 at *;have Q:=ah (R.o.low b8.o);obtain ⟨g2,r,T,c6,-,D,V⟩:=Q.o.pop M.o;have d7:w2.cell? ⟨L.H,7,none⟩=some (.slice (some ⟨g2,0,none⟩) (N.length+1) r):=by
       have:=Q.o.hp.c 7;rw [this];exact congrArg some T
      have y7:=Q.o.hp.ME 7;have K:=ah (And.intro D V);have d3:(N.length:Int)<=r:=by omega
      clear T D V c7 b2
      go_region
      have a2:=ah (aC (aT (w2.setCell ⟨L.H,7,none⟩ (.slice (some ⟨g2,0,none⟩) N.length r)).heap.size (w2.setCell ⟨L.H,7,none⟩ (.slice (some ⟨g2,0,none⟩) N.length r))) 1);have c9:=ah (K.o.1.low a2.o);have d0:=ah (((y.o.1.trans (Keeps.of b8.o (au _) S)).trans K.o.2).trans (Keeps.of a2.o (au _) S));have a0:=ah (rQ c9.o (X.o.pop M.o).1 (X.o.pop M.o).2.1 n (X.o.pop M.o).2.2);rw [<-Hp.JI M.o] at a0;have b1:∀ x:World,x.drew=x.drewN 1:=fun x=>rfl;rw [b1];clear b1;generalize (w2.setCell ⟨L.H,7,none⟩ (.slice (some ⟨g2,0,none⟩) N.length r)).drewN 1=w4 at *;clear K a2 Q d7 y7;go_wp2_with fail;refine a0.o.mono ?_;rintro e9 w5 ⟨rfl,L5,a7,b3,a9⟩;have H5:=ah (And.intro a7 (And.intro b3 a9));clear a7 b3 a9 a0;go_wp2
      go_roundg (v'-(f.take.2:Int)+20000).toNat
      case rel=>
       refine ⟨v'-(f.take.2:Int),f.take.1,rfl,by omega,by omega,rfl,L5,H5.o.1.H,H5.o.2.1,?_,d0.o.trans H5.o.2.2,?_⟩
       ·have:=a1.o;rw [t.o] at this;exact this
       ·rw [y.o.2,Y.o,t.o]
      case measure=>omega
  ·have Y:=ah (Hp.Je v' f (fun x=>U x.1))
   have y:=ah (And.intro d (And.intro l j));clear d b l j HI;go_wp2;go_end0;exact ⟨rfl,⟨L.H,a5,a4,b5,a6,a3⟩,rfl,by rw [y.o.2.2,Y.o];exact y.o.1,y.o.2.1⟩
end
section
variable {S:Nat->Prop} {base:Nat} {h:Hp} {w:World}
theorem A8 (u:Int) (h:Hp):Inv h->(Hp.work u h).phi<=h.phi:=by
 refine Hp.IC (P:=fun _ h g=>Inv h->g.phi<=h.phi) (fun u h _ _=>au _) (fun u h g _ hs x i=>?_) u h;have b:=x (i.advance hs);have a:=Hp.Iy i hs;omega
theorem rT (i:Inv h) (a:h.state≠0):(Hp.step 1073741824 h).phi<h.phi/\(Hp.step 1073741824 h).finish=h.finish:=by
 have e:Hp.step 1073741824 h=Hp.work 1073741824 h:=by unfold Hp.step;rw [if_neg a]
 rw [e];refine ⟨?_,Hp.J6 _ _ i⟩;rw [Hp.JK _ h ⟨by decide,a⟩];have c:=A8 (1073741824-(h.advance.2:Int)) h.advance.1 (i.advance a);have b:=Hp.Iy i a;omega
theorem zY {L:SM} (a:MV base S h L w) (g:Gd h):
 Calls Tryz.prog 47 #[.pointer (some ⟨L.H,0,none⟩)] w fun e w'=>e=.returned (.tuple #[])/\∃ L',L'.H=L.H/\MV base S h.full L' w'/\Keeps w w' S:=by
 have Y:=ah a;have HG:=ah g;clear a g;go_enter Tryz.func47,Tryz.ntmps47;go_wp2
 go_loopg [] h.phi (fun m wr=>∃ q:Hp,Hq (m=q.phi/\q.finish=h.finish/\Gd q/\(∃ L',L'.H=L.H/\MV base S q L' wr)/\Keeps w wr S))
 case atStart=>exact ⟨h,rfl,rfl,HG.o,⟨L,rfl,Y.o⟩,Keeps.refl _ _⟩
 case round=>
  clear Y;obtain ⟨q,HI⟩:=hrel;obtain ⟨L1,K,l⟩:=HI.out.2.2.2.1;obtain ⟨H1,a2,a1,a4,a3,a0⟩:=L1;obtain rfl:H1=L.H:=K;have c5:wr.cell? ⟨L.H,5,none⟩=some (.int .i64 (q.state:Int)):=l.hp.c 5;by_cases d:q.state=0
  ·have G:((q.state:Int) !=0)=false:=by simp [d]
   have V:q=h.finish:=by rw [<-HI.out.2.1,Hp.I7 q d]
   have f:=HI.out.2.2.1;have X:=ah (pI l f.s f.i.zero (fun n hn=>by obtain ⟨o,e⟩:=Hp.IG (f.i.ls n (.inl hn));exact Hp.Ia e) (fun n hn=>by obtain ⟨o,e⟩:=Hp.IG (f.i.ls n (.inr (.inl hn)));exact Hp.Ia e));have R:=ah (f.begin d);have T:Hq (h.full=q.begin.finish):=ah (by unfold Hp.full;rw [V]);have Q:=ah HI.out.2.2.2.2;clear l d V f HI;go_wp2_with fail;refine X.o.mono ?_;rintro W w2 ⟨rfl,L2,z,B,A⟩;have U:=ah (And.intro z (And.intro B (Q.o.trans A)));clear z B A X;go_wp2
   go_loopg [] q.begin.phi (fun m wr=>∃ p:Hp,Hq (m=p.phi/\p.finish=q.begin.finish/\Gd p/\(∃ L',L'.H=L.H/\MV base S p L' wr)/\Keeps w wr S))
   case atStart=>exact ⟨q.begin,rfl,rfl,R.o,⟨L2,U.o.1,U.o.2.1⟩,U.o.2.2⟩
   case round=>
    obtain ⟨p,v⟩:=hrel;obtain ⟨L3,J,b⟩:=v.o.2.2.2.1;obtain ⟨H3,E,D,M,F,C⟩:=L3;obtain rfl:H3=L.H:=J;have d5:wr.cell? ⟨L.H,5,none⟩=some (.int .i64 (p.state:Int)):=b.hp.c 5;by_cases vw:p.state=0
    ·have y:((p.state:Int) !=0)=false:=by simp [vw]
     have P:Hq (h.full=p):=ah (by rw [T.o,<-v.o.2.1,Hp.I7 p vw]);have HT:=ah b;clear b vw;go_wp2;go_end0;exact ⟨rfl,⟨L.H,E,D,M,F,C⟩,rfl,by rw [P.o];exact HT.o,v.o.2.2.2.2⟩
    ·have y:((p.state:Int) !=0)=true:=by simp;omega
     have u:=ah (rT v.o.2.2.1.i vw);have t:=ah (jS b v.o.2.2.1 1073741824 (by omega));clear b vw;go_wp2_with fail;refine t.o.mono ?_;rintro W Z ⟨rfl,N,j,r,k⟩;have x:=ah (And.intro j (And.intro r k));clear j r k t;go_wp2
     go_roundg (Hp.step 1073741824 p).phi
     case rel=>exact ⟨Hp.step 1073741824 p,rfl,u.o.2.trans v.o.2.1,v.o.2.2.1.step,⟨N,x.o.1,x.o.2.1⟩,v.o.2.2.2.2.trans x.o.2.2⟩
     case measure=>
      have:=v.o.1;have:=u.o.1;omega
  ·have G:((q.state:Int) !=0)=true:=by simp;omega
   have u:=ah (rT HI.out.2.2.1.i d);have t:=ah (jS l HI.out.2.2.1 1073741824 (by omega));clear l d;go_wp2_with fail;refine t.o.mono ?_;rintro W Z ⟨rfl,N,j,r,k⟩;have x:=ah (And.intro j (And.intro r k));clear j r k t;go_wp2
   go_roundg (Hp.step 1073741824 q).phi
   case rel=>exact ⟨Hp.step 1073741824 q,rfl,u.o.2.trans HI.out.2.1,HI.out.2.2.1.step,⟨N,x.o.1,x.o.2.1⟩,HI.out.2.2.2.2.trans x.o.2.2⟩
   case measure=>
    have:=HI.out.1;have:=u.o.1;omega
theorem Bq {L:SM} (a:MV base S h L w) (g:Gd h):
 Calls Tryz.prog 43 #[.pointer (some ⟨L.H,0,none⟩)] w fun e w'=>e=.returned (.tuple #[])/\∃ L',L'.H=L.H/\MV base S h.I6 L' w'/\Keeps w w' S:=by
 have F:w.cell? ⟨L.H,16,none⟩=some (.bool false):=a.hp.c 16;have J:w.cell? ⟨L.H,5,none⟩=some (.int .i64 (h.state:Int)):=a.hp.c 5;by_cases n:h.state=0
 ·have M:((h.state:Int)==0)=true:=by simp [n]
  have c1:w.cell? ⟨L.H,1,none⟩=some (.int .i64 (h.bytes:Int)):=a.hp.c 1;have c3:w.cell? ⟨L.H,3,none⟩=some (.int .i64 (h.limit:Int)):=a.hp.c 3;by_cases hb:h.bytes<h.limit
  ·have D:(h.bytes:Int)<(h.limit:Int):=by omega
   have u:Hq (h.I6=h):=ah (by unfold Hp.I6;rw [if_pos n,if_pos hb]);have y:=ah a;clear a g n hb;go_enter Tryz.func43,Tryz.ntmps43;go_wp2_with fail;go_quiet (fail);have v:=ah (aC (aT w.heap.size w) nq);go_wp2
   ((try simp only [Exit.inBlock,Exit.then]);refine bodyPost_ret (results_none rfl _ _ _) rfl ?_)
   exact ⟨rfl,L,rfl,by rw [u.o];exact y.o.low v.o,Keeps.of v.o (au _) S⟩
  ·have D:¬ (h.bytes:Int)<(h.limit:Int):=by omega
   have u:Hq (h.I6=Hp.step 64 { h with G6:=0 }):=ah (by unfold Hp.I6;rw [if_pos n,if_neg hb]);have y:=ah a;have Y:=ah (g.JB 0 (by omega));clear a g n hb;go_enter Tryz.func43,Tryz.ntmps43;go_wp2_with fail;go_quiet (fail);have v:=ah (aC (aT w.heap.size w) nq);have r:=ah (y.o.low v.o);have X:=ah (Keeps.of v.o (au _) S);generalize w.drewN nq=w2 at *;clear F J c1 c3 v;have R:=r.o.hp.c 4;have K:=r.o.hp.ME 4;have d:=ah (r.o.num (h':={ h with G6:=0 }) 4 (.int .i64 0) (by decide) rfl ⟨rfl,rfl,rfl,rfl,rfl,rfl,rfl⟩ rfl (bV _ rfl rfl rfl rfl rfl rfl rfl rfl rfl rfl rfl rfl rfl rfl rfl rfl rfl rfl));go_upto_region 4 with (fail)
   generalize w2.setCell ⟨L.H,4,none⟩ (.int .i64 0)=w3 at *;have T:w3.cell? ⟨L.H,17,none⟩=some (.int .i64 64):=d.o.1.hp.c 17;have l:=ah (jS d.o.1 Y.o 64 (by omega));clear R K;go_wp2_with fail;refine l.o.mono ?_;rintro e9 w5 ⟨rfl,U,i,k,j⟩;have t:=ah (And.intro i (And.intro k j));clear i k j l;go_wp2
   ((try simp only [Exit.inBlock,Exit.then]);refine bodyPost_ret (results_none rfl _ _ _) rfl ?_)
   exact ⟨rfl,U,t.o.1,by rw [u.o];exact t.o.2.1,(X.o.trans d.o.2).trans t.o.2.2⟩
 ·have M:((h.state:Int)==0)=false:=by simp;omega
  have u:Hq (h.I6=h.Ip):=ah (by unfold Hp.I6;rw [if_neg n]);have y:=ah a;have Y:=ah g;clear a g n;go_enter Tryz.func43,Tryz.ntmps43;go_wp2
  go_loopg [] h.G6 (fun m wr=>∃ q:Hp,Hq (m=q.G6/\q.Ip=h.Ip/\Gd q/\(∃ L',L'.H=L.H/\MV base S q L' wr)/\Keeps w wr S))
  case atStart=>exact ⟨h,rfl,rfl,Y.o,⟨L,rfl,y.o⟩,Keeps.refl _ _⟩
  case round=>
   clear y F J;obtain ⟨q,HI⟩:=hrel;obtain ⟨L1,Q,b⟩:=HI.out.2.2.2.1;obtain ⟨H1,B,A,E,C,z⟩:=L1;obtain rfl:H1=L.H:=Q;have J:wr.cell? ⟨L.H,5,none⟩=some (.int .i64 (q.state:Int)):=b.hp.c 5;have R:wr.cell? ⟨L.H,4,none⟩=some (.int .i64 (q.G6:Int)):=b.hp.c 4;have K:=b.hp.ME 4;have a0:=HI.out.2.2.1.s.cr;by_cases Z:256<=q.G6
   ·have P:(q.G6:Int) ≥ 256:=by omega
    by_cases f:q.state=0
    ·have N:((q.state:Int) !=0)=false:=by simp [f]
     have p:=ah (Hp.IZ q (fun x=>x.2 f));have V:=ah b;clear b f;go_wp2;go_end0;exact ⟨rfl,⟨L.H,B,A,E,C,z⟩,rfl,by rw [u.o,<-HI.out.2.1,p.o];exact V.o,HI.out.2.2.2.2⟩
    ·have N:((q.state:Int) !=0)=true:=by simp;omega
     have W:=ah (Hp.JJ q Z f);have d:=ah (b.num (h':={ q with G6:=q.G6-256 }) 4 (.int .i64 ((q.G6:Int)-256)) (by decide) rfl ⟨rfl,rfl,rfl,rfl,rfl,rfl,rfl⟩ rfl (bV _ rfl rfl rfl rfl (congrArg (Value.int .i64) (by show (q.G6:Int)-256=((q.G6-256:Nat):Int);omega)) rfl rfl rfl rfl rfl rfl rfl rfl rfl rfl rfl rfl rfl));have G:=ah (HI.out.2.2.1.JB (q.G6-256) (by omega));clear b f;go_upto_region 7 with (fail)
     generalize wr.setCell ⟨L.H,4,none⟩ (.int .i64 ((q.G6:Int)-256))=w3 at *;have T:w3.cell? ⟨L.H,17,none⟩=some (.int .i64 64):=d.o.1.hp.c 17;have l:=ah (jS d.o.1 G.o 64 (by omega));clear R K J;go_wp2_with fail;refine l.o.mono ?_;rintro e9 w5 ⟨rfl,U,i,k,j⟩;have t:=ah (And.intro i (And.intro k j));clear i k j l;go_wp2
     go_roundg (Hp.step 64 { q with G6:=q.G6-256 }).G6
     case rel=>exact ⟨Hp.step 64 { q with G6:=q.G6-256 },rfl,W.o.symm.trans HI.out.2.1,G.o.step,⟨U,t.o.1,t.o.2.1⟩,(HI.out.2.2.2.2.trans d.o.2).trans t.o.2.2⟩
     case measure=>
      have h1:=HI.out.1;have h2:=Hp.Jc 64 { q with G6:=q.G6-256 };simp only at h2;omega
   ·have P:¬ (q.G6:Int) ≥ 256:=by omega
    have p:=ah (Hp.IZ q (fun x=>Z x.1));have V:=ah b;clear b;go_wp2;go_end0;exact ⟨rfl,⟨L.H,B,A,E,C,z⟩,rfl,by rw [u.o,<-HI.out.2.1,p.o];exact V.o,HI.out.2.2.2.2⟩
end
section
variable {S:Nat->Prop} {base n:Nat} {h:Hp} {o:Ob} {w:World}
theorem tN {L:SM} (a:MV base S h L w) (n:Nat) (j:n<=1000) (l:h.bytes<=300000) (k:h.G6<=300000):
 Calls Tryz.prog 57 #[.pointer (some ⟨L.H,0,none⟩),.int .i64 (n:Int)] w fun e w'=>e=.returned (.tuple #[])/\MV base S { h with bytes:=h.bytes+n,G6:=h.G6+n } L w'/\Keeps w w' S:=by
 have g:w.cell? ⟨L.H,1,none⟩=some (.int .i64 (h.bytes:Int)):=a.hp.c 1;have f:=a.hp.ME 1;have b:=ah (a.num (h':={ h with bytes:=h.bytes+n }) 1 (.int .i64 ((h.bytes:Int)+(n:Int))) (by decide) rfl ⟨rfl,rfl,rfl,rfl,rfl,rfl,rfl⟩ rfl (bV _ rfl rfl rfl rfl rfl rfl rfl rfl rfl rfl rfl rfl rfl rfl rfl rfl rfl rfl));clear a;go_enter Tryz.func57,Tryz.ntmps57;go_upto_region 1 with (fail)
 generalize w.setCell ⟨L.H,1,none⟩ (.int .i64 ((h.bytes:Int)+(n:Int)))=w1 at *;clear g f;have m:w1.cell? ⟨L.H,4,none⟩=some (.int .i64 (h.G6:Int)):=b.o.1.hp.c 4;have i:=b.o.1.hp.ME 4;have d:=ah (b.o.1.num (h':={ h with bytes:=h.bytes+n,G6:=h.G6+n }) 4 (.int .i64 ((h.G6:Int)+(n:Int))) (by decide) rfl ⟨rfl,rfl,rfl,rfl,rfl,rfl,rfl⟩ rfl (bV _ rfl rfl rfl rfl rfl rfl rfl rfl rfl rfl rfl rfl rfl rfl rfl rfl rfl rfl));go_wp2;go_end0;exact ⟨rfl,d.o.1,b.o.2.trans d.o.2⟩
theorem rZ {L:SM} (a:MV base S h L w) (hp:1<=h.objs.length) (G:h.objs.length<=5001) (J:h.again.length<=20000) (ho:h.ob n=some o):
 Calls Tryz.prog 62 #[.pointer (some ⟨L.H,0,none⟩),.int .i64 (n:Int)] w fun e w'=>e=.returned (.tuple #[])/\∃ L',Ln 8 L L'/\MV base S (h.back n) L' w'/\Keeps w w' S:=by
 have F:=Hp.Ia ho;obtain ⟨M,t,k,B,b⟩:=a.slot hp;have z:=b n F;have R:w.cell? ⟨L.H,0,none⟩=some (.slice (some ⟨M,0,none⟩) h.objs.length t):=by rw [<-k];exact a.hp.c 0
 obtain ⟨r0,f⟩:=a.ob n o ho;have Q:w.cell? ⟨L.ob n,1,none⟩=some (.int .i64 (o.col:Int)):=f.c 1;have D:=f.ME 1;have P:w.cell? ⟨L.H,5,none⟩=some (.int .i64 (h.state:Int)):=a.hp.c 5;have E:(n:Int)<(h.objs.length:Int):=by omega
 have C:=ah a;have HO:=ah ho;by_cases p:o.col=3
 ·have A:((o.col:Int)==3)=true:=by simp [p]
  by_cases q:h.state=1
  ·have v:((h.state:Int)==1)=true:=by simp [q]
   have g:Hq (h.back n=dD (h.upd n fun o=>{ o with col:=2 }) 8 (g_ (h.upd n fun o=>{ o with col:=2 }) 8++[n])):=ah (by unfold Hp.back;rw [ho];simp only;rw [if_pos ⟨p,q⟩];rfl);have u:=ah (a.Mk n 1 (.int .i64 2) (fun o=>{ o with col:=2 }) (by decide) ho ⟨rfl,rfl⟩ (fun r i=>by
    unfold kY;by_cases x:i=1
    ·subst x;simp
    ·simp [x]))
   have y:(g_ (h.upd n fun o=>{ o with col:=2 }) 8).length<=1000000:=by
    show h.again.length<=_;omega
   clear a ho f b k p q;go_enter Tryz.func62,Tryz.ntmps62;go_upto_region 3 with (fail)
   generalize w.setCell ⟨L.ob n,1,none⟩ (.int .i64 2)=w5 at *;obtain ⟨ag,N,m⟩:=aF (u.o.1.li 8 (by simp [eO]));have Z:w5.cell? ⟨L.H,8,none⟩=some (.slice ag h.again.length N):=by
    have:=u.o.1.hp.c 8;rw [this];exact congrArg some m
   have U:=ah m;clear m R Q D P z;go_wp2_with (first
    |(at_builtin;refine u.o.1.app 8 (by simp [eO]) n rfl _ _ rfl U.o.symm rfl y ?_;intro X Y w1 d l s;have cR:=d.c 8;have W:=d.ME 8;have V:=ah l;have T:=ah s;clear d l s)
    |go_in)
   go_end0;have K:=V.o;refine ⟨rfl,_,?_,by rw [g.o];exact K,u.o.2.trans T.o⟩;exact ⟨rfl,rfl,rfl,rfl,rfl,fun j hj=>by simp [hj]⟩
  ·have v:((h.state:Int)==1)=false:=by simp;omega
   have g:Hq (h.back n=h):=ah (by unfold Hp.back;rw [ho];simp only;rw [if_neg (fun x=>q x.2)]);clear a ho f b k p q;go_enter Tryz.func62,Tryz.ntmps62;go_wp2;go_end0;exact ⟨rfl,L,⟨rfl,rfl,rfl,rfl,rfl,fun _ _=>rfl⟩,by rw [g.o];exact C.o,Keeps.refl _ _⟩
 ·have A:((o.col:Int)==3)=false:=by simp;omega
  have g:Hq (h.back n=h):=ah (by unfold Hp.back;rw [ho];simp only;rw [if_neg (fun x=>p x.1)]);clear a ho f b k p;go_enter Tryz.func62,Tryz.ntmps62;go_wp2;go_end0;exact ⟨rfl,L,⟨rfl,rfl,rfl,rfl,rfl,fun _ _=>rfl⟩,by rw [g.o];exact C.o,Keeps.refl _ _⟩
end
section
variable {S:Nat->Prop} {base j n:Nat} {e:En} {es:List En} {h:Hp} {o:Ob} {w:World}
def iF (es:List En) (k:HV):Int:=match kG es k with
 |some i=>(i:Int)
 |none=> -1
theorem rA (wr:World) (v:HV):aD (wr.alloc (.cells (Nu v) 95)) 95 wr.heap.size 5 (fun j=>(wX v).getD j (.bool false)):=by
 have h:=aD.mk' wr 95 #[.int .i64 (vk v),.int .i64 (vi v),.int .u64 0,.string ByteArray.empty,.int .i64 (vr v)];refine aD.congr (show aD _ _ _ 5 _ from h) (fun j hj=>?_);have:j=0∨j=1∨j=2∨j=3∨j=4:=by omega
 rcases this with rfl|rfl|rfl|rfl|rfl<;>rfl
theorem iG (a b:HV):(a==b)=decide (a=b):=by
 cases a with
 |none=>cases b<;>rfl
 |some x=>cases b with
  |none=>cases x<;>rfl
  |some y=>
   cases x with
   |inl m=>cases y with
    |inl n=>show (m==n)=_;rw [Bool.eq_iff_iff];simp
    |inr n=>show false=_;simp
   |inr m=>cases y with
    |inl n=>show false=_;simp
    |inr n=>show (m==n)=_;rw [Bool.eq_iff_iff];simp
theorem iV {k:HV} (a:es[j]?=some e) (h:∀ x∈es.take j,x.1≠k) (hk:¬ e.1=k):∀ x∈es.take (j+1),x.1≠k:=by
 intro x hx;rw [List.take_add_one,a] at hx;simp only [Option.toList_some,eT,List.mem_singleton] at hx;rcases hx with hx|rfl
 ·exact h x hx
 ·exact hk
theorem kD {k:HV} (b:es[j]?=some e) (hk:e.1=k) (h:∀ x∈es.take j,x.1≠k):iF es k=(j:Int):=by
 have:kG es k=some j:=by
  unfold kG;rw [List.findIdx?_eq_some_iff_getElem];obtain ⟨a,rfl⟩:=aJ.mp b;refine ⟨a,by rw [iG];simpa using hk,fun i hi=>?_⟩;have:=h es[i] (List.mem_take_iff_getElem.mpr ⟨i,by omega,rfl⟩)
  simpa [iG] using this
 unfold iF;rw [this]
theorem lq {k:HV} (h:∀ x∈es,x.1≠k):iF es k= -1:=by
 have:kG es k=none:=by
  unfold kG;rw [List.findIdx?_eq_none_iff];intro x hx
  simpa [iG] using h x hx
 unfold iF;rw [this]
theorem n_ {a b:HV} (c:vk a=vk b) (f:vi a=vi b) (d:(vr a:Int)=(vr b:Int)):a=b:=by
 cases a with
 |none=>cases b with
  |none=>rfl
  |some y=>cases y<;>simp [vk] at c
 |some x=>cases b with
  |none=>cases x<;>simp [vk] at c
  |some y=>cases x<;>cases y<;>simp_all [vk,vi,vr]<;>omega
theorem zG {L:SM} (a:MV base S h L w) (ho:h.ob n=some o) (a3:o.es.length<=5000) (k:HV) (hk:vk k≠2):
 Calls Tryz.prog 60 #[.pointer (some ⟨L.ob n,0,none⟩),.agg #[.int .i64 (vk k),.int .i64 (vi k),.int .u64 0,.string ByteArray.empty,.int .i64 (vr k)]] w fun e w'=>e=.returned (.int .i64 (iF o.es k))/\Below w.heap.size w w':=by
 obtain ⟨A,z,s,W,u⟩:=a.ents ho;obtain ⟨r0,r⟩:=a.ob n o ho;have Z:w.cell? ⟨L.ob n,5,none⟩=some (.slice A o.es.length z):=by rw [<-s];exact r.c 5
 have t:=aU w (.cells (Nu k) 95);have hO:=r.lt;have H:=(t.cell (p:=⟨L.ob n,5,none⟩) hO).trans Z;have C:=ah (rA w k);have a0:(vk k==2)=false:=by simpa using hk
 have HA:=ah a;have HO:=ah ho;have U:=ah s;have i:=ah t;clear a ho s u r t Z;go_enter Tryz.func60,Tryz.ntmps60;go_upto_region 1 with (fail)
 generalize w.alloc (.cells (Nu k) 95)=w3 at *;generalize G:w.heap.size=X at *;have x0:w3.cell? ⟨X,0,none⟩=some (.int .i64 (vk k)):=C.o.c 0;go_wp2_with fail;go_quiet (fail);have g:=ah (aC (aT w3.heap.size w3) nq);have B:=ah (C.o.keep (Keeps.of g.o (au _) (fun _=>False)) (fun x=>x));have a4:=(g.o.cell (p:=⟨L.ob n,5,none⟩) (aW hO (G ▸ i.o.size))).trans H;generalize w3.drewN nq=w4 at *;have J:=ah (show Below w.heap.size w w4 from G ▸ (i.o.trans (g.o.mono (G ▸ i.o.size))));have F:=ah ((HA.o.low (G ▸ i.o)).low g.o);clear HA C i g H x0;go_wp2;go_loopw [47,5,6] (fun jv _ _ ws=>∃ j:Nat,j<=o.es.length/\jv=.int .i64 j/\Hq ((∀ e∈o.es.take j,e.1≠k)/\Below w4.heap.size w4 ws)) (fun jv _ _ _=>o.es.length-bF jv)
 case atStart=>exact ⟨0,by omega,rfl,by simp,aT _ _⟩
 case round=>
  obtain ⟨j,a1,rfl,q⟩:=hrel;by_cases K:j<o.es.length
  ·obtain ⟨e,v⟩:∃ e,o.es[j]?=some e:=⟨_,aN K⟩
   have V:=ah (F.o.low q.o.2);obtain ⟨A3,y,m,P,f⟩:=V.o.ents HO.o;have:A3=A/\y=z:=by
    have Q:=m.symm.trans U.o;simp only [Value.slice.injEq] at Q;exact ⟨Q.1,Q.2.2⟩
   obtain ⟨rfl,rfl⟩:=this;obtain ⟨g2,rfl,a2,b⟩:=f j e v;have d0:=b 0 _ rfl;have d1:=b 1 _ rfl;have d2:=b 2 _ rfl;have d3:=b 3 _ rfl;have d4:=b 4 _ rfl;have H:=b 5 _ rfl;have d6:=b 6 _ rfl;have d7:=b 7 _ rfl;have d8:=b 8 _ rfl;have d9:=b 9 _ rfl;simp only [Nat.add_zero] at d0;have R:=ah (B.o.keep (Keeps.of q.o.2 (au _) (fun _=>False)) (fun x=>x));have T:=ah (R.o.keep (Keeps.of (aU wr (.cells (Nw e.1 e.2) 122)) (au _) (fun _=>False)) (fun x=>x));have E:=ah (q.o.2.trans ((aU wr (.cells (Nw e.1 e.2) 122)).mono q.o.2.size));have C:=ah (lV wr e);have D:=ah v;clear m f b v;go_upto_region 6 with (fail)
   generalize wr.alloc (.cells (Nw e.1 e.2) 122)=w5 at *;generalize wr.heap.size=Y at *;obtain ⟨x0,x1,x2,x3,x4⟩:NQ w5 Y e.1:=C.o.c5;obtain ⟨y0,y1,y2,y3,y4⟩:NQ w5 X k:=T.o.c5;clear d0 d1 d2 d3 d4 H d6 d7 d8 d9;by_cases d:e.1=k
   ·rw [d] at x0 x1 x4
    have l:=ah d;clear d;go_wp2;go_ret;have N:iF o.es k=(j:Int):=kD D.o l.o q.o.1;exact ⟨by rw [N];rfl,J.o.trans (E.o.mono J.o.size)⟩
   ·have l:=ah d
    clear d;go_wp2
    any_goals go_ret;exact absurd (n_ (by simp_all) (by simp_all) (by simp_all)) l.o
    all_goals
     refine ⟨⟨j+1,by omega,by simp,?_,E.o⟩,by simp [bF];omega⟩;exact iV D.o q.o.1 l.o
  ·clear B F
   have M:j=o.es.length:=by omega
   subst M;go_wp2;go_ret;have N:iF o.es k= -1:=lq (fun e v=>q.o.1 e (by rw [bN];exact v));exact ⟨by rw [N];rfl,J.o.trans (q.o.2.mono J.o.size)⟩
end
end Go.Proofs.YtbpcdfbmnklcjaaGreatDoor
