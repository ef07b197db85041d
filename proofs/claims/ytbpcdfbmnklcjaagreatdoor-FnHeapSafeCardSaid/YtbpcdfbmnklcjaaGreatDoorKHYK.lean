import Derived.Test.YtbpcdfbmnklcjaaGreatDoorKHUC
import Derived.Test.YtbpcdfbmnklcjaaGreatDoorKHYF
namespace Go.Proofs.YtbpcdfbmnklcjaaGreatDoor
open Go Go.RowKit
set_option maxHeartbeats 6400000
set_option maxRecDepth 100000
set_option linter.unusedVariables false
section
variable {A C:Int} {R base hand:Nat} {S:Nat->Prop} {h:Hp} {root:List Bool} {rv:Value} {w w' w1 w2:World}
def bG (h:Hp) (hand:Nat) (kd A B C:Int):Prop:=
 (kd=2->fJ h hand A/\(C=0∨fJ h hand C))/\(kd=3->fJ h hand A/\fJ h hand B/\(C=0∨fJ h hand C))/\(kd=4->fJ h hand A)/\(kd=5->fJ h hand A)
theorem Bn (p:Prop):∃ b:Bool,b=true↔p:=by
 classical
 exact ⟨decide p,by simp⟩
theorem bG.two {B:Int}:bG h hand 2 A B C↔fJ h hand A/\(C=0∨fJ h hand C):=
 ⟨fun x=>x.1 rfl,fun x=>⟨fun _=>x,fun h=>absurd h (by decide),fun h=>absurd h (by decide),fun h=>absurd h (by decide)⟩⟩
theorem bG.three {B:Int}:bG h hand 3 A B C↔fJ h hand A/\fJ h hand B/\(C=0∨fJ h hand C):=
 ⟨fun x=>x.2.1 rfl,fun x=>⟨fun h=>absurd h (by decide),fun _=>x,fun h=>absurd h (by decide),fun h=>absurd h (by decide)⟩⟩
theorem bG.four {k B:Int} (hk:k=4∨k=5):bG h hand k A B C↔fJ h hand A:=by
 rcases hk with rfl|rfl
 ·exact ⟨fun x=>x.2.2.1 rfl,fun x=>⟨fun h=>absurd h (by decide),fun h=>absurd h (by decide),fun _=>x,fun h=>absurd h (by decide)⟩⟩
 ·exact ⟨fun x=>x.2.2.2 rfl,fun x=>⟨fun h=>absurd h (by decide),fun h=>absurd h (by decide),fun h=>absurd h (by decide),fun _=>x⟩⟩
theorem bG.rest {k B:Int} (d:k≠2) (c:k≠3) (b:k≠4) (a:k≠5):bG h hand k A B C:=⟨fun h=>absurd h d,fun h=>absurd h c,fun h=>absurd h b,fun h=>absurd h a⟩
theorem wR (a:Below w.heap.size w w1) (b:Below w1.heap.size w1 w2):Below w.heap.size w w2:=a.trans (b.mono a.size)
structure Mw (base:Nat) (S:Nat->Prop) (h:Hp) (L:SM) (R hand:Nat) (rv:Value) (root:List Bool) (w:World):Prop where
 a:MW base S h L w
 r:aD w 61 R 3 (Eh L.H rv hand)
 v:w.ownsRow base 4 1 rv root.length (iZ root)
 l:root.length=h.objs.length
 o:h.roots=dR 0 root
theorem Mw.low {base:Nat} {S:Nat->Prop} {h:Hp} {L:SM} {R hand:Nat} {rv:Value} {root:List Bool} {w w':World} (x:Mw base S h L R hand rv root w) (b:Below w.heap.size w w'):Mw base S h L R hand rv root w':=by
 have k:=Keeps.of b (au _) (fun _=>False);exact ⟨x.a.low b,x.r.keep k (fun y=>y),aj x.v k (fun _ _ y=>y),x.l,x.o⟩
theorem Mw.at {L:SM} (x:Mw base S h L R hand rv root w) (i:Inv h) (d:h.objs.length<=5001) (f:∀ n o,h.ob n=some o->o.es.length<=5000) (c:Int) (b:Bool) (hb:b=true↔fJ h hand c):
 Calls Tryz.prog 40 #[.pointer (some ⟨R,0,none⟩),.int .i64 c] w fun e w'=>e=.returned (.bool b)/\Below w.heap.size w w'/\Mw base S h L R hand rv root w':=by
 refine (uI x.a i d f x.r x.v x.l x.o c).mono ?_;rintro e w' ⟨⟨k,rfl,g⟩,j⟩;have:k=b:=by
  rw [Bool.eq_iff_iff,hb,g]
 subst this;exact ⟨rfl,j,x.low j⟩
theorem fK (wr:World) (kd A B C:Int):aD (wr.alloc (.cells #[.int .i64 kd,.int .i64 A,.int .i64 B,.int .i64 C] 39)) 39 wr.heap.size 4 (fun j=>[Value.int .i64 kd,.int .i64 A,.int .i64 B,.int .i64 C].getD j (.bool false)):=by
 have h:=aD.mk' wr 39 #[.int .i64 kd,.int .i64 A,.int .i64 B,.int .i64 C];refine aD.congr (show aD _ _ _ 4 _ from h) (fun j hj=>?_);have:j=0∨j=1∨j=2∨j=3:=by omega
 rcases this with rfl|rfl|rfl|rfl<;>rfl
def oW (h:Hp) (hand:Nat) (kd A B C:Int) (w:World) (e:Ending) (w':World):Prop:=(∃ b,e=.returned (.bool b)/\(b=true↔bG h hand kd A B C))/\Below w.heap.size w w'
theorem vX {k B:Int} {b:Bool} (hk:k=4∨k=5) (hb:b=true↔fJ h hand A) (a:Below w.heap.size w w'):oW h hand k A B C w (.returned (.bool b)) w':=⟨⟨b,rfl,by rw [hb,bG.four hk]⟩,a⟩
theorem yF {L:SM} (x:Mw base S h L R hand rv root w) (i:Inv h) (s:h.objs.length<=5001) (t:∀ n o,h.ob n=some o->o.es.length<=5000) (kd A B C:Int):
 Calls Tryz.prog 33 #[.pointer (some ⟨R,0,none⟩),.agg #[.int .i64 kd,.int .i64 A,.int .i64 B,.int .i64 C]] w (oW h hand kd A B C w):=by
 have E:=ah (fK w kd A B C);have e:=ah (aU w (.cells #[.int .i64 kd,.int .i64 A,.int .i64 B,.int .i64 C] 39));have HR:=ah (x.low e.o);obtain ⟨bA,hA⟩:∃ b:j,b=a↔fJ h hand A:=Bn _;obtain ⟨bB,hB⟩:∃ b:j,b=a↔fJ h hand B:=Bn _;obtain ⟨bC,Z⟩:∃ b:j,b=a↔fJ h hand C:=Bn _;have v:=ah (fun (w':World) (y:Mw base S h L R hand rv root w')=>y.at i s t A bA hA);have a3:=ah (fun (w':World) (y:Mw base S h L R hand rv root w')=>y.at i s t B bB hB);have Q:=ah (fun (w':World) (y:Mw base S h L R hand rv root w')=>y.at i s t C bC Z);have F:=ah hA;have T:=ah hB;have HC:=ah Z;clear hA hB Z x;go_enter Tryz.func33,Tryz.ntmps33;go_upto_region 1 with (fail)
 generalize w.alloc (.cells #[.int .i64 kd,.int .i64 A,.int .i64 B,.int .i64 C] 39)=w1 at *;generalize f:w.heap.size=X at *;have x0:w1.cell? ⟨X,0,none⟩=some (.int .i64 kd):=E.o.c 0;by_cases D:kd=2
 ·subst D
  have x1:w1.cell? ⟨X,1,none⟩=some (.int .i64 A):=E.o.c 1;go_wp2_with fail;refine (v.o _ HR.o).mono ?_;rintro e2 w2 ⟨rfl,d,k⟩;have u:=ah k;have g:=ah d;have r:=ah (E.o.keep (Keeps.of d (au _) (fun _=>False)) (fun y=>y));clear d k x0 x1;have V:w2.cell? ⟨X,3,none⟩=some (.int .i64 C):=r.o.c 3;cases bA with
  |false=>
   have P:=ah (show ¬ fJ h hand A from fun y=>absurd (F.o.2 y) (by simp));go_wp2;go_ret;exact (⟨⟨false,rfl,by simp only [j.false_eq_true,false_iff];exact fun hh=>P.o (bG.two.1 hh).1⟩,by rw [f];exact e.o.trans (g.o.mono (f ▸ e.o.size))⟩:oW h hand _ A B C w _ _)
  |a=>
   have N:=ah (F.o.1 rfl);by_cases q:C=0
   ·subst q
    go_wp2;go_ret;exact (⟨⟨a,rfl,by simp only [true_iff];exact bG.two.2 ⟨N.o,.inl rfl⟩⟩,by rw [f];exact e.o.trans (g.o.mono (f ▸ e.o.size))⟩:oW h hand _ A B _ w _ _)
   ·have a0:(C==0)=false:=by simpa using q
    have z:=ah q;clear q;go_wp2_with fail;refine (Q.o _ u.o).mono ?_;rintro e3 w3 ⟨rfl,l,p⟩;have m:=ah l;clear l p V;go_wp2;go_ret;refine (⟨⟨bC,rfl,?_⟩,by rw [f];exact e.o.trans (((wR g.o m.o)).mono (f ▸ e.o.size))⟩:oW h hand _ A B C w _ _);rw [HC.o,bG.two];exact ⟨fun hh=>⟨N.o,.inr hh⟩,fun hh=>hh.2.resolve_left z.o⟩
 ·have J:(kd==2)=false:=by simpa using D
  by_cases H:kd=3
  ·subst H
   clear D J;have x1:w1.cell? ⟨X,1,none⟩=some (.int .i64 A):=E.o.c 1;go_wp2_with fail;refine (v.o _ HR.o).mono ?_;rintro e2 w2 ⟨rfl,d,k⟩;have u:=ah k;have g:=ah d;have r:=ah (E.o.keep (Keeps.of d (au _) (fun _=>False)) (fun y=>y));clear d k x0 x1;cases bA with
   |false=>
    have P:=ah (show ¬ fJ h hand A from fun y=>absurd (F.o.2 y) (by simp));go_wp2;go_ret;exact (⟨⟨false,rfl,by simp only [j.false_eq_true,false_iff];exact fun hh=>P.o (bG.three.1 hh).1⟩,by rw [f];exact e.o.trans (g.o.mono (f ▸ e.o.size))⟩:oW h hand _ A B C w _ _)
   |a=>
    have N:=ah (F.o.1 rfl);have y2:w2.cell? ⟨X,2,none⟩=some (.int .i64 B):=r.o.c 2;go_wp2_with fail;refine (a3.o _ u.o).mono ?_;rintro e3 w3 ⟨rfl,l,p⟩;have a2:=ah p;have m:=ah (wR g.o l);have a1:=ah (r.o.keep (Keeps.of l (au _) (fun _=>False)) (fun y=>y));clear l p y2;cases bB with
    |false=>
     have P:=ah (show ¬ fJ h hand B from fun y=>absurd (T.o.2 y) (by simp));go_wp2;go_ret;exact (⟨⟨false,rfl,by simp only [j.false_eq_true,false_iff];exact fun hh=>P.o (bG.three.1 hh).2.1⟩,by rw [f];exact e.o.trans (m.o.mono (f ▸ e.o.size))⟩:oW h hand _ A B C w _ _)
    |a=>
     have M:=ah (T.o.1 rfl);have V:w3.cell? ⟨X,3,none⟩=some (.int .i64 C):=a1.o.c 3;by_cases q:C=0
     ·subst q
      go_wp2;go_ret;exact (⟨⟨a,rfl,by simp only [true_iff];exact bG.three.2 ⟨N.o,M.o,.inl rfl⟩⟩,by rw [f];exact e.o.trans (m.o.mono (f ▸ e.o.size))⟩:oW h hand _ A B _ w _ _)
     ·have a0:(C==0)=false:=by simpa using q
      have z:=ah q;clear q;go_wp2_with fail;refine (Q.o _ a2.o).mono ?_;rintro e4 w4 ⟨rfl,K,Y⟩;have a4:=ah K;clear K Y V;go_wp2;go_ret;refine (⟨⟨bC,rfl,?_⟩,by rw [f];exact e.o.trans (((wR m.o a4.o)).mono (f ▸ e.o.size))⟩:oW h hand _ A B C w _ _);rw [HC.o,bG.three];exact ⟨fun hh=>⟨N.o,M.o,.inr hh⟩,fun hh=>hh.2.2.resolve_left z.o⟩
  ·have W:(kd==3)=false:=by simpa using H
   by_cases G:kd=4∨kd=5
   ·have x1:w1.cell? ⟨X,1,none⟩=some (.int .i64 A):=E.o.c 1
    rcases G with rfl|rfl
    all_goals
     clear D H J W;go_wp2_with fail;refine (v.o _ HR.o).mono ?_;rintro e2 w2 ⟨rfl,d,k⟩;have g:=ah d;clear d k x0 x1;go_wp2;go_ret
     first
      |exact vX (.inl rfl) F.o (by rw [f];exact e.o.trans (g.o.mono (f ▸ e.o.size)))
      |exact vX (.inr rfl) F.o (by rw [f];exact e.o.trans (g.o.mono (f ▸ e.o.size)))
   ·have a6:(kd==4)=false:=by simp;omega
    have a5:(kd==5)=false:=by simp;omega
    have U:=ah (show kd≠2/\kd≠3/\kd≠4/\kd≠5 from ⟨D,H,by omega,by omega⟩);clear D H G;go_wp2;go_ret;exact (⟨⟨a,rfl,by simp only [true_iff];exact bG.rest U.o.1 U.o.2.1 U.o.2.2.1 U.o.2.2.2⟩,by rw [f];exact e.o⟩:oW h hand _ A B C w _ _)
end
section
variable {G:Gh} {L:PM} {S:Nat->Prop} {base n:Nat} {h:Hp} {o:Ob} {w:World}
attribute [local go_sem] bW
theorem qE (h:Hp):h.GZ.length<=h.nu/\h.weak.length<=h.nu:=by
 have:h.nu=h.wn+h.grey.length+h.GZ.length+h.weak.length:=rfl;omega
theorem Gr (a:MV base S h G L w) (ho:h.ob n=some o) (q:∀ e∈o.es,iP h e.1/\iP h e.2) (E:o.es.length<=5000) (V:h.nu+1<=20000) (D:o.mode=1):
 Calls Tryz.prog 182 #[.pointer (some ⟨L.tb n,0,none⟩),.pointer (some ⟨L.H,0,none⟩)] w fun e w'=>e=.returned (.int .i64 (o.es.length:Int))/\∃ L',MS L L'/\MV base S ((Hp.spread { h with GZ:=h.GZ++[n] } o.es).1) G L' w'/\Keeps w w' S:=by
 obtain ⟨A,u,j,Q,-⟩:=a.ents ho;have hr:=a.ob n o ho;have W:w.cell? ⟨L.tb n,7,none⟩=some (.slice A o.es.length u):=by rw [<-j];exact hr.c 7
 have X:w.cell? ⟨L.tb n,6,none⟩=some (.pointer none):=hr.c 6;have Y:w.cell? ⟨L.tb n,5,none⟩=some (.int .i64 1):=by
  rw [hr.c 5];show some (Value.int .i64 (o.mode:Int))=_;rw [D];rfl
 have m:=ah a;have R:=ah ho;have HE:=ah j;have Z:=ah q;clear a ho j q hr;go_enter Tryz.func182,Tryz.ntmps182;go_upto_region 13 with (fail)
 have i:=m.o.li 14 (by simp [eF]);have b:((eU h G 14).map (eP L.tb 14)).length=(eU h G 14).length:=by simp
 have N:=ah (oz w base L.H 14 (L.li 14) ((eU h G 14).map (eP L.tb 14)) (L.tb n) (m.o.hp.c 14) (m.o.hp.Nq 14) (by rw [b];exact i) (fun e=>ak i m.o.hp (by decide) e) (by rw [b];have:=qE h;show (Hp.GZ h).length<=1000000;omega) m.o.bs);clear i b;go_wp2_with fail;refine N.o.mono ?_;intro e4 w4 p;obtain ⟨rfl,⟨P,y,J,B,U⟩,f,l,t⟩:=m.o.add (k:=14) (by simp [kG]) (n:=n) p;obtain rfl:P=L.H:=f.H;obtain rfl:y=L.tb:=f.tb;obtain rfl:J=L.es:=f.es;obtain rfl:B=L.mp:=f.mp;have P:=ah (And.intro l t);have K:=ah (mP l (n:=n) (o:=o) R.o Z.o E (by show h.wn+h.grey.length+(h.GZ++[n]).length+h.weak.length<=20000;have:h.nu=h.wn+h.grey.length+h.GZ.length+h.weak.length:=rfl;simp;omega));have M:Hq (iM h 14 (eU h G 14++[n])={ h with GZ:=h.GZ++[n] }):=ah rfl;clear p f l t Y X W;go_wp2_with fail;refine K.o.mono ?_;rintro e7 T ⟨rfl,⟨v,x,F,z,C⟩,d,g,s⟩;obtain rfl:v=L.H:=d.H;obtain rfl:x=L.tb:=d.tb;obtain rfl:F=L.es:=d.es;obtain rfl:z=L.mp:=d.mp;rw [M.o] at g;have v:=ah (And.intro g s);obtain ⟨o1,r⟩:∃ o1,(Hp.spread { h with GZ:=h.GZ++[n] } o.es).1.ob n=some o1:=((Np.spread { h with GZ:=h.GZ++[n] } o.es).lv n).2 ⟨o,R.o⟩;have f7:T.cell? ⟨L.tb n,7,none⟩=some (.slice A o.es.length u):=by
  rw [(g.ob n o1 r).c 7];exact congrArg some HE.o
 clear d g s r;go_wp2;go_ret;exact ⟨rfl,⟨L.H,L.tb,L.es,L.mp,C⟩,⟨rfl,rfl,rfl,rfl⟩,v.o.1,P.o.2.trans v.o.2⟩
theorem F6 (a:MV base S h G L w) (ho:h.ob n=some o) (m:∀ e∈o.es,iP h e.1/\iP h e.2) (C:o.es.length<=5000) (B:h.nu<=20000) (v:o.mode=3):
 Calls Tryz.prog 182 #[.pointer (some ⟨L.tb n,0,none⟩),.pointer (some ⟨L.H,0,none⟩)] w fun e w'=>e=.returned (.int .i64 (o.es.length:Int))/\∃ L',MS L L'/\MV base S ({ h with weak:=h.weak++[n] }) G L' w'/\Keeps w w' S:=by
 obtain ⟨A,q,g,z,-⟩:=a.ents ho;have hr:=a.ob n o ho;have D:w.cell? ⟨L.tb n,7,none⟩=some (.slice A o.es.length q):=by rw [<-g];exact hr.c 7
 have E:w.cell? ⟨L.tb n,6,none⟩=some (.pointer none):=hr.c 6;have F:w.cell? ⟨L.tb n,5,none⟩=some (.int .i64 3):=by
  rw [hr.c 5];show some (Value.int .i64 (o.mode:Int))=_;rw [v];rfl
 have j:=ah a;have J:=ah ho;have K:=ah g;have P:=ah m;clear a ho g m hr;go_enter Tryz.func182,Tryz.ntmps182;go_upto_region 24 with (fail)
 have f:=j.o.li 13 (by simp [eF]);have b:((eU h G 13).map (eP L.tb 13)).length=(eU h G 13).length:=by simp
 have y:=ah (oz w base L.H 13 (L.li 13) ((eU h G 13).map (eP L.tb 13)) (L.tb n) (j.o.hp.c 13) (j.o.hp.Nq 13) (by rw [b];exact f) (fun e=>ak f j.o.hp (by decide) e) (by rw [b];have:=qE h;show (Hp.weak h).length<=1000000;omega) j.o.bs);clear f b;go_wp2_with fail;refine y.o.mono ?_;intro N w4 l;obtain ⟨rfl,⟨r,s,x,t,u⟩,d,i,p⟩:=j.o.add (k:=13) (by simp [kG]) (n:=n) l;obtain rfl:r=L.H:=d.H;obtain rfl:s=L.tb:=d.tb;obtain rfl:x=L.es:=d.es;obtain rfl:t=L.mp:=d.mp;have r:=ah (And.intro i p);have M:w4.cell? ⟨L.tb n,7,none⟩=some (.slice A o.es.length q):=by
  rw [(i.ob n o J.o).c 7];exact congrArg some K.o
 clear l d i p F E D;go_wp2;go_ret;exact ⟨rfl,⟨L.H,L.tb,L.es,L.mp,u⟩,⟨rfl,rfl,rfl,rfl⟩,r.o.1,r.o.2⟩
theorem F3 (a:MV base S h G L w) (ho:h.ob n=some o) (a1:∀ e∈o.es,iP h e.1/\iP h e.2) (c4:o.es.length<=5000) (a2:h.nu<=20000) (a7:o.mode=2):
 Calls Tryz.prog 182 #[.pointer (some ⟨L.tb n,0,none⟩),.pointer (some ⟨L.H,0,none⟩)] w fun e w'=>e=.returned (.int .i64 (o.es.length:Int))/\∃ L',MS L L'/\MV base S ({ o.es.foldl Hp.key1 h with weak:=(o.es.foldl Hp.key1 h).weak++[n] }) G L' w'/\Keeps w w' S:=by
 obtain ⟨A,U,R,c2,-⟩:=a.ents ho;have hr:=a.ob n o ho;have c7:w.cell? ⟨L.tb n,7,none⟩=some (.slice A o.es.length U):=by rw [<-R];exact hr.c 7
 have c6:w.cell? ⟨L.tb n,6,none⟩=some (.pointer none):=hr.c 6;have c5:w.cell? ⟨L.tb n,5,none⟩=some (.int .i64 2):=by
  rw [hr.c 5];show some (Value.int .i64 (o.mode:Int))=_;rw [a7];rfl
 have HA:=ah a;have HO:=ah ho;have HE:=ah R;have HK:=ah a1;clear a ho R a1 hr;go_enter Tryz.func182,Tryz.ntmps182;go_wp2;go_loopw [66] (fun iv wr=>∃ i:Nat,i<=o.es.length/\iv=.int .i64 i/\Hq (∃ li',MV base S ((o.es.take i).foldl Hp.key1 h) G ⟨L.H,L.tb,L.es,L.mp,li'⟩ wr/\Keeps w wr S)) (fun iv _=>o.es.length-bF iv)
 case atStart=>exact ⟨0,by omega,rfl,L.li,HA.o,Keeps.refl _ _⟩
 case round=>
  obtain ⟨i,c3,rfl,HI⟩:=hrel;by_cases a8:i<o.es.length
  ·obtain ⟨e,he⟩:∃ e,o.es[i]?=some e:=⟨_,aN a8⟩
   have Z:=bE he;obtain ⟨N,m,v⟩:=HI.out;have j:=Np.fold Hp.key1 (fun h x=>Np.key1 h x) (o.es.take i) h;have B:((o.es.take i).foldl Hp.key1 h).nu<=20000:=aI (aO (dQ Hp.key1 uQ _ _)) a2;obtain ⟨q,W⟩:∃ q,(o.es.take i).foldl Hp.key1 h=q:=⟨_,rfl⟩
   rw [W] at m j B;obtain ⟨o1,t,E⟩:∃ o1,q.ob n=some o1/\o1.es=o.es:=by
    have:=j.cont n;rw [HO.o] at this;cases e9:q.ob n with
    |none=>rw [e9] at this;simp at this
    |some o1=>rw [e9] at this;simp [Ob.cont] at this;exact ⟨o1,rfl,this.2.1⟩
   obtain ⟨A1,a3,z,b1,l⟩:=m.ents t;rw [E] at z l;have:A1=A/\a3=U:=by
    have F:=z.symm.trans HE.o;simp at F;exact F
   obtain ⟨rfl,rfl⟩:=this;obtain ⟨g,rfl,c1,d⟩:=l i e he;have d0:=d 0 _ rfl;have d1:=d 1 _ rfl;have d2:=d 2 _ rfl;have d3:=d 3 _ rfl;have d4:=d 4 _ rfl;have d5:=d 5 _ rfl;have d6:=d 6 _ rfl;have d7:=d 7 _ rfl;have d8:=d 8 _ rfl;have d9:=d 9 _ rfl;simp only [Nat.add_zero] at d0;have P:=HK.o e (aW he);have HQ:=ah W;have b3:=ah Z;have b9:=ah (m.hole (.cells #[.int .i64 (vk e.1),.int .i64 (vi e.1),.int .u64 0,.string ByteArray.empty,aK L.tb e.1,.int .i64 (vk e.2),.int .i64 (vi e.2),.int .u64 0,.string ByteArray.empty,aK L.tb e.2] 167));have a4:=ah (v.trans (Keeps.of (aU wr (.cells #[.int .i64 (vk e.1),.int .i64 (vi e.1),.int .u64 0,.string ByteArray.empty,aK L.tb e.1,.int .i64 (vk e.2),.int .i64 (vi e.2),.int .u64 0,.string ByteArray.empty,aK L.tb e.2] 167)) (au _) S));have b2:=ah (And.intro (P.1.M7 j) (P.2.M7 j));have c9:=ah B;have b0:q.grey.length<=1000000:=aI (jo q) (by omega);clear W j Z m v t E z l d HI B he P;have Y:=ah (mR wr L.tb e);go_upto_region 19 with (fail)
   generalize wr.alloc (.cells #[.int .i64 (vk e.1),.int .i64 (vi e.1),.int .u64 0,.string ByteArray.empty,aK L.tb e.1,.int .i64 (vk e.2),.int .i64 (vi e.2),.int .u64 0,.string ByteArray.empty,aK L.tb e.2] 167)=w3 at *;generalize wr.heap.size=X at *;have x5:w3.cell? ⟨X,5,none⟩=some (.int .i64 (vk e.2)):=Y.o.c 5;have x6:w3.cell? ⟨X,6,none⟩=some (.int .i64 (vi e.2)):=Y.o.c 6;have x7:w3.cell? ⟨X,7,none⟩=some (.int .u64 0):=Y.o.c 7;have x8:w3.cell? ⟨X,8,none⟩=some (.string ByteArray.empty):=Y.o.c 8;have x9:w3.cell? ⟨X,9,none⟩=some (aK L.tb e.2):=Y.o.c 9;have b6:=ah (bU w3 L.tb e.2);have HF:Hq ((o.es.take (i+1)).foldl Hp.key1 h=Hp.key1 q e):=ah (by rw [b3.o,bD,HQ.o]);clear d0 d1 d2 d3 d4 d5 d6 d7 d8 d9;go_wp2_with fail;refine b6.o.mono ?_;rintro e9 w4 ⟨rfl,C⟩;have a5:=ah C;have s:=ah (Y.o.keep (Keeps.of C (au _) (fun _=>False)) (fun y=>y));have a6:=ah (b9.o.low C);clear C x5 x6 x7 x8 x9;cases hno:e.2.isNone with
   |true=>
    have b7:=ah (show Hp.key1 q e=q from by
     have h2:e.2=none:=by cases F:e.2 with |none=>rfl|some y=>rw [F] at hno;cases hno
     unfold Hp.key1;rw [h2];rfl)
    clear hno;go_wp2;go_roundw
    case rel=>
     refine ⟨i+1,by omega,by simp,N,?_,a4.o.trans (Keeps.of a5.o (au _) S)⟩;rw [HF.o,b7.o];exact a6.o.mono (fun b e=>e.1)
    case measure=>simp [bF];omega
   |false=>
    have b4:=ah (show e.2.isSome=true from by cases F:e.2 with |none=>rw [F] at hno;cases hno|some y=>rfl);clear hno;have y0:w4.cell? ⟨X,0,none⟩=some (.int .i64 (vk e.1)):=s.o.c 0;have y1:w4.cell? ⟨X,1,none⟩=some (.int .i64 (vi e.1)):=s.o.c 1;have y2:w4.cell? ⟨X,2,none⟩=some (.int .u64 0):=s.o.c 2;have y3:w4.cell? ⟨X,3,none⟩=some (.string ByteArray.empty):=s.o.c 3;have y4:w4.cell? ⟨X,4,none⟩=some (aK L.tb e.1):=s.o.c 4;have b8:=ah (kM a6.o e.1 b2.o.1 b0);go_wp2_with fail;refine b8.o.mono ?_;rintro e9 w5 ⟨rfl,⟨D,J,T,K,M⟩,f,r,p⟩;obtain rfl:D=L.H:=f.H;obtain rfl:J=L.tb:=f.tb;obtain rfl:T=L.es:=f.es;obtain rfl:K=L.mp:=f.mp;have D:=ah (And.intro r p);have c8:=ah (s.o.keep p (fun e=>e.2 rfl));clear f r p y0 y1 y2 y3 y4;go_wp2;go_roundw
    case rel=>
     refine ⟨i+1,by omega,by simp,M,?_,(a4.o.trans (Keeps.of a5.o (au _) S)).trans (D.o.2.mono (fun b e=>e.1))⟩;rw [HF.o];have F:Hp.key1 q e=q.Hz e.1:=by unfold Hp.key1;rw [if_pos b4.o]
     rw [F];exact D.o.1.mono (fun b e=>e.1)
    case measure=>simp [bF];omega
  ·have a9:i=o.es.length:=by omega
   subst a9;rw [bf] at HI;obtain ⟨N,m,v⟩:=HI.out;have V:=ah (And.intro m v);have j:=Np.fold Hp.key1 (fun h x=>Np.key1 h x) o.es h;obtain ⟨o1,t⟩:∃ o1,(o.es.foldl Hp.key1 h).ob n=some o1:=(j.lv n).2 ⟨o,HO.o⟩;have B:(o.es.foldl Hp.key1 h).nu<=20000:=aI (aO (dQ Hp.key1 uQ _ _)) a2;have b5:=ah t;clear m v HI t j;generalize W:o.es.foldl Hp.key1 h=q at *;have HQ:=ah W;clear W;go_upto_region 22 with (fail)
   have Q:=V.o.1.li 13 (by simp [eF]);have u:((eU q G 13).map (eP L.tb 13)).length=(eU q G 13).length:=by simp
   have c0:=ah (oz wr base L.H 13 (N 13) ((eU q G 13).map (eP L.tb 13)) (L.tb n) (V.o.1.hp.c 13) (V.o.1.hp.Nq 13) (by rw [u];exact Q) (fun e=>ak Q V.o.1.hp (by decide) e) (by rw [u];have:=qE q;show (Hp.weak q).length<=1000000;omega) V.o.1.bs);clear Q u;go_wp2_with fail;refine c0.o.mono ?_;intro e4 w4 a0;obtain ⟨rfl,⟨D,J,T,K,M⟩,f,r,p⟩:=V.o.1.add (k:=13) (by simp [kG]) (n:=n) a0;obtain rfl:D=L.H:=f.H;obtain rfl:J=L.tb:=f.tb;obtain rfl:T=L.es:=f.es;obtain rfl:K=L.mp:=f.mp;have D:=ah (And.intro r p);have f7:w4.cell? ⟨L.tb n,7,none⟩=some (.slice A o.es.length U):=by
    rw [(r.ob n o1 b5.o).c 7];exact congrArg some HE.o
   clear a0 f r p;go_wp2;go_ret;exact ⟨rfl,⟨L.H,L.tb,L.es,L.mp,M⟩,⟨rfl,rfl,rfl,rfl⟩,(by rw [HQ.o];exact D.o.1),V.o.2.trans D.o.2⟩
theorem Da (a:MV base S h G L w) (ho:h.ob n=some o) (b:∀ e∈o.es,iP h e.1/\iP h e.2) (c:o.es.length<=5000) (i:h.nu+1<=20000) (j:o.mode<=3):
 Calls Tryz.prog 182 #[.pointer (some ⟨L.tb n,0,none⟩),.pointer (some ⟨L.H,0,none⟩)] w fun e w'=>e=.returned (.int .i64 (o.es.length:Int))/\∃ L',MS L L'/\MV base S (h.Ih n o) G L' w'/\Keeps w w' S:=by
 unfold Hp.Ih;by_cases g:o.mode=0
 ·rw [if_pos g];exact F9 a ho b c (by omega) g
 rw [if_neg g];by_cases f:o.mode=1
 ·rw [if_pos f];exact Gr a ho b c i f
 rw [if_neg f];by_cases d:o.mode=2
 ·rw [if_pos d];exact F3 a ho b c (by omega) d
 rw [if_neg d];exact F6 a ho b c (by omega) (by omega)
end
section
variable {G:Gh} {L L':PM} {S:Nat->Prop} {base k n:Nat} {gs:List Nat} {h:Hp} {o:Ob} {w:World}
theorem MS.refl (L:PM):MS L L:=⟨rfl,rfl,rfl,rfl⟩
theorem MS.trans {L L' L'':PM} (a:MS L L') (b:MS L' L''):MS L L'':=⟨b.H.trans a.H,b.tb.trans a.tb,b.es.trans a.es,b.mp.trans a.mp⟩
theorem MO.x (a:MO k L L'):MS L L':=⟨a.H,a.tb,a.es,a.mp⟩
theorem MV.IC (a:MV base S h G L w) (hk:eF k):∃ A cap,L.li k=.slice A (eU h G k).length cap/\(eU h G k).length<=cap/\∀ i n,(eU h G k)[i]?=some n->∃ g,A=some ⟨g,0,none⟩/\g<w.heap.size/\w.cell? ⟨g,i,none⟩=some (eP L.tb k n):=by
 have d:=a.li k hk;rcases d.2 with ⟨l,j⟩|⟨g,cap,m,b,_,_,f,_⟩
 ·exact ⟨none,0,by rw [l,j],by omega,fun i n hi=>by have:=(aJ.1 hi).1;omega⟩
 ·refine ⟨_,cap,b,f,fun i n hi=>⟨g,rfl,?_⟩⟩
  have hr:=ay d (g:=g) (by rw [b];simp [Value.ownBlock]);refine ⟨hr.lt,?_⟩;have e:=(aJ.1 hi).1;rw [hr.c i];simp [bq,hi]
theorem MV.pop (a:MV base S h G L w) (hk:kG k) (y:eU h G k=gs++[n]):∃ g cap,L.li k=.slice (some ⟨g,0,none⟩) (gs.length+1) cap/\gs.length+1<=cap/\w.cell? ⟨g,gs.length,none⟩=some (eP L.tb k n)/\
 MV base S (iM h k gs) G { L with li:=fun j=>if j=k then .slice (some ⟨g,0,none⟩) gs.length cap else L.li j } (w.setCell ⟨L.H,k,none⟩ (.slice (some ⟨g,0,none⟩) gs.length cap))/\Keeps w (w.setCell ⟨L.H,k,none⟩ (.slice (some ⟨g,0,none⟩) gs.length cap)) S:=by
 have f:=a.li k hk.p;rw [y] at f;obtain ⟨x,cap,r⟩:=aF f;have q:(gs++[n]).length=gs.length+1:=by simp
 rw [q] at f r;rw [r] at f;rcases f.2 with ⟨_,B⟩|⟨g,t,z,i,hb,A,s,hr⟩
 ·omega
 ·simp at i
  obtain ⟨rfl,rfl⟩:=i;have l:=ay f (g:=g) (by simp [Value.ownBlock]);have b:=lI f (m:=gs.length) (by omega);have d:w.ownsRow base (yJ k) 1 (.slice (some ⟨g,0,none⟩) gs.length cap) gs.length (gs.map (eP L.tb k)):=by
   have:((gs++[n]).map (eP L.tb k)).take (gs.length*1)=gs.map (eP L.tb k):=by
    rw [List.map_append,Nat.mul_one];rw [List.take_append_of_le_length (by simp),List.take_of_length_le (by simp)]
   rw [this] at b;exact b
  obtain ⟨p1,v,u⟩:=a.JV (h':=iM h k gs) (G':=G) (w1:=w) k hk.p (Keeps.refl w _) (.slice (some ⟨g,0,none⟩) gs.length cap) (by rw [lJ hk];exact d) (fun g' e=>.inl (by rw [r];simpa [Value.ownBlock] using e)) (jE h k _) (fun j hj hn=>jB hk hj hn _) (kU hk _ _);refine ⟨g,cap,r,s,?_,v,u⟩;rw [l.c (gs.length)];simp [bq]
theorem fB (w:World) (b a:Nat) (A:Option Addr) (n c:Nat) (d:w.cell? ⟨b,a,none⟩=some (.slice A n c)):Calls Tryz.prog 84 #[.pointer (some ⟨b,a,none⟩)] w fun e w'=>e=.returned (.bool ((n:Int)==0))/\w'=w:=by
 go_enter Tryz.func84,Tryz.ntmps84;go_wp2;go_ret;exact ⟨rfl,rfl⟩
theorem jV (w:World) (b a g n c t:Nat) (l:w.cell? ⟨b,a,none⟩=some (.slice (some ⟨g,0,none⟩) (n+1) c)) (i:w.frozen? ⟨b,a,none⟩=false) (hx:w.cell? ⟨g,n,none⟩=some (.iface 127 (.pointer (some ⟨t,0,none⟩)))) (j:n<=1000000) (f:n+1<=c):Calls Tryz.prog 85 #[.pointer (some ⟨b,a,none⟩)] w fun e w'=>e=.returned (.iface 127 (.pointer (some ⟨t,0,none⟩)))/\w'=w.setCell ⟨b,a,none⟩ (.slice (some ⟨g,0,none⟩) n c):=by
 have d:(n:Int)<=c:=by omega
 go_enter Tryz.func85,Tryz.ntmps85;go_wp2;go_ret;exact ⟨rfl,rfl⟩
theorem iP.of (c:h.Closed) (ho:h.ob n=some o):∀ e∈o.es,iP h e.1/\iP h e.2:=by
 intro e a;refine ⟨fun m hm=>c n o ho e a m ?_,fun m hm=>c n o ho e a m ?_⟩
 ·simp [dw,bQ,hm]
 ·simp [dw,bQ,hm]
end
section
variable {G:Gh} {L:PM} {S:Nat->Prop} {base:Nat} {h:Hp} {w:World}
theorem CW (v:Value) (w:World):(Instr.typeAssert (.iface 127 v) 67 208 true).run Tryz.prog w=.ok (.tuple #[.iface 127 v,.bool true]) w:=by kernel_rfl
theorem pG (a:MV base S h G L w) (k:Wk h) (A:h.nu+h.again.length+1<=20000) (n:Nat) (D:h.Lv n):
 Calls Tryz.prog 131 #[.pointer (some ⟨L.H,0,none⟩),.iface 127 (.pointer (some ⟨L.tb n,0,none⟩))] w fun e w'=>e=.returned (.int .i64 ((h.scan n).2:Int))/\∃ L',MS L L'/\MV base S (h.scan n).1 G L' w'/\Keeps w w' S:=by
 obtain ⟨o,ho⟩:=D;have b:=Np.col h n 3 rfl;have l:=k.s.es n o ho;have v:=(a.ob n o ho).Nq 0;have y:w.cell? ⟨L.tb n,0,none⟩=some (.int .i64 (o.col:Int)):=(a.ob n o ho).c 0;have j:=ah (a.M0 n 0 (.int .i64 3) (fun o=>{ o with col:=3 }) (by decide) ho ⟨rfl,rfl⟩ (dx _ rfl rfl rfl rfl rfl rfl rfl rfl rfl rfl rfl rfl rfl));have C:=iO (L.tb n);have B:=DL (L.tb n);have z:=CW;have q:=ah (gQ w (L.tb n));have u:Hq ((h.upd n fun o=>{ o with col:=3 }).ob n=some { o with col:=3 }):=ah (by rw [Hp.Hf,if_pos rfl,ho];rfl);have i:Hq (h.scan n=((h.upd n fun o=>{ o with col:=3 }).Ih n { o with col:=3 },1+o.es.length)):=ah (by unfold Hp.scan;rw [ho];rfl);have p:=ah (Da j.o.1 u.o (iP.of (b.closed k.c) u.o) l (by have:=qL h n;omega) (k.m n o ho));clear b a k ho;go_enter Tryz.func131,Tryz.ntmps131;go_wp2_with fail;refine q.o.mono ?_;rintro K x ⟨rfl,rfl⟩;go_upto_region 2 with (fail)
 generalize x.setCell ⟨L.tb n,0,none⟩ (.int .i64 3)=w3 at *;clear y v;go_wp2_with fail;refine p.o.mono ?_;rintro J F ⟨rfl,E,d,g,f⟩;have r:=ah (t.intro d (t.intro g f));clear d g f;go_wp2;go_ret;refine ⟨by rw [i.o];simp,E,r.o.1,by rw [i.o];exact r.o.2.1,j.o.2.trans r.o.2.2⟩
theorem kT (a:MV base S h G L w) (k:Wk h) (t:M5 h No):
 Calls Tryz.prog 141 #[.pointer (some ⟨L.H,0,none⟩)] w fun e w'=>e=.returned (.tuple #[])/\∃ L',MS L L'/\MV base S h.drain G L' w'/\Keeps w w' S:=by
 have E:Hq (Wk h/\M5 h No/\MS L L/\MV base S h G L w/\Keeps w w S):=ah ⟨k,t,MS.refl L,a,Keeps.refl _ _⟩;clear a k t;go_enter Tryz.func141,Tryz.ntmps141;go_wp2
 go_loopg [] h.mu (fun m wr=>∃ (q:Hp) (L':PM),Hq (q.mu=m/\q.drain=h.drain/\Wk q/\M5 q No/\MS L L'/\MV base S q G L' wr/\Keeps w wr S))
 case atStart=>exact ⟨h,L,rfl,rfl,E.o⟩
 case round=>
  obtain ⟨q,X,HI⟩:=hrel;clear E;obtain ⟨H1,J,U,Q,R⟩:=X;obtain rfl:H1=L.H:=HI.out.2.2.2.2.1.H;obtain rfl:J=L.tb:=HI.out.2.2.2.2.1.tb;by_cases r:q.grey=[]
  ·have d:=HI.out.2.2.2.2.2.1
   obtain ⟨A,f,p,-⟩:=d.IC (k:=11) (by simp [eF]);rw [show eU q G 11=[] from r] at p;have u:wr.cell? ⟨L.H,11,none⟩=some (.slice A 0 f):=by
    have:=d.hp.c 11;rw [this];exact congrArg some p
   have F:=ah (fB wr L.H 11 A 0 f u);rw [show (((0:Nat):Int)==0)=true from rfl] at F;have HD:=ah (q.JN r);clear d p r u;go_wp2_with fail;refine F.o.mono ?_;rintro V P ⟨rfl,rfl⟩;go_wp2;go_end0;exact ⟨rfl,_,HI.out.2.2.2.2.1,by rw [<-HI.out.2.1,HD.o];exact HI.out.2.2.2.2.2.1,HI.out.2.2.2.2.2.2⟩
  ·obtain ⟨i,n,b⟩:∃ i n,q.grey=i++[n]:=⟨_,_,(List.dropLast_concat_getLast r).symm⟩
   have d:=HI.out.2.2.2.2.2.1;obtain ⟨g,f,p,C,B,j,x⟩:=d.pop (k:=11) (by simp [kG]) b;have u:wr.cell? ⟨L.H,11,none⟩=some (.slice (some ⟨g,0,none⟩) (i.length+1) f):=by
    have:=d.hp.c 11;rw [this];exact congrArg some p
   have T:i.length<=20000:=by
    have:=HI.out.2.2.1.s.nu;simp only [Hp.nu,Hp.mu,b,aT,List.length_singleton] at this;omega
   have F:=ah (fB wr L.H 11 (some ⟨g,0,none⟩) (i.length+1) f u);rw [show (((i.length+1:Nat):Int)==0)=false by simp;omega] at F;have Y:=ah (jV wr L.H 11 g i.length f (L.tb n) u (d.hp.Nq 11) B (by omega) C);have l:=ah (pG j (HI.out.2.2.1.pop b).1 (HI.out.2.2.1.pop b).2.1 n (HI.out.2.2.1.pop b).2.2);rw [show iM q 11 i={ q with grey:=i } from rfl,<-Hp.JE b] at l;have K:=ah x;have M:=ah r;have Z:=ah b;clear p j x r b B u d;go_wp2_with fail;refine F.o.mono ?_;rintro V P ⟨rfl,rfl⟩;go_wp2_with fail;refine Y.o.mono ?_;rintro e3 w3 ⟨rfl,rfl⟩;generalize P.setCell ⟨L.H,11,none⟩ (.slice (some ⟨g,0,none⟩) i.length f)=w4 at *;go_wp2_with fail;refine l.o.mono ?_;rintro e9 w5 ⟨rfl,W,y,D,z⟩;have v:=ah (N.intro y (N.intro D z));clear y D z l;go_wp2
   go_roundg q.take.1.mu
   case rel=>
    refine ⟨q.take.1,W,rfl,?_,HI.out.2.2.1.take HI.out.2.2.2.1 M.o,HI.out.2.2.2.1.take,?_,v.o.2.1,?_⟩
    ·rw [<-q.Jd M.o];exact HI.out.2.1
    ·exact HI.out.2.2.2.2.1.trans ⟨v.o.1.H,v.o.1.tb,v.o.1.es,v.o.1.mp⟩
    ·exact (HI.out.2.2.2.2.2.2.trans K.o).trans v.o.2.2
   case measure=>
    have:=q.IQ M.o;have:=HI.out.1;omega
end
section
variable {G:Gh} {L:PM} {S:Nat->Prop} {base:Nat} {h:Hp} {w:World}
theorem xK (a:MV base S h G L w) (k:Wk h) (t:M5 h No):
 Calls Tryz.prog 151 #[.pointer (some ⟨L.H,0,none⟩)] w fun e w'=>e=.returned (.bool (Hp.over 0 (h,false)).2)/\∃ L',MS L L'/\MV base S (Hp.over 0 (h,false)).1 G L' w'/\Keeps w w' S:=by
 have l:Hq (Wk h/\M5 h No/\MS L L/\MV base S h G L w/\Keeps w w S):=ah ⟨k,t,MS.refl L,a,Keeps.refl _ _⟩;clear a k t;go_enter Tryz.func151,Tryz.ntmps151;go_wp2
 go_loopg [3,4] (h.mu+h.GZ.length) (fun m bv jv wr=>∃ (j:Nat) (E:Bool) (b:Hp) (L':PM),jv=.int .i64 (j:Int)/\bv=.bool E/\Hq (m=b.mu+b.GZ.length-j/\Hp.over j (b,E)=Hp.over 0 (h,false)/\Wk b/\M5 b No/\MS L L'/\MV base S b G L' wr/\Keeps w wr S/\j<=100000))
 case atStart=>exact ⟨0,false,h,L,rfl,rfl,by omega,rfl,l.o.1,l.o.2.1,l.o.2.2.1,l.o.2.2.2.1,l.o.2.2.2.2,by omega⟩
 case round=>
  obtain ⟨j,E,b,L3,rfl,rfl,d⟩:=hrel;clear l;obtain ⟨H3,U,Y,V,a6⟩:=L3;obtain rfl:H3=L.H:=d.o.2.2.2.2.1.H;obtain rfl:U=L.tb:=d.o.2.2.2.2.1.tb;obtain rfl:Y=L.es:=d.o.2.2.2.2.1.es;obtain rfl:V=L.mp:=d.o.2.2.2.2.1.mp;have i:=d.o.2.2.2.2.2.1;obtain ⟨A,Z,W,a2,u⟩:=i.IC (k:=14) (by simp [eF]);have a9:b.GZ.length<=20000:=by
   have:=d.o.2.2.1.s.nu;simp only [Hp.nu] at this;omega
  have a8:=d.o.2.2.2.2.2.2.2;have b1:wr.cell? ⟨L.H,14,none⟩=some (.slice A b.GZ.length Z):=by
   have:=i.hp.c 14;rw [this];exact congrArg some W
  by_cases M:j<b.GZ.length
  ·obtain ⟨g,rfl,-,N⟩:=u j _ (aN (show j<(eU b G 14).length from M))
   have X:=d.o.2.2.2.1.ll _ (.inr (.inr (.inr (List.getElem_mem M))));have z:=ah (Hp.JC j (b,E) M);have B:=ah (Hp.J2 j (b,E) M);have a1:wr.cell? ⟨g,j,none⟩=some (.pointer (some ⟨L.tb (b.GZ[j]),0,none⟩)):=N;clear N u;generalize b.GZ[j]=n at *;obtain ⟨o,ho⟩:=X;have P:=Hp.JX ho;have y:=ah (mP i ho (iP.of d.o.2.2.1.c ho) (d.o.2.2.1.s.es n o ho) (by have:=d.o.2.2.1.s.nu;omega));simp only [P] at z B;have a7:(j:Int)<(b.GZ.length:Int):=by omega
   have f:=ah (p.intro (d.o.2.2.1.spread o.es) (d.o.2.2.2.1.Mq (Nk.spread b o.es)));have C:Hq ((b.spread o.es).1.mu=b.mu/\(b.spread o.es).1.GZ=b.GZ):=ah ⟨Hp.Ii b o.es,(Hp.Ic b o.es).1⟩;clear i ho P W;cases hs2:(b.spread o.es).2 with
   |false=>
    have F:=ah (B.o hs2);rw [hs2] at y;clear hs2 B z;go_wp2_with fail;refine y.o.mono ?_;rintro e9 w4 ⟨rfl,L4,q,v,r⟩;have D:=ah (p.intro q (p.intro v r));clear q v r;go_wp2
    go_roundg (b.mu+b.GZ.length-(j+1))
    case rel=>
     refine ⟨j+1,E,(b.spread o.es).1,L4,by simp,rfl,?_,F.o.symm.trans d.o.2.1,f.o.1,f.o.2,d.o.2.2.2.2.1.trans D.o.1.x,D.o.2.1,d.o.2.2.2.2.2.2.1.trans D.o.2.2,by omega⟩;rw [C.o.1,C.o.2]
    case measure=>
     have:=d.o.1;omega
   |true=>
    have F:=ah (z.o hs2);rw [hs2] at y;clear hs2 B z;go_wp2_with fail;refine y.o.mono ?_;rintro e9 w4 ⟨rfl,L4,q,v,r⟩;have D:=ah (p.intro q (p.intro v r));clear q v r;obtain ⟨H5,a3,b0,a4,a5⟩:=L4;obtain rfl:H5=L.H:=D.o.1.H;have T:=ah (kT D.o.2.1 f.o.1 f.o.2);go_wp2_with fail;refine T.o.mono ?_;rintro e9 w6 ⟨rfl,L6,J,Q,K⟩;have H6:=ah (p.intro J (p.intro Q K));clear J Q K T;go_wp2
    go_roundg ((b.spread o.es).1.drain.mu+(b.spread o.es).1.drain.GZ.length-(j+1))
    case rel=>
     exact ⟨j+1,true,(b.spread o.es).1.drain,L6,by simp,rfl,rfl,F.o.symm.trans d.o.2.1,f.o.1.drain f.o.2,f.o.2.drain,d.o.2.2.2.2.1.trans (D.o.1.x.trans H6.o.1),H6.o.2.1,(d.o.2.2.2.2.2.2.1.trans D.o.2.2).trans H6.o.2.2,by omega⟩
    case measure=>
     have h1:=d.o.1;have h2:=Hp.Jb (b.spread o.es).1;rw [C.o.1,C.o.2] at h2;omega
  ·have R:=ah ((Hp.JH j (b,E) M).symm.trans d.o.2.1)
   have a0:=ah i;clear i u W;go_wp2;go_ret;exact ⟨by rw [<-R.o];rfl,_,d.o.2.2.2.2.1,by rw [<-R.o];exact a0.o,d.o.2.2.2.2.2.2.1⟩
theorem mV (a:MV base S h G L w) (k:Wk h) (t:M5 h No):
 Calls Tryz.prog 143 #[.pointer (some ⟨L.H,0,none⟩)] w fun e w'=>e=.returned (.tuple #[])/\∃ L',MS L L'/\MV base S h.settle G L' w'/\Keeps w w' S:=by
 have v:=ah (kT a k t);have i:=ah (b.intro (k.drain t) t.drain);clear a k t;go_enter Tryz.func143,Tryz.ntmps143;go_wp2_with fail;refine v.o.mono ?_;rintro u w1 ⟨rfl,D,l,p,n⟩;have x:=ah (b.intro l (b.intro p n));clear l p n v;go_wp2
 go_loopg [] (h.drain.mu+1) (fun m wr=>∃ (q:Hp) (L':PM),Hq (m=q.mu+1/\q.turns=h.settle/\Wk q/\M5 q No/\MS L L'/\MV base S q G L' wr/\Keeps w wr S))
 case atStart=>exact ⟨h.drain,D,rfl,rfl,i.o.1,i.o.2,x.o⟩
 case round=>
  obtain ⟨q,C,HI⟩:=hrel;clear i x;obtain ⟨F,y,B,z,A⟩:=C;obtain rfl:F=L.H:=HI.out.2.2.2.2.1.H;have g:=ah (xK HI.out.2.2.2.2.2.1 HI.out.2.2.1 HI.out.2.2.2.1);cases hb:(Hp.over 0 (q,false)).2 with
  |false=>
   rw [hb] at g;have s:=ah (Hp.J7 q hb);clear hb;go_wp2_with fail;refine g.o.mono ?_;rintro u w4 ⟨rfl,r,c,f,d⟩;have j:=ah (b.intro c (b.intro f d));clear c f d;go_wp2;go_end0;exact ⟨rfl,r,HI.out.2.2.2.2.1.trans j.o.1,by rw [<-HI.out.2.1,s.o];exact j.o.2.1,HI.out.2.2.2.2.2.2.trans j.o.2.2⟩
  |true=>
   rw [hb] at g;have s:=ah (Hp.Jw HI.out.2.2.2.1 hb);have E:=ah (Hp.Jv HI.out.2.2.2.1 hb);clear hb;go_wp2_with fail;refine g.o.mono ?_;rintro u w4 ⟨rfl,r,c,f,d⟩;have j:=ah (b.intro c (b.intro f d));clear c f d;go_wp2
   go_roundg ((Hp.over 0 (q,false)).1.mu+1)
   case rel=>
    refine ⟨(Hp.over 0 (q,false)).1,r,rfl,?_,HI.out.2.2.1.over HI.out.2.2.2.1,HI.out.2.2.2.1.over,HI.out.2.2.2.2.1.trans j.o.1,j.o.2.1,HI.out.2.2.2.2.2.2.trans j.o.2.2⟩;rw [<-HI.out.2.1,s.o]
   case measure=>
    have:=HI.out.1;have:=E.o;omega
end
section
variable {G:Gh} {L:PM} {S:Nat->Prop} {base:Nat} {h:Hp} {w:World}
theorem qm (a:MV base S h G L w) (hl:∀ n∈h.pending,h.Lv n) (R:h.nu<=20000) (a4:h.pending.length<=20000):
 Calls Tryz.prog 133 #[.pointer (some ⟨L.H,0,none⟩)] w fun e w'=>e=.returned (.tuple #[])/\∃ L',MO 11 L L'/\MV base S (h.Ho h.pending) G L' w'/\Keeps w w' S:=by
 obtain ⟨A,r,P,a3,-⟩:=a.IC (k:=16) (by simp [eF]);have ck:w.cell? ⟨L.H,16,none⟩=some (.slice A h.pending.length r):=by
  have:=a.hp.c 16;rw [this];exact congrArg some P
 have HA:=ah a;have HL:=ah hl;have HV:Hq (L.li 16=.slice A h.pending.length r):=ah P;clear a hl P;go_enter Tryz.func133,Tryz.ntmps133;go_wp2;go_loopw [10] (fun iv wr=>∃ i:Nat,i<=h.pending.length/\iv=.int .i64 i/\Hq (∃ li',MV base S ((h.pending.take i).foldl Hp.mark h) G ⟨L.H,L.tb,L.es,L.mp,li'⟩ wr/\(∀ j,j≠11->li' j=L.li j)/\Keeps w wr S)) (fun iv _=>h.pending.length-bF iv)
 case atStart=>exact ⟨0,by omega,rfl,L.li,HA.o,fun _ _=>rfl,Keeps.refl _ _⟩
 case round=>
  obtain ⟨i,a5,rfl,HI⟩:=hrel;by_cases T:i<h.pending.length
  ·obtain ⟨n,J⟩:∃ n,h.pending[i]?=some n:=⟨_,aN T⟩
   have v:=bE J;obtain ⟨s,d,f,p⟩:=HI.out;have m:=Np.fold Hp.mark (fun h x=>Np.mark h x) (h.pending.take i) h;have z:((h.pending.take i).foldl Hp.mark h).nu<=20000:=aI (aO (dQ Hp.mark Hp.Io _ _)) R;obtain ⟨q,Q⟩:∃ q,(h.pending.take i).foldl Hp.mark h=q:=⟨_,rfl⟩
   rw [Q] at d m z;obtain ⟨A1,E,t,V,l⟩:=d.IC (k:=16) (by simp [eF]);have u:s 16=.slice A h.pending.length r:=(f 16 (by decide)).trans HV.out;have y:eU q G 16=h.pending:=m.pending;rw [y] at t l;obtain ⟨rfl,rfl⟩:A1=A/\E=r:=by
    have h9:=t.symm.trans u;simp at h9;exact h9
   obtain ⟨g,rfl,a1,C⟩:=l i n J;have a2:wr.cell? ⟨g,i,none⟩=some (.iface 127 (.pointer (some ⟨L.tb n,0,none⟩))):=C;obtain ⟨o,ho⟩:=(m.lv n).2 (HL.o n (aW J));have X:=ah (jW d ho (aI (jo q) (by omega)));have HF:Hq ((h.pending.take (i+1)).foldl Hp.mark h=q.mark n):=ah (by rw [v,bD,Q]);have Y:=ah f;have Z:=ah p;clear Q m v d p f C l t u y ho HI J z;go_wp2_with fail;refine X.o.mono ?_;rintro e9 w6 ⟨rfl,⟨F,K,W,M,N⟩,b,D,B⟩;obtain rfl:F=L.H:=b.H;obtain rfl:K=L.tb:=b.tb;obtain rfl:W=L.es:=b.es;obtain rfl:M=L.mp:=b.mp;have F:=ah (a0.intro b.li (a0.intro D B));clear b D B;go_wp2;go_roundw
   case rel=>
    exact ⟨i+1,by omega,by simp,N,by rw [HF.o];exact F.o.2.1,fun j hj=>(F.o.1 j hj).trans (Y.o j hj),Z.o.trans F.o.2.2⟩
   case measure=>simp [bF];omega
  ·have U:i=h.pending.length:=by omega
   subst U;rw [bf] at HI;go_wp2;go_end0;obtain ⟨s,d,f,p⟩:=HI.out;exact ⟨rfl,⟨L.H,L.tb,L.es,L.mp,s⟩,⟨rfl,rfl,rfl,rfl,f⟩,d,p⟩
theorem oF (a:MV base S h G L w) (hl:∀ n∈h.roots,h.Lv n) (J:h.nu<=20000) (a6:h.roots.length<=20000) (X:∀ n∈h.pending,h.Lv n) (W:h.pending.length<=20000):
 Calls Tryz.prog 113 #[.pointer (some ⟨L.H,0,none⟩)] w fun e w'=>e=.returned (.tuple #[])/\∃ L',MO 11 L L'/\MV base S h.alive G L' w'/\Keeps w w' S:=by
 obtain ⟨A,t,U,a5,-⟩:=a.IC (k:=10) (by simp [eF]);have ck:w.cell? ⟨L.H,10,none⟩=some (.slice A h.roots.length t):=by
  have:=a.hp.c 10;rw [this];exact congrArg some U
 have HA:=ah a;have HL:=ah hl;have HV:Hq (L.li 10=.slice A h.roots.length t):=ah U;clear a hl U;go_enter Tryz.func113,Tryz.ntmps113;go_wp2;go_loopw [9] (fun iv wr=>∃ i:Nat,i<=h.roots.length/\iv=.int .i64 i/\Hq (∃ li',MV base S ((h.roots.take i).foldl Hp.mark h) G ⟨L.H,L.tb,L.es,L.mp,li'⟩ wr/\(∀ j,j≠11->li' j=L.li j)/\Keeps w wr S)) (fun iv _=>h.roots.length-bF iv)
 case atStart=>exact ⟨0,by omega,rfl,L.li,HA.o,fun _ _=>rfl,Keeps.refl _ _⟩
 case round=>
  obtain ⟨i,a7,rfl,HI⟩:=hrel;by_cases Y:i<h.roots.length
  ·obtain ⟨n,P⟩:∃ n,h.roots[i]?=some n:=⟨_,aN Y⟩
   have E:=bE P;obtain ⟨v,f,l,m⟩:=HI.out;have b:=Np.fold Hp.mark (fun h x=>Np.mark h x) (h.roots.take i) h;have K:((h.roots.take i).foldl Hp.mark h).nu<=20000:=aI (aO (dQ Hp.mark Hp.Io _ _)) J;obtain ⟨q,V⟩:∃ q,(h.roots.take i).foldl Hp.mark h=q:=⟨_,rfl⟩
   rw [V] at f b K;obtain ⟨A1,N,y,a0,r⟩:=f.IC (k:=10) (by simp [eF]);have D:v 10=.slice A h.roots.length t:=(l 10 (by decide)).trans HV.out;have F:eU q G 10=h.roots:=b.roots;rw [F] at y r;obtain ⟨rfl,rfl⟩:A1=A/\N=t:=by
    have h9:=y.symm.trans D;simp at h9;exact h9
   obtain ⟨g,rfl,a3,M⟩:=r i n P;have a4:wr.cell? ⟨g,i,none⟩=some (.iface 127 (.pointer (some ⟨L.tb n,0,none⟩))):=M;obtain ⟨o,ho⟩:=(b.lv n).2 (HL.o n (aW P));have a2:=ah (jW f ho (aI (jo q) (by omega)));have HF:Hq ((h.roots.take (i+1)).foldl Hp.mark h=q.mark n):=ah (by rw [E,bD,V]);have z:=ah l;have B:=ah m;clear V b E f m l M r y D F ho HI P K;go_wp2_with fail;refine a2.o.mono ?_;rintro e9 w6 ⟨rfl,⟨u,Q,a1,R,T⟩,d,s,p⟩;obtain rfl:u=L.H:=d.H;obtain rfl:Q=L.tb:=d.tb;obtain rfl:a1=L.es:=d.es;obtain rfl:R=L.mp:=d.mp;have u:=ah (C.intro d.li (C.intro s p));clear d s p;go_wp2;go_roundw
   case rel=>
    exact ⟨i+1,by omega,by simp,T,by rw [HF.o];exact u.o.2.1,fun j hj=>(u.o.1 j hj).trans (z.o j hj),B.o.trans u.o.2.2⟩
   case measure=>simp [bF];omega
  ·have Z:i=h.roots.length:=by omega
   subst Z;rw [bf] at HI;obtain ⟨v,f,l,m⟩:=HI.out;have b:=Np.fold Hp.mark (fun h x=>Np.mark h x) h.roots h;have HW:=ah (qm f (fun n hn=>(b.lv n).2 (X n (by rw [<-b.pending];exact hn))) (aI (aO (dQ Hp.mark Hp.Io _ _)) J) (by rw [b.pending];exact W));have HE:Hq (h.alive=(h.roots.foldl Hp.mark h).Ho (h.roots.foldl Hp.mark h).pending):=ah (by rw [b.pending];rfl);have z:=ah l;have B:=ah m;clear f l m b HI;go_wp2_with fail;refine HW.o.mono ?_;rintro e9 w6 ⟨rfl,L6,d,s,p⟩;have u:=ah (C.intro d (C.intro s p));clear d s p;go_wp2;go_end0;exact ⟨rfl,L6,MO.trans (L':=⟨L.H,L.tb,L.es,L.mp,v⟩) ⟨rfl,rfl,rfl,rfl,z.o⟩ u.o.1,by rw [HE.o];exact u.o.2.1,B.o.trans u.o.2.2⟩
theorem MV.aux (a:MV base S h G L w) (l:List Nat) (s:Nat):MV base S { h with again:=l,G5:=s } G L w:=
 ⟨a.hp,a.ob,a.en,a.mp,a.li,a.ij,a.ei,a.mi,a.lj,a.bH,a.bt,a.bm,a.bs,a.sH,a.st,a.se,a.sm,a.sl,a.up⟩
theorem uK (l:List Nat) (h:Hp):(l.foldl Hp.Hg h).grey.length=h.grey.length+l.length:=by
 induction l generalizing h with
 |nil=>rfl
 |cons a l ih=>
  rw [List.foldl_cons,ih];simp [Hp.Hg,Hp.upd];omega
theorem yj (l:List Nat) (h:Hp) (n:Nat):(l.foldl Hp.Hg h).Lv n↔h.Lv n:=by
 induction l generalizing h with
 |nil=>exact Iff.rfl
 |cons a l ih=>
  rw [List.foldl_cons,ih];show (∃ o,(h.upd a _).ob n=some o)↔_;unfold Hp.Lv;rw [Hp.Hf];split
  ·cases h.ob n<;>simp
  ·rfl
theorem yM (a:MV base S h G L w) (y:G.ag=h.again) (hl:∀ n∈h.again,h.Lv n) (b3:h.nu+h.again.length<=20000):
 Calls Tryz.prog 142 #[.pointer (some ⟨L.H,0,none⟩)] w fun e w'=>e=.returned (.tuple #[])/\∃ L',MO 11 L L'/\MV base S h.G8 G L' w'/\Keeps w w' S:=by
 obtain ⟨A,t,Q,b1,-⟩:=a.IC (k:=12) (by simp [eF]);rw [show eU h G 12=h.again from y] at Q;have b2:h.again.length<=20000:=by omega
 have b5:h.grey.length<=20000:=aI (jo h) (by omega);have ck:w.cell? ⟨L.H,12,none⟩=some (.slice A h.again.length t):=by
  have:=a.hp.c 12;rw [this];exact congrArg some Q
 have HA:=ah a;have HL:=ah hl;have a6:=ah y;have HV:Hq (L.li 12=.slice A h.again.length t):=ah Q;clear a hl Q y;go_enter Tryz.func142,Tryz.ntmps142;go_wp2;go_loopw [10] (fun iv wr=>∃ i:Nat,i<=h.again.length/\iv=.int .i64 i/\Hq (∃ li',MV base S ((h.again.take i).foldl Hp.Hg h) G ⟨L.H,L.tb,L.es,L.mp,li'⟩ wr/\(∀ j,j≠11->li' j=L.li j)/\Keeps w wr S)) (fun iv _=>h.again.length-bF iv)
 case atStart=>exact ⟨0,by omega,rfl,L.li,HA.o,fun _ _=>rfl,Keeps.refl _ _⟩
 case round=>
  obtain ⟨i,b4,rfl,HI⟩:=hrel;by_cases Z:i<h.again.length
  ·obtain ⟨n,R⟩:∃ n,h.again[i]?=some n:=⟨_,aN Z⟩
   have C:=bE R;obtain ⟨m,d,b,s⟩:=HI.out;have x:=uK (h.again.take i) h;have v:=yj (h.again.take i) h n;obtain ⟨q,X⟩:∃ q,(h.again.take i).foldl Hp.Hg h=q:=⟨_,rfl⟩
   rw [X] at d x v;obtain ⟨A1,M,u,a1,r⟩:=d.IC (k:=12) (by simp [eF]);have B:m 12=.slice A h.again.length t:=(b 12 (by decide)).trans HV.out;have E:eU q G 12=h.again:=a6.o;rw [E] at u r;obtain ⟨rfl,rfl⟩:A1=A/\M=t:=by
    have h9:=u.symm.trans B;simp at h9;exact h9
   obtain ⟨g,rfl,a9,J⟩:=r i n R;have b0:wr.cell? ⟨g,i,none⟩=some (.iface 127 (.pointer (some ⟨L.tb n,0,none⟩))):=J;obtain ⟨o,ho⟩:=v.2 (HL.o n (aW R));have b6:q.grey.length<=40000:=by
    rw [x,bX];omega
   have t0:wr.cell? ⟨L.tb n,0,none⟩=some (.int .i64 (o.col:Int)):=(d.ob n o ho).c 0;have z0:=(d.ob n o ho).Nq 0;have f:=ah (d.M0 n 0 (.int .i64 2) (fun o=>{ o with col:=2 }) (by decide) ho ⟨rfl,rfl⟩ (dx _ rfl rfl rfl rfl rfl rfl rfl rfl rfl rfl rfl rfl rfl));have Y:=iO (L.tb n);have a5:=ah (gQ wr (L.tb n));have HF:Hq ((h.again.take (i+1)).foldl Hp.Hg h=q.Hg n):=ah (by rw [C,bD,X]);have a3:=ah b;have a4:=ah s;clear X C d s b J r u B E ho HI R x v;go_wp2_with fail;refine a5.o.mono ?_;rintro e2 w2 ⟨rfl,rfl⟩;go_upto_region 4 with (fail)
   generalize w2.setCell ⟨L.tb n,0,none⟩ (.int .i64 2)=w3 at *;have N:w3.cell? ⟨L.H,11,none⟩=some (m 11):=f.o.1.hp.c 11;have z:=f.o.1.hp.Nq 11;have b:=f.o.1.li 11 (by simp [eF]);have p:((eU (q.upd n fun o=>{ o with col:=2 }) G 11).map (eP L.tb 11)).length=(eU (q.upd n fun o=>{ o with col:=2 }) G 11).length:=by simp
   have a7:=ah (iy w3 base L.H 11 (m 11) ((eU (q.upd n fun o=>{ o with col:=2 }) G 11).map (eP L.tb 11)) (L.tb n) N z (by rw [p];exact b) (fun e=>ak b f.o.1.hp (by decide) e) (by rw [p];show q.grey.length<=1000000;omega) f.o.1.bs);clear b p N z t0 z0 Y;go_wp2_with fail;refine a7.o.mono ?_
   W e4 w4 D
   obtain ⟨rfl,⟨P,T,a2,U,V⟩,l,K,F⟩:=f.o.1.add (k:=11) (by simp [kG]) (n:=n) D;obtain rfl:P=L.H:=l.H;obtain rfl:T=L.tb:=l.tb;obtain rfl:a2=L.es:=l.es;obtain rfl:U=L.mp:=l.mp;have P:=ah (a8.intro l.li (a8.intro K F));clear D l K F;go_wp2;go_roundw
   case rel=>
    exact ⟨i+1,by omega,by simp,V,by rw [HF.o];exact P.o.2.1,fun j hj=>(P.o.1 j hj).trans (a3.o j hj),(a4.o.trans f.o.2).trans P.o.2.2⟩
   case measure=>simp [bF];omega
  ·have a0:i=h.again.length:=by omega
   subst a0;rw [bf] at HI;go_wp2;go_end0;obtain ⟨m,d,b,s⟩:=HI.out;exact ⟨rfl,⟨L.H,L.tb,L.es,L.mp,m⟩,⟨rfl,rfl,rfl,rfl,b⟩,d.aux [] _,s⟩
end
end Go.Proofs.YtbpcdfbmnklcjaaGreatDoor
