import Derived.Test.YtbpcdfbmnklcjaaGreatDoorKHUC
import Derived.Test.YtbpcdfbmnklcjaaGreatDoorKHYF
import Derived.DeepKeys4
import Derived.Maps.Keyed
namespace Go.Proofs.YtbpcdfbmnklcjaaGreatDoor
open Go Go.RowKit
set_option maxHeartbeats 6400000
set_option maxRecDepth 100000
set_option linter.unusedVariables false
section
variable {A C:Int} {R base hand:Nat} {S:Nat->Prop} {h:Hp} {root:List Bool} {rv:Value} {w w' w1 w2:World}
def bG (h:Hp) (hand:Nat) (kd A B C:Int):Prop:=
 (kd=2->fJ h hand A/\(C=0∨fJ h hand C))/\(kd=3->fJ h hand A/\fJ h hand B/\(C=0∨fJ h hand C))/\(kd=4->fJ h hand A)/\(kd=5->fJ h hand A)
theorem AQ (p:Prop):∃ b:Bool,b=true↔p:=by
 classical
 exact ⟨decide p,by simp⟩
theorem bG.two {B:Int}:bG h hand 2 A B C↔fJ h hand A/\(C=0∨fJ h hand C):=
 ⟨fun x=>x.1 rfl,fun x=>⟨fun _=>x,fun h=>absurd h (by decide),fun h=>absurd h (by decide),fun h=>absurd h (by decide)⟩⟩
theorem bG.three {B:Int}:bG h hand 3 A B C↔fJ h hand A/\fJ h hand B/\(C=0∨fJ h hand C):=
 ⟨fun x=>x.2.1 rfl,fun x=>⟨fun h=>absurd h (by decide),fun _=>x,fun h=>absurd h (by decide),fun h=>absurd h (by decide)⟩⟩
theorem bG.four {k B:Int} (hk:k=4∨k=5):bG h hand k A B C↔fJ h hand A:=by
 rcases hk with rfl|rfl
 ·exact ⟨fun x=>x.2.2.1 rfl,fun x=>⟨fun h=>absurd h (by decide),fun h=>absurd h (by decide),fun _=>x,fun h=>absurd h (by decide)⟩⟩
 ·exact ⟨fun x=>x.2.2.2 rfl,fun x=>⟨fun h=>absurd h (by decide),fun h=>absurd h (by decide),fun h=>absurd h (by decide),fun _=>x⟩⟩
theorem bG.rest {k B:Int} (d:k≠2) (c:k≠3) (b:k≠4) (a:k≠5):bG h hand k A B C:=⟨fun h=>absurd h d,fun h=>absurd h c,fun h=>absurd h b,fun h=>absurd h a⟩
theorem vZ (a:Below w.heap.size w w1) (b:Below w1.heap.size w1 w2):Below w.heap.size w w2:=a.trans (b.mono a.size)
structure Ni (base:Nat) (S:Nat->Prop) (h:Hp) (L:SM) (R hand:Nat) (rv:Value) (root:List Bool) (w:World):Prop where
 a:MV base S h L w
 r:aD w 61 R 3 (Es L.H rv hand)
 v:w.ownsRow base 4 1 rv root.length (iQ root)
 l:root.length=h.objs.length
 o:h.roots=dR 0 root
theorem Ni.low {base:Nat} {S:Nat->Prop} {h:Hp} {L:SM} {R hand:Nat} {rv:Value} {root:List Bool} {w w':World} (x:Ni base S h L R hand rv root w) (b:Below w.heap.size w w'):Ni base S h L R hand rv root w':=by
 have k:=Keeps.of b (au _) (fun _=>False);exact ⟨x.a.low b,x.r.keep k (fun y=>y),aj x.v k (fun _ _ y=>y),x.l,x.o⟩
theorem Ni.at {L:SM} (x:Ni base S h L R hand rv root w) (i:Inv h) (d:h.objs.length<=5001) (f:∀ n o,h.ob n=some o->o.es.length<=5000) (c:Int) (b:Bool) (hb:b=true↔fJ h hand c):
 Calls Tryz.prog 40 #[.pointer (some ⟨R,0,none⟩),.int .i64 c] w fun e w'=>e=.returned (.bool b)/\Below w.heap.size w w'/\Ni base S h L R hand rv root w':=by
 refine (vP x.a i d f x.r x.v x.l x.o c).mono ?_;rintro e w' ⟨⟨k,rfl,g⟩,j⟩;have:k=b:=by
  rw [Bool.eq_iff_iff,hb,g]
 subst this;exact ⟨rfl,j,x.low j⟩
theorem fO (wr:World) (kd A B C:Int):aD (wr.alloc (.cells #[.int .i64 kd,.int .i64 A,.int .i64 B,.int .i64 C] 39)) 39 wr.heap.size 4 (fun j=>[Value.int .i64 kd,.int .i64 A,.int .i64 B,.int .i64 C].getD j (.bool false)):=by
 have h:=aD.mk' wr 39 #[.int .i64 kd,.int .i64 A,.int .i64 B,.int .i64 C];refine aD.congr (show aD _ _ _ 4 _ from h) (fun j hj=>?_);have:j=0∨j=1∨j=2∨j=3:=by omega
 rcases this with rfl|rfl|rfl|rfl<;>rfl
def oP (h:Hp) (hand:Nat) (kd A B C:Int) (w:World) (e:Ending) (w':World):Prop:=(∃ b,e=.returned (.bool b)/\(b=true↔bG h hand kd A B C))/\Below w.heap.size w w'
theorem wI {k B:Int} {b:Bool} (hk:k=4∨k=5) (hb:b=true↔fJ h hand A) (a:Below w.heap.size w w'):oP h hand k A B C w (.returned (.bool b)) w':=⟨⟨b,rfl,by rw [hb,bG.four hk]⟩,a⟩
theorem yc {L:SM} (x:Ni base S h L R hand rv root w) (i:Inv h) (q:h.objs.length<=5001) (r:∀ n o,h.ob n=some o->o.es.length<=5000) (kd A B C:Int):
 Calls Tryz.prog 33 #[.pointer (some ⟨R,0,none⟩),.agg #[.int .i64 kd,.int .i64 A,.int .i64 B,.int .i64 C]] w (oP h hand kd A B C w):=by
 have z:=ah (fO w kd A B C);have d:=ah (aU w (.cells #[.int .i64 kd,.int .i64 A,.int .i64 B,.int .i64 C] 39));have HR:=ah (x.low d.o);obtain ⟨bA,hA⟩:∃ b:Bool,b=true↔fJ h hand A:=AQ _;obtain ⟨bB,Y⟩:∃ b:Bool,b=true↔fJ h hand B:=AQ _;obtain ⟨bC,W⟩:∃ b:Bool,b=true↔fJ h hand C:=AQ _;have t:=ah (fun (w':World) (y:Ni base S h L R hand rv root w')=>y.at i q r A bA hA);have a2:=ah (fun (w':World) (y:Ni base S h L R hand rv root w')=>y.at i q r B bB Y);have N:=ah (fun (w':World) (y:Ni base S h L R hand rv root w')=>y.at i q r C bC W);have D:=ah hA;have P:=ah Y;have HC:=ah W;clear hA Y W x;go_enter Tryz.func33,Tryz.ntmps33;go_upto_region 1 with (fail)
 generalize w.alloc (.cells #[.int .i64 kd,.int .i64 A,.int .i64 B,.int .i64 C] 39)=w1 at *;generalize e:w.heap.size=X at *;have x0:w1.cell? ⟨X,0,none⟩=some (.int .i64 kd):=z.o.c 0;by_cases v:kd=2
 ·subst v
  have x1:w1.cell? ⟨X,1,none⟩=some (.int .i64 A):=z.o.c 1;go_wp2_with fail;refine (t.o _ HR.o).mono ?_;rintro e2 w2 ⟨rfl,a,g⟩;have s:=ah g;have f:=ah a;have p:=ah (z.o.keep (Keeps.of a (au _) (fun _=>False)) (fun y=>y));clear a g x0 x1;have T:w2.cell? ⟨X,3,none⟩=some (.int .i64 C):=p.o.c 3;cases bA with
  |false=>
   have M:=ah (show ¬ fJ h hand A from fun y=>absurd (D.o.2 y) (by simp));go_wp2;go_ret;exact (⟨⟨false,rfl,by simp only [Bool.false_eq_true,false_iff];exact fun hh=>M.o (bG.two.1 hh).1⟩,by rw [e];exact d.o.trans (f.o.mono (e ▸ d.o.size))⟩:oP h hand _ A B C w _ _)
  |true=>
   have K:=ah (D.o.1 rfl);by_cases m:C=0
   ·subst m
    go_wp2;go_ret;exact (⟨⟨true,rfl,by simp only [true_iff];exact bG.two.2 ⟨K.o,.inl rfl⟩⟩,by rw [e];exact d.o.trans (f.o.mono (e ▸ d.o.size))⟩:oP h hand _ A B _ w _ _)
   ·have Z:(C==0)=false:=by simpa using m
    have u:=ah m;clear m;go_wp2_with fail;refine (N.o _ s.o).mono ?_;rintro e3 w3 ⟨rfl,j,l⟩;have k:=ah j;clear j l T;go_wp2;go_ret;refine (⟨⟨bC,rfl,?_⟩,by rw [e];exact d.o.trans (((vZ f.o k.o)).mono (e ▸ d.o.size))⟩:oP h hand _ A B C w _ _);rw [HC.o,bG.two];exact ⟨fun hh=>⟨K.o,.inr hh⟩,fun hh=>hh.2.resolve_left u.o⟩
 ·have G:(kd==2)=false:=by simpa using v
  by_cases F:kd=3
  ·subst F
   clear v G;have x1:w1.cell? ⟨X,1,none⟩=some (.int .i64 A):=z.o.c 1;go_wp2_with fail;refine (t.o _ HR.o).mono ?_;rintro e2 w2 ⟨rfl,a,g⟩;have s:=ah g;have f:=ah a;have p:=ah (z.o.keep (Keeps.of a (au _) (fun _=>False)) (fun y=>y));clear a g x0 x1;cases bA with
   |false=>
    have M:=ah (show ¬ fJ h hand A from fun y=>absurd (D.o.2 y) (by simp));go_wp2;go_ret;exact (⟨⟨false,rfl,by simp only [Bool.false_eq_true,false_iff];exact fun hh=>M.o (bG.three.1 hh).1⟩,by rw [e];exact d.o.trans (f.o.mono (e ▸ d.o.size))⟩:oP h hand _ A B C w _ _)
   |true=>
    have K:=ah (D.o.1 rfl);have y2:w2.cell? ⟨X,2,none⟩=some (.int .i64 B):=p.o.c 2;go_wp2_with fail;refine (a2.o _ s.o).mono ?_;rintro e3 w3 ⟨rfl,j,l⟩;have a1:=ah l;have k:=ah (vZ f.o j);have a0:=ah (p.o.keep (Keeps.of j (au _) (fun _=>False)) (fun y=>y));clear j l y2;cases bB with
    |false=>
     have M:=ah (show ¬ fJ h hand B from fun y=>absurd (P.o.2 y) (by simp));go_wp2;go_ret;exact (⟨⟨false,rfl,by simp only [Bool.false_eq_true,false_iff];exact fun hh=>M.o (bG.three.1 hh).2.1⟩,by rw [e];exact d.o.trans (k.o.mono (e ▸ d.o.size))⟩:oP h hand _ A B C w _ _)
    |true=>
     have J:=ah (P.o.1 rfl);have T:w3.cell? ⟨X,3,none⟩=some (.int .i64 C):=a0.o.c 3;by_cases m:C=0
     ·subst m
      go_wp2;go_ret;exact (⟨⟨true,rfl,by simp only [true_iff];exact bG.three.2 ⟨K.o,J.o,.inl rfl⟩⟩,by rw [e];exact d.o.trans (k.o.mono (e ▸ d.o.size))⟩:oP h hand _ A B _ w _ _)
     ·have Z:(C==0)=false:=by simpa using m
      have u:=ah m;clear m;go_wp2_with fail;refine (N.o _ a1.o).mono ?_;rintro e4 w4 ⟨rfl,H,V⟩;have a3:=ah H;clear H V T;go_wp2;go_ret;refine (⟨⟨bC,rfl,?_⟩,by rw [e];exact d.o.trans (((vZ k.o a3.o)).mono (e ▸ d.o.size))⟩:oP h hand _ A B C w _ _);rw [HC.o,bG.three];exact ⟨fun hh=>⟨K.o,J.o,.inr hh⟩,fun hh=>hh.2.2.resolve_left u.o⟩
  ·have U:(kd==3)=false:=by simpa using F
   by_cases E:kd=4∨kd=5
   ·have x1:w1.cell? ⟨X,1,none⟩=some (.int .i64 A):=z.o.c 1
    rcases E with rfl|rfl
    all_goals
     clear v F G U;go_wp2_with fail;refine (t.o _ HR.o).mono ?_;rintro e2 w2 ⟨rfl,a,g⟩;have f:=ah a;clear a g x0 x1;go_wp2;go_ret
     first
      |exact wI (.inl rfl) D.o (by rw [e];exact d.o.trans (f.o.mono (e ▸ d.o.size)))
      |exact wI (.inr rfl) D.o (by rw [e];exact d.o.trans (f.o.mono (e ▸ d.o.size)))
   ·have a5:(kd==4)=false:=by simp;omega
    have a4:(kd==5)=false:=by simp;omega
    have Q:=ah (show kd≠2/\kd≠3/\kd≠4/\kd≠5 from ⟨v,F,by omega,by omega⟩);clear v F E;go_wp2;go_ret;exact (⟨⟨true,rfl,by simp only [true_iff];exact bG.rest Q.o.1 Q.o.2.1 Q.o.2.2.1 Q.o.2.2.2⟩,by rw [e];exact d.o⟩:oP h hand _ A B C w _ _)
end
section
variable {G:Gh} {L:PM} {S:Nat->Prop} {base n:Nat} {h:Hp} {o:Ob} {w:World}
attribute [local go_sem] bW
theorem rC (h:Hp):h.G8.length<=h.nu/\h.weak.length<=h.nu:=by
 have:h.nu=h.wn+h.grey.length+h.G8.length+h.weak.length:=rfl;omega
theorem Gl (a:M0 base S h G L w) (ho:h.ob n=some o) (q:∀ e∈o.es,iP h e.1/\iP h e.2) (E:o.es.length<=5000) (V:h.nu+1<=20000) (D:o.mode=1):
 Calls Tryz.prog 182 #[.pointer (some ⟨L.tb n,0,none⟩),.pointer (some ⟨L.H,0,none⟩)] w fun e w'=>e=.returned (.int .i64 (o.es.length:Int))/\∃ L',Nf L L'/\M0 base S ((Hp.spread { h with G8:=h.G8++[n] } o.es).1) G L' w'/\Keeps w w' S:=by
 obtain ⟨A,u,j,Q,-⟩:=a.ents ho;have hr:=a.ob n o ho;have W:w.cell? ⟨L.tb n,7,none⟩=some (.slice A o.es.length u):=by rw [<-j];exact hr.c 7
 have X:w.cell? ⟨L.tb n,6,none⟩=some (.pointer none):=hr.c 6;have Y:w.cell? ⟨L.tb n,5,none⟩=some (.int .i64 1):=by
  rw [hr.c 5];show some (Value.int .i64 (o.mode:Int))=_;rw [D];rfl
 have m:=ah a;have R:=ah ho;have HE:=ah j;have Z:=ah q;clear a ho j q hr;go_enter Tryz.func182,Tryz.ntmps182;go_upto_region 13 with (fail)
 have i:=m.o.li 14 (by simp [eF]);have b:((eU h G 14).map (eP L.tb 14)).length=(eU h G 14).length:=by simp
 have N:=ah (oz w base L.H 14 (L.li 14) ((eU h G 14).map (eP L.tb 14)) (L.tb n) (m.o.hp.c 14) (m.o.hp.ME 14) (by rw [b];exact i) (fun e=>ak i m.o.hp (by decide) e) (by rw [b];have:=rC h;show (Hp.G8 h).length<=1000000;omega) m.o.bs);clear i b;go_wp2_with fail;refine N.o.mono ?_;intro e4 w4 p;obtain ⟨rfl,⟨P,y,J,B,U⟩,f,l,t⟩:=m.o.add (k:=14) (by simp [kI]) (n:=n) p;obtain rfl:P=L.H:=f.H;obtain rfl:y=L.tb:=f.tb;obtain rfl:J=L.es:=f.es;obtain rfl:B=L.mp:=f.mp;have P:=ah (And.intro l t);have K:=ah (mQ l (n:=n) (o:=o) R.o Z.o E (by show h.wn+h.grey.length+(h.G8++[n]).length+h.weak.length<=20000;have:h.nu=h.wn+h.grey.length+h.G8.length+h.weak.length:=rfl;simp;omega));have M:Hq (iN h 14 (eU h G 14++[n])={ h with G8:=h.G8++[n] }):=ah rfl;clear p f l t Y X W;go_wp2_with fail;refine K.o.mono ?_;rintro e7 T ⟨rfl,⟨v,x,F,z,C⟩,d,g,s⟩;obtain rfl:v=L.H:=d.H;obtain rfl:x=L.tb:=d.tb;obtain rfl:F=L.es:=d.es;obtain rfl:z=L.mp:=d.mp;rw [M.o] at g;have v:=ah (And.intro g s);obtain ⟨o1,r⟩:∃ o1,(Hp.spread { h with G8:=h.G8++[n] } o.es).1.ob n=some o1:=((M7.spread { h with G8:=h.G8++[n] } o.es).lv n).2 ⟨o,R.o⟩;have f7:T.cell? ⟨L.tb n,7,none⟩=some (.slice A o.es.length u):=by
  rw [(g.ob n o1 r).c 7];exact congrArg some HE.o
 clear d g s r;go_wp2;go_ret;exact ⟨rfl,⟨L.H,L.tb,L.es,L.mp,C⟩,⟨rfl,rfl,rfl,rfl⟩,v.o.1,P.o.2.trans v.o.2⟩
theorem Gn (a:M0 base S h G L w) (ho:h.ob n=some o) (m:∀ e∈o.es,iP h e.1/\iP h e.2) (C:o.es.length<=5000) (B:h.nu<=20000) (v:o.mode=3):
 Calls Tryz.prog 182 #[.pointer (some ⟨L.tb n,0,none⟩),.pointer (some ⟨L.H,0,none⟩)] w fun e w'=>e=.returned (.int .i64 (o.es.length:Int))/\∃ L',Nf L L'/\M0 base S ({ h with weak:=h.weak++[n] }) G L' w'/\Keeps w w' S:=by
 obtain ⟨A,q,g,z,-⟩:=a.ents ho;have hr:=a.ob n o ho;have D:w.cell? ⟨L.tb n,7,none⟩=some (.slice A o.es.length q):=by rw [<-g];exact hr.c 7
 have E:w.cell? ⟨L.tb n,6,none⟩=some (.pointer none):=hr.c 6;have F:w.cell? ⟨L.tb n,5,none⟩=some (.int .i64 3):=by
  rw [hr.c 5];show some (Value.int .i64 (o.mode:Int))=_;rw [v];rfl
 have j:=ah a;have J:=ah ho;have K:=ah g;have P:=ah m;clear a ho g m hr;go_enter Tryz.func182,Tryz.ntmps182;go_upto_region 24 with (fail)
 have f:=j.o.li 13 (by simp [eF]);have b:((eU h G 13).map (eP L.tb 13)).length=(eU h G 13).length:=by simp
 have y:=ah (oz w base L.H 13 (L.li 13) ((eU h G 13).map (eP L.tb 13)) (L.tb n) (j.o.hp.c 13) (j.o.hp.ME 13) (by rw [b];exact f) (fun e=>ak f j.o.hp (by decide) e) (by rw [b];have:=rC h;show (Hp.weak h).length<=1000000;omega) j.o.bs);clear f b;go_wp2_with fail;refine y.o.mono ?_;intro N w4 l;obtain ⟨rfl,⟨r,s,x,t,u⟩,d,i,p⟩:=j.o.add (k:=13) (by simp [kI]) (n:=n) l;obtain rfl:r=L.H:=d.H;obtain rfl:s=L.tb:=d.tb;obtain rfl:x=L.es:=d.es;obtain rfl:t=L.mp:=d.mp;have r:=ah (And.intro i p);have M:w4.cell? ⟨L.tb n,7,none⟩=some (.slice A o.es.length q):=by
  rw [(i.ob n o J.o).c 7];exact congrArg some K.o
 clear l d i p F E D;go_wp2;go_ret;exact ⟨rfl,⟨L.H,L.tb,L.es,L.mp,u⟩,⟨rfl,rfl,rfl,rfl⟩,r.o.1,r.o.2⟩
theorem Gu (a:M0 base S h G L w) (ho:h.ob n=some o) (Z:∀ e∈o.es,iP h e.1/\iP h e.2) (c3:o.es.length<=5000) (a0:h.nu<=20000) (a6:o.mode=2):
 Calls Tryz.prog 182 #[.pointer (some ⟨L.tb n,0,none⟩),.pointer (some ⟨L.H,0,none⟩)] w fun e w'=>e=.returned (.int .i64 (o.es.length:Int))/\∃ L',Nf L L'/\M0 base S ({ o.es.foldl Hp.key1 h with weak:=(o.es.foldl Hp.key1 h).weak++[n] }) G L' w'/\Keeps w w' S:=by
 obtain ⟨A,T,Q,c1,-⟩:=a.ents ho;have hr:=a.ob n o ho;have c7:w.cell? ⟨L.tb n,7,none⟩=some (.slice A o.es.length T):=by rw [<-Q];exact hr.c 7
 have c6:w.cell? ⟨L.tb n,6,none⟩=some (.pointer none):=hr.c 6;have c5:w.cell? ⟨L.tb n,5,none⟩=some (.int .i64 2):=by
  rw [hr.c 5];show some (Value.int .i64 (o.mode:Int))=_;rw [a6];rfl
 have HA:=ah a;have HO:=ah ho;have HE:=ah Q;have HK:=ah Z;clear a ho Q Z hr;go_enter Tryz.func182,Tryz.ntmps182;go_wp2;go_loopw [66] (fun iv wr=>∃ i:Nat,i<=o.es.length/\iv=.int .i64 i/\Hq (∃ li',M0 base S ((o.es.take i).foldl Hp.key1 h) G ⟨L.H,L.tb,L.es,L.mp,li'⟩ wr/\Keeps w wr S)) (fun iv _=>o.es.length-bF iv)
 case atStart=>exact ⟨0,by omega,rfl,L.li,HA.o,Keeps.refl _ _⟩
 case round=>
  obtain ⟨i,c2,rfl,HI⟩:=hrel;by_cases a7:i<o.es.length
  ·obtain ⟨e,he⟩:∃ e,o.es[i]?=some e:=⟨_,aN a7⟩
   have W:=bD he;obtain ⟨M,m,u⟩:=HI.out;have j:=M7.fold Hp.key1 (fun h x=>M7.key1 h x) (o.es.take i) h;have z:((o.es.take i).foldl Hp.key1 h).nu<=20000:=aI (aO (dO Hp.key1 uO _ _)) a0;obtain ⟨q,V⟩:∃ q,(o.es.take i).foldl Hp.key1 h=q:=⟨_,rfl⟩
   rw [V] at m j z;obtain ⟨o1,s,D⟩:∃ o1,q.ob n=some o1/\o1.es=o.es:=by
    have:=j.cont n;rw [HO.o] at this;cases e9:q.ob n with
    |none=>rw [e9] at this;simp at this
    |some o1=>rw [e9] at this;simp [Ob.cont] at this;exact ⟨o1,rfl,this.2.1⟩
   obtain ⟨A1,a1,v,b0,l⟩:=m.ents s;rw [D] at v l;have:A1=A/\a1=T:=by
    have E:=v.symm.trans HE.o;simp at E;exact E
   obtain ⟨rfl,rfl⟩:=this;obtain ⟨g,rfl,c0,d⟩:=l i e he;have d0:=d 0 _ rfl;have d1:=d 1 _ rfl;have d2:=d 2 _ rfl;have d3:=d 3 _ rfl;have d4:=d 4 _ rfl;have d5:=d 5 _ rfl;have d6:=d 6 _ rfl;have d7:=d 7 _ rfl;have d8:=d 8 _ rfl;have d9:=d 9 _ rfl;simp only [Nat.add_zero] at d0;have N:=HK.o e (aX he);have HQ:=ah V;have b2:=ah W;have b8:=ah (m.hole (.cells (NH L.tb e.1 e.2) 167));have a3:=ah (u.trans (Keeps.of (aU wr (.cells (NH L.tb e.1 e.2) 167)) (au _) S));have b1:=ah (And.intro (N.1.MZ j) (N.2.MZ j));have c8:=ah z;have a9:q.grey.length<=1000000:=aI (jq q) (by omega);clear V j W m u s D v l d HI z he N;have HX:=ah (mV wr L.tb e);go_upto_region 19 with (fail)
   generalize wr.alloc (.cells (NH L.tb e.1 e.2) 167)=w3 at *;generalize wr.heap.size=X at *;obtain ⟨x5,x6,x7,x8,x9⟩:OA w3 X L.tb e.2:=HX.o.c6;have b5:=ah (bT w3 L.tb e.2);have HF:Hq ((o.es.take (i+1)).foldl Hp.key1 h=Hp.key1 q e):=ah (by rw [b2.o,bE,HQ.o]);clear d0 d1 d2 d3 d4 d5 d6 d7 d8 d9;go_wp2_with fail;refine b5.o.mono ?_;rintro e9 w4 ⟨rfl,B⟩;have a4:=ah B;have a2:=ah (HX.o.keep (Keeps.of B (au _) (fun _=>False)) (fun y=>y));have a5:=ah (b8.o.low B);clear B x5 x6 x7 x8 x9;cases hno:e.2.isNone with
   |true=>
    have b6:=ah (show Hp.key1 q e=q from by
     have h2:e.2=none:=by cases E:e.2 with |none=>rfl|some y=>rw [E] at hno;cases hno
     unfold Hp.key1;rw [h2];rfl)
    clear hno;go_wp2;go_roundw
    case rel=>
     refine ⟨i+1,by omega,by simp,M,?_,a3.o.trans (Keeps.of a4.o (au _) S)⟩;rw [HF.o,b6.o];exact a5.o.mono (fun b e=>e.1)
    case measure=>simp [bF];omega
   |false=>
    have b3:=ah (show e.2.isSome=true from by cases E:e.2 with |none=>rw [E] at hno;cases hno|some y=>rfl);clear hno;obtain ⟨y0,y1,y2,y3,y4⟩:NC w4 X L.tb e.1:=a2.o.c5;have b7:=ah (kU a5.o e.1 b1.o.1 a9);go_wp2_with fail;refine b7.o.mono ?_;rintro e9 w5 ⟨rfl,⟨C,F,R,J,K⟩,f,r,p⟩;obtain rfl:C=L.H:=f.H;obtain rfl:F=L.tb:=f.tb;obtain rfl:R=L.es:=f.es;obtain rfl:J=L.mp:=f.mp;have C:=ah (And.intro r p);have c4:=ah (a2.o.keep p (fun e=>e.2 rfl));clear f r p y0 y1 y2 y3 y4;go_wp2;go_roundw
    case rel=>
     refine ⟨i+1,by omega,by simp,K,?_,(a3.o.trans (Keeps.of a4.o (au _) S)).trans (C.o.2.mono (fun b e=>e.1))⟩;rw [HF.o];have E:Hp.key1 q e=q.Ib e.1:=by unfold Hp.key1;rw [if_pos b3.o]
     rw [E];exact C.o.1.mono (fun b e=>e.1)
    case measure=>simp [bF];omega
  ·have a8:i=o.es.length:=by omega
   subst a8;rw [bN] at HI;obtain ⟨M,m,u⟩:=HI.out;have U:=ah (And.intro m u);have j:=M7.fold Hp.key1 (fun h x=>M7.key1 h x) o.es h;obtain ⟨o1,s⟩:∃ o1,(o.es.foldl Hp.key1 h).ob n=some o1:=(j.lv n).2 ⟨o,HO.o⟩;have z:(o.es.foldl Hp.key1 h).nu<=20000:=aI (aO (dO Hp.key1 uO _ _)) a0;have b4:=ah s;clear m u HI s j;generalize V:o.es.foldl Hp.key1 h=q at *;have HQ:=ah V;clear V;go_upto_region 22 with (fail)
   have P:=U.o.1.li 13 (by simp [eF]);have t:((eU q G 13).map (eP L.tb 13)).length=(eU q G 13).length:=by simp
   have b9:=ah (oz wr base L.H 13 (M 13) ((eU q G 13).map (eP L.tb 13)) (L.tb n) (U.o.1.hp.c 13) (U.o.1.hp.ME 13) (by rw [t];exact P) (fun e=>ak P U.o.1.hp (by decide) e) (by rw [t];have:=rC q;show (Hp.weak q).length<=1000000;omega) U.o.1.bs);clear P t;go_wp2_with fail;refine b9.o.mono ?_;intro e4 w4 Y;obtain ⟨rfl,⟨C,F,R,J,K⟩,f,r,p⟩:=U.o.1.add (k:=13) (by simp [kI]) (n:=n) Y;obtain rfl:C=L.H:=f.H;obtain rfl:F=L.tb:=f.tb;obtain rfl:R=L.es:=f.es;obtain rfl:J=L.mp:=f.mp;have C:=ah (And.intro r p);have f7:w4.cell? ⟨L.tb n,7,none⟩=some (.slice A o.es.length T):=by
    rw [(r.ob n o1 b4.o).c 7];exact congrArg some HE.o
   clear Y f r p;go_wp2;go_ret;exact ⟨rfl,⟨L.H,L.tb,L.es,L.mp,K⟩,⟨rfl,rfl,rfl,rfl⟩,(by rw [HQ.o];exact C.o.1),U.o.2.trans C.o.2⟩
theorem CS (a:M0 base S h G L w) (ho:h.ob n=some o) (b:∀ e∈o.es,iP h e.1/\iP h e.2) (c:o.es.length<=5000) (i:h.nu+1<=20000) (j:o.mode<=3):
 Calls Tryz.prog 182 #[.pointer (some ⟨L.tb n,0,none⟩),.pointer (some ⟨L.H,0,none⟩)] w fun e w'=>e=.returned (.int .i64 (o.es.length:Int))/\∃ L',Nf L L'/\M0 base S (h.Ik n o) G L' w'/\Keeps w w' S:=by
 unfold Hp.Ik;by_cases g:o.mode=0
 ·rw [if_pos g];exact Gj a ho b c (by omega) g
 rw [if_neg g];by_cases f:o.mode=1
 ·rw [if_pos f];exact Gl a ho b c i f
 rw [if_neg f];by_cases d:o.mode=2
 ·rw [if_pos d];exact Gu a ho b c (by omega) d
 rw [if_neg d];exact Gn a ho b c (by omega) (by omega)
end
section
variable {G:Gh} {L L':PM} {S:Nat->Prop} {base k n:Nat} {gs:List Nat} {h:Hp} {o:Ob} {w:World}
theorem Nf.refl (L:PM):Nf L L:=⟨rfl,rfl,rfl,rfl⟩
theorem Nf.trans {L L' L'':PM} (a:Nf L L') (b:Nf L' L''):Nf L L'':=⟨b.H.trans a.H,b.tb.trans a.tb,b.es.trans a.es,b.mp.trans a.mp⟩
theorem MJ.x (a:MJ k L L'):Nf L L':=⟨a.H,a.tb,a.es,a.mp⟩
theorem M0.II (a:M0 base S h G L w) (hk:eF k):∃ A cap,L.li k=.slice A (eU h G k).length cap/\(eU h G k).length<=cap/\∀ i n,(eU h G k)[i]?=some n->∃ g,A=some ⟨g,0,none⟩/\g<w.heap.size/\w.cell? ⟨g,i,none⟩=some (eP L.tb k n):=by
 have d:=a.li k hk;rcases d.2 with ⟨l,j⟩|⟨g,cap,m,b,_,_,f,_⟩
 ·exact ⟨none,0,by rw [l,j],by omega,fun i n hi=>by have:=(aJ.1 hi).1;omega⟩
 ·refine ⟨_,cap,b,f,fun i n hi=>⟨g,rfl,?_⟩⟩
  have hr:=ay d (g:=g) (by rw [b];simp [Value.ownBlock]);refine ⟨hr.lt,?_⟩;have e:=(aJ.1 hi).1;rw [hr.c i];simp [List.getD_eq_getElem?_getD,hi]
theorem M0.pop (a:M0 base S h G L w) (hk:kI k) (y:eU h G k=gs++[n]):∃ g cap,L.li k=.slice (some ⟨g,0,none⟩) (gs.length+1) cap/\gs.length+1<=cap/\w.cell? ⟨g,gs.length,none⟩=some (eP L.tb k n)/\
 M0 base S (iN h k gs) G { L with li:=fun j=>if j=k then .slice (some ⟨g,0,none⟩) gs.length cap else L.li j } (w.setCell ⟨L.H,k,none⟩ (.slice (some ⟨g,0,none⟩) gs.length cap))/\Keeps w (w.setCell ⟨L.H,k,none⟩ (.slice (some ⟨g,0,none⟩) gs.length cap)) S:=by
 have f:=a.li k hk.p;rw [y] at f;obtain ⟨x,cap,r⟩:=aF f;have q:(gs++[n]).length=gs.length+1:=by simp
 rw [q] at f r;rw [r] at f;rcases f.2 with ⟨_,B⟩|⟨g,t,z,i,hb,A,s,hr⟩
 ·omega
 ·simp at i
  obtain ⟨rfl,rfl⟩:=i;have l:=ay f (g:=g) (by simp [Value.ownBlock]);have b:=lJ f (m:=gs.length) (by omega);have d:w.ownsRow base (xQ k) 1 (.slice (some ⟨g,0,none⟩) gs.length cap) gs.length (gs.map (eP L.tb k)):=by
   have:((gs++[n]).map (eP L.tb k)).take (gs.length*1)=gs.map (eP L.tb k):=by
    rw [List.map_append,Nat.mul_one];rw [List.take_append_of_le_length (by simp),List.take_of_length_le (by simp)]
   rw [this] at b;exact b
  obtain ⟨p1,v,u⟩:=a.JW (h':=iN h k gs) (G':=G) (w1:=w) k hk.p (Keeps.refl w _) (.slice (some ⟨g,0,none⟩) gs.length cap) (by rw [lF hk];exact d) (fun g' e=>.inl (by rw [r];simpa [Value.ownBlock] using e)) (jE h k _) (fun j hj hn=>jD hk hj hn _) (kQ hk _ _);refine ⟨g,cap,r,s,?_,v,u⟩;rw [l.c (gs.length)];simp [List.getD_eq_getElem?_getD]
theorem fB (w:World) (b a:Nat) (A:Option Addr) (n c:Nat) (d:w.cell? ⟨b,a,none⟩=some (.slice A n c)):Calls Tryz.prog 84 #[.pointer (some ⟨b,a,none⟩)] w fun e w'=>e=.returned (.bool ((n:Int)==0))/\w'=w:=by
 go_enter Tryz.func84,Tryz.ntmps84;go_wp2;go_ret;exact ⟨rfl,rfl⟩
theorem kg (w:World) (b a g n c t:Nat) (l:w.cell? ⟨b,a,none⟩=some (.slice (some ⟨g,0,none⟩) (n+1) c)) (i:w.frozen? ⟨b,a,none⟩=false) (hx:w.cell? ⟨g,n,none⟩=some (.iface 127 (.pointer (some ⟨t,0,none⟩)))) (j:n<=1000000) (f:n+1<=c):Calls Tryz.prog 85 #[.pointer (some ⟨b,a,none⟩)] w fun e w'=>e=.returned (.iface 127 (.pointer (some ⟨t,0,none⟩)))/\w'=w.setCell ⟨b,a,none⟩ (.slice (some ⟨g,0,none⟩) n c):=by
 have d:(n:Int)<=c:=by omega
 go_enter Tryz.func85,Tryz.ntmps85;go_wp2;go_ret;exact ⟨rfl,rfl⟩
theorem iP.of (c:h.Closed) (ho:h.ob n=some o):∀ e∈o.es,iP h e.1/\iP h e.2:=by
 intro e a;refine ⟨fun m hm=>c n o ho e a m ?_,fun m hm=>c n o ho e a m ?_⟩
 ·simp [dw,bQ,hm]
 ·simp [dw,bQ,hm]
end
section
variable {G:Gh} {L:PM} {S:Nat->Prop} {base:Nat} {h:Hp} {w:World}
theorem Dm (v:Value) (w:World):(Instr.typeAssert (.iface 127 v) 67 208 true).run Tryz.prog w=.ok (.tuple #[.iface 127 v,.bool true]) w:=by kernel_rfl
theorem qh (a:M0 base S h G L w) (k:Wk h) (z:h.nu+h.again.length+1<=20000) (n:Nat) (C:h.Lv n):
 Calls Tryz.prog 131 #[.pointer (some ⟨L.H,0,none⟩),.iface 127 (.pointer (some ⟨L.tb n,0,none⟩))] w fun e w'=>e=.returned (.int .i64 ((h.scan n).2:Int))/\∃ L',Nf L L'/\M0 base S (h.scan n).1 G L' w'/\Keeps w w' S:=by
 obtain ⟨o,ho⟩:=C;have b:=M7.col h n 3 rfl;have l:=k.s.es n o ho;have u:=(a.ob n o ho).ME 0;have x:w.cell? ⟨L.tb n,0,none⟩=some (.int .i64 (o.col:Int)):=(a.ob n o ho).c 0;have j:=ah (a.Mk n 0 (.int .i64 3) (fun o=>{ o with col:=3 }) (by decide) ho ⟨rfl,rfl⟩ (dz _ rfl rfl rfl rfl rfl rfl rfl rfl rfl rfl rfl rfl rfl));have B:=iO (L.tb n);have A:=EF (L.tb n);have y:=Dm;have q:=ah (gV w (L.tb n));have t:Hq ((h.upd n fun o=>{ o with col:=3 }).ob n=some { o with col:=3 }):=ah (by rw [Hp.Ho,if_pos rfl,ho];rfl);have i:Hq (h.scan n=((h.upd n fun o=>{ o with col:=3 }).Ik n { o with col:=3 },1+o.es.length)):=ah (by unfold Hp.scan;rw [ho];rfl);have p:=ah (CS j.o.1 t.o (iP.of (b.closed k.c) t.o) l (by have:=qH h n;omega) (k.m n o ho));clear b a k ho;go_enter Tryz.func131,Tryz.ntmps131;go_wp2_with fail;refine q.o.mono ?_;rintro J v ⟨rfl,rfl⟩;go_upto_region 2 with (fail)
 generalize v.setCell ⟨L.tb n,0,none⟩ (.int .i64 3)=w3 at *;clear x u;go_wp2_with fail;refine p.o.mono ?_;rintro F E ⟨rfl,D,d,g,f⟩;have r:=ah (And.intro d (And.intro g f));clear d g f;go_wp2;go_ret;refine ⟨by rw [i.o];simp,D,r.o.1,by rw [i.o];exact r.o.2.1,j.o.2.trans r.o.2.2⟩
theorem kR (a:M0 base S h G L w) (k:Wk h) (t:MP h No):
 Calls Tryz.prog 141 #[.pointer (some ⟨L.H,0,none⟩)] w fun e w'=>e=.returned (.tuple #[])/\∃ L',Nf L L'/\M0 base S h.drain G L' w'/\Keeps w w' S:=by
 have E:Hq (Wk h/\MP h No/\Nf L L/\M0 base S h G L w/\Keeps w w S):=ah ⟨k,t,Nf.refl L,a,Keeps.refl _ _⟩;clear a k t;go_enter Tryz.func141,Tryz.ntmps141;go_wp2
 go_loopg [] h.mu (fun m wr=>∃ (q:Hp) (L':PM),Hq (q.mu=m/\q.drain=h.drain/\Wk q/\MP q No/\Nf L L'/\M0 base S q G L' wr/\Keeps w wr S))
 case atStart=>exact ⟨h,L,rfl,rfl,E.o⟩
 case round=>
  obtain ⟨q,W,HI⟩:=hrel;clear E;obtain ⟨H1,J,T,P,Q⟩:=W;obtain rfl:H1=L.H:=HI.out.2.2.2.2.1.H;obtain rfl:J=L.tb:=HI.out.2.2.2.2.1.tb;by_cases r:q.grey=[]
  ·have d:=HI.out.2.2.2.2.2.1
   obtain ⟨A,f,p,-⟩:=d.II (k:=11) (by simp [eF]);rw [show eU q G 11=[] from r] at p;have u:wr.cell? ⟨L.H,11,none⟩=some (.slice A 0 f):=by
    have:=d.hp.c 11;rw [this];exact congrArg some p
   have F:=ah (fB wr L.H 11 A 0 f u);rw [show (((0:Nat):Int)==0)=true from rfl] at F;have Z:=ah (q.J2 r);clear d p r u;go_wp2_with fail;refine F.o.mono ?_;rintro U N ⟨rfl,rfl⟩;go_wp2;go_end0;exact ⟨rfl,_,HI.out.2.2.2.2.1,by rw [<-HI.out.2.1,Z.o];exact HI.out.2.2.2.2.2.1,HI.out.2.2.2.2.2.2⟩
  ·obtain ⟨i,n,b⟩:∃ i n,q.grey=i++[n]:=⟨_,_,(List.dropLast_concat_getLast r).symm⟩
   have d:=HI.out.2.2.2.2.2.1;obtain ⟨g,f,p,C,B,j,x⟩:=d.pop (k:=11) (by simp [kI]) b;have u:wr.cell? ⟨L.H,11,none⟩=some (.slice (some ⟨g,0,none⟩) (i.length+1) f):=by
    have:=d.hp.c 11;rw [this];exact congrArg some p
   have R:i.length<=20000:=by
    have:=HI.out.2.2.1.s.nu;simp only [Hp.nu,Hp.mu,b,bI,List.length_singleton] at this;omega
   have F:=ah (fB wr L.H 11 (some ⟨g,0,none⟩) (i.length+1) f u);rw [show (((i.length+1:Nat):Int)==0)=false by simp;omega] at F;have X:=ah (kg wr L.H 11 g i.length f (L.tb n) u (d.hp.ME 11) B (by omega) C);have l:=ah (qh j (HI.out.2.2.1.pop b).1 (HI.out.2.2.1.pop b).2.1 n (HI.out.2.2.1.pop b).2.2);rw [show iN q 11 i={ q with grey:=i } from rfl,<-Hp.JI b] at l;have K:=ah x;have M:=ah r;have Y:=ah b;clear p j x r b B u d;go_wp2_with fail;refine F.o.mono ?_;rintro U N ⟨rfl,rfl⟩;go_wp2_with fail;refine X.o.mono ?_;rintro e3 w3 ⟨rfl,rfl⟩;generalize N.setCell ⟨L.H,11,none⟩ (.slice (some ⟨g,0,none⟩) i.length f)=w4 at *;go_wp2_with fail;refine l.o.mono ?_;rintro e9 w5 ⟨rfl,V,y,D,z⟩;have v:=ah (And.intro y (And.intro D z));clear y D z l;go_wp2
   go_roundg q.take.1.mu
   case rel=>
    refine ⟨q.take.1,V,rfl,?_,HI.out.2.2.1.take HI.out.2.2.2.1 M.o,HI.out.2.2.2.1.take,?_,v.o.2.1,?_⟩
    ·rw [<-q.Jg M.o];exact HI.out.2.1
    ·exact HI.out.2.2.2.2.1.trans ⟨v.o.1.H,v.o.1.tb,v.o.1.es,v.o.1.mp⟩
    ·exact (HI.out.2.2.2.2.2.2.trans K.o).trans v.o.2.2
   case measure=>
    have:=q.IX M.o;have:=HI.out.1;omega
end
section
variable {G:Gh} {L:PM} {S:Nat->Prop} {base:Nat} {h:Hp} {w:World}
theorem xE (a:M0 base S h G L w) (k:Wk h) (t:MP h No):
 Calls Tryz.prog 151 #[.pointer (some ⟨L.H,0,none⟩)] w fun e w'=>e=.returned (.bool (Hp.over 0 (h,false)).2)/\∃ L',Nf L L'/\M0 base S (Hp.over 0 (h,false)).1 G L' w'/\Keeps w w' S:=by
 have l:Hq (Wk h/\MP h No/\Nf L L/\M0 base S h G L w/\Keeps w w S):=ah ⟨k,t,Nf.refl L,a,Keeps.refl _ _⟩;clear a k t;go_enter Tryz.func151,Tryz.ntmps151;go_wp2
 go_loopg [3,4] (h.mu+h.G8.length) (fun m bv jv wr=>∃ (j:Nat) (D:Bool) (b:Hp) (L':PM),jv=.int .i64 (j:Int)/\bv=.bool D/\Hq (m=b.mu+b.G8.length-j/\Hp.over j (b,D)=Hp.over 0 (h,false)/\Wk b/\MP b No/\Nf L L'/\M0 base S b G L' wr/\Keeps w wr S/\j<=100000))
 case atStart=>exact ⟨0,false,h,L,rfl,rfl,by omega,rfl,l.o.1,l.o.2.1,l.o.2.2.1,l.o.2.2.2.1,l.o.2.2.2.2,by omega⟩
 case round=>
  obtain ⟨j,D,b,L3,rfl,rfl,d⟩:=hrel;clear l;obtain ⟨H3,T,X,U,a6⟩:=L3;obtain rfl:H3=L.H:=d.o.2.2.2.2.1.H;obtain rfl:T=L.tb:=d.o.2.2.2.2.1.tb;obtain rfl:X=L.es:=d.o.2.2.2.2.1.es;obtain rfl:U=L.mp:=d.o.2.2.2.2.1.mp;have i:=d.o.2.2.2.2.2.1;obtain ⟨A,Y,V,a2,r⟩:=i.II (k:=14) (by simp [eF]);have a9:b.G8.length<=20000:=by
   have:=d.o.2.2.1.s.nu;simp only [Hp.nu] at this;omega
  have a8:=d.o.2.2.2.2.2.2.2;have b1:wr.cell? ⟨L.H,14,none⟩=some (.slice A b.G8.length Y):=by
   have:=i.hp.c 14;rw [this];exact congrArg some V
  by_cases K:j<b.G8.length
  ·obtain ⟨g,rfl,-,M⟩:=r j _ (aN (show j<(eU b G 14).length from K))
   have W:=d.o.2.2.2.1.ll _ (.inr (.inr (.inr (List.getElem_mem K))));have y:=ah (Hp.JH j (b,D) K);have z:=ah (Hp.J4 j (b,D) K);have a1:wr.cell? ⟨g,j,none⟩=some (.pointer (some ⟨L.tb (b.G8[j]),0,none⟩)):=M;clear M r;generalize b.G8[j]=n at *;obtain ⟨o,ho⟩:=W;have N:=Hp.JU ho;have v:=ah (mQ i ho (iP.of d.o.2.2.1.c ho) (d.o.2.2.1.s.es n o ho) (by have:=d.o.2.2.1.s.nu;omega));simp only [N] at y z;have a7:(j:Int)<(b.G8.length:Int):=by omega
   have f:=ah (And.intro (d.o.2.2.1.spread o.es) (d.o.2.2.2.1.MQ (Mt.spread b o.es)));have B:Hq ((b.spread o.es).1.mu=b.mu/\(b.spread o.es).1.G8=b.G8):=ah ⟨Hp.Il b o.es,(Hp.Ih b o.es).1⟩;clear i ho N V;cases hs2:(b.spread o.es).2 with
   |false=>
    have E:=ah (z.o hs2);rw [hs2] at v;clear hs2 z y;go_wp2_with fail;refine v.o.mono ?_;rintro e9 w4 ⟨rfl,Z,p,u,q⟩;have C:=ah (And.intro p (And.intro u q));clear p u q;go_wp2
    go_roundg (b.mu+b.G8.length-(j+1))
    case rel=>
     refine ⟨j+1,D,(b.spread o.es).1,Z,by simp,rfl,?_,E.o.symm.trans d.o.2.1,f.o.1,f.o.2,d.o.2.2.2.2.1.trans C.o.1.x,C.o.2.1,d.o.2.2.2.2.2.2.1.trans C.o.2.2,by omega⟩;rw [B.o.1,B.o.2]
    case measure=>
     have:=d.o.1;omega
   |true=>
    have E:=ah (y.o hs2);rw [hs2] at v;clear hs2 z y;go_wp2_with fail;refine v.o.mono ?_;rintro e9 w4 ⟨rfl,Z,p,u,q⟩;have C:=ah (And.intro p (And.intro u q));clear p u q;obtain ⟨H5,a3,b0,a4,a5⟩:=Z;obtain rfl:H5=L.H:=C.o.1.H;have R:=ah (kR C.o.2.1 f.o.1 f.o.2);go_wp2_with fail;refine R.o.mono ?_;rintro e9 w6 ⟨rfl,L6,F,P,J⟩;have H6:=ah (And.intro F (And.intro P J));clear F P J R;go_wp2
    go_roundg ((b.spread o.es).1.drain.mu+(b.spread o.es).1.drain.G8.length-(j+1))
    case rel=>
     exact ⟨j+1,true,(b.spread o.es).1.drain,L6,by simp,rfl,rfl,E.o.symm.trans d.o.2.1,f.o.1.drain f.o.2,f.o.2.drain,d.o.2.2.2.2.1.trans (C.o.1.x.trans H6.o.1),H6.o.2.1,(d.o.2.2.2.2.2.2.1.trans C.o.2.2).trans H6.o.2.2,by omega⟩
    case measure=>
     have h1:=d.o.1;have h2:=Hp.Jd (b.spread o.es).1;rw [B.o.1,B.o.2] at h2;omega
  ·have Q:=ah ((Hp.JG j (b,D) K).symm.trans d.o.2.1)
   have a0:=ah i;clear i r V;go_wp2;go_ret;exact ⟨by rw [<-Q.o];rfl,_,d.o.2.2.2.2.1,by rw [<-Q.o];exact a0.o,d.o.2.2.2.2.2.2.1⟩
theorem mU (a:M0 base S h G L w) (k:Wk h) (t:MP h No):
 Calls Tryz.prog 143 #[.pointer (some ⟨L.H,0,none⟩)] w fun e w'=>e=.returned (.tuple #[])/\∃ L',Nf L L'/\M0 base S h.settle G L' w'/\Keeps w w' S:=by
 have u:=ah (kR a k t);have g:=ah (And.intro (k.drain t) t.drain);clear a k t;go_enter Tryz.func143,Tryz.ntmps143;go_wp2_with fail;refine u.o.mono ?_;rintro s w1 ⟨rfl,C,j,n,l⟩;have v:=ah (And.intro j (And.intro n l));clear j n l u;go_wp2
 go_loopg [] (h.drain.mu+1) (fun m wr=>∃ (q:Hp) (L':PM),Hq (m=q.mu+1/\q.turns=h.settle/\Wk q/\MP q No/\Nf L L'/\M0 base S q G L' wr/\Keeps w wr S))
 case atStart=>exact ⟨h.drain,C,rfl,rfl,g.o.1,g.o.2,v.o⟩
 case round=>
  obtain ⟨q,B,HI⟩:=hrel;clear g v;obtain ⟨E,x,A,y,z⟩:=B;obtain rfl:E=L.H:=HI.out.2.2.2.2.1.H;have f:=ah (xE HI.out.2.2.2.2.2.1 HI.out.2.2.1 HI.out.2.2.2.1);cases hb:(Hp.over 0 (q,false)).2 with
  |false=>
   rw [hb] at f;have r:=ah (Hp.J9 q hb);clear hb;go_wp2_with fail;refine f.o.mono ?_;rintro s w4 ⟨rfl,p,b,d,c⟩;have i:=ah (And.intro b (And.intro d c));clear b d c;go_wp2;go_end0;exact ⟨rfl,p,HI.out.2.2.2.2.1.trans i.o.1,by rw [<-HI.out.2.1,r.o];exact i.o.2.1,HI.out.2.2.2.2.2.2.trans i.o.2.2⟩
  |true=>
   rw [hb] at f;have r:=ah (Hp.Jy HI.out.2.2.2.1 hb);have D:=ah (Hp.Jv HI.out.2.2.2.1 hb);clear hb;go_wp2_with fail;refine f.o.mono ?_;rintro s w4 ⟨rfl,p,b,d,c⟩;have i:=ah (And.intro b (And.intro d c));clear b d c;go_wp2
   go_roundg ((Hp.over 0 (q,false)).1.mu+1)
   case rel=>
    refine ⟨(Hp.over 0 (q,false)).1,p,rfl,?_,HI.out.2.2.1.over HI.out.2.2.2.1,HI.out.2.2.2.1.over,HI.out.2.2.2.2.1.trans i.o.1,i.o.2.1,HI.out.2.2.2.2.2.2.trans i.o.2.2⟩;rw [<-HI.out.2.1,r.o]
   case measure=>
    have:=HI.out.1;have:=D.o;omega
end
section
variable {G:Gh} {L:PM} {S:Nat->Prop} {base:Nat} {h:Hp} {w:World}
theorem qz (a:M0 base S h G L w) (hl:∀ n∈h.pending,h.Lv n) (R:h.nu<=20000) (a3:h.pending.length<=20000):
 Calls Tryz.prog 133 #[.pointer (some ⟨L.H,0,none⟩)] w fun e w'=>e=.returned (.tuple #[])/\∃ L',MJ 11 L L'/\M0 base S (h.Hu h.pending) G L' w'/\Keeps w w' S:=by
 obtain ⟨A,r,P,a2,-⟩:=a.II (k:=16) (by simp [eF]);have ck:w.cell? ⟨L.H,16,none⟩=some (.slice A h.pending.length r):=by
  have:=a.hp.c 16;rw [this];exact congrArg some P
 have HA:=ah a;have HL:=ah hl;have HV:Hq (L.li 16=.slice A h.pending.length r):=ah P;clear a hl P;go_enter Tryz.func133,Tryz.ntmps133;go_wp2;go_loopw [10] (fun iv wr=>∃ i:Nat,i<=h.pending.length/\iv=.int .i64 i/\Hq (∃ li',M0 base S ((h.pending.take i).foldl Hp.mark h) G ⟨L.H,L.tb,L.es,L.mp,li'⟩ wr/\(∀ j,j≠11->li' j=L.li j)/\Keeps w wr S)) (fun iv _=>h.pending.length-bF iv)
 case atStart=>exact ⟨0,by omega,rfl,L.li,HA.o,fun _ _=>rfl,Keeps.refl _ _⟩
 case round=>
  obtain ⟨i,a4,rfl,HI⟩:=hrel;by_cases T:i<h.pending.length
  ·obtain ⟨n,J⟩:∃ n,h.pending[i]?=some n:=⟨_,aN T⟩
   have v:=bD J;obtain ⟨s,d,f,p⟩:=HI.out;have m:=M7.fold Hp.mark (fun h x=>M7.mark h x) (h.pending.take i) h;have z:((h.pending.take i).foldl Hp.mark h).nu<=20000:=aI (aO (dO Hp.mark Hp.Ir _ _)) R;obtain ⟨q,Q⟩:∃ q,(h.pending.take i).foldl Hp.mark h=q:=⟨_,rfl⟩
   rw [Q] at d m z;obtain ⟨A1,E,t,V,l⟩:=d.II (k:=16) (by simp [eF]);have u:s 16=.slice A h.pending.length r:=(f 16 (by decide)).trans HV.out;have y:eU q G 16=h.pending:=m.pending;rw [y] at t l;obtain ⟨rfl,rfl⟩:A1=A/\E=r:=by
    have h9:=t.symm.trans u;simp at h9;exact h9
   obtain ⟨g,rfl,a0,C⟩:=l i n J;have a1:wr.cell? ⟨g,i,none⟩=some (.iface 127 (.pointer (some ⟨L.tb n,0,none⟩))):=C;obtain ⟨o,ho⟩:=(m.lv n).2 (HL.o n (aX J));have X:=ah (jW d ho (aI (jq q) (by omega)));have HF:Hq ((h.pending.take (i+1)).foldl Hp.mark h=q.mark n):=ah (by rw [v,bE,Q]);have Y:=ah f;have Z:=ah p;clear Q m v d p f C l t u y ho HI J z;go_wp2_with fail;refine X.o.mono ?_;rintro e9 w6 ⟨rfl,⟨F,K,W,M,N⟩,b,D,B⟩;obtain rfl:F=L.H:=b.H;obtain rfl:K=L.tb:=b.tb;obtain rfl:W=L.es:=b.es;obtain rfl:M=L.mp:=b.mp;have F:=ah (And.intro b.li (And.intro D B));clear b D B;go_wp2;go_roundw
   case rel=>
    exact ⟨i+1,by omega,by simp,N,by rw [HF.o];exact F.o.2.1,fun j hj=>(F.o.1 j hj).trans (Y.o j hj),Z.o.trans F.o.2.2⟩
   case measure=>simp [bF];omega
  ·have U:i=h.pending.length:=by omega
   subst U;rw [bN] at HI;go_wp2;go_end0;obtain ⟨s,d,f,p⟩:=HI.out;exact ⟨rfl,⟨L.H,L.tb,L.es,L.mp,s⟩,⟨rfl,rfl,rfl,rfl,f⟩,d,p⟩
theorem og (a:M0 base S h G L w) (hl:∀ n∈h.roots,h.Lv n) (F:h.nu<=20000) (a5:h.roots.length<=20000) (W:∀ n∈h.pending,h.Lv n) (V:h.pending.length<=20000):
 Calls Tryz.prog 113 #[.pointer (some ⟨L.H,0,none⟩)] w fun e w'=>e=.returned (.tuple #[])/\∃ L',MJ 11 L L'/\M0 base S h.alive G L' w'/\Keeps w w' S:=by
 obtain ⟨A,t,T,a4,-⟩:=a.II (k:=10) (by simp [eF]);have ck:w.cell? ⟨L.H,10,none⟩=some (.slice A h.roots.length t):=by
  have:=a.hp.c 10;rw [this];exact congrArg some T
 have HA:=ah a;have HL:=ah hl;have HV:Hq (L.li 10=.slice A h.roots.length t):=ah T;clear a hl T;go_enter Tryz.func113,Tryz.ntmps113;go_wp2;go_loopw [9] (fun iv wr=>∃ i:Nat,i<=h.roots.length/\iv=.int .i64 i/\Hq (∃ li',M0 base S ((h.roots.take i).foldl Hp.mark h) G ⟨L.H,L.tb,L.es,L.mp,li'⟩ wr/\(∀ j,j≠11->li' j=L.li j)/\Keeps w wr S)) (fun iv _=>h.roots.length-bF iv)
 case atStart=>exact ⟨0,by omega,rfl,L.li,HA.o,fun _ _=>rfl,Keeps.refl _ _⟩
 case round=>
  obtain ⟨i,a6,rfl,HI⟩:=hrel;by_cases X:i<h.roots.length
  ·obtain ⟨n,N⟩:∃ n,h.roots[i]?=some n:=⟨_,aN X⟩
   have D:=bD N;obtain ⟨v,f,l,m⟩:=HI.out;have b:=M7.fold Hp.mark (fun h x=>M7.mark h x) (h.roots.take i) h;have J:((h.roots.take i).foldl Hp.mark h).nu<=20000:=aI (aO (dO Hp.mark Hp.Ir _ _)) F;obtain ⟨q,U⟩:∃ q,(h.roots.take i).foldl Hp.mark h=q:=⟨_,rfl⟩
   rw [U] at f b J;obtain ⟨A1,M,y,Z,r⟩:=f.II (k:=10) (by simp [eF]);have C:v 10=.slice A h.roots.length t:=(l 10 (by decide)).trans HV.out;have E:eU q G 10=h.roots:=b.roots;rw [E] at y r;obtain ⟨rfl,rfl⟩:A1=A/\M=t:=by
    have h9:=y.symm.trans C;simp at h9;exact h9
   obtain ⟨g,rfl,a2,K⟩:=r i n N;have a3:wr.cell? ⟨g,i,none⟩=some (.iface 127 (.pointer (some ⟨L.tb n,0,none⟩))):=K;obtain ⟨o,ho⟩:=(b.lv n).2 (HL.o n (aX N));have a1:=ah (jW f ho (aI (jq q) (by omega)));have HF:Hq ((h.roots.take (i+1)).foldl Hp.mark h=q.mark n):=ah (by rw [D,bE,U]);have z:=ah l;have B:=ah m;clear U b D f m l K r y C E ho HI N J;go_wp2_with fail;refine a1.o.mono ?_;rintro e9 w6 ⟨rfl,⟨u,P,a0,Q,R⟩,d,s,p⟩;obtain rfl:u=L.H:=d.H;obtain rfl:P=L.tb:=d.tb;obtain rfl:a0=L.es:=d.es;obtain rfl:Q=L.mp:=d.mp;have u:=ah (And.intro d.li (And.intro s p));clear d s p;go_wp2;go_roundw
   case rel=>
    exact ⟨i+1,by omega,by simp,R,by rw [HF.o];exact u.o.2.1,fun j hj=>(u.o.1 j hj).trans (z.o j hj),B.o.trans u.o.2.2⟩
   case measure=>simp [bF];omega
  ·have Y:i=h.roots.length:=by omega
   subst Y;rw [bN] at HI;obtain ⟨v,f,l,m⟩:=HI.out;have b:=M7.fold Hp.mark (fun h x=>M7.mark h x) h.roots h;have HW:=ah (qz f (fun n hn=>(b.lv n).2 (W n (by rw [<-b.pending];exact hn))) (aI (aO (dO Hp.mark Hp.Ir _ _)) F) (by rw [b.pending];exact V));have HE:Hq (h.alive=(h.roots.foldl Hp.mark h).Hu (h.roots.foldl Hp.mark h).pending):=ah (by rw [b.pending];rfl);have z:=ah l;have B:=ah m;clear f l m b HI;go_wp2_with fail;refine HW.o.mono ?_;rintro e9 w6 ⟨rfl,L6,d,s,p⟩;have u:=ah (And.intro d (And.intro s p));clear d s p;go_wp2;go_end0;exact ⟨rfl,L6,MJ.trans (L':=⟨L.H,L.tb,L.es,L.mp,v⟩) ⟨rfl,rfl,rfl,rfl,z.o⟩ u.o.1,by rw [HE.o];exact u.o.2.1,B.o.trans u.o.2.2⟩
theorem M0.aux (a:M0 base S h G L w) (l:List Nat) (s:Nat):M0 base S { h with again:=l,G9:=s } G L w:=
 ⟨a.hp,a.ob,a.en,a.mp,a.li,a.ij,a.ei,a.mi,a.lj,a.bH,a.bt,a.bm,a.bs,a.sH,a.st,a.se,a.sm,a.sl,a.up⟩
theorem vG (l:List Nat) (h:Hp):(l.foldl Hp.Hr h).grey.length=h.grey.length+l.length:=by
 induction l generalizing h with
 |nil=>rfl
 |cons a l ih=>
  rw [List.foldl_cons,ih];simp [Hp.Hr,Hp.upd];omega
theorem yG (l:List Nat) (h:Hp) (n:Nat):(l.foldl Hp.Hr h).Lv n↔h.Lv n:=by
 induction l generalizing h with
 |nil=>exact Iff.rfl
 |cons a l ih=>
  rw [List.foldl_cons,ih];show (∃ o,(h.upd a _).ob n=some o)↔_;unfold Hp.Lv;rw [Hp.Ho];split
  ·cases h.ob n<;>simp
  ·rfl
theorem xH (a:M0 base S h G L w) (y:G.ag=h.again) (hl:∀ n∈h.again,h.Lv n) (b1:h.nu+h.again.length<=20000):
 Calls Tryz.prog 142 #[.pointer (some ⟨L.H,0,none⟩)] w fun e w'=>e=.returned (.tuple #[])/\∃ L',MJ 11 L L'/\M0 base S h.He G L' w'/\Keeps w w' S:=by
 obtain ⟨A,t,Q,a9,-⟩:=a.II (k:=12) (by simp [eF]);rw [show eU h G 12=h.again from y] at Q;have b0:h.again.length<=20000:=by omega
 have b3:h.grey.length<=20000:=aI (jq h) (by omega);have ck:w.cell? ⟨L.H,12,none⟩=some (.slice A h.again.length t):=by
  have:=a.hp.c 12;rw [this];exact congrArg some Q
 have HA:=ah a;have HL:=ah hl;have a5:=ah y;have HV:Hq (L.li 12=.slice A h.again.length t):=ah Q;clear a hl Q y;go_enter Tryz.func142,Tryz.ntmps142;go_wp2;go_loopw [10] (fun iv wr=>∃ i:Nat,i<=h.again.length/\iv=.int .i64 i/\Hq (∃ li',M0 base S ((h.again.take i).foldl Hp.Hr h) G ⟨L.H,L.tb,L.es,L.mp,li'⟩ wr/\(∀ j,j≠11->li' j=L.li j)/\Keeps w wr S)) (fun iv _=>h.again.length-bF iv)
 case atStart=>exact ⟨0,by omega,rfl,L.li,HA.o,fun _ _=>rfl,Keeps.refl _ _⟩
 case round=>
  obtain ⟨i,b2,rfl,HI⟩:=hrel;by_cases Y:i<h.again.length
  ·obtain ⟨n,R⟩:∃ n,h.again[i]?=some n:=⟨_,aN Y⟩
   have C:=bD R;obtain ⟨m,d,b,s⟩:=HI.out;have x:=vG (h.again.take i) h;have v:=yG (h.again.take i) h n;obtain ⟨q,W⟩:∃ q,(h.again.take i).foldl Hp.Hr h=q:=⟨_,rfl⟩
   rw [W] at d x v;obtain ⟨A1,M,u,a0,r⟩:=d.II (k:=12) (by simp [eF]);have B:m 12=.slice A h.again.length t:=(b 12 (by decide)).trans HV.out;have E:eU q G 12=h.again:=a5.o;rw [E] at u r;obtain ⟨rfl,rfl⟩:A1=A/\M=t:=by
    have h9:=u.symm.trans B;simp at h9;exact h9
   obtain ⟨g,rfl,a7,J⟩:=r i n R;have a8:wr.cell? ⟨g,i,none⟩=some (.iface 127 (.pointer (some ⟨L.tb n,0,none⟩))):=J;obtain ⟨o,ho⟩:=v.2 (HL.o n (aX R));have b4:q.grey.length<=40000:=by
    rw [x,bf];omega
   have t0:wr.cell? ⟨L.tb n,0,none⟩=some (.int .i64 (o.col:Int)):=(d.ob n o ho).c 0;have z0:=(d.ob n o ho).ME 0;have f:=ah (d.Mk n 0 (.int .i64 2) (fun o=>{ o with col:=2 }) (by decide) ho ⟨rfl,rfl⟩ (dz _ rfl rfl rfl rfl rfl rfl rfl rfl rfl rfl rfl rfl rfl));have X:=iO (L.tb n);have a4:=ah (gV wr (L.tb n));have HF:Hq ((h.again.take (i+1)).foldl Hp.Hr h=q.Hr n):=ah (by rw [C,bE,W]);have a2:=ah b;have a3:=ah s;clear W C d s b J r u B E ho HI R x v;go_wp2_with fail;refine a4.o.mono ?_;rintro e2 w2 ⟨rfl,rfl⟩;go_upto_region 4 with (fail)
   generalize w2.setCell ⟨L.tb n,0,none⟩ (.int .i64 2)=w3 at *;have N:w3.cell? ⟨L.H,11,none⟩=some (m 11):=f.o.1.hp.c 11;have z:=f.o.1.hp.ME 11;have b:=f.o.1.li 11 (by simp [eF]);have p:((eU (q.upd n fun o=>{ o with col:=2 }) G 11).map (eP L.tb 11)).length=(eU (q.upd n fun o=>{ o with col:=2 }) G 11).length:=by simp
   have a6:=ah (iI w3 base L.H 11 (m 11) ((eU (q.upd n fun o=>{ o with col:=2 }) G 11).map (eP L.tb 11)) (L.tb n) N z (by rw [p];exact b) (fun e=>ak b f.o.1.hp (by decide) e) (by rw [p];show q.grey.length<=1000000;omega) f.o.1.bs);clear b p N z t0 z0 X;go_wp2_with fail;refine a6.o.mono ?_;intro e4 w4 D;obtain ⟨rfl,⟨P,T,a1,U,V⟩,l,K,F⟩:=f.o.1.add (k:=11) (by simp [kI]) (n:=n) D;obtain rfl:P=L.H:=l.H;obtain rfl:T=L.tb:=l.tb;obtain rfl:a1=L.es:=l.es;obtain rfl:U=L.mp:=l.mp;have P:=ah (And.intro l.li (And.intro K F));clear D l K F;go_wp2;go_roundw
   case rel=>
    exact ⟨i+1,by omega,by simp,V,by rw [HF.o];exact P.o.2.1,fun j hj=>(P.o.1 j hj).trans (a2.o j hj),(a3.o.trans f.o.2).trans P.o.2.2⟩
   case measure=>simp [bF];omega
  ·have Z:i=h.again.length:=by omega
   subst Z;rw [bN] at HI;go_wp2;go_end0;obtain ⟨m,d,b,s⟩:=HI.out;exact ⟨rfl,⟨L.H,L.tb,L.es,L.mp,m⟩,⟨rfl,rfl,rfl,rfl,b⟩,d.aux [] _,s⟩
end
end Go.Proofs.YtbpcdfbmnklcjaaGreatDoor
namespace Go.Proofs.YtbpcdfbmnklcjaaGreatDoor
open Go Go.RowKit Go.WideMaps
set_option linter.unusedVariables false
section
variable {z:Int}
theorem FK:laidOutB Tryz.prog=true:=by kernel_rfl
theorem Gm:(194:TypeId)<Tryz.prog.types.size:=of_decide_eq_true (by kernel_rfl)
theorem GX:Tryz.prog.keyTypeAt 4 194=true:=by kernel_rfl
theorem Fp:Tryz.prog.keyType 194=true:=by kernel_rfl
theorem k5:4+1<=10000:=by omega
theorem qV:KeyLaw Tryz.prog 194:=deep_law_laid FK (m:=4) k5 Gm GX (by rw [Tryz.underlying194])
theorem AJ:Tryz.prog.cellsOf 194=5:=by kernel_rfl
theorem vR:Tryz.prog.cellsOf 141=4:=by kernel_rfl
theorem vV:Tryz.prog.cellsOf 3=1:=by kernel_rfl
theorem BR:Tryz.prog.cellsOf 81=1:=by kernel_rfl
theorem Bz:Tryz.prog.cellsOf 9=1:=by kernel_rfl
theorem FE:∃ m,Tryz.prog.types.size=m+3:=⟨Tryz.prog.types.size-3,by
 have:Nat.ble 3 Tryz.prog.types.size=true:=by kernel_rfl
 have:=Nat.le_of_ble_eq_true this;omega⟩
theorem Fe (m:Nat) (a b c:Int) (g:(Lit.int .i64 a).wf=true) (hb:(Lit.int .i64 b).wf=true) (f:(Lit.int .i64 c).wf=true):∃ ls,Tryz.prog.keyLits (m+4) 194 [.int .i64 a,.int .i64 b,.int .u64 0,.string ByteArray.empty,.int .i64 c]=some ls:=by
 have d:∀ k x,(Lit.int .i64 x).wf=true->Tryz.prog.keyLits (k+1) 3 [.int .i64 x]=some [.int .i64 x]:=by
  intro k x hx;unfold Program.keyLits;rw [Tryz.underlying3];simp [hx]
 have i:∀ k,Tryz.prog.keyLits (k+1) 81 [.int .u64 0]=some [.int .u64 0]:=by
  intro k;unfold Program.keyLits;rw [Tryz.underlying81];simp;rfl
 have e:∀ k,Tryz.prog.keyLits (k+1) 9 [.string ByteArray.empty]=some [.string []]:=by
  intro k;unfold Program.keyLits;rw [Tryz.underlying9];rfl
 have h:Tryz.prog.keyLits (m+3) 141 [.int .i64 a,.int .i64 b,.int .u64 0,.string ByteArray.empty]=some [.int .i64 a,.int .i64 b,.int .u64 0,.string []]:=by
  unfold Program.keyLits;rw [Tryz.underlying141];simp [vR,vV,BR,Bz,d (m+1) a g,d (m+1) b hb,i (m+1),e (m+1)]
 refine ⟨[.int .i64 a,.int .i64 b,.int .u64 0,.string [],.int .i64 c],?_⟩;unfold Program.keyLits;rw [Tryz.underlying194];simp [AJ,vR,vV,h,d (m+2) c f]
theorem Dq (b: -9223372036854775808<=z) (a:z<=9223372036854775807):(Lit.int .i64 z).wf=true:=by
 show (decide (IntKind.i64.min<=z)&&decide (z<=IntKind.i64.max))=true;rw [show IntKind.i64.min= -9223372036854775808 from rfl,show IntKind.i64.max=9223372036854775807 from rfl];simp [b,a]
theorem Dw {k:HV} (h:oW k):∃ l,keyOf Tryz.prog 194 (jR k)=some l:=by
 obtain ⟨m,hm⟩:=FE;obtain ⟨ls,a⟩:=Fe m (vk k) (vi k) (vr k) (by
  cases k with
  |none=>rfl
  |some x=>cases x<;>rfl) (by
  cases k with
  |none=>rfl
  |some x=>cases x with
   |inl z=>simp only [oW] at h;exact Dq h.1 h.2
   |inr n=>rfl) (by
  cases k with
  |none=>rfl
  |some x=>cases x with
   |inl z=>rfl
   |inr n=>simp only [oW] at h;exact Dq (by show (-9223372036854775808:Int)<=(n:Int);omega) (by show (n:Int)<=9223372036854775807;omega))
 refine ⟨.string (keyBytes ls),?_⟩;unfold keyOf;rw [Tryz.underlying194];simp only;rw [if_pos (by rw [Fp];simp [jR,Value.formed,Tryz.underlying194,AJ]),hm];show (Tryz.prog.keyLits (m+4) 194 [.int .i64 (vk k),.int .i64 (vi k),.int .u64 0,.string ByteArray.empty,.int .i64 (vr k)]).map _=_;rw [a];rfl
end
end Go.Proofs.YtbpcdfbmnklcjaaGreatDoor
namespace Go.Proofs.YtbpcdfbmnklcjaaGreatDoor
open Go Go.RowKit Go.WideMaps
open Go.ChangeMaps (setBlock)
set_option linter.unusedVariables false
section
variable {e:En} {es:List En} {i:Nat} {v:Value} {w:World}
theorem lT {a b:HV} (h:jR a=jR b):a=b:=by
 unfold jR at h;simp only [Value.agg.injEq,Array.mk.injEq,List.cons.injEq,Value.int.injEq,true_and,and_true] at h;cases a with
 |none=>cases b with
  |none=>rfl
  |some y=>cases y<;>simp [vk] at h
 |some x=>cases x with
  |inl z=>cases b with
   |none=>simp [vk] at h
   |some y=>cases y with
    |inl z'=>simp [vi] at h;rw [h.2.1]
    |inr m=>simp [vk] at h
  |inr n=>cases b with
   |none=>simp [vk] at h
   |some y=>cases y with
    |inl z'=>simp [vk] at h
    |inr m=>
     have c:(n:Int)=(m:Int):=h.2.2;rw [show n=m by omega]
theorem M_.keys {ents:List MapEntry} (c:M_ ents es):∀ m∈ents,∃ l,keyOf Tryz.prog 194 m.key=some l:=by
 intro m hm;obtain ⟨i,e,b,_,a,_⟩:=c.tt m hm;rw [a];exact Dw (c.kk e (aX b))
theorem M_.find {ents:List MapEntry} {es:List En} (c:M_ ents es) (w:World) {k:HV} (hk:oW k):
 ((Instr.findKey 194 (jR k) ents).run Tryz.prog w=.ok none w/\∀ e∈es,e.1=k->k=none)∨∃ j m i e,(Instr.findKey 194 (jR k) ents).run Tryz.prog w=.ok (some (j,m.val)) w/\ents[j]?=some m/\m.key=jR k/\m.val=.int .i64 (i:Nat)/\es[i]?=some e/\e.1=k/\k.isSome=true:=by
 obtain ⟨l,h⟩:=Dw hk;rcases qV.find w h ents c.keys with ⟨f,b⟩|⟨j,m,f,b,g⟩
 ·refine .inl ⟨f,fun e he a=>?_⟩
  cases hs:k with
  |none=>rfl
  |some x=>
   obtain ⟨i,hi,rfl⟩:=List.getElem_of_mem he;obtain ⟨m,hm,d⟩:=c.Mv i _ (aN hi) (by rw [a,hs];rfl);exact absurd (d.trans (by rw [a])) (b m hm)
 ·obtain ⟨i,e,q,p,o,n⟩:=c.tt m (aX b)
  have a:e.1=k:=lT (o.symm.trans g);exact .inr ⟨j,m,i,e,f,b,g,n,q,a,by rw [<-a];exact p⟩
theorem Kd.LJ (h:Kd es) (i:Nat) (v:HV):Kd (es.set i (none,v)):=by
 intro a b x y hx c d f;rw [gD] at hx c;split at hx
 ·split at hx
  ·simp at hx;subst hx;simp at d
  ·cases hx
 ·split at c
  ·split at c
   ·simp at c;subst c;rw [f] at d;simp at d
   ·cases c
  ·exact h a b x y hx c d f
theorem eD (w:World) (b:Nat) (o:Obj):Keeps w (setBlock w b o) (fun c=>c=b):=by
 refine ⟨rfl,rfl,rfl,by simp [setBlock],fun c hc hn=>?_⟩;simp only [setBlock];rw [Array.getElem?_setIfInBounds,if_neg (fun e=>hn e.symm)]
theorem fT {b:Nat} {o o':Obj} (h:w.heap[b]?=some o'):(setBlock w b o).heap[b]?=some o:=by
 simp only [setBlock];have a:b<w.heap.size:=by
  rcases Nat.lt_or_ge b w.heap.size with c|c
  ·exact c
  ·rw [Array.getElem?_eq_none c] at h;cases h
 simp [a]
theorem El (h:ni w v es) (hi:es[i]?=some e) (P:TypeId):∃ w1,(Builtin.delete_ #[132,194] P #[v,jR e.1]).run Tryz.prog w=.ok (.tuple #[]) w1/\ni w1 v (es.set i (none,e.2))/\Keeps w w1 (fun b=>dx v=some b)/\w1.heap.size=w.heap.size:=by
 have z:=(aJ.1 hi).1;rcases h with ⟨rfl,G⟩|⟨b,a,n,rfl,hb,f⟩
 ·rw [G] at z;simp at z
 ·have hk:=f.kk e (aX hi)
  obtain ⟨l,S⟩:=Dw hk;have A:=qV.check w a.isEmpty S;rcases f.find w hk with ⟨J,r⟩|⟨j,m,C,V,J,r,M,Z,U,L,T⟩
  ·refine ⟨setBlock w b (.map a n),?_,?_,(eD w b _).mono (fun c e=>by rw [e];rfl),by simp [setBlock]⟩
   ·simp [Builtin.delete_,run_underlying Tryz.underlying132,MapKept.run_getObj_map hb,A,J,MapKept.run_setObj_map _ hb,Result.andThen,setBlock]
   ·have H:e.1=none:=r e (aX hi) rfl
    have:es.set i (none,e.2)=es:=by
     refine List.ext_getElem? (fun q=>?_);rw [gD];split
     ·rename_i c;subst c;rw [hi,<-H]
     ·rfl
    rw [this];exact .inr ⟨b,a,n,rfl,fT hb,f⟩
  ·have F:C=i:=f.kd C i V e U hi (by rw [L];exact T) L
   subst F;have o:=(aJ.1 r).1;refine ⟨setBlock w b (.map (a.eraseIdxIfInBounds j) n),?_,.inr ⟨b,_,n,rfl,fT hb,?_⟩,(eD w b _).mono (fun c e=>by rw [e];rfl),by simp [setBlock]⟩
   ·simp [Builtin.delete_,run_underlying Tryz.underlying132,MapKept.run_getObj_map hb,A,J,MapKept.run_setObj_map _ hb,Result.andThen,setBlock]
   ·have D:(a.eraseIdxIfInBounds j).toList=a.toList.eraseIdx j:=by
     have y:j<a.size:=by simpa using o
     rw [Array.eraseIdxIfInBounds,dif_pos y,Array.toList_eraseIdx]
    rw [D];have p:∀ q g,q≠j->a.toList[q]?=some g->g.key≠m.key:=by
     intro q g d k x;have s:=(aJ.1 k).1;have e1:a.toList[q]=g:=(aJ.1 k).2;have B:a.toList[j]=m:=(aJ.1 r).2;have hp:=List.pairwise_iff_getElem.1 f.nd;rcases Nat.lt_or_ge q j with c|c
     ·exact hp q j s o c (by rw [e1,B];exact x)
     ·exact hp j q o s (by omega) (by rw [e1,B];exact x.symm)
    refine ⟨fun g k=>?_,fun q e9 d hs=>?_,f.nd.sublist (List.eraseIdx_sublist _ _),fun e9 he9=>?_,f.kd.LJ _ _⟩
    ·obtain ⟨q,E,t⟩:=List.mem_eraseIdx_iff_getElem?.1 k
     obtain ⟨R,B,K,Y,N,X⟩:=f.tt g (aX t);refine ⟨R,B,?_,Y,N,X⟩;rw [gD,if_neg ?_]
     ·exact K
     ·intro c
      subst c;rw [hi] at K;cases K;exact p q g E t (N.trans M.symm)
    ·rw [gD] at d
     split at d
     ·simp at d;subst d;simp at hs
     ·rename_i c
      obtain ⟨g,b1,b2⟩:=f.Mv q e9 d hs;refine ⟨g,?_,b2⟩;obtain ⟨Q,u,rfl⟩:=List.getElem_of_mem b1;refine List.mem_eraseIdx_iff_getElem?.2 ⟨Q,?_,aN u⟩;intro W;subst W;rw [aN u] at r;cases r;have:=lT (b2.symm.trans M);exact c (f.kd q C e9 e d hi hs this).symm
    ·rw [List.mem_iff_getElem?] at he9
     obtain ⟨q,d⟩:=he9;rw [gD] at d;split at d
     ·simp at d;subst d;trivial
     ·exact f.kk e9 (aX d)
end
end Go.Proofs.YtbpcdfbmnklcjaaGreatDoor
namespace Go.Proofs.YtbpcdfbmnklcjaaGreatDoor
open Go Go.RowKit
set_option linter.unusedVariables false
section
variable {G:Gh} {S:Nat->Prop} {base n:Nat} {h h':Hp} {o:Ob} {w w1:World}
def PM.M8 (L:PM) (n:Nat) (ev mv:Value):PM:={ L with es:=fun m=>if m=n then ev else L.es m,mp:=fun m=>if m=n then mv else L.mp m }
theorem PM.Ke (L:PM) (n:Nat):L.M8 n (L.es n) (L.mp n)=L:=by
 obtain ⟨H,tb,es,mp,li⟩:=L;unfold PM.M8;simp only [PM.mk.injEq,true_and,and_true];refine ⟨funext fun m=>?_,funext fun m=>?_⟩
 ·split
  ·rename_i c;rw [c]
  ·rfl
 ·split
  ·rename_i c;rw [c]
  ·rfl
theorem M0.K_ {L:PM} (a:M0 base S h G L w) (f:Ob->Ob) (ho:h.ob n=some o) (ev mv:Value)
 (kk:Keeps w w1 (fun b=>b=L.H∨b=L.tb n∨(L.es n).ownBlock=some b∨dx (L.mp n)=some b))
 (R:aD w1 77 L.H 19 (kK h' G L)) (E:∀ m,h'.ob m=(h.upd n f).ob m) (F:∀ k,eF k->eU h' G k=eU h G k)
 (Y:aD w1 136 (L.tb n) 13 (nM (f o) n ev mv)) (X:w1.ownsRow base 167 10 ev (f o).es.length (jg L.tb (f o).es)) (W:ni w1 mv (f o).es)
 (J:∀ g,ev.ownBlock=some g->(L.es n).ownBlock=some g∨w.heap.size<=g) (hm:∀ g,dx mv=some g->dx (L.mp n)=some g∨w.heap.size<=g):
 M0 base S h' G (L.M8 n ev mv) w1/\Keeps w w1 S:=by
 have hr:=a.ob n o ho;have M:=a.en n o ho;have K:=a.mp n o ho;have l:∀ m i,h'.ob m=some i->∃ o2,h.ob m=some o2/\(m=n->o2=o/\i=f o)/\(m≠n->i=o2):=by
  intro m i e;rw [E,Hp.Ho] at e;split at e
  ·rename_i c
   subst c;rw [ho] at e;simp at e;subst e;exact ⟨o,ho,fun _=>⟨rfl,rfl⟩,fun c=>absurd rfl c⟩
  ·rename_i c
   exact ⟨i,e,fun d=>absurd d.symm c,fun _=>rfl⟩
 have V:∀ {T g N:Nat} {f:Nat->Value},aD w T g N f->T≠77->T≠136->T≠167->¬ (g=L.H∨g=L.tb n∨(L.es n).ownBlock=some g∨dx (L.mp n)=some g):=by
  intro T g N f q1 Q s P v;rcases v with v|v|v|v
  ·exact q1.apart a.hp Q v
  ·exact q1.apart hr s v
  ·exact ak M q1 (Ne.symm P) v
  ·exact K.apart q1 v
 have U:∀ b,(b=L.H∨b=L.tb n∨(L.es n).ownBlock=some b∨dx (L.mp n)=some b)->S b:=by
  intro b e;rcases e with e|e|e|e
  ·exact e ▸ a.sH
  ·exact e ▸ a.st n o ho
  ·exact a.se n o b ho e
  ·exact a.sm n o b ho e
 have A:∀ m i,h.ob m=some i->∀ g,(L.es m).ownBlock=some g->g<w.heap.size:=fun m i e g hg=>(ay (a.en m i e) hg).lt;have z:∀ m i,h.ob m=some i->∀ g,dx (L.mp m)=some g->g<w.heap.size:=fun m i e g hg=>(a.mp m i e).lt hg;have D:∀ b,w1.heap.size<=b->S b:=fun b hb=>a.up b (aI kk.size hb);refine ⟨⟨R,fun m i e=>?_,fun m i e=>?_,fun m i e=>?_,fun j hj=>?_,?_,?_,?_,a.lj,a.bH,?_,?_,aI a.bs kk.size,a.sH,?_,?_,?_,a.sl,D⟩,kk.mono U⟩
 ·obtain ⟨o2,p,C,B⟩:=l m i e
  by_cases c:m=n
  ·subst c
   obtain ⟨rfl,rfl⟩:=C rfl;show aD w1 _ (L.tb m) 13 (nM (f o2) m (if m=m then ev else _) (if m=m then mv else _));rw [if_pos rfl,if_pos rfl];exact Y
  ·obtain rfl:=B c
   show aD w1 _ (L.tb m) 13 (nM i m (if m=n then ev else L.es m) (if m=n then mv else L.mp m));rw [if_neg c,if_neg c];refine (a.ob m i p).keep kk (fun y=>?_);rcases y with y|y|y|y
   ·exact (a.ob m i p).apart a.hp (by decide) y
   ·exact c (a.ij m n _ _ p ho y)
   ·exact ak M (a.ob m i p) (by decide) y
   ·exact K.apart (a.ob m i p) y
 ·obtain ⟨o2,p,C,B⟩:=l m i e
  by_cases c:m=n
  ·subst c
   obtain ⟨rfl,rfl⟩:=C rfl;show w1.ownsRow base _ 10 (if m=m then ev else _) _ _;rw [if_pos rfl];exact X
  ·obtain rfl:=B c
   show w1.ownsRow base _ 10 (if m=n then ev else L.es m) _ _;rw [if_neg c];refine aj (a.en m i p) kk (fun g hg y=>?_);rcases y with y|y|y|y
   ·exact ak (a.en m i p) a.hp (by decide) (y ▸ hg)
   ·exact ak (a.en m i p) hr (by decide) (y ▸ hg)
   ·exact c (a.ei m n _ _ g p ho hg y)
   ·exact K.apart (ay (a.en m i p) hg) y
 ·obtain ⟨o2,p,C,B⟩:=l m i e
  by_cases c:m=n
  ·subst c
   obtain ⟨rfl,rfl⟩:=C rfl;show ni w1 (if m=m then mv else _) _;rw [if_pos rfl];exact W
  ·obtain rfl:=B c
   show ni w1 (if m=n then mv else L.mp m) _;rw [if_neg c];refine (a.mp m i p).keep kk (fun g hg y=>?_);rcases y with y|y|y|y
   ·exact (a.mp m i p).apart a.hp (y ▸ hg)
   ·exact (a.mp m i p).apart hr (y ▸ hg)
   ·exact (a.mp m i p).apart (ay M y) hg
   ·exact c (a.mi m n _ _ g p ho hg y)
 ·rw [F j hj];exact aj (a.li j hj) kk (fun g hg=>V (ay (a.li j hj) hg) (iH hj).1 (iH hj).2.1 (iH hj).2.2)
 ·intro m r o1 o2 e1 p
  obtain ⟨p1,q1,_⟩:=l m o1 e1;obtain ⟨x,s,_⟩:=l r o2 p;exact a.ij m r p1 x q1 s
 ·intro m r o1 o2 g e1 p x1 q
  obtain ⟨p1,q1,_⟩:=l m o1 e1;obtain ⟨x,s,_⟩:=l r o2 p;simp only [PM.M8] at x1 q;by_cases u:m=n<;>by_cases t:r=n
  ·rw [u,t]
  ·rw [if_pos u] at x1;rw [if_neg t] at q
   rcases J g x1 with y|y
   ·rw [u];exact a.ei n r o x g ho s y q
   ·have:=A r x s g q;omega
  ·rw [if_neg u] at x1;rw [if_pos t] at q
   rcases J g q with y|y
   ·rw [t];exact a.ei m n p1 o g q1 ho x1 y
   ·have:=A m p1 q1 g x1;omega
  ·rw [if_neg u] at x1;rw [if_neg t] at q
   exact a.ei m r p1 x g q1 s x1 q
 ·intro m r o1 o2 g e1 p x1 q
  obtain ⟨p1,q1,_⟩:=l m o1 e1;obtain ⟨x,s,_⟩:=l r o2 p;simp only [PM.M8] at x1 q;by_cases u:m=n<;>by_cases t:r=n
  ·rw [u,t]
  ·rw [if_pos u] at x1;rw [if_neg t] at q
   rcases hm g x1 with y|y
   ·rw [u];exact a.mi n r o x g ho s y q
   ·have:=z r x s g q;omega
  ·rw [if_neg u] at x1;rw [if_pos t] at q
   rcases hm g q with y|y
   ·rw [t];exact a.mi m n p1 o g q1 ho x1 y
   ·have:=z m p1 q1 g x1;omega
  ·rw [if_neg u] at x1;rw [if_neg t] at q
   exact a.mi m r p1 x g q1 s x1 q
 ·intro m o1 e1
  obtain ⟨p1,q1,_⟩:=l m o1 e1;exact a.bt m p1 q1
 ·intro m o1 g e1 x1
  obtain ⟨p1,q1,_⟩:=l m o1 e1;simp only [PM.M8] at x1;split at x1
  ·rcases hm g x1 with y|y
   ·exact a.bm n o g ho y
   ·exact aI a.bs y
  ·exact a.bm m p1 g q1 x1
 ·intro m o1 e1
  obtain ⟨p1,q1,_⟩:=l m o1 e1;exact a.st m p1 q1
 ·intro m o1 g e1 x1
  obtain ⟨p1,q1,_⟩:=l m o1 e1;simp only [PM.M8] at x1;split at x1
  ·rcases J g x1 with y|y
   ·exact a.se n o g ho y
   ·exact a.up g y
  ·exact a.se m p1 g q1 x1
 ·intro m o1 g e1 x1
  obtain ⟨p1,q1,_⟩:=l m o1 e1;simp only [PM.M8] at x1;split at x1
  ·rcases hm g x1 with y|y
   ·exact a.sm n o g ho y
   ·exact a.up g y
  ·exact a.sm m p1 g q1 x1
theorem M0.LD {L:PM} (a:M0 base S h G L w) (f:Ob->Ob) (ho:h.ob n=some o) (ev mv:Value)
 (kk:Keeps w w1 (fun b=>b=L.tb n∨(L.es n).ownBlock=some b∨dx (L.mp n)=some b))
 (l:aD w1 136 (L.tb n) 13 (nM (f o) n ev mv)) (j:w1.ownsRow base 167 10 ev (f o).es.length (jg L.tb (f o).es)) (d:ni w1 mv (f o).es)
 (c:∀ g,ev.ownBlock=some g->(L.es n).ownBlock=some g∨w.heap.size<=g) (hm:∀ g,dx mv=some g->dx (L.mp n)=some g∨w.heap.size<=g):
 M0 base S (h.upd n f) G (L.M8 n ev mv) w1/\Keeps w w1 S:=by
 refine a.K_ f ho ev mv (kk.mono fun b e=>.inr e) ((a.hp.keep kk (fun q=>?_)).congr (fun i _=>?_)) (fun _=>rfl) (fun k hk=>rfl) l j d c hm
 ·rcases q with q|q|q
  ·exact a.hp.apart (a.ob n o ho) (by decide) q
  ·exact ak (a.en n o ho) a.hp (by decide) q
  ·exact (a.mp n o ho).apart a.hp q
 ·unfold kK
  rw [h.Hz n f];rfl
end
section
variable {G:Gh} {L:PM} {S:Nat->Prop} {base cap i j n:Nat} {e:En} {es:List En} {h:Hp} {o:Ob} {v:Value} {w w0:World}
theorem bK {α:Type} (f:α->List Value) (l r:List α) (X:List Value) (j a:Nat) (c:Value) (b:(l.flatMap f).length=j*10) (d:a<X.length):(l.flatMap f++(X++r.flatMap f)).set (j*10+a) c=l.flatMap f++(X.set a c++r.flatMap f):=by
 rw [List.set_append_right _ _ (by omega),b,Nat.add_sub_cancel_left,List.set_append_left _ _ d]
theorem kS {α:Type} (f:α->List Value) {es:List α} {e:α} (h:es[j]?=some e) (b:α):es.flatMap f=(es.take j).flatMap f++(f e++(es.drop (j+1)).flatMap f)/\(es.set j b).flatMap f=(es.take j).flatMap f++(f b++(es.drop (j+1)).flatMap f):=by
 have a:=(aJ.1 h).1;have c:=(aJ.1 h).2;constructor
 ·conv=>lhs;rw [<-List.take_append_drop j es,List.drop_eq_getElem_cons a,c]
  rw [List.flatMap_append,List.flatMap_cons]
 ·rw [List.set_eq_take_append_cons_drop,if_pos a,List.flatMap_append,List.flatMap_cons]
theorem qQ (tb:Nat->Nat) (es:List En) (a:j<es.length):((es.take j).flatMap (jG tb)).length=j*10:=by
 rw [show (es.take j).flatMap (jG tb)=jg tb (es.take j) from rfl,qD,bf,Nat.min_eq_left (by omega)]
theorem yZ (tb:Nat->Nat) (v:HV) (h:es[j]?=some e):(((((jg tb es).set (j*10+5) (.int .i64 (vk v))).set (j*10+6) (.int .i64 (vi v))).set (j*10+7) (.int .u64 0)).set (j*10+8) (.string ByteArray.empty)).set (j*10+9) (aK tb v)=jg tb (es.set j (e.1,v)):=by
 obtain ⟨c,b⟩:=kS (jG tb) h (e.1,v);have a:=qQ tb es (aJ.1 h).1;unfold jg;rw [c,b,bK _ _ _ _ _ _ _ a (by simp [jG,kE]),bK _ _ _ _ _ _ _ a (by simp [jG,kE]),bK _ _ _ _ _ _ _ a (by simp [jG,kE]),bK _ _ _ _ _ _ _ a (by simp [jG,kE]),bK _ _ _ _ _ _ _ a (by simp [jG,kE])];rfl
theorem rR (tb:Nat->Nat) (h:es[j]?=some e):(((((jg tb es).set (j*10) (.int .i64 0)).set (j*10+1) (.int .i64 0)).set (j*10+2) (.int .u64 0)).set (j*10+3) (.string ByteArray.empty)).set (j*10+4) .nilIface=jg tb (es.set j (none,e.2)):=by
 obtain ⟨c,b⟩:=kS (jG tb) h (none,e.2);have a:=qQ tb es (aJ.1 h).1;unfold jg;rw [c,b,show j*10=j*10+0 from rfl,bK _ _ _ _ _ _ _ a (by simp [jG,kE]),show j*10+0+1=j*10+1 from rfl,show j*10+0+2=j*10+2 from rfl,show j*10+0+3=j*10+3 from rfl,show j*10+0+4=j*10+4 from rfl,bK _ _ _ _ _ _ _ a (by simp [jG,kE]),bK _ _ _ _ _ _ _ a (by simp [jG,kE]),bK _ _ _ _ _ _ _ a (by simp [jG,kE]),bK _ _ _ _ _ _ _ a (by simp [jG,kE])];rfl
theorem eZ (h:es[i]?=some e) (a:En):aZ (es.set i a)+(if e.2.isNone then 1 else 0)=aZ es+(if a.2.isNone then 1 else 0):=by
 have b:=(aJ.1 h).1;have c:=(aJ.1 h).2;have f:es=es.take i++e::es.drop (i+1):=by conv=>lhs;rw [<-List.take_append_drop i es,List.drop_eq_getElem_cons b,c]
 have d:es.set i a=es.take i++a::es.drop (i+1):=by rw [List.set_eq_take_append_cons_drop,if_pos b]
 unfold aZ;rw [d]
 conv=>rhs;rw [f]
 rw [List.filter_append,List.filter_append,List.filter_cons,List.filter_cons];cases e.2.isNone<;>cases a.2.isNone<;>simp<;>omega
theorem ni.val (h:ni w v es) (hi:es[i]?=some e) (x:HV):ni w v (es.set i (e.1,x)):=by
 have g:=(aJ.1 hi).1;rcases h with ⟨rfl,y⟩|⟨b,l,z,rfl,hb,k⟩
 ·rw [y] at g;simp at g
 ·have r:∀ (q:Nat) (d:En),(es.set i (e.1,x))[q]?=some d->∃ f:En,es[q]?=some f/\f.1=d.1:=by
   intro q d a;rw [gD] at a;split at a
   ·rename_i c;subst c;simp at a;subst a;exact ⟨e,hi,rfl⟩
   ·exact ⟨d,a,rfl⟩
  have u:∀ (q:Nat) (d:En),es[q]?=some d->∃ f:En,(es.set i (e.1,x))[q]?=some f/\f.1=d.1:=by
   intro q d a;rw [gD];split
   ·rename_i c;subst c;rw [hi] at a;cases a;exact ⟨_,rfl,rfl⟩
   ·exact ⟨d,a,rfl⟩
  refine .inr ⟨b,l,z,rfl,hb,fun m hm=>?_,fun q d a t=>?_,k.nd,fun d he9=>?_,?_⟩
  ·obtain ⟨C,J,P,N,M,K⟩:=k.tt m hm
   obtain ⟨f,b1,b2⟩:=u C J P;exact ⟨C,f,b1,by rw [b2];exact N,by rw [b2];exact M,K⟩
  ·obtain ⟨f,b1,b2⟩:=r q d a
   obtain ⟨m,B,A⟩:=k.Mv q f b1 (by rw [b2];exact t);exact ⟨m,B,by rw [A,b2]⟩
  ·obtain ⟨q,a⟩:=List.mem_iff_getElem?.1 he9
   obtain ⟨f,b1,b2⟩:=r q d a;rw [<-b2];exact k.kk f (aX b1)
  ·intro p q x1 E hx H t s
   obtain ⟨F,b1,b2⟩:=r p x1 hx;obtain ⟨D,B,A⟩:=r q E H;exact k.kd p q F D b1 B (by rw [b2];exact t) (by rw [b2,A,s])
theorem M0.KZ (a:M0 base S h G L w) (ho:h.ob n=some o) {g:Nat} (hi:o.es[i]?=some e) (v:HV) (d:L.es n=.slice (some ⟨g,0,none⟩) o.es.length cap)
 (k0:Keeps w w0 (fun b=>b=L.tb n)) (y:aD w0 136 (L.tb n) 13 (fun k=>if k=9 then .int .i64 (aZ (o.es.set i (e.1,v)):Nat) else nM o n (L.es n) (L.mp n) k)):
 M0 base S (h.ents n (o.es.set i (e.1,v))) G L (((((w0.setCell ⟨g,i*10+5,none⟩ (.int .i64 (vk v))).setCell ⟨g,i*10+6,none⟩ (.int .i64 (vi v))).setCell ⟨g,i*10+7,none⟩ (.int .u64 0)).setCell ⟨g,i*10+8,none⟩ (.string ByteArray.empty)).setCell ⟨g,i*10+9,none⟩ (aK L.tb v))/\
 Keeps w (((((w0.setCell ⟨g,i*10+5,none⟩ (.int .i64 (vk v))).setCell ⟨g,i*10+6,none⟩ (.int .i64 (vi v))).setCell ⟨g,i*10+7,none⟩ (.int .u64 0)).setCell ⟨g,i*10+8,none⟩ (.string ByteArray.empty)).setCell ⟨g,i*10+9,none⟩ (aK L.tb v)) S:=by
 have u:=(aJ.1 hi).1;have s:=a.en n o ho;have f:=ay s (g:=g) (by rw [d];simp [Value.ownBlock]);have l:g≠L.tb n:=fun c=>f.apart (a.ob n o ho) (by decide) c;have m:=aj s k0 (fun b hb c=>by
  rw [d] at hb;simp [Value.ownBlock] at hb;exact l (hb.trans c))
 rw [d] at m;have t:=aL (aL (aL (aL (aL m (show i*10+5<o.es.length*10 by omega) (.int .i64 (vk v))) (show i*10+6<o.es.length*10 by omega) (.int .i64 (vi v))) (show i*10+7<o.es.length*10 by omega) (.int .u64 0)) (show i*10+8<o.es.length*10 by omega) (.string ByteArray.empty)) (show i*10+9<o.es.length*10 by omega) (aK L.tb v);rw [yZ L.tb v hi] at t;have p:Keeps w0 (((((w0.setCell ⟨g,i*10+5,none⟩ (.int .i64 (vk v))).setCell ⟨g,i*10+6,none⟩ (.int .i64 (vi v))).setCell ⟨g,i*10+7,none⟩ (.int .u64 0)).setCell ⟨g,i*10+8,none⟩ (.string ByteArray.empty)).setCell ⟨g,i*10+9,none⟩ (aK L.tb v)) (fun b=>b=g):=
  Keeps.setCell (S:=fun b=>b=g) (Keeps.setCell (S:=fun b=>b=g) (Keeps.setCell (S:=fun b=>b=g) (Keeps.setCell (S:=fun b=>b=g) (Keeps.setCell (S:=fun b=>b=g) (Keeps.refl w0 (fun b=>b=g)) rfl (.int .i64 (vk v))) rfl (.int .i64 (vi v))) rfl (.int .u64 0)) rfl (.string ByteArray.empty)) rfl (aK L.tb v)
 have x:=((a.mp n o ho).keep (k0.trans (w':=w0) (Keeps.refl w0 _)) (fun b hb c=>(a.mp n o ho).apart (a.ob n o ho) (c ▸ hb)))
 have r:=x.keep p (fun b hb c=>(a.mp n o ho).apart f (c ▸ hb));generalize (((((w0.setCell ⟨g,i*10+5,none⟩ (.int .i64 (vk v))).setCell ⟨g,i*10+6,none⟩ (.int .i64 (vi v))).setCell ⟨g,i*10+7,none⟩ (.int .u64 0)).setCell ⟨g,i*10+8,none⟩ (.string ByteArray.empty)).setCell ⟨g,i*10+9,none⟩ (aK L.tb v))=w1 at *;have q:Keeps w w1 (fun b=>b=L.tb n∨(L.es n).ownBlock=some b∨dx (L.mp n)=some b):=(k0.mono (fun b c=>.inl c)).trans (p.mono (fun b c=>.inr (.inl (by rw [d,c];simp [Value.ownBlock]))));have:=a.LD (w1:=w1) (fun o'=>{ o' with es:=o.es.set i (e.1,v) }) ho (L.es n) (L.mp n) q ((y.keep p (fun c=>l c.symm)).congr (fun k hk=>?_)) (by rw [d,bX];exact t) (r.val hi v) (fun b hb=>.inl hb) (fun b hb=>.inl hb)
 ·rw [PM.Ke] at this
  exact this
 ·refine dz (fun k=>(if k=9 then _ else nM o n (L.es n) (L.mp n) k)=nM { o with es:=o.es.set i (e.1,v) } n (L.es n) (L.mp n) k) rfl rfl ?_ rfl rfl rfl rfl rfl rfl rfl rfl rfl rfl k hk
  simp [nM]
theorem M0.tkey (a:M0 base S h G L w) (ho:h.ob n=some o) {g:Nat} (hi:o.es[i]?=some e) (l:L.es n=.slice (some ⟨g,0,none⟩) o.es.length cap)
 (k0:Keeps w w0 (fun b=>dx (L.mp n)=some b)) (y:ni w0 (L.mp n) (o.es.set i (none,e.2))):
 M0 base S (h.ents n (o.es.set i (none,e.2))) G L (((((w0.setCell ⟨g,i*10,none⟩ (.int .i64 0)).setCell ⟨g,i*10+1,none⟩ (.int .i64 0)).setCell ⟨g,i*10+2,none⟩ (.int .u64 0)).setCell ⟨g,i*10+3,none⟩ (.string ByteArray.empty)).setCell ⟨g,i*10+4,none⟩ .nilIface)/\
 Keeps w (((((w0.setCell ⟨g,i*10,none⟩ (.int .i64 0)).setCell ⟨g,i*10+1,none⟩ (.int .i64 0)).setCell ⟨g,i*10+2,none⟩ (.int .u64 0)).setCell ⟨g,i*10+3,none⟩ (.string ByteArray.empty)).setCell ⟨g,i*10+4,none⟩ .nilIface) S:=by
 have u:=(aJ.1 hi).1;have s:=a.en n o ho;have d:=ay s (g:=g) (by rw [l];simp [Value.ownBlock]);have p:g≠L.tb n:=fun c=>d.apart (a.ob n o ho) (by decide) c;have f:=aj s k0 (fun b hb c=>(a.mp n o ho).apart (ay s hb) c);rw [l] at f;have t:=aL (aL (aL (aL (aL f (show i*10<o.es.length*10 by omega) (.int .i64 0)) (show i*10+1<o.es.length*10 by omega) (.int .i64 0)) (show i*10+2<o.es.length*10 by omega) (.int .u64 0)) (show i*10+3<o.es.length*10 by omega) (.string ByteArray.empty)) (show i*10+4<o.es.length*10 by omega) .nilIface;rw [rR L.tb hi] at t;have m:Keeps w0 (((((w0.setCell ⟨g,i*10,none⟩ (.int .i64 0)).setCell ⟨g,i*10+1,none⟩ (.int .i64 0)).setCell ⟨g,i*10+2,none⟩ (.int .u64 0)).setCell ⟨g,i*10+3,none⟩ (.string ByteArray.empty)).setCell ⟨g,i*10+4,none⟩ .nilIface) (fun b=>b=g):=
  Keeps.setCell (S:=fun b=>b=g) (Keeps.setCell (S:=fun b=>b=g) (Keeps.setCell (S:=fun b=>b=g) (Keeps.setCell (S:=fun b=>b=g) (Keeps.setCell (S:=fun b=>b=g) (Keeps.refl w0 (fun b=>b=g)) rfl (.int .i64 0)) rfl (.int .i64 0)) rfl (.int .u64 0)) rfl (.string ByteArray.empty)) rfl .nilIface
 have r:=y.keep m (fun b hb c=>(a.mp n o ho).apart d (c ▸ hb));have x:=((a.ob n o ho).keep k0 (fun c=>(a.mp n o ho).apart (a.ob n o ho) c)).keep m (fun c=>p c.symm);generalize (((((w0.setCell ⟨g,i*10,none⟩ (.int .i64 0)).setCell ⟨g,i*10+1,none⟩ (.int .i64 0)).setCell ⟨g,i*10+2,none⟩ (.int .u64 0)).setCell ⟨g,i*10+3,none⟩ (.string ByteArray.empty)).setCell ⟨g,i*10+4,none⟩ .nilIface)=w1 at *;have q:Keeps w w1 (fun b=>b=L.tb n∨(L.es n).ownBlock=some b∨dx (L.mp n)=some b):=(k0.mono (fun b c=>.inr (.inr c))).trans (m.mono (fun b c=>.inr (.inl (by rw [l,c];simp [Value.ownBlock]))));have:=a.LD (w1:=w1) (fun o'=>{ o' with es:=o.es.set i (none,e.2) }) ho (L.es n) (L.mp n) q (x.congr (fun k hk=>?_)) (by rw [l,bX];exact t) r (fun b hb=>.inl hb) (fun b hb=>.inl hb)
 ·rw [PM.Ke] at this
  exact this
 ·have hb:aZ (o.es.set i (none,e.2))=aZ o.es:=by
   have:=eZ hi (none,e.2);simp only at this;omega
  refine dz (fun k=>nM o n (L.es n) (L.mp n) k=nM { o with es:=o.es.set i (none,e.2) } n (L.es n) (L.mp n) k) rfl rfl ?_ rfl rfl rfl rfl rfl rfl ?_ rfl rfl rfl k hk
  ·simp [nM]
  ·simp [nM,hb]
end
set_option maxHeartbeats 6400000
set_option maxRecDepth 100000
attribute [local go_sem] bW
theorem gI (w:World) (x lo hi:Int):Calls Tryz.prog 67 #[.int .i64 x,.int .i64 lo,.int .i64 hi] w fun e w'=>e=.returned (.bool (decide (lo<=x)&&decide (x<=hi)))/\w'=w:=by
 by_cases c:lo<=x
 ·have a:decide (lo<=x)=true:=by simp [c]
  go_enter Tryz.func67,Tryz.ntmps67;go_wp2;go_ret;exact ⟨by simp [c],rfl⟩
 ·have a:decide (lo<=x)=false:=by simp;omega
  go_enter Tryz.func67,Tryz.ntmps67;go_wp2;go_ret;exact ⟨by simp,rfl⟩
theorem pO (w:World) (t:Nat) (k:Int) (g:w.cell? ⟨t,10,none⟩=some (.int .i64 0)) (f:w.cell? ⟨t,11,none⟩=some (.int .i64 0)) (d:w.cell? ⟨t,12,none⟩=some (.int .i64 0)):Calls Tryz.prog 136 #[.pointer (some ⟨t,10,none⟩),.int .i64 k] w fun e w'=>e=.returned (.tuple #[])/\w'=w:=by
 have a:=ah (gI w k 1 0);rw [show (decide ((1:Int)<=k)&&decide (k<=0))=false by simp;omega] at a;by_cases c:(0:Int)<k
 ·have b:¬ k<=0:=by omega
  go_enter Tryz.func136,Tryz.ntmps136;go_wp2_with fail;refine a.o.mono ?_;rintro e1 w1 ⟨rfl,rfl⟩;go_wp2;go_end0;exact ⟨rfl,rfl⟩
 ·have b:¬ k > 0:=by omega
  go_enter Tryz.func136,Tryz.ntmps136;go_wp2_with fail;refine a.o.mono ?_;rintro e1 w1 ⟨rfl,rfl⟩;go_wp2;go_end0;exact ⟨rfl,rfl⟩
end Go.Proofs.YtbpcdfbmnklcjaaGreatDoor
