import Derived.Test.YtbpcdfbmnklcjaaGreatDoorKHUC
import Derived.Test.YtbpcdfbmnklcjaaGreatDoorKHYK
import Derived.DeepKeys4
import Derived.Maps.Keyed
namespace Go.Proofs.YtbpcdfbmnklcjaaGreatDoor
open Go Go.RowKit
set_option maxHeartbeats 6400000
set_option maxRecDepth 100000
set_option linter.unusedVariables false
section
variable {A C:Int} {R base hand:Nat} {S:Nat->Prop} {h:Hp} {root:List Bool} {rv:Value} {w w' w1 w2:World}
def bG (h:Hp) (hand:Nat) (kd A B C:Int):Prop:=
 (kd=2->fJ h hand A/\(C=0∨fJ h hand C))/\(kd=3->fJ h hand A/\fJ h hand B/\(C=0∨fJ h hand C))/\(kd=4->fJ h hand A)/\(kd=5->fJ h hand A)
theorem AQ (p:Prop):∃ b:Bool,b=true↔p:=by
 classical
 exact ⟨decide p,by simp⟩
theorem bG.two {B:Int}:bG h hand 2 A B C↔fJ h hand A/\(C=0∨fJ h hand C):=
 ⟨fun x=>x.1 rfl,fun x=>⟨fun _=>x,fun h=>absurd h (by decide),fun h=>absurd h (by decide),fun h=>absurd h (by decide)⟩⟩
theorem bG.three {B:Int}:bG h hand 3 A B C↔fJ h hand A/\fJ h hand B/\(C=0∨fJ h hand C):=
 ⟨fun x=>x.2.1 rfl,fun x=>⟨fun h=>absurd h (by decide),fun _=>x,fun h=>absurd h (by decide),fun h=>absurd h (by decide)⟩⟩
theorem bG.four {k B:Int} (hk:k=4∨k=5):bG h hand k A B C↔fJ h hand A:=by
 rcases hk with rfl|rfl
 ·exact ⟨fun x=>x.2.2.1 rfl,fun x=>⟨fun h=>absurd h (by decide),fun h=>absurd h (by decide),fun _=>x,fun h=>absurd h (by decide)⟩⟩
 ·exact ⟨fun x=>x.2.2.2 rfl,fun x=>⟨fun h=>absurd h (by decide),fun h=>absurd h (by decide),fun h=>absurd h (by decide),fun _=>x⟩⟩
theorem bG.rest {k B:Int} (d:k≠2) (c:k≠3) (b:k≠4) (a:k≠5):bG h hand k A B C:=⟨fun h=>absurd h d,fun h=>absurd h c,fun h=>absurd h b,fun h=>absurd h a⟩
theorem vZ (a:Below w.heap.size w w1) (b:Below w1.heap.size w1 w2):Below w.heap.size w w2:=a.trans (b.mono a.size)
structure Ni (base:Nat) (S:Nat->Prop) (h:Hp) (L:SM) (R hand:Nat) (rv:Value) (root:List Bool) (w:World):Prop where
 a:MV base S h L w
 r:aD w 61 R 3 (Es L.H rv hand)
 v:w.ownsRow base 4 1 rv root.length (iQ root)
 l:root.length=h.objs.length
 o:h.roots=dR 0 root
theorem Ni.low {base:Nat} {S:Nat->Prop} {h:Hp} {L:SM} {R hand:Nat} {rv:Value} {root:List Bool} {w w':World} (x:Ni base S h L R hand rv root w) (b:Below w.heap.size w w'):Ni base S h L R hand rv root w':=by
 have k:=Keeps.of b (au _) (fun _=>False);exact ⟨x.a.low b,x.r.keep k (fun y=>y),aj x.v k (fun _ _ y=>y),x.l,x.o⟩
theorem Ni.at {L:SM} (x:Ni base S h L R hand rv root w) (i:Inv h) (d:h.objs.length<=5001) (f:∀ n o,h.ob n=some o->o.es.length<=5000) (c:Int) (b:Bool) (hb:b=true↔fJ h hand c):
 Calls Tryz.prog 40 #[.pointer (some ⟨R,0,none⟩),.int .i64 c] w fun e w'=>e=.returned (.bool b)/\Below w.heap.size w w'/\Ni base S h L R hand rv root w':=by
 refine (vP x.a i d f x.r x.v x.l x.o c).mono ?_;rintro e w' ⟨⟨k,rfl,g⟩,j⟩;have:k=b:=by
  rw [Bool.eq_iff_iff,hb,g]
 subst this;exact ⟨rfl,j,x.low j⟩
theorem fO (wr:World) (kd A B C:Int):aD (wr.alloc (.cells #[.int .i64 kd,.int .i64 A,.int .i64 B,.int .i64 C] 39)) 39 wr.heap.size 4 (fun j=>[Value.int .i64 kd,.int .i64 A,.int .i64 B,.int .i64 C].getD j (.bool false)):=by
 have h:=aD.mk' wr 39 #[.int .i64 kd,.int .i64 A,.int .i64 B,.int .i64 C];refine aD.congr (show aD _ _ _ 4 _ from h) (fun j hj=>?_);have:j=0∨j=1∨j=2∨j=3:=by omega
 rcases this with rfl|rfl|rfl|rfl<;>rfl
def oP (h:Hp) (hand:Nat) (kd A B C:Int) (w:World) (e:Ending) (w':World):Prop:=(∃ b,e=.returned (.bool b)/\(b=true↔bG h hand kd A B C))/\Below w.heap.size w w'
theorem wI {k B:Int} {b:Bool} (hk:k=4∨k=5) (hb:b=true↔fJ h hand A) (a:Below w.heap.size w w'):oP h hand k A B C w (.returned (.bool b)) w':=⟨⟨b,rfl,by rw [hb,bG.four hk]⟩,a⟩
theorem yc {L:SM} (x:Ni base S h L R hand rv root w) (i:Inv h) (q:h.objs.length<=5001) (r:∀ n o,h.ob n=some o->o.es.length<=5000) (kd A B C:Int):
 Calls Tryz.prog 33 #[.pointer (some ⟨R,0,none⟩),.agg #[.int .i64 kd,.int .i64 A,.int .i64 B,.int .i64 C]] w (oP h hand kd A B C w):=by
 have z:=ah (fO w kd A B C);have d:=ah (aU w (.cells #[.int .i64 kd,.int .i64 A,.int .i64 B,.int .i64 C] 39));have HR:=ah (x.low d.o);obtain ⟨bA,hA⟩:∃ b:Bool,b=true↔fJ h hand A:=AQ _;obtain ⟨bB,Y⟩:∃ b:Bool,b=true↔fJ h hand B:=AQ _;obtain ⟨bC,W⟩:∃ b:Bool,b=true↔fJ h hand C:=AQ _;have t:=ah (fun (w':World) (y:Ni base S h L R hand rv root w')=>y.at i q r A bA hA);have a2:=ah (fun (w':World) (y:Ni base S h L R hand rv root w')=>y.at i q r B bB Y);have N:=ah (fun (w':World) (y:Ni base S h L R hand rv root w')=>y.at i q r C bC W);have D:=ah hA;have P:=ah Y;have HC:=ah W;clear hA Y W x;go_enter Tryz.func33,Tryz.ntmps33;go_upto_region 1 with (fail)
 generalize w.alloc (.cells #[.int .i64 kd,.int .i64 A,.int .i64 B,.int .i64 C] 39)=w1 at *;generalize e:w.heap.size=X at *;have x0:w1.cell? ⟨X,0,none⟩=some (.int .i64 kd):=z.o.c 0;by_cases v:kd=2
 ·subst v
  have x1:w1.cell? ⟨X,1,none⟩=some (.int .i64 A):=z.o.c 1;go_wp2_with fail;refine (t.o _ HR.o).mono ?_;rintro e2 w2 ⟨rfl,a,g⟩;have s:=ah g;have f:=ah a;have p:=ah (z.o.keep (Keeps.of a (au _) (fun _=>False)) (fun y=>y));clear a g x0 x1;have T:w2.cell? ⟨X,3,none⟩=some (.int .i64 C):=p.o.c 3;cases bA with
  |false=>
   have M:=ah (show ¬ fJ h hand A from fun y=>absurd (D.o.2 y) (by simp));go_wp2;go_ret;exact (⟨⟨false,rfl,by simp only [Bool.false_eq_true,false_iff];exact fun hh=>M.o (bG.two.1 hh).1⟩,by rw [e];exact d.o.trans (f.o.mono (e ▸ d.o.size))⟩:oP h hand _ A B C w _ _)
  |true=>
   have K:=ah (D.o.1 rfl);by_cases m:C=0
   ·subst m
    go_wp2;go_ret;exact (⟨⟨true,rfl,by simp only [true_iff];exact bG.two.2 ⟨K.o,.inl rfl⟩⟩,by rw [e];exact d.o.trans (f.o.mono (e ▸ d.o.size))⟩:oP h hand _ A B _ w _ _)
   ·have Z:(C==0)=false:=by simpa using m
    have u:=ah m;clear m;go_wp2_with fail;refine (N.o _ s.o).mono ?_;rintro e3 w3 ⟨rfl,j,l⟩;have k:=ah j;clear j l T;go_wp2;go_ret;refine (⟨⟨bC,rfl,?_⟩,by rw [e];exact d.o.trans (((vZ f.o k.o)).mono (e ▸ d.o.size))⟩:oP h hand _ A B C w _ _);rw [HC.o,bG.two];exact ⟨fun hh=>⟨K.o,.inr hh⟩,fun hh=>hh.2.resolve_left u.o⟩
 ·have G:(kd==2)=false:=by simpa using v
  by_cases F:kd=3
  ·subst F
   clear v G;have x1:w1.cell? ⟨X,1,none⟩=some (.int .i64 A):=z.o.c 1;go_wp2_with fail;refine (t.o _ HR.o).mono ?_;rintro e2 w2 ⟨rfl,a,g⟩;have s:=ah g;have f:=ah a;have p:=ah (z.o.keep (Keeps.of a (au _) (fun _=>False)) (fun y=>y));clear a g x0 x1;cases bA with
   |false=>
    have M:=ah (show ¬ fJ h hand A from fun y=>absurd (D.o.2 y) (by simp));go_wp2;go_ret;exact (⟨⟨false,rfl,by simp only [Bool.false_eq_true,false_iff];exact fun hh=>M.o (bG.three.1 hh).1⟩,by rw [e];exact d.o.trans (f.o.mono (e ▸ d.o.size))⟩:oP h hand _ A B C w _ _)
   |true=>
    have K:=ah (D.o.1 rfl);have y2:w2.cell? ⟨X,2,none⟩=some (.int .i64 B):=p.o.c 2;go_wp2_with fail;refine (a2.o _ s.o).mono ?_;rintro e3 w3 ⟨rfl,j,l⟩;have a1:=ah l;have k:=ah (vZ f.o j);have a0:=ah (p.o.keep (Keeps.of j (au _) (fun _=>False)) (fun y=>y));clear j l y2;cases bB with
    |false=>
     have M:=ah (show ¬ fJ h hand B from fun y=>absurd (P.o.2 y) (by simp));go_wp2;go_ret;exact (⟨⟨false,rfl,by simp only [Bool.false_eq_true,false_iff];exact fun hh=>M.o (bG.three.1 hh).2.1⟩,by rw [e];exact d.o.trans (k.o.mono (e ▸ d.o.size))⟩:oP h hand _ A B C w _ _)
    |true=>
     have J:=ah (P.o.1 rfl);have T:w3.cell? ⟨X,3,none⟩=some (.int .i64 C):=a0.o.c 3;by_cases m:C=0
     ·subst m
      go_wp2;go_ret;exact (⟨⟨true,rfl,by simp only [true_iff];exact bG.three.2 ⟨K.o,J.o,.inl rfl⟩⟩,by rw [e];exact d.o.trans (k.o.mono (e ▸ d.o.size))⟩:oP h hand _ A B _ w _ _)
     ·have Z:(C==0)=false:=by simpa using m
      have u:=ah m;clear m;go_wp2_with fail;refine (N.o _ a1.o).mono ?_;rintro e4 w4 ⟨rfl,H,V⟩;have a3:=ah H;clear H V T;go_wp2;go_ret;refine (⟨⟨bC,rfl,?_⟩,by rw [e];exact d.o.trans (((vZ k.o a3.o)).mono (e ▸ d.o.size))⟩:oP h hand _ A B C w _ _);rw [HC.o,bG.three];exact ⟨fun hh=>⟨K.o,J.o,.inr hh⟩,fun hh=>hh.2.2.resolve_left u.o⟩
  ·have U:(kd==3)=false:=by simpa using F
   by_cases E:kd=4∨kd=5
   ·have x1:w1.cell? ⟨X,1,none⟩=some (.int .i64 A):=z.o.c 1
    rcases E with rfl|rfl
    all_goals
     clear v F G U;go_wp2_with fail;refine (t.o _ HR.o).mono ?_;rintro e2 w2 ⟨rfl,a,g⟩;have f:=ah a;clear a g x0 x1;go_wp2;go_ret
     first
      |exact wI (.inl rfl) D.o (by rw [e];exact d.o.trans (f.o.mono (e ▸ d.o.size)))
      |exact wI (.inr rfl) D.o (by rw [e];exact d.o.trans (f.o.mono (e ▸ d.o.size)))
   ·have a5:(kd==4)=false:=by simp;omega
    have a4:(kd==5)=false:=by simp;omega
    have Q:=ah (show kd≠2/\kd≠3/\kd≠4/\kd≠5 from ⟨v,F,by omega,by omega⟩);clear v F E;go_wp2;go_ret;exact (⟨⟨true,rfl,by simp only [true_iff];exact bG.rest Q.o.1 Q.o.2.1 Q.o.2.2.1 Q.o.2.2.2⟩,by rw [e];exact d.o⟩:oP h hand _ A B C w _ _)
end
end Go.Proofs.YtbpcdfbmnklcjaaGreatDoor
namespace Go.Proofs.YtbpcdfbmnklcjaaGreatDoor
open Go Go.RowKit Go.WideMaps
set_option linter.unusedVariables false
theorem FK:laidOutB Tryz.prog=true:=by kernel_rfl
theorem Gm:(194:TypeId)<Tryz.prog.types.size:=of_decide_eq_true (by kernel_rfl)
theorem GX:Tryz.prog.keyTypeAt 4 194=true:=by kernel_rfl
theorem Fp:Tryz.prog.keyType 194=true:=by kernel_rfl
theorem k5:4+1<=10000:=by omega
theorem qV:KeyLaw Tryz.prog 194:=deep_law_laid FK (m:=4) k5 Gm GX (by rw [Tryz.underlying194])
theorem AJ:Tryz.prog.cellsOf 194=5:=by kernel_rfl
theorem vR:Tryz.prog.cellsOf 141=4:=by kernel_rfl
theorem vV:Tryz.prog.cellsOf 3=1:=by kernel_rfl
theorem BR:Tryz.prog.cellsOf 81=1:=by kernel_rfl
theorem Bz:Tryz.prog.cellsOf 9=1:=by kernel_rfl
theorem FE:∃ m,Tryz.prog.types.size=m+3:=⟨Tryz.prog.types.size-3,by
 have:Nat.ble 3 Tryz.prog.types.size=true:=by kernel_rfl
 have:=Nat.le_of_ble_eq_true this;omega⟩
theorem Fe (m:Nat) (a b c:Int) (g:(Lit.int .i64 a).wf=true) (hb:(Lit.int .i64 b).wf=true) (f:(Lit.int .i64 c).wf=true):∃ ls,Tryz.prog.keyLits (m+4) 194 [.int .i64 a,.int .i64 b,.int .u64 0,.string ByteArray.empty,.int .i64 c]=some ls:=by
 have d:∀ k x,(Lit.int .i64 x).wf=true->Tryz.prog.keyLits (k+1) 3 [.int .i64 x]=some [.int .i64 x]:=by
  intro k x hx;unfold Program.keyLits;rw [Tryz.underlying3];simp [hx]
 have i:∀ k,Tryz.prog.keyLits (k+1) 81 [.int .u64 0]=some [.int .u64 0]:=by
  intro k;unfold Program.keyLits;rw [Tryz.underlying81];simp;rfl
 have e:∀ k,Tryz.prog.keyLits (k+1) 9 [.string ByteArray.empty]=some [.string []]:=by
  intro k;unfold Program.keyLits;rw [Tryz.underlying9];rfl
 have h:Tryz.prog.keyLits (m+3) 141 [.int .i64 a,.int .i64 b,.int .u64 0,.string ByteArray.empty]=some [.int .i64 a,.int .i64 b,.int .u64 0,.string []]:=by
  unfold Program.keyLits;rw [Tryz.underlying141];simp [vR,vV,BR,Bz,d (m+1) a g,d (m+1) b hb,i (m+1),e (m+1)]
 refine ⟨[.int .i64 a,.int .i64 b,.int .u64 0,.string [],.int .i64 c],?_⟩;unfold Program.keyLits;rw [Tryz.underlying194];simp [AJ,vR,vV,h,d (m+2) c f]
theorem Dq {z:Int} (b: -9223372036854775808<=z) (a:z<=9223372036854775807):(Lit.int .i64 z).wf=true:=by
 show (decide (IntKind.i64.min<=z)&&decide (z<=IntKind.i64.max))=true;rw [show IntKind.i64.min= -9223372036854775808 from rfl,show IntKind.i64.max=9223372036854775807 from rfl];simp [b,a]
theorem Dw {k:HV} (h:oW k):∃ l,keyOf Tryz.prog 194 (jR k)=some l:=by
 obtain ⟨m,hm⟩:=FE;obtain ⟨ls,a⟩:=Fe m (vk k) (vi k) (vr k) (by
  cases k with
  |none=>rfl
  |some x=>cases x<;>rfl) (by
  cases k with
  |none=>rfl
  |some x=>cases x with
   |inl z=>simp only [oW] at h;exact Dq h.1 h.2
   |inr n=>rfl) (by
  cases k with
  |none=>rfl
  |some x=>cases x with
   |inl z=>rfl
   |inr n=>simp only [oW] at h;exact Dq (by show (-9223372036854775808:Int)<=(n:Int);omega) (by show (n:Int)<=9223372036854775807;omega))
 refine ⟨.string (keyBytes ls),?_⟩;unfold keyOf;rw [Tryz.underlying194];simp only;rw [if_pos (by rw [Fp];simp [jR,Value.formed,Tryz.underlying194,AJ]),hm];show (Tryz.prog.keyLits (m+4) 194 [.int .i64 (vk k),.int .i64 (vi k),.int .u64 0,.string ByteArray.empty,.int .i64 (vr k)]).map _=_;rw [a];rfl
end Go.Proofs.YtbpcdfbmnklcjaaGreatDoor
