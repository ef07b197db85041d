import Derived.Test.YtjibjahfbblieaaGreatDoorKLO
import Derived.Test.YtjibjahfbblieaaGreatDoorKP1Y6
import Derived.Test.YtjibjahfbblieaaGreatDoorKP1Y5a
import Derived.Test.YtjibjahfbblieaaGreatDoorKP1Y5b
import Derived.Test.YtjibjahfbblieaaGreatDoorKBR
import Derived.Test.YtjibjahfbblieaaGreatDoorKMC1
import Derived.Shelf.Strings.Builder1
import Derived.Shelf.Strings.Builder2
import Derived.Shelf.Strings.OnBuilder
import Derived.Shelf.Small.Wraps
import Derived.Shelf.Strings.BuilderF
import Derived.Shelf.Strconv.Atoi
import Derived.Shelf.Strconv.Itoa0
import Derived.Shelf.Strconv.Itoa1
import Derived.Shelf.LaysM
import Derived.Shelf.Strconv.Itoa2
import Derived.Shelf.Strconv.Itoa3
import Derived.Shelf.Strconv.Clone
import Derived.Shelf.Strconv.RangeError
import Derived.Shelf.LaysC
import Derived.Shelf.Strconv.ToErrorRange
import Derived.Shelf.Strings.Search1
import Derived.Shelf.Strings.Search2
import Derived.Shelf.Strings.Search3
import Derived.Shelf.Strings.Cut
import Derived.Shelf.Strings.Shaped
import Derived.Shelf.Strings.Prefix
import Derived.Shelf.Strings.Fields
import Derived.Shelf.Strings.Replace
import Derived.Shelf.Bits.Mul64
import Derived.Shelf.Strings.Repeat
import Derived.Ground.SlgmProg
import Derived.Ground.GgzProg
import Derived.Shelf.SlIterI.Nil
import Derived.Shelf.SlIterI.Sorted
import Derived.Shelf.SortM.Plain
import Derived.Shelf.SortM.SortNone
import Derived.Test.YtjibjahfbblieaaGreatDoorProg
namespace Go.Proofs.YtjibjahfbblieaaGreatDoor
open Go Go.RowKit Go.Maps
set_option linter.unusedVariables false
def cn (s:Nat->Bool) (q:Nat):Nat:=((List.range q).filter s).length
theorem Ll (n:Nat) (s:Nat->Bool):ls (n+1) s=ls n s++(if s n then [n] else []):=by
 unfold ls
 rw [List.range_succ,List.filter_append]
 by_cases h:s n=true
 ·simp [h]
 ·simp only [Bool.not_eq_true] at h
  simp [h]
theorem PN (n:Nat) (s:Nat->Bool):(ls n s).length=cn s n:=rfl
theorem BO {s:Nat->Bool} {j q:Nat} (n:Nat):(ls n s)[j]?=some q↔q<n/\s q=true/\cn s q=j:=by
 induction n with
 |zero=>simp [ls]
 |succ n ih=>
  rw [Ll]
  have hl:=PN n s
  by_cases hj:j<(ls n s).length
  ·rw [List.getElem?_append_left hj,ih]
   constructor
   ·rintro ⟨a,b,c⟩;exact ⟨by omega,b,c⟩
   ·rintro ⟨a,b,c⟩
    refine ⟨?_,b,c⟩
    rcases Nat.lt_or_ge q n with h|h
    ·exact h
    ·obtain rfl:q=n:=by omega
     omega
  ·rw [List.getElem?_append_right (by omega)]
   constructor
   ·intro h
    by_cases hs:s n=true
    ·rw [hs,if_pos rfl] at h
     obtain ⟨h1,h2⟩:=List.getElem?_eq_some_iff.1 h
     simp at h1
     have h3:j-(ls n s).length=0:=by omega
     simp [h3] at h2
     subst h2
     exact ⟨by omega,hs,by omega⟩
    ·simp only [Bool.not_eq_true] at hs
     rw [hs] at h
     simp at h
   ·rintro ⟨a,b,c⟩
    rcases Nat.lt_or_ge q n with h|h
    ·have:=(ih.2 ⟨h,b,c⟩)
     obtain ⟨h1,_⟩:=List.getElem?_eq_some_iff.1 this
     omega
    ·obtain rfl:q=n:=by omega
     rw [b,if_pos rfl]
     have h3:j-(ls q s).length=0:=by omega
     simp [h3]
theorem Bb (p:PV) (q:Nat):cn (aH p p.ni) q=lbl p q:=rfl
theorem lD.of_wf {c:Int} (h:(Lit.int .i64 c).wf=true):lD c:=by
 simp [Lit.wf,IntKind.min,IntKind.max,IntKind.signed,IntKind.bits] at h
 exact ⟨by omega,by omega⟩
theorem Nt (w:World):(zeroValue 3).run Tryz.prog w=.ok (.int .i64 0) w:=by kernel_rfl
theorem Qf (w:World):(Instr.makeMap 150 none).run Tryz.prog w=.ok (.map (some w.heap.size)) (w.alloc (.map #[] 0)):=rfl
theorem Px (w:World):(Instr.makeMap 126 none).run Tryz.prog w=.ok (.map (some w.heap.size)) (w.alloc (.map #[] 0)):=rfl
def fQ (w:World) (b n m:Nat) (s:Nat->Bool) (f:Nat->Nat):Prop:=∃ D:DataW Unit,w.ownsMap Tryz.prog 3 (plainElem Tryz.prog 3) b m D/\(∀ x:Int,Maps.has D (.int .i64 x)=true↔∃ p:Nat,p<n/\s p=true/\x=(p:Int))/\∀ p,p<n->s p=true->∀ zd,D.atKey (.int .i64 (p:Int)) zd=.lit (.int .i64 (f p:Int))
theorem fQ.lt {w:World} {b n m:Nat} {s:Nat->Bool} {f:Nat->Nat} (h:fQ w b n m s f):b<w.heap.size:=by
 obtain ⟨D,h1,_⟩:=h
 exact h1.lt
theorem fQ.low {w w':World} {B b n m:Nat} {s:Nat->Bool} {f:Nat->Nat} (h:fQ w b n m s f) (k:Below B w w') (hb:b<B):fQ w' b n m s f:=by
 obtain ⟨D,⟨es,clk,h1,h2⟩,h3⟩:=h
 exact ⟨D,⟨es,clk,(k.block b hb).trans h1,h2⟩,h3⟩
theorem fQ.same {w w':World} {b n m:Nat} {s:Nat->Bool} {f:Nat->Nat} (h:fQ w b n m s f) (k:w'.heap[b]?=w.heap[b]?):fQ w' b n m s f:=by
 obtain ⟨D,⟨es,clk,h1,h2⟩,h3⟩:=h
 exact ⟨D,⟨es,clk,k.trans h1,h2⟩,h3⟩
theorem fQ.new (w:World) (n:Nat) (f:Nat->Nat):fQ (w.alloc (.map #[] 0)) w.heap.size n 0 (fun _=>false) f:=
 ⟨.map [],World.ownsMap_made w Tryz.prog 3 _,fun x=>⟨fun h=>(by cases h),fun ⟨p,_,h,_⟩=>(by cases h)⟩,fun p _ h=>(by cases h)⟩
theorem fQ.congr {w:World} {b n m:Nat} {s s':Nat->Bool} {f:Nat->Nat} (h:fQ w b n m s f) (e:∀ p,p<n->s' p=s p):fQ w b n m s' f:=by
 obtain ⟨D,h1,h2,h3⟩:=h
 exact ⟨D,h1,fun x=>(h2 x).trans ⟨fun ⟨p,a,b,c⟩=>⟨p,a,by rw [e p a];exact b,c⟩,fun ⟨p,a,b,c⟩=>⟨p,a,by rw [<-e p a];exact b,c⟩⟩,fun p hp hs=>h3 p hp (by rw [<-e p hp];exact hs)⟩
theorem fQ.put {w:World} {b n m:Nat} {s:Nat->Bool} {f:Nat->Nat} (h:fQ w b n m s f) (hn:n<=1048576) (hm:m<=1048576) {p v:Nat} (hp:p<n) (hv:v=f p) (hf:f p<=1048576):
 ∃ w1,(Instr.mapUpdate 126 (.map (some b)) (.int .i64 (p:Int)) (.int .i64 (v:Int))).run Tryz.prog w=.ok () w1/\fQ w1 b n (m+1) (fun q=>s q||decide (q=p)) f/\Keeps w w1 (fun c=>c=b):=by
 obtain ⟨D,h1,h2,h3⟩:=h
 subst hv
 have hk:=LD (Ql (p:=p) (by omega))
 have hw:=Ql (p:=f p) (by omega)
 obtain ⟨w1,hr,ho,hg⟩:=h1.update (int_keyed Tryz.underlying3) Tryz.underlying126 (by unfold maxLen;omega) hk (plainElem_int Tryz.underlying3 hw)
 have hmap:IsMap D:=by obtain ⟨es,clk,_,_,_,rfl⟩:=h1;exact ⟨_,rfl⟩
 refine ⟨w1,hr,⟨_,ho,fun x=>?_,fun q hq hs zd=>?_⟩,pK hg⟩
 ·by_cases e:x=(p:Int)
  ·subst e
   rw [has_put_same hmap (by simp [WideAt.IsKeyLit])]
   exact ⟨fun _=>⟨p,hp,by simp,rfl⟩,fun _=>rfl⟩
  ·rw [has_put_other (by simpa using e),h2 x]
   constructor
   ·rintro ⟨q,a,b,rfl⟩
    exact ⟨q,a,by simp [b],rfl⟩
   ·rintro ⟨q,a,b,rfl⟩
    refine ⟨q,a,?_,rfl⟩
    have:q≠p:=fun c=>e (by rw [c])
    simpa [this] using b
 ·by_cases e:q=p
  ·subst e
   exact atKey_put_same hmap (by simp [WideAt.IsKeyLit]) _ zd
  ·rw [atKey_put_other (by simpa using fun z=>e (by omega))]
   exact h3 q hq (by simpa [e] using hs) zd
def o8 (n:Nat) (s:Nat->Bool) (x:Int):Bool:=decide (0<=x)&&decide (x<n)&&s x.toNat
theorem fQ.look {w:World} {b n m:Nat} {s:Nat->Bool} {f:Nat->Nat} (h:fQ w b n m s f) {x:Int} (hx:lD x):
 ∃ c:Int,lD c/\(o8 n s x=true->c=f x.toNat)/\(Instr.lookup 126 (.map (some b)) (.int .i64 x) true).run Tryz.prog w=.ok (.tuple #[.int .i64 c,.bool (o8 n s x)]) w:=by
 obtain ⟨D,h1,h2,h3⟩:=h
 have hk:=LD (x:=x) (WalkArith.wf_i64 hx)
 obtain ⟨v,ps,hr,hv⟩:=h1.look_ok (int_keyed Tryz.underlying3) Tryz.underlying126 (Nt w) (plainElem_int Tryz.underlying3 (a:=0) (by decide)) hk
 obtain ⟨c,rfl,hz,hwf⟩:=plainElem_int_inv Tryz.underlying3 hv
 have hb:Maps.has D (.int .i64 x)=o8 n s x:=by
  cases e:o8 n s x with
  |true=>
   unfold o8 at e
   simp only [Bool.and_eq_true,decide_eq_true_eq] at e
   exact (h2 x).2 ⟨x.toNat,by omega,e.2,by omega⟩
  |false=>
   cases e2:Maps.has D (.int .i64 x) with
   |false=>rfl
   |true=>
    obtain ⟨q,a,b,rfl⟩:=(h2 x).1 e2
    unfold o8 at e
    simp [a,b] at e
 refine ⟨c,lD.of_wf hwf,fun hin=>?_,by rw [hr,hb]⟩
 unfold o8 at hin
 simp only [Bool.and_eq_true,decide_eq_true_eq] at hin
 have h4:=h3 x.toNat (by omega) hin.2 (.lit (.int .i64 0))
 rw [show ((x.toNat:Nat):Int)=x by omega] at h4
 have h5:=congrArg Prod.fst hz
 simp only at h5
 rw [h4] at h5
 cases h5
 rfl
theorem ints_at {w:World} {B:Nat} {v:Value} {l:List Nat} (h:w.ownsRow B 3 1 v l.length (IK l)) {j q:Nat} (hj:l[j]?=some q):∃ g cap,v=.slice (some ⟨g,0,none⟩) l.length cap/\g<w.heap.size/\w.cell? ⟨g,j,none⟩=some (.int .i64 (q:Int)):=by
 obtain ⟨hl,hq⟩:=List.getElem?_eq_some_iff.1 hj
 obtain ⟨h1,⟨rfl,h2⟩|⟨g,cap,cur,rfl,hb,hg,hr⟩⟩:=h
 ·omega
 ·have hown:w.ownsRow B 3 1 (.slice (some ⟨g,0,none⟩) l.length cap) l.length (IK l):=⟨h1,.inr ⟨g,cap,cur,rfl,hb,hg,hr⟩⟩
  refine ⟨g,cap,rfl,(hown.lt g rfl).2,?_⟩
  rw [hown.cellAt j (by simpa using hl),IK,List.getElem?_map,hj]
  rfl
end Go.Proofs.YtjibjahfbblieaaGreatDoor
namespace Go.Proofs.YtjibjahfbblieaaGreatDoor
open Go Go.RowKit
set_option linter.unusedVariables false
structure PE (w:World):Prop where
 tab:LV w
 sz:3<w.heap.size
theorem PE.low {w w':World} (h:PE w) (hb:Below w.heap.size w w'):PE w':=⟨F.tab_below h.tab h.sz hb,Nat.lt_of_lt_of_le h.sz hb.size⟩
theorem lK (d a b c:List UInt8) (w:World) (hd:d.length<=100) (hl:(bG [a,b,c]).length<=1000000):
 Calls Tryz.prog 91 #[.string (bT d),.slice (some ⟨w.heap.size,0,none⟩) 3 3] (w.alloc (.cells #[.string (bT a),.string (bT b),.string (bT c)] 9)) fun e w'=>e=.returned (.string (bT (d++bG [a,b,c])))/\Below w.heap.size w w':=by
 refine (mY d w.heap.size [a,b,c] 3 _ hd (fun j x hx=>?_) (by simp) (by simp) (by simp) hl).mono ?_
 ·match j,hx with
  |0,hx=>simp at hx;subst hx;simp
  |1,hx=>simp at hx;subst hx;simp
  |2,hx=>simp at hx;subst hx;simp
  |j+3,hx=>simp at hx
 ·rintro e w' ⟨rfl,hb⟩
  exact ⟨rfl,(b_1 w _).trans (hb.mono (by simp))⟩
theorem BU (u:Bool) (x:Int) (w:World) (hx0:0<=x) (hx1:x<=255) (hE:PE w):
 Calls Tryz.prog 73 #[.agg #[.bool u,.int .i64 x]] w fun e w'=>e=.returned (.string (bT (([32,32]:List UInt8)++bG [[117,112],if u then [108,111,99,97,108] else [111,117,116,101,114],aW x])))/\Below w.heap.size w w':=by
 have HB:Hid (lD x):=hide ⟨by omega,by omega⟩
 have hB0:=b_1 w (.cells #[.bool u,.int .i64 x] 83)
 have HE:=hide (hE.low hB0)
 have HB0:=hide hB0
 have hl:=eZ HB.out
 clear hE hB0
 cases u
 all_goals
  go_enter Tryz.func73,Tryz.ntmps73
  go_wp2_with (first
   |(go_at_call 92
     refine (bW HB.out _ HE.out.tab).mono ?_
     rintro e w2 ⟨rfl,hb2⟩
     have HB2:=hide (HB0.out.trans (hb2.mono HB0.out.size))
     clear hb2)
   |(go_at_call 91
     refine (lK [32,32] [117,112] _ (aW x) w2 (by simp) ?_).mono ?_
     ·simp [bG,Lib.join]
      omega
     rintro e w3 ⟨rfl,hb3⟩
     have HB3:=hide (HB2.out.trans (hb3.mono HB2.out.size))
     clear hb3)
   |fail)
  go_ret
  exact ⟨rfl,HB3.out⟩
end Go.Proofs.YtjibjahfbblieaaGreatDoor
namespace Go.Proofs.YtjibjahfbblieaaGreatDoor.F
open Go Go.RowKit
set_option linter.unusedVariables false
def xR (r:Nat):Nat:=wM r*2^(64-Lib.bitLen (wM r))
def eR (r:Nat):Int:=wE r-(64-(Lib.bitLen (wM r):Int))
structure FEnv (w:World):Prop where
 sz:18<w.heap.size
 rows:∀ i,i<696->w.cell? ⟨14,i*2,none⟩=some (.int .u64 ((Go.Pinned.pow10Rows.getD i (0,0)).1:Nat))/\w.cell? ⟨14,i*2+1,none⟩=some (.int .u64 ((Go.Pinned.pow10Rows.getD i (0,0)).2:Nat))
 opt:w.cell? ⟨11,0,none⟩=some (.bool true)
 tab:Lib.TabIs Tryz.prog w "internal/strconv.uint64pow10" .u64 Lib.pow10Tab
theorem FEnv.below {w w':World} (h:FEnv w) (hb:Below w.heap.size w w'):FEnv w':=by
 have h1:=h.sz
 have h2:=hb.size
 exact ⟨by omega,fun i hi=>⟨(hb.cell (by show 14<_;omega)).trans (h.rows i hi).1,(hb.cell (by show 14<_;omega)).trans (h.rows i hi).2⟩,(hb.cell (by show 11<_;omega)).trans h.opt,tab_below h.tab (by omega) hb⟩
theorem FEnv.ten {w:World} (h:FEnv w) {n:Nat} (hn:n<=17):w.cell? ⟨3,n,none⟩=some (.int .u64 ((10^n:Nat):Int)):=by
 have:=h.tab.cell (by kernel_rfl:Tryz.prog.globalNamed "internal/strconv.uint64pow10" =some 3) n (by show n<20;omega)
 rw [this,Lib.pow10Tab_at n (by omega)]
theorem JD {r:Nat} (h:0<r):0<wM r:=by unfold wM;split<;>omega
theorem nI {r:Nat} (h0:0<r) (hr:r<ak):(∃ y,xR r=2048*y)/\9223372036854775808<=xR r/\xR r<18446744073709551616/\1<=Lib.bitLen (wM r)/\Lib.bitLen (wM r)<=53/\ -1074<=eR r+63/\eR r+63<=1023:=by
 have hM:=qP r
 have hM0:=JD h0
 obtain ⟨b1,b2,b3⟩:=jB (wM r) (by omega) (by omega)
 have hk:=IB hr
 have hE:eR r=(wK r:Int)-1074-(64-(Lib.bitLen (wM r):Int)):=rfl
 have hb53:Lib.bitLen (wM r)<=53:=by
  have h2:2^(Lib.bitLen (wM r)-1)<2^53:=Nat.lt_of_le_of_lt b2 hM
  have:=(Nat.pow_lt_pow_iff_right (by omega)).1 h2
  omega
 unfold xR
 generalize Lib.bitLen (wM r)=b at *
 refine ⟨⟨wM r*2^(53-b),?_⟩,?_,?_,b1,hb53,by omega,by omega⟩
 ·have e:64-b=11+(53-b):=by omega
  rw [e,Nat.pow_add]
  generalize 2^(53-b)=z
  have:(2:Nat)^11=2048:=rfl
  rw [this]
  grind
 ·have h1:2^(b-1)*2^(64-b)<=wM r*2^(64-b):=Nat.mul_le_mul_right _ b2
  rw [<-Nat.pow_add] at h1
  have e:b-1+(64-b)=63:=by omega
  rw [e] at h1
  exact h1
 ·have h1:wM r*2^(64-b)<2^b*2^(64-b):=Nat.mul_lt_mul_of_pos_right b3 (Nat.pow_pos (by omega))
  rw [<-Nat.pow_add] at h1
  have e:b+(64-b)=64:=by omega
  rw [e] at h1
  exact h1
theorem Cc {M b x:Nat} (h:M*2^(64-b)=x) (hx:x<18446744073709551616):IntKind.u64.wrap ((M:Int)*2^(64-b))=(x:Int):=by
 have e:(M:Int)*2^(64-b)=(x:Int):=by rw [<-h];push_cast;rfl
 rw [e,IntKind.wrap_u64]
 omega
theorem JI (r n base:Nat) (v:Value) (w:World) (h0:0<r) (hr:r<ak) (hn1:1<=n) (hn2:n<=17) (hF:FEnv w) (hown:eG w base v []) (hbase:base<=w.heap.size):
 Calls Tryz.prog 188 #[v,.float .f64 r,.int .u8 101,.int .i64 ((n:Int)-1)] w fun e w'=>OG (xR r) n (eR r) base w e w':=by
 obtain ⟨⟨y,hy⟩,hx1,hx2,b1,b2,hE1,hE2⟩:=nI h0 hr
 have HF:Hid (∀ w1:World,Below w.heap.size w w1->Calls Tryz.prog 213 #[.int .u64 (xR r),.int .i64 (eR r),.int .i64 n,.int .i64 ((n:Int)-1),.int .u8 101] w1 fun e w'=>∃ (d:Nat) (q:Int),e=.returned (.tuple #[.int .u64 d,.int .i64 (-q)])/\FixW (xR r) n (eR r) d q/\Below w1.heap.size w1 w'):=hide (fun w1 hb=>by
  have hF1:=hF.below hb
  exact Ey (xR r) y n (eR r) _ w1 hy hx1 hx2 hE1 hE2 hn1 hn2 (by have:=hF1.sz;omega) hF1.rows (hF1.ten hn2))
 by_cases hs:r<4503599627370496
 ·have hM:wM r=r:=by unfold wM;rw [if_pos hs]
  have hx:r*2^(64-Lib.bitLen r)=xR r:=by unfold xR;rw [hM]
  have hk:wK r=0:=by unfold wK;omega
  rw [hM] at b1 b2
  refine Jt r n (Lib.bitLen r) (xR r) base (eR r) v w h0 hs hn1 hn2 (hide rfl) b1 b2 (hide (Cc hx hx2)) (hide ?_) HF hE1 hE2 hown hbase hF.opt hF.sz hF.tab
  unfold eR wE
  rw [hM,hk]
  omega
 ·have hM:wM r=r%4503599627370496+4503599627370496:=by unfold wM;rw [if_neg hs]
  have hx:(r%4503599627370496+4503599627370496)*2^(64-Lib.bitLen (r%4503599627370496+4503599627370496))=xR r:=by unfold xR;rw [hM]
  have hk:wK r=r/4503599627370496-1:=rfl
  have hinf:ak=9218868437227405312:=rfl
  rw [hM] at b1 b2
  refine IW r (wK r) (r%4503599627370496) n (Lib.bitLen (r%4503599627370496+4503599627370496)) (xR r) base (eR r) v w (hide ?_) ?_ (by omega) hn1 hn2 (hide rfl) b1 b2 (hide (Cc hx hx2)) (hide ?_) HF hE1 hE2 hown hbase hF.opt hF.sz hF.tab
  ·omega
  ·omega
  ·unfold eR wE
   rw [hM]
   omega
end Go.Proofs.YtjibjahfbblieaaGreatDoor.F
namespace Go.Proofs.YtjibjahfbblieaaGreatDoor.F
open Go Go.RowKit
set_option linter.unusedVariables false
def gA (V:Nat) (p:Int):Nat:=V*10^p.toNat
def gB (c:Nat) (p:Int):Nat:=2^c*10^(-p).toNat
theorem iK (c:Nat) (p:Int):0<gB c p:=Nat.mul_pos (Nat.pow_pos (by omega)) (Nat.pow_pos (by omega))
structure Fmt (V c n d:Nat) (q:Int):Prop where
 lo:10^(n-1)<=d
 hi:d<10^n
 val:∃ p:Int,10^(n-1)*gB c p<=gA V p/\gA V p<10^n*gB c p/\((q=p/\d=rq (gA V p) (gB c p))∨(q=p-1/\d=10^(n-1)/\rq (gA V p) (gB c p)=10^n))
theorem H7 (V c:Nat) {p p':Int} (h:p<=p'):gA V p*10^(p'-p).toNat*gB c p'=gA V p'*gB c p:=by
 unfold gA gB
 have e:p.toNat+(p'-p).toNat+(-p').toNat=p'.toNat+(-p).toNat:=by omega
 have e2:10^p.toNat*10^(p'-p).toNat*10^(-p').toNat=10^p'.toNat*10^(-p).toNat:=by rw [<-Nat.pow_add,<-Nat.pow_add,<-Nat.pow_add,e]
 generalize 10^p.toNat=a1 at *
 generalize 10^(p'-p).toNat=a2 at *
 generalize 10^(-p').toNat=a3 at *
 generalize 10^p'.toNat=a4 at *
 generalize 10^(-p).toNat=a5 at *
 generalize 2^c=z
 calc V*a1*a2*(z*a3)=V*z*(a1*a2*a3):=by grind
  _=V*z*(a4*a5):=by rw [e2]
  _=V*a4*(z*a5):=by grind
theorem H6 (V c:Nat) (q:Int):gA V q*(10*gB c (q+1))=gA V (q+1)*gB c q:=by
 have:=H7 V c (p:=q) (p':=q+1) (by omega)
 have e:(q+1-q).toNat=1:=by omega
 rw [e,Nat.pow_one] at this
 rw [<-Nat.mul_assoc]
 exact this
theorem mh {n:Nat} (h:1<=n):10^n=10*10^(n-1):=by
 obtain ⟨j,rfl⟩:∃ j,n=j+1:=⟨n-1,by omega⟩
 rw [Nat.pow_succ,Nat.add_sub_cancel];omega
theorem Qj {V c n:Nat} {p p':Int} (hn:1<=n) (h1:10^(n-1)*gB c p<=gA V p) (h2:gA V p'<10^n*gB c p'):¬ p<p':=by
 intro h
 have hs:=H7 V c (p:=p) (p':=p') (by omega)
 have h10:10^1<=10^(p'-p).toNat:=Nat.pow_le_pow_right (by omega) (by omega)
 have hn10:=mh hn
 have hB:=iK c p
 have hB':=iK c p'
 generalize 10^(p'-p).toNat=t at *
 rw [hn10] at h2
 generalize 10^(n-1)=z at *
 generalize gA V p=A at *
 generalize gA V p'=A' at *
 generalize gB c p=B at *
 generalize gB c p'=B' at *
 have a1:A'*B<10*z*B'*B:=Nat.mul_lt_mul_of_pos_right h2 hB
 rw [<-hs] at a1
 have a2:z*B*10<=A*t:=Nat.mul_le_mul h1 h10
 have a3:z*B*10*B'<=A*t*B':=Nat.mul_le_mul_right _ a2
 have e:z*B*10*B'=10*z*B'*B:=by grind
 omega
theorem Fmt.unique {V c n d d':Nat} {q q':Int} (hn:1<=n) (h:Fmt V c n d q) (h':Fmt V c n d' q'):d=d'/\q=q':=by
 obtain ⟨p,a1,a2,a3⟩:=h.val
 obtain ⟨p',b1,b2,b3⟩:=h'.val
 have hp:p=p':=by
  have:=Qj hn a1 b2
  have:=Qj hn b1 a2
  omega
 subst hp
 have hlt:=h.hi
 have hlt':=h'.hi
 rcases a3 with ⟨q1,d1⟩|⟨q1,d1,r1⟩<;>rcases b3 with ⟨q2,d2⟩|⟨q2,d2,r2⟩
 ·exact ⟨by rw [d1,d2],by rw [q1,q2]⟩
 ·omega
 ·omega
 ·exact ⟨by rw [d1,d2],by rw [q1,q2]⟩
theorem nR {A B A' B' k:Nat} (hB:0<B) (h:A*B'=A'*B) (hk:k*B<=A):k*B'<=A':=by
 have h1:k*B*B'<=A*B':=Nat.mul_le_mul_right _ hk
 rw [h] at h1
 have e:k*B*B'=k*B'*B:=by grind
 rw [e] at h1
 exact Nat.le_of_mul_le_mul_right h1 hB
theorem jH {A B A' B' k:Nat} (hB:0<B) (hB':0<B') (h:A*B'=A'*B) (hk:A<k*B):A'<k*B':=by
 have h1:A*B'<k*B*B':=Nat.mul_lt_mul_of_pos_right hk hB'
 rw [h] at h1
 have e:k*B*B'=k*B'*B:=by grind
 rw [e] at h1
 exact Nat.lt_of_mul_lt_mul_right h1
theorem xv {r c:Nat} (hc:c=1074):xR r*2^(eR r).toNat*2^c=wV r*2^(-(eR r)).toNat:=by
 have hb:Lib.bitLen (wM r)<=64:=by
  by_cases h:wM r=0
  ·rw [h];decide
  ·exact bitLen_le64 _ h (by have:=qP r;omega)
 unfold xR wV
 have e:64-Lib.bitLen (wM r)+(eR r).toNat+c=wK r+(-(eR r)).toNat:=by unfold eR wE;omega
 rw [Nat.mul_assoc,Nat.mul_assoc,<-Nat.pow_add,<-Nat.pow_add,Nat.mul_assoc,<-Nat.pow_add,<-e]
 congr 2
 omega
theorem fg {r c:Nat} (hc:c=1074) (q:Int):fA (xR r) (eR r) q*gB c q=gA (wV r) q*fB (eR r) q:=by
 have h:=xv (r:=r) hc
 unfold fA fB gA gB
 generalize 2^(eR r).toNat=a at *
 generalize 2^(-(eR r)).toNat=b at *
 generalize 2^c=z at *
 generalize 10^q.toNat=t
 generalize 10^(-q).toNat=u
 calc xR r*t*a*(z*u)=(xR r*a*z)*(t*u):=by grind
  _=(wV r*b)*(t*u):=by rw [h]
  _=wV r*t*(u*b):=by grind
theorem FixW.fmt {r n d c:Nat} {q:Int} (hc:c=1074) (h0:0<r) (hr:r<ak) (hn:1<=n) (h:FixW (xR r) n (eR r) d q):Fmt (wV r) c n d q:=by
 obtain ⟨_,hx1,hx2,_,_,hE1,hE2⟩:=nI h0 hr
 have hlow:=tL (n:=n) (E:=eR r) hn hE1 hE2 hx1
 have hupp:=tF (n:=n) (E:=eR r) hn hE1 hE2 hx2
 have hn10:=mh hn
 refine ⟨h.lo,h.hi,?_⟩
 rcases h.val with ⟨hq,hd⟩|⟨hq,hd,hge⟩
 ·rw [<-hq] at hlow hupp
  have hf:=fg (r:=r) hc q
  have hfB:=wG (eR r) q
  have hgB:=iK c q
  have hrq:rq (fA (xR r) (eR r) q) (fB (eR r) q)=rq (gA (wV r) q) (gB c q):=iZ hfB hgB hf
  refine ⟨q,nR hfB hf hlow,jH hfB hgB hf ?_,.inl ⟨rfl,by rw [hd,hrq]⟩⟩
  have:=h.hi
  rw [hd] at this
  rw [Nat.mul_comm]
  exact Mk hfB this
 ·have hp:zV n (eR r+63)=q+1:=by omega
  rw [hp] at hlow hupp
  have hf:=fg (r:=r) hc (q+1)
  have hfB:=wG (eR r) (q+1)
  have hgB:=iK c (q+1)
  have hgq:=iK c q
  have ht:=H6 (wV r) c q
  have hrq:rq (fA (xR r) (eR r) (q+1)) (fB (eR r) (q+1))=rq (gA (wV r) (q+1)) (gB c (q+1)):=iZ hfB hgB hf
  have hrq10:rq (fA (xR r) (eR r) (q+1)) (10*fB (eR r) (q+1))=rq (gA (wV r) q) (gB c q):=by
   refine iZ (Nat.mul_pos (by omega) hfB) hgq ?_
   have h1:fA (xR r) (eR r) (q+1)*gB c q*gB c (q+1)=gA (wV r) q*(10*fB (eR r) (q+1))*gB c (q+1):=by
    calc fA (xR r) (eR r) (q+1)*gB c q*gB c (q+1)=(fA (xR r) (eR r) (q+1)*gB c (q+1))*gB c q:=by grind
     _=(gA (wV r) (q+1)*fB (eR r) (q+1))*gB c q:=by rw [hf]
     _=(gA (wV r) (q+1)*gB c q)*fB (eR r) (q+1):=by grind
     _=(gA (wV r) q*(10*gB c (q+1)))*fB (eR r) (q+1):=by rw [ht]
     _=gA (wV r) q*(10*fB (eR r) (q+1))*gB c (q+1):=by grind
   exact Nat.eq_of_mul_eq_mul_right hgB h1
  by_cases hbig:10^n*gB c (q+1)<=gA (wV r) (q+1)
  ·refine ⟨q,?_,?_,.inl ⟨rfl,by rw [hd,hrq10]⟩⟩
   ·refine nR (A:=gA (wV r) (q+1)) (B:=10*gB c (q+1)) (Nat.mul_pos (by omega) hgB) ?_ ?_
    ·exact ht.symm
    ·rw [hn10] at hbig
     have e:10^(n-1)*(10*gB c (q+1))=10*10^(n-1)*gB c (q+1):=by grind
     rw [e];exact hbig
   ·have hu:gA (wV r) (q+1)<2*10^n*gB c (q+1):=jH hfB hgB hf hupp
    have hu2:gA (wV r) q<2*10^(n-1)*gB c q:=by
     refine jH (A:=gA (wV r) (q+1)) (B:=10*gB c (q+1)) (Nat.mul_pos (by omega) hgB) hgq ht.symm ?_
     rw [hn10] at hu
     have e:2*10^(n-1)*(10*gB c (q+1))=2*(10*10^(n-1))*gB c (q+1):=by grind
     rw [e];exact hu
    refine Nat.lt_of_lt_of_le hu2 (Nat.mul_le_mul_right _ ?_)
    omega
  ·have hlt:gA (wV r) (q+1)<10^n*gB c (q+1):=by omega
   refine ⟨q+1,nR hfB hf hlow,hlt,.inr ⟨by omega,?_,?_⟩⟩
   ·have h1:=h.lo
    have h2:d<=10^(n-1):=by
     rw [hd,hrq10]
     refine nE hgq ?_
     have:=jH (A:=gA (wV r) (q+1)) (B:=10*gB c (q+1)) (k:=10^(n-1)) (Nat.mul_pos (by omega) hgB) hgq ht.symm (by
      rw [hn10] at hlt
      have e:10^(n-1)*(10*gB c (q+1))=10*10^(n-1)*gB c (q+1):=by grind
      rw [e];exact hlt)
     rw [Nat.mul_comm]
     exact Nat.le_of_lt this
    omega
   ·have h1:rq (gA (wV r) (q+1)) (gB c (q+1))<=10^n:=nE hgB (by rw [Nat.mul_comm];exact Nat.le_of_lt hlt)
    rw [hrq] at hge
    omega
end Go.Proofs.YtjibjahfbblieaaGreatDoor.F
namespace Go.Proofs.YtjibjahfbblieaaGreatDoor.F
open Go Go.RowKit
set_option linter.unusedVariables false
theorem xK {A B k:Nat} (hB:0<B) (h:rq A B<=k):2*A<=(2*k)*B+B:=by
 have hd:=Nat.div_add_mod A B
 have hm:=Nat.mod_lt A hB
 unfold rq at h
 split at h
 ·have h1:A/B+1<=k:=h
  have h3:(2*(A/B+1))*B<=(2*k)*B:=Nat.mul_le_mul_right _ (by omega)
  have h4:(2*(A/B+1))*B=2*(B*(A/B))+2*B:=by grind
  omega
 ·rename_i hc
  have h1:A/B<=k:=h
  have h3:(2*(A/B))*B<=(2*k)*B:=Nat.mul_le_mul_right _ (by omega)
  have h4:(2*(A/B))*B=2*(B*(A/B)):=by grind
  omega
theorem uV {A S M:Nat} (hS:0<S) (h1:2*A<2*(M*S)+S) (h2:2*(M*S)<2*A+S):rq A S=M:=by
 have hd:=Nat.div_add_mod A S
 have hm:=Nat.mod_lt A hS
 by_cases h:M*S<=A
 ·have hq:A/S=M:=by
   refine Nat.div_eq_of_lt_le h ?_
   rw [Nat.add_mul,Nat.one_mul]
   omega
  unfold rq
  rw [hq] at hd ⊢
  rw [Nat.mul_comm S M] at hd
  rw [if_neg (by omega)]
  omega
 ·obtain ⟨j,rfl⟩:∃ j,M=j+1:=⟨M-1,by
   rcases Nat.eq_zero_or_pos M with e|e
   ·rw [e,Nat.zero_mul] at h;omega
   ·omega⟩
  rw [Nat.add_mul,Nat.one_mul] at h h1 h2
  have hq:A/S=j:=by
   refine Nat.div_eq_of_lt_le (by omega) ?_
   rw [Nat.add_mul,Nat.one_mul]
   omega
  unfold rq
  rw [hq] at hd ⊢
  rw [Nat.mul_comm S j] at hd
  rw [if_pos (by left;omega)]
theorem LZ (r:Nat):r=wK r*4503599627370496+wM r:=by
 unfold wK wM
 split<;>omega
theorem NU {r:Nat}:wK r=0∨4503599627370496<=wM r:=by
 unfold wK wM
 split
 ·left;omega
 ·right;omega
theorem xV {A B r:Nat} (h0:0<r) (hr:r<ak) (hB:0<B) (h1:18014398509481984*A<18014398509481985*(wV r*B)) (h2:18014398509481983*(wV r*B)<18014398509481984*A):aC A B r:=by
 have hM:=qP r
 have hM0:=JD h0
 have hw:=LZ r
 have hbig:=NU (r:=r)
 unfold wV at h1 h2
 generalize wM r=M at *
 generalize wK r=k at *
 have hT:0<2^k:=Nat.pow_pos (by omega)
 have e0:M*2^k*B=M*(B*2^k):=by rw [Nat.mul_assoc,Nat.mul_comm (2^k)]
 rw [e0] at h1 h2
 have hS:0<B*2^k:=Nat.mul_pos hB hT
 have e53:B*2^(53+k)=9007199254740992*(B*2^k):=by rw [Nat.pow_add];grind
 have e52:B*2^(52+k)=4503599627370496*(B*2^k):=by rw [Nat.pow_add];grind
 have hMS:M*(B*2^k)<=9007199254740991*(B*2^k):=Nat.mul_le_mul_right _ (by omega)
 by_cases hc:k=0∨B*2^(52+k)<=A
 ·refine ⟨k,?_,hc,?_⟩
  ·rw [e53];generalize B*2^k=S at *;generalize M*S=X at *;omega
  ·have:rq A (B*2^k)=M:=by
    generalize B*2^k=S at *
    refine uV hS ?_ ?_
    ·generalize M*S=X at *;omega
    ·generalize M*S=X at *;omega
   rw [this,<-hw,Nat.min_eq_left (Nat.le_of_lt hr)]
 ·have hk:k≠0:=fun h=>hc (.inl h)
  have hA:A<4503599627370496*(B*2^k):=by rw [<-e52];exact Nat.lt_of_not_le (fun h=>hc (.inr h))
  have hM52:M=4503599627370496:=by
   have hge:4503599627370496<=M:=by omega
   rcases Nat.lt_or_ge 4503599627370496 M with hlt|hlt
   ·exfalso
    have:4503599627370497*(B*2^k)<=M*(B*2^k):=Nat.mul_le_mul_right _ hlt
    generalize B*2^k=S at *
    generalize M*S=X at *
    omega
   ·omega
  obtain ⟨j,rfl⟩:∃ j,k=j+1:=⟨k-1,by omega⟩
  subst hM52
  have e:B*2^(j+1)=2*(B*2^j):=by rw [Nat.pow_succ];grind
  have f53:B*2^(53+j)=9007199254740992*(B*2^j):=by rw [Nat.pow_add];grind
  have f52:B*2^(52+j)=4503599627370496*(B*2^j):=by rw [Nat.pow_add];grind
  rw [e] at hA h1 h2 hS
  refine ⟨j,?_,.inr ?_,?_⟩
  ·rw [f53];omega
  ·rw [f52];omega
  ·have:rq A (B*2^j)=9007199254740992:=by
    generalize B*2^j=S at *
    refine uV (by omega) ?_ ?_
    ·omega
    ·omega
   rw [this]
   have:j*4503599627370496+9007199254740992=r:=by omega
   rw [this,Nat.min_eq_left (Nat.le_of_lt hr)]
theorem Fmt.err {V c n d:Nat} {q:Int} (hn:1<=n) (h:Fmt V c n d q):2*(d*gB c q)<=2*gA V q+gB c q/\2*gA V q<=2*(d*gB c q)+gB c q/\20*(10^(n-1)*gB c q)<=20*gA V q+gB c q:=by
 obtain ⟨p,a1,a2,a3⟩:=h.val
 rcases a3 with ⟨rfl,hd⟩|⟨hq,hd,hr⟩
 ·have hB:=iK c q
  have h1:=qA hB (show d<=rq (gA V q) (gB c q) by omega)
  have h2:=xK hB (show rq (gA V q) (gB c q)<=d by omega)
  rw [Nat.mul_assoc] at h1 h2
  refine ⟨h1,h2,?_⟩
  omega
 ·have hp:p=q+1:=by omega
  subst hp
  have hB:=iK c (q+1)
  have hBq:=iK c q
  have ht:=H6 V c q
  have h1:=qA hB (show 10^n<=rq (gA V (q+1)) (gB c (q+1)) by omega)
  rw [mh hn] at h1 a2
  rw [<-hd] at h1 a2 ⊢
  have h3:gA V q<d*gB c q:=by
   refine jH (A:=gA V (q+1)) (B:=10*gB c (q+1)) (Nat.mul_pos (by omega) hB) hBq ht.symm ?_
   have e:d*(10*gB c (q+1))=10*d*gB c (q+1):=by grind
   rw [e];exact a2
  have h4:20*(d*gB c q)<=20*gA V q+gB c q:=by
   have m1:(2*(10*d)*gB c (q+1))*gB c q<=(2*gA V (q+1)+gB c (q+1))*gB c q:=Nat.mul_le_mul_right _ h1
   have m2:(2*gA V (q+1)+gB c (q+1))*gB c q=(20*gA V q+gB c q)*gB c (q+1):=by
    calc (2*gA V (q+1)+gB c (q+1))*gB c q=2*(gA V (q+1)*gB c q)+gB c (q+1)*gB c q:=by grind
     _=2*(gA V q*(10*gB c (q+1)))+gB c (q+1)*gB c q:=by rw [ht]
     _=(20*gA V q+gB c q)*gB c (q+1):=by grind
   have m3:(2*(10*d)*gB c (q+1))*gB c q=20*(d*gB c q)*gB c (q+1):=by grind
   rw [m2,m3] at m1
   exact Nat.le_of_mul_le_mul_right m1 hB
  refine ⟨by omega,by omega,h4⟩
theorem zk {d r c:Nat} {q:Int} (hc:c=1074):aB d (-q) r↔aC (d*gB c q) (10^q.toNat) r:=by
 unfold aB gB
 rw [Int.neg_neg,<-hc,Nat.mul_assoc,Nat.mul_comm (2^c)]
theorem Fmt.back17 {r c d:Nat} {q:Int} (hc:c=1074) (h0:0<r) (hr:r<ak) (h:Fmt (wV r) c 17 d q):aB d (-q) r:=by
 obtain ⟨e1,e2,e3⟩:=h.err (by omega)
 rw [zk hc]
 have hB:=iK c q
 have e:wV r*10^q.toNat=gA (wV r) q:=rfl
 have e10:10^(17-1)=10000000000000000:=rfl
 rw [e10] at e3
 refine xV h0 hr (Nat.pow_pos (by omega)) ?_ ?_
 ·rw [e];omega
 ·rw [e];omega
theorem zY {r c d:Nat} {q:Int} (hc:c=1074) (h0:0<r) (hr:r<ak) (h:d*gB c q=gA (wV r) q):aB d (-q) r:=by
 rw [zk hc,h]
 have e:wV r*10^q.toNat=gA (wV r) q:=rfl
 have hp:0<gA (wV r) q:=Nat.mul_pos (vP (by omega)) (Nat.pow_pos (by omega))
 refine xV h0 hr (Nat.pow_pos (by omega)) ?_ ?_
 ·rw [e];omega
 ·rw [e];omega
theorem pQ {A B k:Nat} (hB:0<B) (h:rq A B=10*k):rq A (10*B)=k:=by
 have h1:=qA hB (show 10*k<=rq A B by omega)
 have h2:=xK hB (show rq A B<=10*k by omega)
 refine uV (Nat.mul_pos (by omega) hB) ?_ ?_
 ·have e:k*(10*B)=10*(k*B):=by grind
  have e2:2*(10*k)*B=20*(k*B):=by grind
  rw [e];rw [e2] at h2
  omega
 ·have e:k*(10*B)=10*(k*B):=by grind
  have e2:2*(10*k)*B=20*(k*B):=by grind
  rw [e];rw [e2] at h1
  omega
theorem Fmt.drop {V c n d:Nat} {q:Int} (hn:2<=n) (h:Fmt V c n (10*d) q):Fmt V c (n-1) d (q-1):=by
 obtain ⟨p,a1,a2,a3⟩:=h.val
 have hlo:=h.lo
 have hhi:=h.hi
 have e1:=mh (n:=n) (by omega)
 have e2:=mh (n:=n-1) (by omega)
 have ht:=H6 V c (p-1)
 have hp:p-1+1=p:=by omega
 rw [hp] at ht
 have hB:=iK c p
 have hB1:=iK c (p-1)
 have hrq:rq (gA V (p-1)) (gB c (p-1))=rq (gA V p) (10*gB c p):=iZ hB1 (Nat.mul_pos (by omega) hB) ht
 have b1:10^(n-1-1)*gB c (p-1)<=gA V (p-1):=by
  refine nR (A:=gA V p) (B:=10*gB c p) (Nat.mul_pos (by omega) hB) ht.symm ?_
  rw [e2] at a1
  have e:10^(n-1-1)*(10*gB c p)=10*10^(n-1-1)*gB c p:=by grind
  rw [e];exact a1
 have b2:gA V (p-1)<10^(n-1)*gB c (p-1):=by
  refine jH (A:=gA V p) (B:=10*gB c p) (Nat.mul_pos (by omega) hB) hB1 ht.symm ?_
  rw [e1] at a2
  have e:10^(n-1)*(10*gB c p)=10*10^(n-1)*gB c p:=by grind
  rw [e];exact a2
 refine ⟨by omega,by omega,p-1,b1,b2,?_⟩
 rcases a3 with ⟨hq,hd⟩|⟨hq,hd,hr⟩
 ·refine .inl ⟨by omega,?_⟩
  rw [hrq,pQ hB hd.symm]
 ·refine .inr ⟨by omega,by omega,?_⟩
  rw [hrq,pQ hB (k:=10^(n-1)) (by rw [hr,e1])]
theorem Bf {d W:Nat} {q:Int}:aB (10*d) (-q) W↔aB d (-(q-1)) W:=by
 have e: -(q-1)= -q+(1:Nat):=by omega
 constructor
 ·intro h
  obtain ⟨W',h'⟩:=aB.ex d (-(q-1))
  rw [e] at h'
  have h2:=h'.shift
  rw [Nat.pow_one,Nat.mul_comm] at h2
  have:W=W':=h.unique h2
  rw [this,e];exact h'
 ·intro h
  rw [e] at h
  have:=h.shift
  rw [Nat.pow_one,Nat.mul_comm] at this
  exact this
structure First (r c n d:Nat) (q:Int):Prop where
 n1:1<=n
 n17:n<=17
 fmt:Fmt (wV r) c n d q
 back:aB d (-q) r
 least:∀ m d' q',1<=m->m<n->Fmt (wV r) c m d' q'->¬ aB d' (-q') r
theorem First.unique {r c n d n' d':Nat} {q q':Int} (h:First r c n d q) (h':First r c n' d' q'):n=n'/\d=d'/\q=q':=by
 have hn:n=n':=by
  rcases Nat.lt_trichotomy n n' with g|g|g
  ·exact absurd h.back (h'.least n d q h.n1 g h.fmt)
  ·exact g
  ·exact absurd h'.back (h.least n' d' q' h'.n1 g h'.fmt)
 subst hn
 exact ⟨rfl,h.fmt.unique h.n1 h'.fmt⟩
theorem First.last {r c n d:Nat} {q:Int} (h:First r c n d q) (hn:2<=n):d%10≠0:=by
 intro h10
 obtain ⟨e,rfl⟩:∃ e,d=10*e:=⟨d/10,by omega⟩
 exact h.least (n-1) e (q-1) (by omega) (by omega) (h.fmt.drop hn) (Bf.1 h.back)
end Go.Proofs.YtjibjahfbblieaaGreatDoor.F
namespace Go.Proofs.YtjibjahfbblieaaGreatDoor.F
open Go Go.RowKit
set_option linter.unusedVariables false
def fM (L:List Int):List UInt8:=L.map fun z=>UInt8.ofNat z.toNat
theorem oQ {L:List Int} (h:∀ z∈L,0<=z/\z<256):(fM L).map (fun b=>((b.toNat:Nat):Int))=L:=by
 unfold fM
 rw [List.map_map]
 conv=>rhs;rw [<-List.map_id L]
 refine List.map_congr_left (fun z hz=>?_)
 have:=h z hz
 simp only [Function.comp,id]
 rw [UInt8.toNat_ofNat']
 omega
theorem uM {k:Nat} (hk:k<1000):∀ z∈dK k,48<=z/\z<=57:=by
 unfold dK
 split
 ·intro z hz;simp at hz;omega
 ·split
  ·intro z hz;simp at hz;omega
  ·intro z hz;simp at hz;omega
theorem ig {d n:Nat}:∀ z∈digL d n,48<=z/\z<=57:=by
 intro z hz
 unfold digL at hz
 rw [List.mem_map] at hz
 obtain ⟨j,_,rfl⟩:=hz
 exact gT d n j
theorem qM {d n:Nat}:∀ z∈aP d n,(48<=z/\z<=57)∨z=46:=by
 intro z hz
 unfold aP at hz
 rw [List.mem_append] at hz
 rcases hz with hz|hz
 ·have:z=g_ d n 0:=by simpa using hz
  subst this
  exact .inl (gT d n 0)
 ·split at hz
  ·cases hz
  ·rcases List.mem_cons.1 hz with hz|hz
   ·exact .inr hz
   ·exact .inl (ig z (List.mem_of_mem_drop hz))
theorem uf {d n:Nat} {X:Int} (h1: -400<=X) (h2:X<=400):∀ z∈eP d n X,0<=z/\z<256:=by
 intro z hz
 unfold eP at hz
 rw [List.mem_append,List.mem_append] at hz
 rcases hz with (hz|hz)|hz
 ·rcases qM z hz with h|h<;>omega
 ·simp at hz
  split at hz<;>omega
 ·have:=uM (k:=X.natAbs) (by omega) z hz
  omega
def eStr (d n:Nat) (X:Int):ByteArray:=⟨(fM (eP d n X)).toArray⟩
theorem tZ {w:World} {v:Value} {d n:Nat} {X:Int} (h1: -400<=X) (h2:X<=400) (h:mg w v (eP d n X)):(convert 35 9 v).run Tryz.prog w=.ok (.string (eStr d n X)) w:=by
 refine fD ?_
 rw [oQ (uf h1 h2)]
 exact h
def Q_ (r n:Nat) (w:World) (e:Ending) (w':World):Prop:=
 ∃ d q,e=.returned (.string (eStr d n ((n:Int)-1-q)))/\FixW (xR r) n (eR r) d q/\Below w.heap.size w w'
set_option maxHeartbeats 1600000 in
set_option maxRecDepth 100000 in
theorem L8 (r n:Nat) (w:World) (h0:0<r) (hr:r<ak) (hn1:1<=n) (hn2:n<=17) (hF:FEnv w):
 Calls Tryz.prog 162 #[.float .f64 r,.int .u8 101,.int .i64 ((n:Int)-1),.int .i64 64] w fun e w'=>Q_ r n w e w':=by
 obtain ⟨i0,hi,hz0,hz1,hz2⟩:=info_parts Tryz.info5
 have hmax:max ((n:Int)-1+4) 24=24:=by omega
 have Hx:=nI h0 hr
 have HF:=hide (fun w1 (hb:Below w.heap.size w w1) (v:Value) (hown:eG w1 w.heap.size v [])=>JI r n w.heap.size v w1 h0 hr hn1 hn2 (hF.below hb) hown hb.size)
 clear hF
 go_enter Tryz.func162,Tryz.ntmps162
 go_wp2_with (first
  |(at_make;(refine wpList_make_own _ rfl _ _ _ rfl w.heap.size 5 i0 (.int .u8 0) 1 Tryz.underlying35 hi hz0 hz1 _ _ _ 24 rfl rfl rfl (by rw [hz2];omega) (by unfold maxLen;omega) (Nat.le_refl _) ?_;intro w1 hrow hgr))
  |fail)
 have hb:Below w.heap.size w w1:=(Below.refl _ _).grown hgr (Nat.le_refl _) (fun q hq=>by cases hq)
 have Hb:=hide hb
 refine (HF.out w1 hb _ ⟨by simpa using hrow,fun h=>by cases h⟩).mono ?_
 clear hb hrow hgr HF
 rintro e w2 ⟨v2,d,q,rfl,hfix,hown,hb2⟩
 have hX:=CU hfix Hx.2.2.2.2.2.1 Hx.2.2.2.2.2.2
 have hcv:=tZ hX.1 hX.2 hown.byt
 have Hfix:=hide hfix
 have Hb2:=hide hb2
 clear hfix hown hb2 hX Hx
 go_wp2
 go_ret
 exact ⟨d,q,rfl,Hfix.out,Hb.out.trans Hb2.out⟩
set_option maxHeartbeats 1600000 in
set_option maxRecDepth 100000 in
theorem Oj (r n:Nat) (w:World) (h0:0<r) (hr:r<ak) (hn1:1<=n) (hn2:n<=17) (hF:FEnv w):
 Calls Tryz.prog 144 #[.float .f64 r,.int .u8 101,.int .i64 ((n:Int)-1),.int .i64 64] w fun e w'=>Q_ r n w e w':=by
 have H:=hide (L8 r n w h0 hr hn1 hn2 hF)
 clear hF
 go_enter Tryz.func144,Tryz.ntmps144
 go_wp2_with fail
 refine H.out.mono ?_
 rintro e w2 ⟨d,q,rfl,hfix,hb2⟩
 have Hfix:=hide hfix
 have Hb2:=hide hb2
 clear hfix hb2
 go_wp2
 go_ret
 exact ⟨d,q,rfl,Hfix.out,Hb2.out⟩
set_option maxHeartbeats 1600000 in
set_option maxRecDepth 100000 in
theorem I8 (w:World) (hs:0<w.heap.size):
 Calls Tryz.prog 162 #[.float .f64 0,.int .u8 101,.int .i64 0,.int .i64 64] w fun e w'=>e=.returned (.string (eStr 0 1 0))/\Below w.heap.size w w':=by
 obtain ⟨i0,hi,hz0,hz1,hz2⟩:=info_parts Tryz.info5
 have HF:=hide (fun w1 (hb:Below w.heap.size w w1) (v:Value) (hown:eG w1 w.heap.size v [])=>Eh w.heap.size v w1 hown hb.size hs)
 go_enter Tryz.func162,Tryz.ntmps162
 go_wp2_with (first
  |(at_make;(refine wpList_make_own _ rfl _ _ _ rfl w.heap.size 5 i0 (.int .u8 0) 1 Tryz.underlying35 hi hz0 hz1 _ _ _ 24 rfl rfl rfl (by rw [hz2];omega) (by unfold maxLen;omega) (Nat.le_refl _) ?_;intro w1 hrow hgr))
  |fail)
 have hb:Below w.heap.size w w1:=(Below.refl _ _).grown hgr (Nat.le_refl _) (fun q hq=>by cases hq)
 have Hb:=hide hb
 refine (HF.out w1 hb _ ⟨by simpa using hrow,fun h=>by cases h⟩).mono ?_
 clear hb hrow hgr HF
 rintro e w2 ⟨v2,rfl,hown,hb2⟩
 have hcv:=tZ (by decide) (by decide) hown.byt
 have Hb2:=hide hb2
 clear hown hb2
 go_wp2
 go_ret
 exact ⟨rfl,Hb.out.trans Hb2.out⟩
set_option maxHeartbeats 1600000 in
set_option maxRecDepth 100000 in
theorem KE (w:World) (hs:0<w.heap.size):
 Calls Tryz.prog 144 #[.float .f64 0,.int .u8 101,.int .i64 0,.int .i64 64] w fun e w'=>e=.returned (.string (eStr 0 1 0))/\Below w.heap.size w w':=by
 have H:=hide (I8 w hs)
 go_enter Tryz.func144,Tryz.ntmps144
 go_wp2_with fail
 refine H.out.mono ?_
 rintro e w2 ⟨rfl,hb2⟩
 have Hb2:=hide hb2
 clear hb2
 go_wp2
 go_ret
 exact ⟨rfl,Hb2.out⟩
end Go.Proofs.YtjibjahfbblieaaGreatDoor.F
namespace Go.Proofs.YtjibjahfbblieaaGreatDoor.F
open Go Go.RowKit
set_option linter.unusedVariables false
theorem Kt {d n:Nat} {X:Int} (h1: -400<=X) (h2:X<=400):bs (eStr d n X)=eP d n X:=by
 unfold eStr
 rw [Qa (l:=fM (eP d n X)) rfl]
 exact oQ (uf h1 h2)
theorem yF:∀ (l:List Int) (a:List Int) (b p:Nat),(∀ c∈l,c≠46)->l.foldl aX (a,b,p)=(a++l,b+p*l.length,p)
 | [],a,b,p,_=>by simp
 |c::l,a,b,p,h=>by
  have hc:c≠46:=h c (by simp)
  rw [List.foldl_cons]
  have e:aX (a,b,p) c=(a++[c],b+p,p):=by unfold aX;rw [if_neg hc]
  rw [e,yF l _ _ _ (fun x hx=>h x (by simp [hx]))]
  simp
  rw [Nat.mul_add]
  omega
theorem lQ {d n:Nat} (h:1<=n):digL d n=g_ d n 0::(digL d n).drop 1:=by
 unfold digL
 obtain ⟨j,rfl⟩:∃ j,n=j+1:=⟨n-1,by omega⟩
 rw [List.range_succ_eq_map]
 simp
theorem pF {d n:Nat} (h:1<=n):(aP d n).length=if n=1 then 1 else n+1:=by
 unfold aP
 split
 ·simp
 ·simp [digL_len];omega
theorem yG {d n:Nat} (h:1<=n):aY (aP d n)=(digL d n,n-1,if n=1 then 0 else 1):=by
 have hd:∀ c∈digL d n,c≠46:=fun c hc e=>by have:=ig c hc;omega
 have hd0:g_ d n 0≠46:=by have:=gT d n 0;omega
 by_cases h1:n=1
 ·subst h1
  have e:aP d 1=[g_ d 1 0]:=rfl
  rw [e]
  have e2:digL d 1=[g_ d 1 0]:=rfl
  rw [e2]
  unfold aY
  rw [List.foldl_cons,List.foldl_nil]
  unfold aX
  rw [if_neg hd0]
  rfl
 ·rw [iq (by omega),if_neg h1]
  unfold aY
  rw [List.foldl_append,List.foldl_append,List.foldl_cons,List.foldl_nil,List.foldl_cons,List.foldl_nil]
  have e1:aX ([],0,0) (g_ d n 0)=([g_ d n 0],0,0):=by unfold aX;rw [if_neg hd0];rfl
  have e2:aX ([g_ d n 0],0,0) 46=([g_ d n 0],0,1):=by unfold aX;rw [if_pos rfl]
  rw [e1,e2,yF _ _ _ _ (fun c hc=>hd c (List.mem_of_mem_drop hc))]
  have e3:[g_ d n 0]++(digL d n).drop 1=digL d n:=by (conv=>rhs;rw [lQ h]); rfl
  rw [e3,List.length_drop,digL_len]
  simp
theorem mV {d n:Nat} (h:d<10^n):∀ j,j<=n->dval ((digL d n).take j)=d/10^(n-j)
 |0,_=>by
  rw [List.take_zero,Nat.sub_zero,Nat.div_eq_of_lt h]
  rfl
 |j+1,hj=>by
  have hlt:j<(digL d n).length:=by rw [digL_len];omega
  have ih:=mV h j (by omega)
  rw [List.take_succ_eq_append_getElem hlt,gK,ih]
  have hg:(digL d n)[j]=g_ d n j:=by
   have:=bZ (d:=d) (n:=n) (j:=j) (by omega)
   rw [getD_lt hlt] at this
   exact this
  rw [hg,iB]
  have e1:n-j=n-(j+1)+1:=by omega
  have e2:n-1-j=n-(j+1):=by omega
  rw [e1,e2,Nat.pow_succ,<-Nat.div_div_eq_div_mul]
  generalize d/10^(n-(j+1))=z
  omega
theorem mo {d n:Nat} (h:d<10^n):dval (digL d n)=d:=by
 have:=mV h n (Nat.le_refl _)
 rw [List.take_of_length_le (by rw [digL_len];exact Nat.le_refl _),Nat.sub_self,Nat.pow_zero,Nat.div_one] at this
 exact this
theorem Ej {k:Nat} (hk:k<1000):yK (dK k)=some (k:Int):=by
 have hall:aZ (dK k)=true:=by
  unfold aZ
  rw [List.all_eq_true]
  intro z hz
  have:=uM hk z hz
  unfold dQ
  simp
  omega
 have hl:1<=(dK k).length/\(dK k).length<=3:=by
  unfold dK;split
  ·simp
  ·split<;>simp
 unfold yK
 rw [if_pos ⟨hl.1,hl.2,hall⟩]
 congr 1
 unfold dK
 split
 ·simp only [dval,List.foldl_cons,List.foldl_nil];omega
 ·split
  ·simp only [dval,List.foldl_cons,List.foldl_nil];omega
  ·simp only [dval,List.foldl_cons,List.foldl_nil];omega
theorem nN (k:Nat):2<=(dK k).length/\(dK k).length<=3:=by
 unfold dK;split
 ·simp
 ·split<;>simp
theorem GY {d n:Nat} {X:Int} (hn1:1<=n) (hn2:n<=17) (h1: -400<=X) (h2:X<=400):
 Txt (eStr d n X) (aP d n).length (digL d n) (n-1) (if n=1 then 0 else 1) X:=by
 have hb:=Kt (d:=d) (n:=n) h1 h2
 have hsz:(eStr d n X).size=(eP d n X).length:=by rw [<-bD,hb]
 have hm:=pF (d:=d) hn1
 have hx:=nN X.natAbs
 have hlen:(eP d n X).length=(aP d n).length+2+(dK X.natAbs).length:=by unfold eP;simp;omega
 have hk:(aP d n).length<=18:=by rw [hm];split<;>omega
 have htake:(bs (eStr d n X)).take (aP d n).length=aP d n:=by
  rw [hb]
  unfold eP
  rw [List.append_assoc,List.take_left]
 have hdrop:(bs (eStr d n X)).drop (aP d n).length=[101,if X<0 then 45 else 43]++dK X.natAbs:=by
  rw [hb]
  unfold eP
  rw [List.append_assoc,List.drop_left]
 refine ⟨by omega,by omega,fun j hj=>?_,by rw [htake];exact yG hn1,by split<;>omega,?_,.inr ⟨by omega,?_⟩⟩
 ·have hj2:j<(bs (eStr d n X)).length:=by rw [bD];omega
  have e:(bs (eStr d n X)).getD j 0=(aP d n).getD j 0:=by
   rw [getD_lt hj2,getD_lt hj]
   have:((bs (eStr d n X)).take (aP d n).length)[j]'(by rw [htake];exact hj)=(aP d n)[j]:=by simp only [htake]
   rw [<-this,List.getElem_take]
  rw [e,getD_lt hj]
  have:=qM (d:=d) (n:=n) _ (List.getElem_mem hj)
  unfold nY dQ
  simp
  omega
 ·rw [lQ hn1];exact fun h=>by cases h
 ·rw [hdrop]
  unfold Ib
  rw [if_pos (by left;rfl)]
  unfold M0
  have ed:List.drop 1 ([101,if X<0 then 45 else 43]++dK X.natAbs)=(if X<0 then 45 else 43)::dK X.natAbs:=rfl
  rw [ed]
  have e0:((if X<0 then 45 else 43)::dK X.natAbs:List Int).getD 0 0=if X<0 then 45 else 43:=rfl
  have e1:List.drop 1 ((if X<0 then 45 else 43)::dK X.natAbs:List Int)=dK X.natAbs:=rfl
  rw [e0,e1,Ej (by omega)]
  by_cases hX:X<0
  ·rw [if_pos hX,if_pos rfl]
   simp
   omega
  ·rw [if_neg hX,if_neg (by decide),if_pos rfl]
   congr 1
   omega
end Go.Proofs.YtjibjahfbblieaaGreatDoor.F
namespace Go.Proofs.YtjibjahfbblieaaGreatDoor.F
open Go Go.RowKit
set_option linter.unusedVariables false
def dM (n:Nat):List Int:=if n=0 then [] else decL n
theorem oP {X c:Nat} (hc:c<10):dM (X*10+c)=if X=0/\c=0 then [] else dM X++[48+(c:Int)]:=by
 unfold dM
 by_cases h:X=0
 ·subst h
  by_cases h0:c=0
  ·subst h0;rfl
  ·rw [if_neg (by omega),if_neg (by omega),if_pos rfl,Nat.zero_mul,Nat.zero_add,bR hc,Nat.mod_eq_of_lt hc]
   rfl
 ·rw [if_neg (by omega),if_neg (by omega),if_neg h,d9 (by omega)]
  have e1:(X*10+c)/10=X:=by omega
  have e2:(X*10+c)%10=c:=by omega
  rw [e1,e2]
theorem JO (X:Nat):(dM X).length=0↔X=0:=by
 unfold dM
 split
 ·rename_i h;simp [h]
 ·rename_i h
  rw [iF]
  simp [h]
theorem tH (d n:Nat):digL d (n+1)=digL (d/10) n++[48+((d%10:Nat):Int)]:=by
 unfold digL
 rw [List.range_succ,List.map_append,List.map_singleton]
 congr 1
 ·apply List.map_congr_left
  intro j hj
  rw [List.mem_range] at hj
  rw [iB,iB,Nat.div_div_eq_div_mul]
  have e:n+1-1-j=n-1-j+1:=by omega
  rw [e,Nat.pow_succ,Nat.mul_comm]
 ·rw [iB]
  have e:n+1-1-n=0:=by omega
  rw [e,Nat.pow_zero,Nat.div_one]
theorem pR (d n:Nat):aZ (digL d n)=true:=by
 unfold aZ
 rw [List.all_eq_true]
 intro z hz
 have:=ig z hz
 unfold dQ
 simp only [decide_eq_true_eq]
 omega
theorem ug:∀ {l N:Nat},1<=l->10^(l-1)<=N->N<10^l->dM N=digL N l
 |0,_,h,_,_=>by omega
 |1,N,_,h1,h2=>by
  have h1':1<=N:=by simpa using h1
  have h2':N<10:=by simpa using h2
  have:=oP (X:=0) (c:=N) h2'
  rw [Nat.zero_mul,Nat.zero_add,if_neg (by omega)] at this
  rw [this,tH,Nat.mod_eq_of_lt h2']
  rfl
 |l+2,N,_,h1,h2=>by
  have e1:l+2-1=l+1:=by omega
  rw [e1,Nat.pow_succ] at h1
  rw [Nat.pow_succ] at h2
  have ih:=ug (l:=l+1) (N:=N/10) (by omega) (by rw [Nat.add_sub_cancel,Nat.le_div_iff_mul_le (by omega)];exact h1) (by rw [Nat.div_lt_iff_lt_mul (by omega)];exact h2)
  have hs:=oP (X:=N/10) (c:=N%10) (by omega)
  have e2:N/10*10+N%10=N:=by omega
  have hp:0<10^l:=Nat.pow_pos (by omega)
  rw [e2,if_neg (by omega),ih] at hs
  rw [hs,<-tH]
theorem ER {N:Nat} (h:0<N):∃ l,1<=l/\10^(l-1)<=N/\N<10^l:=by
 induction N using Nat.strongRecOn with
 |_ N ih=>
  by_cases h10:N<10
  ·exact ⟨1,by omega,by show 10^0<=N;rw [Nat.pow_zero];omega,by rw [Nat.pow_one];exact h10⟩
  ·obtain ⟨l,h1,h2,h3⟩:=ih (N/10) (by omega) (by omega)
   refine ⟨l+1,by omega,?_,?_⟩
   ·obtain ⟨j,rfl⟩:∃ j,l=j+1:=⟨l-1,by omega⟩
    rw [Nat.add_sub_cancel] at h2 ⊢
    rw [Nat.pow_succ]
    omega
   ·rw [Nat.pow_succ]
    omega
theorem Jf (N s t:Nat):N/10^s%10^(t+1)=N/10^(s+1)%10^t*10+N/10^s%10:=by
 rw [Nat.pow_succ,Nat.pow_succ,<-Nat.div_div_eq_div_mul,Nat.mul_comm (10^t) 10,Nat.mod_mul]
 omega
theorem DL (N j:Nat):rq N (10^(j+1))=N/10^(j+1)+(if 5<N/10^j%10∨(N/10^j%10=5/\(N%10^j≠0∨N/10^(j+1)%2=1)) then 1 else 0):=by
 unfold rq
 have hz:0<10^j:=Nat.pow_pos (by omega)
 have hm:N%10^(j+1)=N/10^j%10*10^j+N%10^j:=by
  rw [Nat.pow_succ,Nat.mod_mul,Nat.mul_comm (10^j)]
  omega
 have hs:N%10^j<10^j:=Nat.mod_lt _ hz
 rw [hm]
 rw [Nat.pow_succ]
 generalize N/(10^j*10)=T
 have hg:N/10^j%10<10:=Nat.mod_lt _ (by omega)
 generalize N/10^j%10=g at *
 generalize N%10^j=S at *
 generalize 10^j=z at *
 congr 1
 have:g=0∨g=1∨g=2∨g=3∨g=4∨g=5∨g=6∨g=7∨g=8∨g=9:=by omega
 rcases this with rfl|rfl|rfl|rfl|rfl|rfl|rfl|rfl|rfl|rfl<;>(congr 1;apply propext;constructor<;>intro h<;>omega)
structure Ex (V c N P l:Nat):Prop where
 l1:1<=l
 lo:10^(l-1)<=N
 hi:N<10^l
 val:N*2^c=V*10^P
theorem Ex.cross {V c N P l k:Nat} (h:Ex V c N P l) (hk:k<=l):N*gB c ((P:Int)-l+k)=gA V ((P:Int)-l+k)*10^(l-k):=by
 unfold gA gB
 have e:P+(-((P:Int)-l+k)).toNat=((P:Int)-l+k).toNat+(l-k):=by omega
 rw [<-Nat.mul_assoc,h.val,Nat.mul_assoc,<-Nat.pow_add,e,Nat.pow_add,Nat.mul_assoc]
theorem Ex.round {V c N P l k:Nat} (h:Ex V c N P l) (hk1:1<=k) (hk:k<=l):
 rq N (10^(l-k))<=10^k/\(rq N (10^(l-k))=10^k->Fmt V c k (10^(k-1)) ((P:Int)-l+k-1))/\(rq N (10^(l-k))≠10^k->Fmt V c k (rq N (10^(l-k))) ((P:Int)-l+k)):=by
 have hB:=iK c ((P:Int)-l+k)
 have hx:=h.cross hk
 have hz:0<10^(l-k):=Nat.pow_pos (by omega)
 have hr:rq (gA V ((P:Int)-l+k)) (gB c ((P:Int)-l+k))=rq N (10^(l-k)):=(iZ hz hB hx).symm
 have e1:10^(l-1)=10^(l-k)*10^(k-1):=by rw [<-Nat.pow_add];congr 1;omega
 have e2:10^l=10^(l-k)*10^k:=by rw [<-Nat.pow_add];congr 1;omega
 have hlo:=h.lo
 have hhi:=h.hi
 rw [e1] at hlo
 rw [e2] at hhi
 have r1:10^(k-1)<=rq N (10^(l-k)):=pq hz hlo
 have r2:rq N (10^(l-k))<=10^k:=nE hz (Nat.le_of_lt hhi)
 have v1:10^(k-1)*gB c ((P:Int)-l+k)<=gA V ((P:Int)-l+k):=by
  have:10^(l-k)*10^(k-1)*gB c ((P:Int)-l+k)<=gA V ((P:Int)-l+k)*10^(l-k):=by rw [<-hx];exact Nat.mul_le_mul_right _ hlo
  rw [Nat.mul_assoc,Nat.mul_comm] at this
  exact Nat.le_of_mul_le_mul_right this hz
 have v2:gA V ((P:Int)-l+k)<10^k*gB c ((P:Int)-l+k):=by
  have:gA V ((P:Int)-l+k)*10^(l-k)<10^(l-k)*10^k*gB c ((P:Int)-l+k):=by rw [<-hx];exact Nat.mul_lt_mul_of_pos_right hhi hB
  rw [Nat.mul_assoc (10^(l-k)),Nat.mul_comm (10^(l-k))] at this
  exact Nat.lt_of_mul_lt_mul_right this
 have hk10:=mh hk1
 have hkp:0<10^(k-1):=Nat.pow_pos (by omega)
 refine ⟨r2,fun he=>⟨Nat.le_refl _,by omega,_,v1,v2,.inr ⟨rfl,rfl,by rw [hr];exact he⟩⟩,fun he=>⟨r1,by omega,_,v1,v2,.inl ⟨rfl,hr.symm⟩⟩⟩
theorem Nn (N:Nat):rq N 1=N:=by
 unfold rq
 rw [Nat.div_one,Nat.mod_one,if_neg (by omega)]
 rfl
theorem Ex.whole {V c N P l:Nat} (h:Ex V c N P l):Fmt V c l N (P:Int):=by
 have hr:=h.round (k:=l) h.l1 (Nat.le_refl _)
 rw [Nat.sub_self,Nat.pow_zero,Nn] at hr
 have e:(P:Int)-l+l=P:=by omega
 rw [e] at hr
 exact hr.2.2 (by have:=h.hi;omega)
theorem Ex.back {r c N P l:Nat} (hc:c=1074) (h0:0<r) (hr:r<ak) (h:Ex (wV r) c N P l):aB N (-(P:Int)) r:=by
 refine zY hc h0 hr ?_
 have:=h.cross (k:=l) (Nat.le_refl _)
 have e:(P:Int)-l+l=P:=by omega
 rw [e,Nat.sub_self,Nat.pow_zero,Nat.mul_one] at this
 exact this
end Go.Proofs.YtjibjahfbblieaaGreatDoor.F
namespace Go.Proofs.YtjibjahfbblieaaGreatDoor.F
open Go Go.RowKit
set_option linter.unusedVariables false
theorem GJ {wr:World} {ops:Array Oper} {rest:List Oper} {o:Oper} {a:Act} {Q:Exit->Act->World->Prop} (hgd:o.guard=none) (s x:Operand)
 (ho:o.op=.call { callee:=.builtin .append,args:=#[s,x],argTypes:=#[35,35] }) (v:Value) (L:List Int) (hbig:mg wr v L) (hx:a.eval x=v) (hs:a.eval s=.slice (some ⟨wr.heap.size,0,none⟩) 0 0)
 (hlen:L.length<=10000000000)
 (h:∀ v' w',eG w' wr.heap.size v' L->Below wr.heap.size wr w'->wpList Tryz.prog ops Q rest (a.put o.dst v') w'):
 wpList Tryz.prog ops Q (o::rest) a (wr.alloc (.cells #[] 5)):=by
 obtain ⟨i0,hi,hz0,hz1,hz2⟩:=info_parts Tryz.info5
 obtain ⟨g,cap,rfl,h2,h3,h4,h5⟩:=hbig
 have hown:=mZ wr
 refine wpList_append_own _ hgd s x 35 ho wr.heap.size 5 i0 (.int .u8 0) 1 1 Tryz.underlying35 hi hz0 hz1 hz2 rfl (by decide) _ 0 _ hs hown.1 ⟨g,0,none⟩ L.length cap (L.map (Value.int .u8)) hx (by simp) (lX h5 _ h4)
  (ints_oneCell _ _) (by unfold maxLen;omega) (by omega) (by simp) ?_
 intro v' w' h1 h2 h3
 refine h v' w' ⟨by simpa using h1,(fun hh=>by have:=(h3.1 hh).1;cases this)⟩ (((Below.refl _ _).alloc (Nat.le_refl _) _).grown h2 (by simp) (fun q hq=>by cases hq;exact Nat.le_refl _))
theorem zL:∀ (L:List Int) (i:Nat) (x:Int),i<L.length->dval (L.set i x)+(L.getD i 0-48).toNat*10^(L.length-1-i)=dval L+(x-48).toNat*10^(L.length-1-i)
 | [],i,x,h=>by simp at h
 |c::l,0,x,h=>by
  rw [List.set_cons_zero,fJ,fJ]
  simp
  omega
 |c::l,i+1,x,h=>by
  have ih:=zL l i x (by simpa using h)
  rw [List.set_cons_succ,fJ,fJ,List.length_set]
  have e:(c::l).length-1-(i+1)=l.length-1-i:=by simp;omega
  have e2:(c::l).getD (i+1) 0=l.getD i 0:=by simp
  rw [e,e2]
  omega
theorem rV {L:List Int} {i:Nat} {x:Int} (h:aZ L=true) (hx:48<=x/\x<=57):aZ (L.set i x)=true:=by
 unfold aZ at *
 rw [List.all_eq_true] at *
 intro z hz
 rcases List.mem_or_eq_of_mem_set hz with g|g
 ·exact h z g
 ·subst g
  unfold dQ
  exact decide_eq_true hx
theorem Ap {L:List Int} (h:aZ L=true) {z:Int} (hz:z∈L):48<=z/\z<=57:=by
 unfold aZ at h
 rw [List.all_eq_true] at h
 have:=h z hz
 unfold dQ at this
 exact of_decide_eq_true this
theorem mK {L:List Int} (h:aZ L=true):L=digL (dval L) L.length:=by
 have hlt:=qE h
 refine yX h (pR _ _) (by rw [digL_len]) (by rw [mo hlt])
def NA (N l k:Nat) (w:World) (e:Ending) (w':World):Prop:=
 (rq N (10^(l-k))≠10^k/\∃ v',e=.returned (.tuple #[v',.bool false])/\mg w' v' (digL (rq N (10^(l-k))) k)/\Below w.heap.size w w')∨
 (rq N (10^(l-k))=10^k/\∃ v',e=.returned (.tuple #[v',.bool true])/\mg w' v' (digL (10^(k-1)) k)/\Below w.heap.size w w')
theorem Pb {N l k:Nat} {w w':World} {v':Value} {L:List Int} (hL:L.length=k) (hd:aZ L=true) (hv:dval L=rq N (10^(l-k))) (hb:mg w' v' L) (hB:Below w.heap.size w w'):
 NA N l k w (.returned (.tuple #[v',.bool false])) w':=by
 have hlt:=qE hd
 rw [hL] at hlt
 have he:=mK hd
 rw [hL,hv] at he
 rw [he] at hb
 exact .inl ⟨by omega,v',rfl,hb,hB⟩
theorem PK {N l k:Nat} {w w':World} {v':Value} {L:List Int} (hk:1<=k) (hL:L.length=k) (hd:aZ L=true) (hv:dval L+10^k=rq N (10^(l-k))) (hle:rq N (10^(l-k))<=10^k) (hb:mg w' v' (49::L.take (k-1))) (hB:Below w.heap.size w w'):
 NA N l k w (.returned (.tuple #[v',.bool true])) w':=by
 have h0:dval L=0:=by omega
 have ht:=wN L (k-1)
 have htl:(L.take (k-1)).length=k-1:=by rw [List.length_take];omega
 have hd2:aZ (49::L.take (k-1))=true:=by
  unfold aZ
  rw [List.all_cons,Bool.and_eq_true]
  refine ⟨rfl,?_⟩
  rw [List.all_eq_true]
  intro z hz
  unfold aZ at hd
  rw [List.all_eq_true] at hd
  exact hd z (List.mem_of_mem_take hz)
 have he:=mK hd2
 have hv2:dval (49::L.take (k-1))=10^(k-1):=by
  rw [fJ,htl]
  have:((49:Int)-48).toNat=1:=rfl
  rw [this]
  omega
 have hl2:(49::L.take (k-1)).length=k:=by simp;omega
 rw [hv2,hl2] at he
 rw [he] at hb
 exact .inr ⟨by omega,v',rfl,hb,hB⟩
theorem EP {N s t:Nat} (d:Nat) (hd:d=N/10^s%10):(N/10^s%10^(t+1)≠0)↔(N/10^(s+1)%10^t≠0∨d≠0):=by
 rw [Jf,hd]
 omega
end Go.Proofs.YtjibjahfbblieaaGreatDoor.F
namespace Go.Proofs
open Go.Shelf
def Tryz.laysM145_ren:Go.Shelf.Ren:=⟨fun|145=>128|220=>146|219=>164|217=>190|225=>191|224=>192|267=>193|266=>220|314=>221|n=>n,fun|9=>9|4=>4|59=>196|3=>3|5=>5|46=>191|146=>253|51=>79|n=>n,fun|1=>4|n=>n⟩
theorem Tryz.laysM145:Go.Proofs.LaysM.n145 Tryz.prog Tryz.laysM145_ren:={
 mixed:=by kernel_rfl
 f145:=Tryz.func128.trans (congrArg some (by kernel_rfl))
 f217:=Tryz.func190.trans (congrArg some (by kernel_rfl))
 f219:=Tryz.func164.trans (congrArg some (by kernel_rfl))
 f220:=Tryz.func146.trans (congrArg some (by kernel_rfl))
 f224:=Tryz.func192.trans (congrArg some (by kernel_rfl))
 f225:=Tryz.func191.trans (congrArg some (by kernel_rfl))
 f266:=Tryz.func220.trans (congrArg some (by kernel_rfl))
 f267:=Tryz.func193.trans (congrArg some (by kernel_rfl))
 f314:=Tryz.func221.trans (congrArg some (by kernel_rfl))
 t3:=Tryz.underlying3
 a3:=Tryz.isAgg3
 z3:=Tryz.sizeOf3
 v3:=Tryz.zeroValue3
 t4:=Tryz.underlying4
 a4:=Tryz.isAgg4
 z4:=Tryz.sizeOf4
 v4:=Tryz.zeroValue4
 t5:=Tryz.underlying5
 a5:=Tryz.isAgg5
 z5:=Tryz.sizeOf5
 v5:=Tryz.zeroValue5
 t9:=Tryz.underlying9
 a9:=Tryz.isAgg9
 z9:=Tryz.sizeOf9
 v9:=Tryz.zeroValue9
 t46:=Tryz.underlying191
 a46:=Tryz.isAgg191
 z46:=Tryz.sizeOf191
 v46:=Tryz.zeroValue191
 t51:=Tryz.underlying79
 a51:=Tryz.isAgg79
 z51:=Tryz.sizeOf79
 v51:=Tryz.zeroValue79
 t59:=Tryz.underlying196
 a59:=Tryz.isAgg196
 z59:=Tryz.sizeOf196
 v59:=Tryz.zeroValue196
 t146:=Tryz.underlying253
 a146:=Tryz.isAgg253
 z146:=Tryz.sizeOf253
 v146:=Tryz.zeroValue253
 g1:=by kernel_rfl
 i3:=by kernel_rfl
 i4:=by kernel_rfl
 i5:=by kernel_rfl
 i9:=by kernel_rfl
 i46:=by kernel_rfl
 i51:=by kernel_rfl
 i59:=by kernel_rfl
 i146:=by kernel_rfl
 m1:=by kernel_rfl
 s1_3:=fun w h=>Go.Proofs.cell_of_shapedOpen_int (zero:=#[.int .i64 0]) (t:=3) h (of_decide_eq_true (by kernel_rfl)) (by kernel_rfl) rfl (by kernel_rfl) (by kernel_rfl) Tryz.underlying3 }
end Go.Proofs
