import Derived.Test.YtjibjahfbblieaaGreatDoorKMC0
import Derived.BigRegion
import Derived.Deep.RegionHeld3
import Derived.Deep.QuietTactic
import Derived.BigQuiet
namespace Go.Proofs.YtjibjahfbblieaaGreatDoor
open Go Go.RowKit
set_option linter.unusedVariables false
def ah (w:World) (T g N:Nat) (f:Nat->Value):Prop:=∃ cur:Array Value,w.heap[g]?=some (.cells cur T (0,0))/\N<=cur.size/\∀ j,j<N->cur[j]?=some (f j)
theorem ah.cell {w:World} {T g N:Nat} {f:Nat->Value} (h:ah w T g N f) {j:Nat} (hj:j<N):w.cell? ⟨g,j,none⟩=some (f j):=by
 obtain ⟨cur,h1,h2,h3⟩:=h
 have:=h3 j hj
 simp [World.cell?,h1,this]
theorem ah.frz {w:World} {T g N:Nat} {f:Nat->Value} (h:ah w T g N f) (j:Nat):w.frozen? ⟨g,j,none⟩=false:=by
 obtain ⟨cur,h1,h2,h3⟩:=h
 simp [World.frozen?,h1]
theorem ah.low {w w':World} {T g N b:Nat} {f:Nat->Value} (h:ah w T g N f) (hb:Below b w w') (hg:g<b):ah w' T g N f:=by
 obtain ⟨cur,h1,h2,h3⟩:=h
 exact ⟨cur,(hb.block g hg).trans h1,h2,h3⟩
theorem ah.lt {w:World} {T g N:Nat} {f:Nat->Value} (h:ah w T g N f):g<w.heap.size:=by
 obtain ⟨cur,h1,h2,h3⟩:=h
 rcases Nat.lt_or_ge g w.heap.size with c|c
 ·exact c
 ·rw [Array.getElem?_eq_none c] at h1;cases h1
theorem ah.set {w:World} {T g N:Nat} {f:Nat->Value} (h:ah w T g N f) {j:Nat} (hj:j<N) (x:Value):ah (w.setCell ⟨g,j,none⟩ x) T g N (fun i=>if i=j then x else f i):=by
 obtain ⟨cur,h1,h2,h3⟩:=h
 have e:=heap_setCell_same w g j _ _ x h1
 refine ⟨_,e,by simpa using h2,fun i hi=>?_⟩
 by_cases hij:i=j
 ·subst hij
  have h9:i<cur.size:=by omega
  simp [h9]
 ·have:=h3 i hi
  simp [hij,Ne.symm hij,this]
theorem ah.congr {w:World} {T g N:Nat} {f f':Nat->Value} (h:ah w T g N f) (hf:∀ j,j<N->f j=f' j):ah w T g N f':=by
 obtain ⟨cur,h1,h2,h3⟩:=h
 exact ⟨cur,h1,h2,fun j hj=>by rw [h3 j hj,hf j hj]⟩
theorem ah.kept {w w':World} {T g N:Nat} {f:Nat->Value} {row:Option Nat} (h:ah w T g N f) (hg:w.grownBy w' row) (hn:some g≠row):ah w' T g N f:=by
 obtain ⟨cur,h1,h2,h3⟩:=h
 exact ⟨cur,(hg.block g (ah.lt ⟨cur,h1,h2,h3⟩) hn).trans h1,h2,h3⟩
theorem bQ {w:World} {B T s g n cap:Nat} {xs:List Value} (h:w.ownsRow B T s (.slice (some ⟨g,0,none⟩) n cap) n xs):ah w T g (n*s) (fun j=>xs.getD j (.bool false)):=by
 rcases h.2 with ⟨h',_⟩|⟨g',cap',cur,h',hb,hg,hnc,hcm,hcs,htake⟩
 ·simp at h'
 ·simp only [Value.slice.injEq,Option.some.injEq,Addr.mk.injEq,and_true,true_and] at h'
  obtain ⟨rfl,rfl⟩:=h'
  refine ⟨cur,hg,by rw [hcs];exact Nat.mul_le_mul_right _ hnc,fun j hj=>?_⟩
  have hc:j<cur.size:=by rw [hcs];exact Nat.lt_of_lt_of_le hj (Nat.mul_le_mul_right _ hnc)
  show cur[j]?=some (xs.getD j (.bool false))
  rw [<-htake,List.getD_eq_getElem?_getD,List.getElem?_take,if_pos hj]
  simp [hc]
theorem ah.other {w:World} {T g g' N j:Nat} {f:Nat->Value} {x:Value} (h:ah w T g N f) (hn:g≠g'):ah (w.setCell ⟨g',j,none⟩ x) T g N f:=by
 obtain ⟨cur,h1,h2,h3⟩:=h
 exact ⟨cur,(heap_setCell_other w ⟨g',j,none⟩ g x (fun e=>hn e)).trans h1,h2,h3⟩
theorem ah.mk' (w:World) (T:Nat) (arr:Array Value):ah (w.alloc (.cells arr T)) T w.heap.size arr.size (fun j=>arr.getD j (.bool false)):=by
 refine ⟨arr,heap_alloc_new w _,Nat.le_refl _,fun j hj=>?_⟩
 simp [hj]
theorem b_1 (w:World) (o:Obj):Below w.heap.size w (w.alloc o):=(Below.refl _ _).alloc (Nat.le_refl _) _
theorem zU (w:World) (o o':Obj):Below w.heap.size w ((w.alloc o).alloc o'):=(b_1 w o).alloc (by simp) _
theorem OT (w:World) (o o' o2:Obj):Below w.heap.size w (((w.alloc o).alloc o').alloc o2):=(zU w o o').alloc (by simp;omega) _
def jQ (w:World) (v:Value) (n:Nat) (x0:Nat->Int) (x1:Nat->Int) (x2:Nat->Int) (x3:Nat->Int):Prop:=
 (n=0/\∃ a cap,v=.slice a 0 cap)∨∃ b o cap,v=.slice (some ⟨b,o,none⟩) n cap/\b<w.heap.size/\n<=cap/\∀ i,i<n->w.cell? ⟨b,o+i*4,none⟩=some (.int .i64 (x0 i))/\w.cell? ⟨b,o+i*4+1,none⟩=some (.int .i64 (x1 i))/\w.cell? ⟨b,o+i*4+2,none⟩=some (.int .i64 (x2 i))/\w.cell? ⟨b,o+i*4+3,none⟩=some (.int .i64 (x3 i))
theorem jQ.low {w w':World} {v:Value} {n B:Nat} {x0:Nat->Int} {x1:Nat->Int} {x2:Nat->Int} {x3:Nat->Int} (h:jQ w v n x0 x1 x2 x3) (hb:Below B w w') (hB:w.heap.size<=B):jQ w' v n x0 x1 x2 x3:=by
 rcases h with h|⟨b,o,cap,rfl,hbB,hcap,hc⟩
 ·exact .inl h
 ·refine .inr ⟨b,o,cap,rfl,Nat.lt_of_lt_of_le hbB hb.size,hcap,fun i hi=>?_⟩
  have hc:=hc i hi
  exact ⟨(hb.cell (p:=⟨b,o+i*4,none⟩) (Nat.lt_of_lt_of_le hbB hB)).trans hc.1,(hb.cell (p:=⟨b,o+i*4+1,none⟩) (Nat.lt_of_lt_of_le hbB hB)).trans hc.2.1,(hb.cell (p:=⟨b,o+i*4+2,none⟩) (Nat.lt_of_lt_of_le hbB hB)).trans hc.2.2.1,(hb.cell (p:=⟨b,o+i*4+3,none⟩) (Nat.lt_of_lt_of_le hbB hB)).trans hc.2.2.2⟩
theorem jQ.val {w:World} {v:Value} {n:Nat} {x0:Nat->Int} {x1:Nat->Int} {x2:Nat->Int} {x3:Nat->Int} (h:jQ w v n x0 x1 x2 x3):∃ a cap,v=.slice a n cap:=by
 rcases h with ⟨rfl,a,cap,rfl⟩|⟨b,o,cap,rfl,_⟩
 ·exact ⟨a,cap,rfl⟩
 ·exact ⟨_,cap,rfl⟩
def qg (w:World) (g n:Nat) (x0:Nat->Int) (x1:Nat->Int) (x2:Nat->Int) (x3:Nat->Int):Prop:=∃ f,ah w 45 g (n*4) f/\∀ i,i<n->f (i*4)=(.int .i64 (x0 i))/\f (i*4+1)=(.int .i64 (x1 i))/\f (i*4+2)=(.int .i64 (x2 i))/\f (i*4+3)=(.int .i64 (x3 i))
theorem qg.by {w:World} {g n:Nat} {x0:Nat->Int} {x1:Nat->Int} {x2:Nat->Int} {x3:Nat->Int} (h:qg w g n x0 x1 x2 x3):jQ w (.slice (some ⟨g,0,none⟩) n n) n x0 x1 x2 x3:=by
 obtain ⟨f,h1,h2⟩:=h
 refine .inr ⟨g,0,n,rfl,h1.lt,Nat.le_refl _,fun i hi=>?_⟩
 have h2:=h2 i hi
 rw [Nat.zero_add,h1.cell (j:=i*4) (by omega),h2.1,h1.cell (j:=i*4+1) (by omega),h2.2.1,h1.cell (j:=i*4+2) (by omega),h2.2.2.1,h1.cell (j:=i*4+3) (by omega),h2.2.2.2]
 exact ⟨rfl,rfl,rfl,rfl⟩
theorem qg.low {w w':World} {g n B:Nat} {x0:Nat->Int} {x1:Nat->Int} {x2:Nat->Int} {x3:Nat->Int} (h:qg w g n x0 x1 x2 x3) (hb:Below B w w') (hg:g<B):qg w' g n x0 x1 x2 x3:=by
 obtain ⟨f,h1,h2⟩:=h
 exact ⟨f,h1.low hb hg,h2⟩
theorem qg.other {w:World} {g g' j n:Nat} {x0:Nat->Int} {x1:Nat->Int} {x2:Nat->Int} {x3:Nat->Int} {x:Value} (h:qg w g n x0 x1 x2 x3) (hn:g≠g'):qg (w.setCell ⟨g',j,none⟩ x) g n x0 x1 x2 x3:=by
 obtain ⟨f,h1,h2⟩:=h
 exact ⟨f,h1.other hn,h2⟩
theorem qg.lt {w:World} {g n:Nat} {x0:Nat->Int} {x1:Nat->Int} {x2:Nat->Int} {x3:Nat->Int} (h:qg w g n x0 x1 x2 x3):g<w.heap.size:=by
 obtain ⟨f,h1,h2⟩:=h
 exact h1.lt
theorem Tryz.info45:(Tryz.prog.info? 45).map (fun i=>(i.zero,i.size,i.bytes))=some (some (.agg #[.int .i64 0,.int .i64 0,.int .i64 0,.int .i64 0]),4,32):=by kernel_rfl
set_option maxHeartbeats 800000 in
set_option maxRecDepth 100000 in
theorem zQ (p0:Int) (p1:Int) (p2:Int) (p3:Int) (w:World):
 Calls Tryz.prog 87 #[.agg #[.int .i64 (p0),.int .i64 (p1),.int .i64 (p2),.int .i64 (p3)]] w fun e w'=>e=.returned (.agg #[.int .i64 (p0),.int .i64 (p1),.int .i64 (p2),.int .i64 (p3)])/\Below w.heap.size w w':=by
 go_enter Tryz.func87,Tryz.ntmps87
 go_wp2
 refine bodyPost_ret (v:=.agg #[.int .i64 (p0),.int .i64 (p1),.int .i64 (p2),.int .i64 (p3)]) ?_ rfl ⟨rfl,OT _ _ _ _⟩
 simp [results,Tryz.results87,go_sem]
set_option maxHeartbeats 800000 in
set_option maxRecDepth 100000 in
theorem xG (p0:Int) (p1:Int) (p2:Int) (p3:Int) (w:World):
 Calls Tryz.prog 101 #[.agg #[.int .i64 (p0),.int .i64 (p1),.int .i64 (p2),.int .i64 (p3)],.agg #[.int .i64 (p0),.int .i64 (p1),.int .i64 (p2),.int .i64 (p3)]] w fun e w'=>e=.returned (.bool true)/\Below w.heap.size w w':=by
 go_enter Tryz.func101,Tryz.ntmps101
 go_wp2
 go_ret
 exact ⟨rfl,zU _ _ _⟩
theorem F9 {n i:Nat} {f:Nat->Value} {x0:Nat->Int} {x1:Nat->Int} {x2:Nat->Int} {x3:Nat->Int} (h:∀ k,k<i->f (k*4)=(.int .i64 (x0 k))/\f (k*4+1)=(.int .i64 (x1 k))/\f (k*4+2)=(.int .i64 (x2 k))/\f (k*4+3)=(.int .i64 (x3 k))):∀ k,k<i+1->(fun j=>if j=i*4+3 then (.int .i64 (x3 i)) else if j=i*4+2 then (.int .i64 (x2 i)) else if j=i*4+1 then (.int .i64 (x1 i)) else if j=i*4 then (.int .i64 (x0 i)) else f j) (k*4)=(.int .i64 (x0 k))/\(fun j=>if j=i*4+3 then (.int .i64 (x3 i)) else if j=i*4+2 then (.int .i64 (x2 i)) else if j=i*4+1 then (.int .i64 (x1 i)) else if j=i*4 then (.int .i64 (x0 i)) else f j) (k*4+1)=(.int .i64 (x1 k))/\(fun j=>if j=i*4+3 then (.int .i64 (x3 i)) else if j=i*4+2 then (.int .i64 (x2 i)) else if j=i*4+1 then (.int .i64 (x1 i)) else if j=i*4 then (.int .i64 (x0 i)) else f j) (k*4+2)=(.int .i64 (x2 k))/\(fun j=>if j=i*4+3 then (.int .i64 (x3 i)) else if j=i*4+2 then (.int .i64 (x2 i)) else if j=i*4+1 then (.int .i64 (x1 i)) else if j=i*4 then (.int .i64 (x0 i)) else f j) (k*4+3)=(.int .i64 (x3 k)):=by
 intro k hk
 by_cases e:k=i
 ·subst e
  simp
 ·have:=h k (by omega)
  exact ⟨(if_neg (by omega)).trans ((if_neg (by omega)).trans ((if_neg (by omega)).trans ((if_neg (by omega)).trans (this.1)))),(if_neg (by omega)).trans ((if_neg (by omega)).trans ((if_neg (by omega)).trans ((if_neg (by omega)).trans (this.2.1)))),(if_neg (by omega)).trans ((if_neg (by omega)).trans ((if_neg (by omega)).trans ((if_neg (by omega)).trans (this.2.2.1)))),(if_neg (by omega)).trans ((if_neg (by omega)).trans ((if_neg (by omega)).trans ((if_neg (by omega)).trans (this.2.2.2))))⟩
set_option maxHeartbeats 800000 in
set_option maxRecDepth 100000 in
theorem xB (v:Value) (n:Nat) (x0:Nat->Int) (x1:Nat->Int) (x2:Nat->Int) (x3:Nat->Int) (w:World) (hn:n<=1048576) (h:jQ w v n x0 x1 x2 x3):
 Calls Tryz.prog 59 #[v] w fun e w'=>e=.returned (.slice (some ⟨w.heap.size,0,none⟩) n n)/\qg w' w.heap.size n x0 x1 x2 x3/\Below w.heap.size w w':=by
 obtain ⟨i0,hi,hz0,hz1,hz2⟩:=info_parts Tryz.info45
 rcases h with ⟨rfl,a,cap,rfl⟩|⟨b,o,cap,rfl,hb,hcap,hc⟩
 ·go_enter Tryz.func59,Tryz.ntmps59
  go_wp2_with (first
   |(at_make;refine wpList_make_full _ rfl _ _ 40 rfl w.heap.size 45 i0 (.agg #[.int .i64 0,.int .i64 0,.int .i64 0,.int .i64 0]) 4 Tryz.underlying40 hi hz0 hz1 _ _ _ _ 0 rfl rfl rfl rfl (by rw [hz2];omega) (by unfold maxLen;omega) (Nat.le_refl _) ?_;intro w1 hown hgrow)
   |go_in)
  have hb1:Below w.heap.size w w1:=(Below.refl _ _).grown hgrow (Nat.le_refl _) (fun _ h=>by cases h)
  have HO:=hide (bQ hown)
  clear hgrow hown
  go_wp2
  go_loopw [4] (fun iv wr=>iv=.int .i64 0/\wr=w1) (fun _ _=>0)
  case atStart=>exact ⟨rfl,rfl⟩
  case round=>
   obtain ⟨rfl,rfl⟩:=hrel
   go_wp2
   go_ret
   exact ⟨rfl,⟨_,HO.out,fun i hi=>by omega⟩,hb1⟩
 ·have HC:=hide hc
  clear hc
  go_enter Tryz.func59,Tryz.ntmps59
  go_wp2_with (first
   |(at_make;refine wpList_make_full _ rfl _ _ 40 rfl w.heap.size 45 i0 (.agg #[.int .i64 0,.int .i64 0,.int .i64 0,.int .i64 0]) 4 Tryz.underlying40 hi hz0 hz1 _ _ _ _ n rfl rfl rfl rfl (by rw [hz2];omega) (by unfold maxLen;omega) (Nat.le_refl _) ?_;intro w1 hown hgrow)
   |go_in)
  have hb1:Below w.heap.size w w1:=(Below.refl _ _).grown hgrow (Nat.le_refl _) (fun _ h=>by cases h)
  have HO:=hide (bQ hown)
  clear hgrow hown
  go_wp2
  go_loopw [4] (fun iv wr=>∃ i:Nat,i<=n/\iv=.int .i64 i/\(∃ f,ah wr 45 w.heap.size (n*4) f/\∀ k,k<i->f (k*4)=(.int .i64 (x0 k))/\f (k*4+1)=(.int .i64 (x1 k))/\f (k*4+2)=(.int .i64 (x2 k))/\f (k*4+3)=(.int .i64 (x3 k)))/\Below w.heap.size w wr) (fun iv _=>match iv with | .int _ x=>n-x.toNat|_=>0)
  case atStart=>exact ⟨0,by omega,rfl,⟨_,HO.out,fun k hk=>by omega⟩,hb1⟩
  case round=>
   clear HO hb1
   obtain ⟨i,hi9,rfl,⟨f,hF,hf⟩,hbw⟩:=hrel
   by_cases hin:i<n
   ·have c0:=(hbw.cell (p:=⟨b,o+i*4,none⟩) (by assumption)).trans (HC.out i hin).1
    have c1:=(hbw.cell (p:=⟨b,o+i*4+1,none⟩) (by assumption)).trans (HC.out i hin).2.1
    have c2:=(hbw.cell (p:=⟨b,o+i*4+2,none⟩) (by assumption)).trans (HC.out i hin).2.2.1
    have c3:=(hbw.cell (p:=⟨b,o+i*4+3,none⟩) (by assumption)).trans (HC.out i hin).2.2.2
    go_wp2_with fail
    refine (zQ (x0 i) (x1 i) (x2 i) (x3 i) wr).mono ?_
    rintro e w2 ⟨rfl,hb2⟩
    have hbw2:=hbw.trans (hb2.mono hbw.size)
    have hF2:=hF.low hb2 hF.lt
    clear c0 c1 c2 c3 hb2 hF hbw
    have d0:=hF2.cell (j:=i*4) (by omega)
    have z0:=hF2.frz (i*4)
    have d1:=hF2.cell (j:=i*4+1) (by omega)
    have z1:=hF2.frz (i*4+1)
    have d2:=hF2.cell (j:=i*4+2) (by omega)
    have z2:=hF2.frz (i*4+2)
    have d3:=hF2.cell (j:=i*4+3) (by omega)
    have z3:=hF2.frz (i*4+3)
    have HF:=hide hf
    have HR:=hide ((((hF2.set (j:=i*4) (by omega) (.int .i64 (x0 i))).set (j:=i*4+1) (by omega) (.int .i64 (x1 i))).set (j:=i*4+2) (by omega) (.int .i64 (x2 i))).set (j:=i*4+3) (by omega) (.int .i64 (x3 i)))
    have HB:=hide ((((hbw2.setCell (p:=⟨w.heap.size,i*4,none⟩) (Nat.le_refl _) (.int .i64 (x0 i))).setCell (p:=⟨w.heap.size,i*4+1,none⟩) (Nat.le_refl _) (.int .i64 (x1 i))).setCell (p:=⟨w.heap.size,i*4+2,none⟩) (Nat.le_refl _) (.int .i64 (x2 i))).setCell (p:=⟨w.heap.size,i*4+3,none⟩) (Nat.le_refl _) (.int .i64 (x3 i)))
    clear hf hF2 hbw2
    go_wp2
    go_roundw
    case rel=>exact ⟨i+1,by omega,by simp,⟨_,HR.out,F9 (n:=n) HF.out⟩,HB.out⟩
    case measure=>simp;omega
   ·obtain rfl:i=n:=by omega
    have HO:=hide hF
    have HF:=hide hf
    clear hF hf
    go_wp2
    go_ret
    exact ⟨rfl,⟨f,HO.out,HF.out⟩,hbw⟩
set_option maxHeartbeats 800000 in
set_option maxRecDepth 100000 in
theorem uZ (v v':Value) (n:Nat) (x0:Nat->Int) (x1:Nat->Int) (x2:Nat->Int) (x3:Nat->Int) (w:World) (hn:n<=1048576) (h:jQ w v n x0 x1 x2 x3) (h':jQ w v' n x0 x1 x2 x3):
 Calls Tryz.prog 80 #[v,v'] w fun e w'=>e=.returned (.bool true)/\Below w.heap.size w w':=by
 by_cases h0:n=0
 ·subst h0
  obtain ⟨a,cap,rfl⟩:=h.val
  obtain ⟨a',cap',rfl⟩:=h'.val
  clear h h'
  go_enter Tryz.func80,Tryz.ntmps80
  go_wp2
  go_loopw [5] (fun iv wr=>iv=.int .i64 0/\wr=w) (fun _ _=>0)
  case atStart=>exact ⟨rfl,rfl⟩
  case round=>
   obtain ⟨rfl,rfl⟩:=hrel
   go_wp2
   go_ret
   exact ⟨rfl,Below.refl _ _⟩
 ·rcases h with ⟨h9,_⟩|⟨b,o,cap,rfl,hb,hcap,hc⟩
  ·exact absurd h9 h0
  rcases h' with ⟨h9,_⟩|⟨b',o',cap',rfl,hb',hcap',hc'⟩
  ·exact absurd h9 h0
  have HC:=hide hc
  have HC':=hide hc'
  clear hc hc'
  go_enter Tryz.func80,Tryz.ntmps80
  go_wp2
  go_loopw [5] (fun iv wr=>∃ i:Nat,i<=n/\iv=.int .i64 i/\Below w.heap.size w wr) (fun iv _=>match iv with | .int _ x=>n-x.toNat|_=>0)
  case atStart=>exact ⟨0,by omega,rfl,Below.refl _ _⟩
  case round=>
   obtain ⟨i,hi9,rfl,hbw⟩:=hrel
   by_cases hin:i<n
   ·have c0:=(hbw.cell (p:=⟨b,o+i*4,none⟩) (by assumption)).trans (HC.out i hin).1
    have c1:=(hbw.cell (p:=⟨b,o+i*4+1,none⟩) (by assumption)).trans (HC.out i hin).2.1
    have c2:=(hbw.cell (p:=⟨b,o+i*4+2,none⟩) (by assumption)).trans (HC.out i hin).2.2.1
    have c3:=(hbw.cell (p:=⟨b,o+i*4+3,none⟩) (by assumption)).trans (HC.out i hin).2.2.2
    have e0:=(hbw.cell (p:=⟨b',o'+i*4,none⟩) (by assumption)).trans (HC'.out i hin).1
    have e1:=(hbw.cell (p:=⟨b',o'+i*4+1,none⟩) (by assumption)).trans (HC'.out i hin).2.1
    have e2:=(hbw.cell (p:=⟨b',o'+i*4+2,none⟩) (by assumption)).trans (HC'.out i hin).2.2.1
    have e3:=(hbw.cell (p:=⟨b',o'+i*4+3,none⟩) (by assumption)).trans (HC'.out i hin).2.2.2
    have hlb:b<wr.heap.size:=Nat.lt_of_lt_of_le hb hbw.size
    have hlb':b'<wr.heap.size:=Nat.lt_of_lt_of_le hb' hbw.size
    have HB:=hide hbw
    clear hbw
    go_wp2_with fail
    go_region_held3 (fun w9=>(w9.cell? ⟨b,o+i*4,none⟩=some (.int .i64 (x0 i))/\w9.cell? ⟨b,o+i*4+1,none⟩=some (.int .i64 (x1 i))/\w9.cell? ⟨b,o+i*4+2,none⟩=some (.int .i64 (x2 i))/\w9.cell? ⟨b,o+i*4+3,none⟩=some (.int .i64 (x3 i)))/\w9.cell? ⟨b',o'+i*4,none⟩=some (.int .i64 (x0 i))/\w9.cell? ⟨b',o'+i*4+1,none⟩=some (.int .i64 (x1 i))/\w9.cell? ⟨b',o'+i*4+2,none⟩=some (.int .i64 (x2 i))/\w9.cell? ⟨b',o'+i*4+3,none⟩=some (.int .i64 (x3 i))) (go_keep)
     (first |(go_at_call 101;refine (xG (x0 i) (x1 i) (x2 i) (x3 i) _).mono ?_;rintro e w2 ⟨rfl,hb2⟩;have q0:=(hb2.cell (p:=⟨b,o+i*4,none⟩) hlb).trans c0;have r0:=(hb2.cell (p:=⟨b',o'+i*4,none⟩) hlb').trans e0;have q1:=(hb2.cell (p:=⟨b,o+i*4+1,none⟩) hlb).trans c1;have r1:=(hb2.cell (p:=⟨b',o'+i*4+1,none⟩) hlb').trans e1;have q2:=(hb2.cell (p:=⟨b,o+i*4+2,none⟩) hlb).trans c2;have r2:=(hb2.cell (p:=⟨b',o'+i*4+2,none⟩) hlb').trans e2;have q3:=(hb2.cell (p:=⟨b,o+i*4+3,none⟩) hlb).trans c3;have r3:=(hb2.cell (p:=⟨b',o'+i*4+3,none⟩) hlb').trans e3;have HB2:=hide hb2;clear hb2))
    have HB3:=hide (HB.out.drew.trans (HB2.out.mono HB.out.size))
    rename_i hh
    clear hh c0 e0 q0 r0 c1 e1 q1 r1 c2 e2 q2 r2 c3 e3 q3 r3
    go_wp2
    go_roundw
    case rel=>exact ⟨i+1,by omega,by simp,HB3.out⟩
    case measure=>simp;omega
   ·obtain rfl:i=n:=by omega
    go_wp2
    go_ret
    exact ⟨rfl,hbw⟩
end Go.Proofs.YtjibjahfbblieaaGreatDoor
namespace Go.Proofs.YtjibjahfbblieaaGreatDoor.F
open Go Go.RowKit
set_option linter.unusedVariables false
theorem Tryz.info3:(Tryz.prog.info? 3).map (fun i=>(i.zero,i.size,i.bytes))=some (some (.int .i64 0),1,8):=by kernel_rfl
theorem iD {w:World} {B:Nat} {v:Value} {L:List Int} (h:w.ownsRow B 3 1 v L.length (L.map (Value.int .i64))) (hv:v≠ .slice none 0 0):Big w v L:=by
 obtain ⟨h1,h2⟩:=h
 rcases h2 with ⟨rfl,_⟩|⟨g,cap,cur,rfl,hB,hh,hn,hc,hs,ht⟩
 ·exact absurd rfl hv
 ·have hown:w.ownsRow B 3 1 (.slice (some ⟨g,0,none⟩) L.length cap) L.length (L.map (Value.int .i64)):=⟨h1,.inr ⟨g,cap,cur,rfl,hB,hh,hn,hc,hs,ht⟩⟩
  refine ⟨g,cap,rfl,hn,hc,(hown.lt g rfl).2,fun j hj=>?_⟩
  rw [hown.cellAt j (by omega),List.getElem?_map,List.getElem?_eq_getElem hj,getD_lt hj];rfl
set_option maxHeartbeats 800000 in
set_option maxRecDepth 100000 in
theorem oL (n m c0:Nat) (v:Value) (w:World) (h:Big w v (dig n)) (hl:(dig n).length<=100000) (hm:m<=10000) (hc0:c0<=100000000):
 Calls Tryz.prog 120 #[v,.int .i64 m,.int .i64 c0] w fun e w'=>∃ v',e=.returned v'/\Big w' v' (dig (n*m+c0))/\Below w.heap.size w w':=by
 obtain ⟨g,cap,rfl,h2,h3,h4,h5⟩:=h
 unfold maxLen at h3
 obtain ⟨i0,hi,hz0,hz1,hz2⟩:=info_parts Tryz.info3
 generalize hlen:(dig n).length=len at *
 have Hlen:=hide hlen
 clear hlen
 go_enter Tryz.func120,Tryz.ntmps120
 go_wp2
 go_loopw [2,7,13] (fun c o i wr=>∃ (k cN:Nat) (L:List Int),k<=len/\i=.int .i64 k/\c=.int .i64 cN/\cN<=100000000/\L.length=k/\wr.ownsRow w.heap.size 3 1 o L.length (L.map (Value.int .i64))/\o≠ .slice none 0 0/\
  Ei L/\nval L+10000^k*cN=n%10000^k*m+c0/\Below w.heap.size w wr) (fun _ _ i _=>len-(intOf i).toNat)
 case atStart=>
  refine ⟨0,c0,[],Nat.zero_le _,rfl,rfl,hc0,rfl,World.ownsRow_made w #[] 0 (Nat.le_refl _) (by simp [maxLen]) rfl,?_,?_,?_,(Below.refl _ _).alloc (Nat.le_refl _) _⟩
  ·intro h;cases h
  ·intro d hd;cases hd
  ·simp [nval,Nat.mod_one]
 case round=>
  obtain ⟨k,cN,L,hk,rfl,rfl,hcN,hLk,hown,hne,hok,hval,hb⟩:=hrel
  by_cases hlt:k<len
  ·have hcx:wr.cell? ⟨g,k,none⟩=some (.int .i64 ((dig n).getD k 0)):=(hb.cell (by exact h4)).trans (h5 k (by omega))
   rw [jT] at hcx
   generalize hdd:n/10000^k%10000=d at *
   have hd1:d<10000:=by omega
   have Hval:=hide hval
   have Hdd:=hide hdd
   have HLk:=hide hLk
   have hdm:d*m<=99990000:=by have:=Nat.mul_le_mul (show d<=9999 by omega) hm;omega
   have hdm1:(0:Int)<=(d:Int)*(m:Int):=by rw [<-Int.natCast_mul];omega
   have hdm2:(d:Int)*(m:Int)<=99990000:=by rw [<-Int.natCast_mul];omega
   have hbs:=hb.size
   have Hdm:=hide hdm
   clear hval hdd hLk hdm
   go_wp2_with (first
    |(at_builtin;refine wpList_append_own _ rfl _ _ 41 rfl w.heap.size 3 i0 (.int .i64 0) 1 8 Tryz.underlying41 hi hz0 hz1 hz2 rfl (by decide) _ _ _ rfl (hown.alloc _) ⟨wr.heap.size,0,none⟩ 1 1 [.int .i64 (((cN:Int)+d*m)%10000)] rfl rfl ?c1 ?c2 ?c3 ?c4 ?c5 ?_)
    |go_in)
   case c1=>
    intro j u hj
    match j,hj with
    |0,hj=>simp at hj;subst hj;simp [Addr.add]
   case c2=>intro u hu;simp at hu;subst hu;rfl
   case c3=>have:=HLk.out;unfold maxLen;omega
   case c4=>have:=HLk.out;omega
   case c5=>simp;omega
   intro v' w1 hown' hgrow hnn
   have R:w1.ownsRow w.heap.size 3 1 v' (L++[(((cN+d*m)%10000:Nat):Int)]).length ((L++[(((cN+d*m)%10000:Nat):Int)]).map (Value.int .i64))/\v'≠ .slice none 0 0/\Below w.heap.size w w1:=
    ⟨by simpa using hown',fun h=>hnn h,(hb.alloc hbs _).grown hgrow (by simp;omega) (fun q hq=>(hown.lt q hq).1)⟩
   have S:=hide (AB HLk.out Hdd.out Hval.out)
   clear hown' hgrow hnn hown hcx Hval
   go_wp2
   go_roundw
   case rel=>exact ⟨k+1,(cN+d*m)/10000,L++[(((cN+d*m)%10000:Nat):Int)],by omega,by go_num,by go_num,by have:=Hdm.out;omega,by have:=HLk.out;simp;omega,R.1,R.2.1,jM hok (by omega) (by omega),S.out,R.2.2⟩
   case measure=>simp [intOf];omega
  ·have hkl:k=len:=by omega
   subst hkl
   have hN:nval L+10000^L.length*cN=n*m+c0:=by rw [hLk,hval,<-Hlen.out,Ch]
   generalize hNN:n*m+c0=N at *
   have HNN:=hide hNN
   have HN:=hide hN
   have HLk:=hide hLk
   clear hval hN hLk h5 hNN
   go_wp2
   go_loopw [2,7] (fun c o wq=>∃ (cN:Nat) (L:List Int),c=.int .i64 cN/\L.length+cN<=k+100000000/\wq.ownsRow w.heap.size 3 1 o L.length (L.map (Value.int .i64))/\o≠ .slice none 0 0/\
    Ei L/\nval L+10000^L.length*cN=N/\Below w.heap.size w wq) (fun c _ _=>(intOf c).toNat)
   case atStart=>exact ⟨cN,L,rfl,by have:=HLk.out;omega,hown,hne,hok,HN.out,hb⟩
   case round=>
    clear hown hne hok HN hb HLk hk hcN
    obtain ⟨cM,M,rfl,hcM,hown,hne,hok,hval,hb⟩:=hrel
    have Hval:=hide hval
    have hbs:=hb.size
    clear hval
    by_cases hc:0<cM
    ·go_wp2_with (first
      |(at_builtin;refine wpList_append_own _ rfl _ _ 41 rfl w.heap.size 3 i0 (.int .i64 0) 1 8 Tryz.underlying41 hi hz0 hz1 hz2 rfl (by decide) _ _ _ rfl (hown.alloc _) ⟨wr.heap.size,0,none⟩ 1 1 [.int .i64 ((cM:Int)%10000)] rfl rfl ?d1 ?d2 ?d3 ?d4 ?d5 ?_)
      |go_in)
     case d1=>
      intro j u hj
      match j,hj with
      |0,hj=>simp at hj;subst hj;simp [Addr.add]
     case d2=>intro u hu;simp at hu;subst hu;rfl
     case d3=>unfold maxLen;omega
     case d4=>omega
     case d5=>simp;omega
     intro v' w1 hown' hgrow hnn
     have R:w1.ownsRow w.heap.size 3 1 v' (M++[((cM%10000:Nat):Int)]).length ((M++[((cM%10000:Nat):Int)]).map (Value.int .i64))/\v'≠ .slice none 0 0/\Below w.heap.size w w1:=
      ⟨by simpa using hown',fun h=>hnn h,(hb.alloc hbs _).grown hgrow (by simp;omega) (fun q hq=>(hown.lt q hq).1)⟩
     have S:=hide (Ae rfl Hval.out)
     clear hown' hgrow hnn hown Hval
     go_wp2
     go_roundw
     case rel=>exact ⟨cM/10000,M++[((cM%10000:Nat):Int)],by go_num,by simp;omega,R.1,R.2.1,jM hok (by omega) (by omega),by simpa using S.out,R.2.2⟩
     case measure=>simp [intOf];omega
    ·have hcz:cM=0:=by omega
     subst hcz
     have hbig:=iD hown hne
     have hvv:nval M=N:=by simpa using Hval.out
     have Hvv:=hide hvv
     clear hvv Hval
     go_wp2_with (go_at_call 135;refine (om M _ _ hbig (by omega) hok).mono ?_;rintro e w' ⟨v',rfl,hbig',rfl⟩)
     go_ret
     exact ⟨_,rfl,by rw [HNN.out,<-Hvv.out];exact hbig',hb⟩
end Go.Proofs.YtjibjahfbblieaaGreatDoor.F
namespace Go.Proofs.YtjibjahfbblieaaGreatDoor.F
open Go Go.RowKit
set_option linter.unusedVariables false
theorem made_ints (n:Nat):(madeCells (Value.int .i64 0).cells (n*1)).toList=(List.replicate n (0:Int)).map (Value.int .i64):=by
 show (madeCells #[.int .i64 0] (n*1)).toList=_
 rw [toList_madeCells_one];simp
set_option maxHeartbeats 800000 in
set_option maxRecDepth 100000 in
theorem kW (n:Nat) (v:Value) (w:World) (h:Big w v (dig n)) (hl:(dig n).length<=100000000):
 Calls Tryz.prog 137 #[v] w fun e w'=>∃ v',e=.returned v'/\Big w' v' (dig (n/2))/\Below w.heap.size w w':=by
 obtain ⟨g,cap,rfl,h2,h3,h4,h5⟩:=h
 unfold maxLen at h3
 obtain ⟨i0,hi,hz0,hz1,hz2⟩:=info_parts Tryz.info3
 have Hn:=hide (Nat.div_eq_of_lt (dR n))
 have Hlt:=hide (dR n)
 generalize (dig n).length=len at *
 go_enter Tryz.func137,Tryz.ntmps137
 go_wp2_with (first
  |(at_make;refine wpList_make_full _ rfl _ _ 41 rfl w.heap.size 3 i0 (.int .i64 0) 1 Tryz.underlying41 hi hz0 hz1 _ _ _ _ len rfl rfl rfl rfl (by rw [hz2];omega) (by unfold maxLen;omega) (Nat.le_refl _) ?_;intro w1 hown hgrow)
  |go_in)
 have hb1:Below w.heap.size w w1:=(Below.refl _ _).grown hgrow (Nat.le_refl _) (fun _ h=>by cases h)
 rw [made_ints,<-vg n] at hown
 clear hgrow
 go_wp2
 go_loopw [4,5] (fun c i wr=>∃ j:Nat,j<=len/\i=.int .i64 ((j:Int)-1)/\c=.int .i64 ((n/10000^j%2:Nat):Int)/\
  wr.ownsRow w.heap.size 3 1 (.slice (some ⟨w.heap.size,0,none⟩) len len) len ((fV n len j).map (Value.int .i64))/\Below w.heap.size w wr) (fun _ i _=>(intOf i+1).toNat)
 case atStart=>exact ⟨len,Nat.le_refl _,rfl,by rw [Hn.out];rfl,hown,hb1⟩
 case round=>
  clear hown hb1
  obtain ⟨j,hj,rfl,rfl,hown,hb⟩:=hrel
  cases j with
  |zero=>
   have hbig:=iD (L:=fV n len 0) (by rw [mE];exact hown) (fun h=>by cases h)
   rw [Bo] at hbig
   go_wp2_with (go_at_call 135;refine (om (qh (n/2) len) _ _ hbig (by rw [pI];omega) (LA _ _)).mono ?_;rintro e w' ⟨v',rfl,hbig',rfl⟩)
   go_ret
   refine ⟨_,rfl,?_,hb⟩
   rw [DN,Nat.mod_eq_of_lt (by have:=Hlt.out;omega)] at hbig'
   exact hbig'
  |succ k=>
   have hcx:wr.cell? ⟨g,k,none⟩=some (.int .i64 ((dig n).getD k 0)):=(hb.cell (by exact h4)).trans (h5 k (by omega))
   rw [jT] at hcx
   have hfr:=hown.frozenAt k
   have hx:=hown.stored k (.int .i64 ((n/2/10000^k%10000:Nat):Int))
   have Hd:=hide (AJ n k)
   have Hc:=hide (BH n k)
   have hd1:n/10000^k%10000<10000:=by omega
   have hd2:n/10000^(k+1)%2<2:=by omega
   generalize n/10000^k%10000=d at *
   generalize n/10000^(k+1)%2=c at *
   obtain ⟨u,hu⟩:∃ u,wr.cell? ⟨w.heap.size,k,none⟩=some u:=by
    rw [hown.cellAt k (by omega),List.getElem?_map,List.getElem?_eq_getElem (by rw [mE];omega)];exact ⟨_,rfl⟩
   have R:(wr.setCell ⟨w.heap.size,k,none⟩ (.int .i64 (((c*10000+d)/2:Nat):Int))).ownsRow w.heap.size 3 1 (.slice (some ⟨w.heap.size,0,none⟩) len len) len ((fV n len k).map (Value.int .i64))/\
    Below w.heap.size w (wr.setCell ⟨w.heap.size,k,none⟩ (.int .i64 (((c*10000+d)/2:Nat):Int))):=by
    rw [Hd.out,<-zC n len k,List.map_set]
    exact ⟨hx.1,hb.setCell (Nat.le_refl _) _⟩
   clear hown hx Hd
   go_wp2
   go_roundw
   case rel=>exact ⟨k,by omega,rfl,by rw [<-Hc.out];rfl,R.1,R.2⟩
   case measure=>simp [intOf]
end Go.Proofs.YtjibjahfbblieaaGreatDoor.F
