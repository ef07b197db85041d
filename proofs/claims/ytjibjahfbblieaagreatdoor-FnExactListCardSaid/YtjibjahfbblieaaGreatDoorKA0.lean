import Derived.Test.YtjibjahfbblieaaGreatDoorKP1A4
import Derived.Test.YtjibjahfbblieaaGreatDoorRows
import Derived.LaidSub
import Derived.WalkKit
import Derived.ProofKit
import Derived.OpenShut
import Derived.Deep.DeepHandedRow
import Derived.ChangeMaps5
import Derived.Carry
import Derived.ChangeOld
import Derived.Lib.SmallJoins
import Derived.ChangeSlices
namespace Go.Proofs.YtjibjahfbblieaaGreatDoor
open Go Go.RowKit
set_option linter.unusedVariables false
def mq (w:World) (v:Value) (n:Nat) (x0:Nat->Bool) (x1:Nat->Int):Prop:=
 (n=0/\∃ a cap,v=.slice a 0 cap)∨∃ b o cap,v=.slice (some ⟨b,o,none⟩) n cap/\b<w.heap.size/\n<=cap/\∀ i,i<n->w.cell? ⟨b,o+i*2,none⟩=some (.bool (x0 i))/\w.cell? ⟨b,o+i*2+1,none⟩=some (.int .i64 (x1 i))
theorem mq.low {w w':World} {v:Value} {n B:Nat} {x0:Nat->Bool} {x1:Nat->Int} (h:mq w v n x0 x1) (hb:Below B w w') (hB:w.heap.size<=B):mq w' v n x0 x1:=by
 rcases h with h|⟨b,o,cap,rfl,hbB,hcap,hc⟩
 ·exact .inl h
 ·refine .inr ⟨b,o,cap,rfl,Nat.lt_of_lt_of_le hbB hb.size,hcap,fun i hi=>?_⟩
  have hc:=hc i hi
  exact ⟨(hb.cell (p:=⟨b,o+i*2,none⟩) (Nat.lt_of_lt_of_le hbB hB)).trans hc.1,(hb.cell (p:=⟨b,o+i*2+1,none⟩) (Nat.lt_of_lt_of_le hbB hB)).trans hc.2⟩
theorem mq.val {w:World} {v:Value} {n:Nat} {x0:Nat->Bool} {x1:Nat->Int} (h:mq w v n x0 x1):∃ a cap,v=.slice a n cap:=by
 rcases h with ⟨rfl,a,cap,rfl⟩|⟨b,o,cap,rfl,_⟩
 ·exact ⟨a,cap,rfl⟩
 ·exact ⟨_,cap,rfl⟩
def ql (w:World) (g n:Nat) (x0:Nat->Bool) (x1:Nat->Int):Prop:=∃ f,ah w 83 g (n*2) f/\∀ i,i<n->f (i*2)=(.bool (x0 i))/\f (i*2+1)=(.int .i64 (x1 i))
theorem ql.by {w:World} {g n:Nat} {x0:Nat->Bool} {x1:Nat->Int} (h:ql w g n x0 x1):mq w (.slice (some ⟨g,0,none⟩) n n) n x0 x1:=by
 obtain ⟨f,h1,h2⟩:=h
 refine .inr ⟨g,0,n,rfl,h1.lt,Nat.le_refl _,fun i hi=>?_⟩
 have h2:=h2 i hi
 rw [Nat.zero_add,h1.cell (j:=i*2) (by omega),h2.1,h1.cell (j:=i*2+1) (by omega),h2.2]
 exact ⟨rfl,rfl⟩
theorem ql.low {w w':World} {g n B:Nat} {x0:Nat->Bool} {x1:Nat->Int} (h:ql w g n x0 x1) (hb:Below B w w') (hg:g<B):ql w' g n x0 x1:=by
 obtain ⟨f,h1,h2⟩:=h
 exact ⟨f,h1.low hb hg,h2⟩
theorem ql.other {w:World} {g g' j n:Nat} {x0:Nat->Bool} {x1:Nat->Int} {x:Value} (h:ql w g n x0 x1) (hn:g≠g'):ql (w.setCell ⟨g',j,none⟩ x) g n x0 x1:=by
 obtain ⟨f,h1,h2⟩:=h
 exact ⟨f,h1.other hn,h2⟩
theorem ql.lt {w:World} {g n:Nat} {x0:Nat->Bool} {x1:Nat->Int} (h:ql w g n x0 x1):g<w.heap.size:=by
 obtain ⟨f,h1,h2⟩:=h
 exact h1.lt
theorem Tryz.info83:(Tryz.prog.info? 83).map (fun i=>(i.zero,i.size,i.bytes))=some (some (.agg #[.bool false,.int .i64 0]),2,16):=by kernel_rfl
set_option maxHeartbeats 800000 in
set_option maxRecDepth 100000 in
theorem Ju (p0:Bool) (p1:Int) (w:World):
 Calls Tryz.prog 85 #[.agg #[.bool (p0),.int .i64 (p1)]] w fun e w'=>e=.returned (.agg #[.bool (p0),.int .i64 (p1)])/\Below w.heap.size w w':=by
 go_enter Tryz.func85,Tryz.ntmps85
 go_wp2
 refine bodyPost_ret (v:=.agg #[.bool (p0),.int .i64 (p1)]) ?_ rfl ⟨rfl,OT _ _ _ _⟩
 simp [results,Tryz.results85,go_sem]
set_option maxHeartbeats 800000 in
set_option maxRecDepth 100000 in
theorem JY (p0:Bool) (p1:Int) (w:World):
 Calls Tryz.prog 99 #[.agg #[.bool (p0),.int .i64 (p1)],.agg #[.bool (p0),.int .i64 (p1)]] w fun e w'=>e=.returned (.bool true)/\Below w.heap.size w w':=by
 go_enter Tryz.func99,Tryz.ntmps99
 go_wp2
 go_ret
 exact ⟨rfl,zU _ _ _⟩
theorem F5 {n i:Nat} {f:Nat->Value} {x0:Nat->Bool} {x1:Nat->Int} (h:∀ k,k<i->f (k*2)=(.bool (x0 k))/\f (k*2+1)=(.int .i64 (x1 k))):∀ k,k<i+1->(fun j=>if j=i*2+1 then (.int .i64 (x1 i)) else if j=i*2 then (.bool (x0 i)) else f j) (k*2)=(.bool (x0 k))/\(fun j=>if j=i*2+1 then (.int .i64 (x1 i)) else if j=i*2 then (.bool (x0 i)) else f j) (k*2+1)=(.int .i64 (x1 k)):=by
 intro k hk
 by_cases e:k=i
 ·subst e
  simp
 ·have:=h k (by omega)
  exact ⟨(if_neg (by omega)).trans ((if_neg (by omega)).trans (this.1)),(if_neg (by omega)).trans ((if_neg (by omega)).trans (this.2))⟩
set_option maxHeartbeats 800000 in
set_option maxRecDepth 100000 in
theorem FY (v:Value) (n:Nat) (x0:Nat->Bool) (x1:Nat->Int) (w:World) (hn:n<=1048576) (h:mq w v n x0 x1):
 Calls Tryz.prog 57 #[v] w fun e w'=>e=.returned (.slice (some ⟨w.heap.size,0,none⟩) n n)/\ql w' w.heap.size n x0 x1/\Below w.heap.size w w':=by
 obtain ⟨i0,hi,hz0,hz1,hz2⟩:=info_parts Tryz.info83
 rcases h with ⟨rfl,a,cap,rfl⟩|⟨b,o,cap,rfl,hb,hcap,hc⟩
 ·go_enter Tryz.func57,Tryz.ntmps57
  go_wp2_with (first
   |(at_make;refine wpList_make_full _ rfl _ _ 38 rfl w.heap.size 83 i0 (.agg #[.bool false,.int .i64 0]) 2 Tryz.underlying38 hi hz0 hz1 _ _ _ _ 0 rfl rfl rfl rfl (by rw [hz2];omega) (by unfold maxLen;omega) (Nat.le_refl _) ?_;intro w1 hown hgrow)
   |go_in)
  have hb1:Below w.heap.size w w1:=(Below.refl _ _).grown hgrow (Nat.le_refl _) (fun _ h=>by cases h)
  have HO:=hide (bQ hown)
  clear hgrow hown
  go_wp2
  go_loopw [4] (fun iv wr=>iv=.int .i64 0/\wr=w1) (fun _ _=>0)
  case atStart=>exact ⟨rfl,rfl⟩
  case round=>
   obtain ⟨rfl,rfl⟩:=hrel
   go_wp2
   go_ret
   exact ⟨rfl,⟨_,HO.out,fun i hi=>by omega⟩,hb1⟩
 ·have HC:=hide hc
  clear hc
  go_enter Tryz.func57,Tryz.ntmps57
  go_wp2_with (first
   |(at_make;refine wpList_make_full _ rfl _ _ 38 rfl w.heap.size 83 i0 (.agg #[.bool false,.int .i64 0]) 2 Tryz.underlying38 hi hz0 hz1 _ _ _ _ n rfl rfl rfl rfl (by rw [hz2];omega) (by unfold maxLen;omega) (Nat.le_refl _) ?_;intro w1 hown hgrow)
   |go_in)
  have hb1:Below w.heap.size w w1:=(Below.refl _ _).grown hgrow (Nat.le_refl _) (fun _ h=>by cases h)
  have HO:=hide (bQ hown)
  clear hgrow hown
  go_wp2
  go_loopw [4] (fun iv wr=>∃ i:Nat,i<=n/\iv=.int .i64 i/\(∃ f,ah wr 83 w.heap.size (n*2) f/\∀ k,k<i->f (k*2)=(.bool (x0 k))/\f (k*2+1)=(.int .i64 (x1 k)))/\Below w.heap.size w wr) (fun iv _=>match iv with | .int _ x=>n-x.toNat|_=>0)
  case atStart=>exact ⟨0,by omega,rfl,⟨_,HO.out,fun k hk=>by omega⟩,hb1⟩
  case round=>
   clear HO hb1
   obtain ⟨i,hi9,rfl,⟨f,hF,hf⟩,hbw⟩:=hrel
   by_cases hin:i<n
   ·have c0:=(hbw.cell (p:=⟨b,o+i*2,none⟩) (by assumption)).trans (HC.out i hin).1
    have c1:=(hbw.cell (p:=⟨b,o+i*2+1,none⟩) (by assumption)).trans (HC.out i hin).2
    go_wp2_with fail
    refine (Ju (x0 i) (x1 i) wr).mono ?_
    rintro e w2 ⟨rfl,hb2⟩
    have hbw2:=hbw.trans (hb2.mono hbw.size)
    have hF2:=hF.low hb2 hF.lt
    clear c0 c1 hb2 hF hbw
    have d0:=hF2.cell (j:=i*2) (by omega)
    have z0:=hF2.frz (i*2)
    have d1:=hF2.cell (j:=i*2+1) (by omega)
    have z1:=hF2.frz (i*2+1)
    have HF:=hide hf
    have HR:=hide ((hF2.set (j:=i*2) (by omega) (.bool (x0 i))).set (j:=i*2+1) (by omega) (.int .i64 (x1 i)))
    have HB:=hide ((hbw2.setCell (p:=⟨w.heap.size,i*2,none⟩) (Nat.le_refl _) (.bool (x0 i))).setCell (p:=⟨w.heap.size,i*2+1,none⟩) (Nat.le_refl _) (.int .i64 (x1 i)))
    clear hf hF2 hbw2
    go_wp2
    go_roundw
    case rel=>exact ⟨i+1,by omega,by simp,⟨_,HR.out,F5 (n:=n) HF.out⟩,HB.out⟩
    case measure=>simp;omega
   ·obtain rfl:i=n:=by omega
    have HO:=hide hF
    have HF:=hide hf
    clear hF hf
    go_wp2
    go_ret
    exact ⟨rfl,⟨f,HO.out,HF.out⟩,hbw⟩
set_option maxHeartbeats 800000 in
set_option maxRecDepth 100000 in
theorem Em (v v':Value) (n:Nat) (x0:Nat->Bool) (x1:Nat->Int) (w:World) (hn:n<=1048576) (h:mq w v n x0 x1) (h':mq w v' n x0 x1):
 Calls Tryz.prog 78 #[v,v'] w fun e w'=>e=.returned (.bool true)/\Below w.heap.size w w':=by
 by_cases h0:n=0
 ·subst h0
  obtain ⟨a,cap,rfl⟩:=h.val
  obtain ⟨a',cap',rfl⟩:=h'.val
  clear h h'
  go_enter Tryz.func78,Tryz.ntmps78
  go_wp2
  go_loopw [5] (fun iv wr=>iv=.int .i64 0/\wr=w) (fun _ _=>0)
  case atStart=>exact ⟨rfl,rfl⟩
  case round=>
   obtain ⟨rfl,rfl⟩:=hrel
   go_wp2
   go_ret
   exact ⟨rfl,Below.refl _ _⟩
 ·rcases h with ⟨h9,_⟩|⟨b,o,cap,rfl,hb,hcap,hc⟩
  ·exact absurd h9 h0
  rcases h' with ⟨h9,_⟩|⟨b',o',cap',rfl,hb',hcap',hc'⟩
  ·exact absurd h9 h0
  have HC:=hide hc
  have HC':=hide hc'
  clear hc hc'
  go_enter Tryz.func78,Tryz.ntmps78
  go_wp2
  go_loopw [5] (fun iv wr=>∃ i:Nat,i<=n/\iv=.int .i64 i/\Below w.heap.size w wr) (fun iv _=>match iv with | .int _ x=>n-x.toNat|_=>0)
  case atStart=>exact ⟨0,by omega,rfl,Below.refl _ _⟩
  case round=>
   obtain ⟨i,hi9,rfl,hbw⟩:=hrel
   by_cases hin:i<n
   ·have c0:=(hbw.cell (p:=⟨b,o+i*2,none⟩) (by assumption)).trans (HC.out i hin).1
    have c1:=(hbw.cell (p:=⟨b,o+i*2+1,none⟩) (by assumption)).trans (HC.out i hin).2
    have e0:=(hbw.cell (p:=⟨b',o'+i*2,none⟩) (by assumption)).trans (HC'.out i hin).1
    have e1:=(hbw.cell (p:=⟨b',o'+i*2+1,none⟩) (by assumption)).trans (HC'.out i hin).2
    have hlb:b<wr.heap.size:=Nat.lt_of_lt_of_le hb hbw.size
    have hlb':b'<wr.heap.size:=Nat.lt_of_lt_of_le hb' hbw.size
    have HB:=hide hbw
    clear hbw
    go_wp2_with fail
    go_region_held3 (fun w9=>(w9.cell? ⟨b,o+i*2,none⟩=some (.bool (x0 i))/\w9.cell? ⟨b,o+i*2+1,none⟩=some (.int .i64 (x1 i)))/\w9.cell? ⟨b',o'+i*2,none⟩=some (.bool (x0 i))/\w9.cell? ⟨b',o'+i*2+1,none⟩=some (.int .i64 (x1 i))) (go_keep)
     (first |(go_at_call 99;refine (JY (x0 i) (x1 i) _).mono ?_;rintro e w2 ⟨rfl,hb2⟩;have q0:=(hb2.cell (p:=⟨b,o+i*2,none⟩) hlb).trans c0;have r0:=(hb2.cell (p:=⟨b',o'+i*2,none⟩) hlb').trans e0;have q1:=(hb2.cell (p:=⟨b,o+i*2+1,none⟩) hlb).trans c1;have r1:=(hb2.cell (p:=⟨b',o'+i*2+1,none⟩) hlb').trans e1;have HB2:=hide hb2;clear hb2))
    have HB3:=hide (HB.out.drew.trans (HB2.out.mono HB.out.size))
    rename_i hh
    clear hh c0 e0 q0 r0 c1 e1 q1 r1
    go_wp2
    go_roundw
    case rel=>exact ⟨i+1,by omega,by simp,HB3.out⟩
    case measure=>simp;omega
   ·obtain rfl:i=n:=by omega
    go_wp2
    go_ret
    exact ⟨rfl,hbw⟩
def gD (w:World) (v:Value) (n:Nat) (x0:Nat->Int) (x1:Nat->Int) (x2:Nat->Int) (x3:Nat->ByteArray):Prop:=
 (n=0/\∃ a cap,v=.slice a 0 cap)∨∃ b o cap,v=.slice (some ⟨b,o,none⟩) n cap/\b<w.heap.size/\n<=cap/\∀ i,i<n->w.cell? ⟨b,o+i*4,none⟩=some (.int .i64 (x0 i))/\w.cell? ⟨b,o+i*4+1,none⟩=some (.int .i64 (x1 i))/\w.cell? ⟨b,o+i*4+2,none⟩=some (.int .u64 (x2 i))/\w.cell? ⟨b,o+i*4+3,none⟩=some (.string (x3 i))
theorem gD.low {w w':World} {v:Value} {n B:Nat} {x0:Nat->Int} {x1:Nat->Int} {x2:Nat->Int} {x3:Nat->ByteArray} (h:gD w v n x0 x1 x2 x3) (hb:Below B w w') (hB:w.heap.size<=B):gD w' v n x0 x1 x2 x3:=by
 rcases h with h|⟨b,o,cap,rfl,hbB,hcap,hc⟩
 ·exact .inl h
 ·refine .inr ⟨b,o,cap,rfl,Nat.lt_of_lt_of_le hbB hb.size,hcap,fun i hi=>?_⟩
  have hc:=hc i hi
  exact ⟨(hb.cell (p:=⟨b,o+i*4,none⟩) (Nat.lt_of_lt_of_le hbB hB)).trans hc.1,(hb.cell (p:=⟨b,o+i*4+1,none⟩) (Nat.lt_of_lt_of_le hbB hB)).trans hc.2.1,(hb.cell (p:=⟨b,o+i*4+2,none⟩) (Nat.lt_of_lt_of_le hbB hB)).trans hc.2.2.1,(hb.cell (p:=⟨b,o+i*4+3,none⟩) (Nat.lt_of_lt_of_le hbB hB)).trans hc.2.2.2⟩
theorem gD.val {w:World} {v:Value} {n:Nat} {x0:Nat->Int} {x1:Nat->Int} {x2:Nat->Int} {x3:Nat->ByteArray} (h:gD w v n x0 x1 x2 x3):∃ a cap,v=.slice a n cap:=by
 rcases h with ⟨rfl,a,cap,rfl⟩|⟨b,o,cap,rfl,_⟩
 ·exact ⟨a,cap,rfl⟩
 ·exact ⟨_,cap,rfl⟩
def kH (w:World) (g n:Nat) (x0:Nat->Int) (x1:Nat->Int) (x2:Nat->Int) (x3:Nat->ByteArray):Prop:=∃ f,ah w 86 g (n*4) f/\∀ i,i<n->f (i*4)=(.int .i64 (x0 i))/\f (i*4+1)=(.int .i64 (x1 i))/\f (i*4+2)=(.int .u64 (x2 i))/\f (i*4+3)=(.string (x3 i))
theorem kH.by {w:World} {g n:Nat} {x0:Nat->Int} {x1:Nat->Int} {x2:Nat->Int} {x3:Nat->ByteArray} (h:kH w g n x0 x1 x2 x3):gD w (.slice (some ⟨g,0,none⟩) n n) n x0 x1 x2 x3:=by
 obtain ⟨f,h1,h2⟩:=h
 refine .inr ⟨g,0,n,rfl,h1.lt,Nat.le_refl _,fun i hi=>?_⟩
 have h2:=h2 i hi
 rw [Nat.zero_add,h1.cell (j:=i*4) (by omega),h2.1,h1.cell (j:=i*4+1) (by omega),h2.2.1,h1.cell (j:=i*4+2) (by omega),h2.2.2.1,h1.cell (j:=i*4+3) (by omega),h2.2.2.2]
 exact ⟨rfl,rfl,rfl,rfl⟩
theorem kH.low {w w':World} {g n B:Nat} {x0:Nat->Int} {x1:Nat->Int} {x2:Nat->Int} {x3:Nat->ByteArray} (h:kH w g n x0 x1 x2 x3) (hb:Below B w w') (hg:g<B):kH w' g n x0 x1 x2 x3:=by
 obtain ⟨f,h1,h2⟩:=h
 exact ⟨f,h1.low hb hg,h2⟩
theorem kH.other {w:World} {g g' j n:Nat} {x0:Nat->Int} {x1:Nat->Int} {x2:Nat->Int} {x3:Nat->ByteArray} {x:Value} (h:kH w g n x0 x1 x2 x3) (hn:g≠g'):kH (w.setCell ⟨g',j,none⟩ x) g n x0 x1 x2 x3:=by
 obtain ⟨f,h1,h2⟩:=h
 exact ⟨f,h1.other hn,h2⟩
theorem kH.lt {w:World} {g n:Nat} {x0:Nat->Int} {x1:Nat->Int} {x2:Nat->Int} {x3:Nat->ByteArray} (h:kH w g n x0 x1 x2 x3):g<w.heap.size:=by
 obtain ⟨f,h1,h2⟩:=h
 exact h1.lt
theorem Tryz.info86:(Tryz.prog.info? 86).map (fun i=>(i.zero,i.size,i.bytes))=some (some (.agg #[.int .i64 0,.int .i64 0,.int .u64 0,.string ByteArray.empty]),4,40):=by kernel_rfl
set_option maxHeartbeats 800000 in
set_option maxRecDepth 100000 in
theorem yY (p0:Int) (p1:Int) (p2:Int) (p3:ByteArray) (w:World):
 Calls Tryz.prog 86 #[.agg #[.int .i64 (p0),.int .i64 (p1),.int .u64 (p2),.string (p3)]] w fun e w'=>e=.returned (.agg #[.int .i64 (p0),.int .i64 (p1),.int .u64 (p2),.string (p3)])/\Below w.heap.size w w':=by
 go_enter Tryz.func86,Tryz.ntmps86
 go_wp2
 refine bodyPost_ret (v:=.agg #[.int .i64 (p0),.int .i64 (p1),.int .u64 (p2),.string (p3)]) ?_ rfl ⟨rfl,OT _ _ _ _⟩
 simp [results,Tryz.results86,go_sem]
set_option maxHeartbeats 800000 in
set_option maxRecDepth 100000 in
theorem xD (p0:Int) (p1:Int) (p2:Int) (p3:ByteArray) (w:World):
 Calls Tryz.prog 100 #[.agg #[.int .i64 (p0),.int .i64 (p1),.int .u64 (p2),.string (p3)],.agg #[.int .i64 (p0),.int .i64 (p1),.int .u64 (p2),.string (p3)]] w fun e w'=>e=.returned (.bool true)/\Below w.heap.size w w':=by
 go_enter Tryz.func100,Tryz.ntmps100
 go_wp2
 go_ret
 exact ⟨rfl,zU _ _ _⟩
theorem Ed {n i:Nat} {f:Nat->Value} {x0:Nat->Int} {x1:Nat->Int} {x2:Nat->Int} {x3:Nat->ByteArray} (h:∀ k,k<i->f (k*4)=(.int .i64 (x0 k))/\f (k*4+1)=(.int .i64 (x1 k))/\f (k*4+2)=(.int .u64 (x2 k))/\f (k*4+3)=(.string (x3 k))):∀ k,k<i+1->(fun j=>if j=i*4+3 then (.string (x3 i)) else if j=i*4+2 then (.int .u64 (x2 i)) else if j=i*4+1 then (.int .i64 (x1 i)) else if j=i*4 then (.int .i64 (x0 i)) else f j) (k*4)=(.int .i64 (x0 k))/\(fun j=>if j=i*4+3 then (.string (x3 i)) else if j=i*4+2 then (.int .u64 (x2 i)) else if j=i*4+1 then (.int .i64 (x1 i)) else if j=i*4 then (.int .i64 (x0 i)) else f j) (k*4+1)=(.int .i64 (x1 k))/\(fun j=>if j=i*4+3 then (.string (x3 i)) else if j=i*4+2 then (.int .u64 (x2 i)) else if j=i*4+1 then (.int .i64 (x1 i)) else if j=i*4 then (.int .i64 (x0 i)) else f j) (k*4+2)=(.int .u64 (x2 k))/\(fun j=>if j=i*4+3 then (.string (x3 i)) else if j=i*4+2 then (.int .u64 (x2 i)) else if j=i*4+1 then (.int .i64 (x1 i)) else if j=i*4 then (.int .i64 (x0 i)) else f j) (k*4+3)=(.string (x3 k)):=by
 intro k hk
 by_cases e:k=i
 ·subst e
  simp
 ·have:=h k (by omega)
  exact ⟨(if_neg (by omega)).trans ((if_neg (by omega)).trans ((if_neg (by omega)).trans ((if_neg (by omega)).trans (this.1)))),(if_neg (by omega)).trans ((if_neg (by omega)).trans ((if_neg (by omega)).trans ((if_neg (by omega)).trans (this.2.1)))),(if_neg (by omega)).trans ((if_neg (by omega)).trans ((if_neg (by omega)).trans ((if_neg (by omega)).trans (this.2.2.1)))),(if_neg (by omega)).trans ((if_neg (by omega)).trans ((if_neg (by omega)).trans ((if_neg (by omega)).trans (this.2.2.2))))⟩
set_option maxHeartbeats 800000 in
set_option maxRecDepth 100000 in
theorem wm (v:Value) (n:Nat) (x0:Nat->Int) (x1:Nat->Int) (x2:Nat->Int) (x3:Nat->ByteArray) (w:World) (hn:n<=1048576) (h:gD w v n x0 x1 x2 x3):
 Calls Tryz.prog 58 #[v] w fun e w'=>e=.returned (.slice (some ⟨w.heap.size,0,none⟩) n n)/\kH w' w.heap.size n x0 x1 x2 x3/\Below w.heap.size w w':=by
 obtain ⟨i0,hi,hz0,hz1,hz2⟩:=info_parts Tryz.info86
 rcases h with ⟨rfl,a,cap,rfl⟩|⟨b,o,cap,rfl,hb,hcap,hc⟩
 ·go_enter Tryz.func58,Tryz.ntmps58
  go_wp2_with (first
   |(at_make;refine wpList_make_full _ rfl _ _ 39 rfl w.heap.size 86 i0 (.agg #[.int .i64 0,.int .i64 0,.int .u64 0,.string ByteArray.empty]) 4 Tryz.underlying39 hi hz0 hz1 _ _ _ _ 0 rfl rfl rfl rfl (by rw [hz2];omega) (by unfold maxLen;omega) (Nat.le_refl _) ?_;intro w1 hown hgrow)
   |go_in)
  have hb1:Below w.heap.size w w1:=(Below.refl _ _).grown hgrow (Nat.le_refl _) (fun _ h=>by cases h)
  have HO:=hide (bQ hown)
  clear hgrow hown
  go_wp2
  go_loopw [4] (fun iv wr=>iv=.int .i64 0/\wr=w1) (fun _ _=>0)
  case atStart=>exact ⟨rfl,rfl⟩
  case round=>
   obtain ⟨rfl,rfl⟩:=hrel
   go_wp2
   go_ret
   exact ⟨rfl,⟨_,HO.out,fun i hi=>by omega⟩,hb1⟩
 ·have HC:=hide hc
  clear hc
  go_enter Tryz.func58,Tryz.ntmps58
  go_wp2_with (first
   |(at_make;refine wpList_make_full _ rfl _ _ 39 rfl w.heap.size 86 i0 (.agg #[.int .i64 0,.int .i64 0,.int .u64 0,.string ByteArray.empty]) 4 Tryz.underlying39 hi hz0 hz1 _ _ _ _ n rfl rfl rfl rfl (by rw [hz2];omega) (by unfold maxLen;omega) (Nat.le_refl _) ?_;intro w1 hown hgrow)
   |go_in)
  have hb1:Below w.heap.size w w1:=(Below.refl _ _).grown hgrow (Nat.le_refl _) (fun _ h=>by cases h)
  have HO:=hide (bQ hown)
  clear hgrow hown
  go_wp2
  go_loopw [4] (fun iv wr=>∃ i:Nat,i<=n/\iv=.int .i64 i/\(∃ f,ah wr 86 w.heap.size (n*4) f/\∀ k,k<i->f (k*4)=(.int .i64 (x0 k))/\f (k*4+1)=(.int .i64 (x1 k))/\f (k*4+2)=(.int .u64 (x2 k))/\f (k*4+3)=(.string (x3 k)))/\Below w.heap.size w wr) (fun iv _=>match iv with | .int _ x=>n-x.toNat|_=>0)
  case atStart=>exact ⟨0,by omega,rfl,⟨_,HO.out,fun k hk=>by omega⟩,hb1⟩
  case round=>
   clear HO hb1
   obtain ⟨i,hi9,rfl,⟨f,hF,hf⟩,hbw⟩:=hrel
   by_cases hin:i<n
   ·have c0:=(hbw.cell (p:=⟨b,o+i*4,none⟩) (by assumption)).trans (HC.out i hin).1
    have c1:=(hbw.cell (p:=⟨b,o+i*4+1,none⟩) (by assumption)).trans (HC.out i hin).2.1
    have c2:=(hbw.cell (p:=⟨b,o+i*4+2,none⟩) (by assumption)).trans (HC.out i hin).2.2.1
    have c3:=(hbw.cell (p:=⟨b,o+i*4+3,none⟩) (by assumption)).trans (HC.out i hin).2.2.2
    go_wp2_with fail
    refine (yY (x0 i) (x1 i) (x2 i) (x3 i) wr).mono ?_
    rintro e w2 ⟨rfl,hb2⟩
    have hbw2:=hbw.trans (hb2.mono hbw.size)
    have hF2:=hF.low hb2 hF.lt
    clear c0 c1 c2 c3 hb2 hF hbw
    have d0:=hF2.cell (j:=i*4) (by omega)
    have z0:=hF2.frz (i*4)
    have d1:=hF2.cell (j:=i*4+1) (by omega)
    have z1:=hF2.frz (i*4+1)
    have d2:=hF2.cell (j:=i*4+2) (by omega)
    have z2:=hF2.frz (i*4+2)
    have d3:=hF2.cell (j:=i*4+3) (by omega)
    have z3:=hF2.frz (i*4+3)
    have HF:=hide hf
    have HR:=hide ((((hF2.set (j:=i*4) (by omega) (.int .i64 (x0 i))).set (j:=i*4+1) (by omega) (.int .i64 (x1 i))).set (j:=i*4+2) (by omega) (.int .u64 (x2 i))).set (j:=i*4+3) (by omega) (.string (x3 i)))
    have HB:=hide ((((hbw2.setCell (p:=⟨w.heap.size,i*4,none⟩) (Nat.le_refl _) (.int .i64 (x0 i))).setCell (p:=⟨w.heap.size,i*4+1,none⟩) (Nat.le_refl _) (.int .i64 (x1 i))).setCell (p:=⟨w.heap.size,i*4+2,none⟩) (Nat.le_refl _) (.int .u64 (x2 i))).setCell (p:=⟨w.heap.size,i*4+3,none⟩) (Nat.le_refl _) (.string (x3 i)))
    clear hf hF2 hbw2
    go_wp2
    go_roundw
    case rel=>exact ⟨i+1,by omega,by simp,⟨_,HR.out,Ed (n:=n) HF.out⟩,HB.out⟩
    case measure=>simp;omega
   ·obtain rfl:i=n:=by omega
    have HO:=hide hF
    have HF:=hide hf
    clear hF hf
    go_wp2
    go_ret
    exact ⟨rfl,⟨f,HO.out,HF.out⟩,hbw⟩
set_option maxHeartbeats 800000 in
set_option maxRecDepth 100000 in
theorem wI (v v':Value) (n:Nat) (x0:Nat->Int) (x1:Nat->Int) (x2:Nat->Int) (x3:Nat->ByteArray) (w:World) (hn:n<=1048576) (h:gD w v n x0 x1 x2 x3) (h':gD w v' n x0 x1 x2 x3):
 Calls Tryz.prog 79 #[v,v'] w fun e w'=>e=.returned (.bool true)/\Below w.heap.size w w':=by
 by_cases h0:n=0
 ·subst h0
  obtain ⟨a,cap,rfl⟩:=h.val
  obtain ⟨a',cap',rfl⟩:=h'.val
  clear h h'
  go_enter Tryz.func79,Tryz.ntmps79
  go_wp2
  go_loopw [5] (fun iv wr=>iv=.int .i64 0/\wr=w) (fun _ _=>0)
  case atStart=>exact ⟨rfl,rfl⟩
  case round=>
   obtain ⟨rfl,rfl⟩:=hrel
   go_wp2
   go_ret
   exact ⟨rfl,Below.refl _ _⟩
 ·rcases h with ⟨h9,_⟩|⟨b,o,cap,rfl,hb,hcap,hc⟩
  ·exact absurd h9 h0
  rcases h' with ⟨h9,_⟩|⟨b',o',cap',rfl,hb',hcap',hc'⟩
  ·exact absurd h9 h0
  have HC:=hide hc
  have HC':=hide hc'
  clear hc hc'
  go_enter Tryz.func79,Tryz.ntmps79
  go_wp2
  go_loopw [5] (fun iv wr=>∃ i:Nat,i<=n/\iv=.int .i64 i/\Below w.heap.size w wr) (fun iv _=>match iv with | .int _ x=>n-x.toNat|_=>0)
  case atStart=>exact ⟨0,by omega,rfl,Below.refl _ _⟩
  case round=>
   obtain ⟨i,hi9,rfl,hbw⟩:=hrel
   by_cases hin:i<n
   ·have c0:=(hbw.cell (p:=⟨b,o+i*4,none⟩) (by assumption)).trans (HC.out i hin).1
    have c1:=(hbw.cell (p:=⟨b,o+i*4+1,none⟩) (by assumption)).trans (HC.out i hin).2.1
    have c2:=(hbw.cell (p:=⟨b,o+i*4+2,none⟩) (by assumption)).trans (HC.out i hin).2.2.1
    have c3:=(hbw.cell (p:=⟨b,o+i*4+3,none⟩) (by assumption)).trans (HC.out i hin).2.2.2
    have e0:=(hbw.cell (p:=⟨b',o'+i*4,none⟩) (by assumption)).trans (HC'.out i hin).1
    have e1:=(hbw.cell (p:=⟨b',o'+i*4+1,none⟩) (by assumption)).trans (HC'.out i hin).2.1
    have e2:=(hbw.cell (p:=⟨b',o'+i*4+2,none⟩) (by assumption)).trans (HC'.out i hin).2.2.1
    have e3:=(hbw.cell (p:=⟨b',o'+i*4+3,none⟩) (by assumption)).trans (HC'.out i hin).2.2.2
    have hlb:b<wr.heap.size:=Nat.lt_of_lt_of_le hb hbw.size
    have hlb':b'<wr.heap.size:=Nat.lt_of_lt_of_le hb' hbw.size
    have HB:=hide hbw
    clear hbw
    go_wp2_with fail
    go_region_held3 (fun w9=>(w9.cell? ⟨b,o+i*4,none⟩=some (.int .i64 (x0 i))/\w9.cell? ⟨b,o+i*4+1,none⟩=some (.int .i64 (x1 i))/\w9.cell? ⟨b,o+i*4+2,none⟩=some (.int .u64 (x2 i))/\w9.cell? ⟨b,o+i*4+3,none⟩=some (.string (x3 i)))/\w9.cell? ⟨b',o'+i*4,none⟩=some (.int .i64 (x0 i))/\w9.cell? ⟨b',o'+i*4+1,none⟩=some (.int .i64 (x1 i))/\w9.cell? ⟨b',o'+i*4+2,none⟩=some (.int .u64 (x2 i))/\w9.cell? ⟨b',o'+i*4+3,none⟩=some (.string (x3 i))) (go_keep)
     (first |(go_at_call 100;refine (xD (x0 i) (x1 i) (x2 i) (x3 i) _).mono ?_;rintro e w2 ⟨rfl,hb2⟩;have q0:=(hb2.cell (p:=⟨b,o+i*4,none⟩) hlb).trans c0;have r0:=(hb2.cell (p:=⟨b',o'+i*4,none⟩) hlb').trans e0;have q1:=(hb2.cell (p:=⟨b,o+i*4+1,none⟩) hlb).trans c1;have r1:=(hb2.cell (p:=⟨b',o'+i*4+1,none⟩) hlb').trans e1;have q2:=(hb2.cell (p:=⟨b,o+i*4+2,none⟩) hlb).trans c2;have r2:=(hb2.cell (p:=⟨b',o'+i*4+2,none⟩) hlb').trans e2;have q3:=(hb2.cell (p:=⟨b,o+i*4+3,none⟩) hlb).trans c3;have r3:=(hb2.cell (p:=⟨b',o'+i*4+3,none⟩) hlb').trans e3;have HB2:=hide hb2;clear hb2))
    have HB3:=hide (HB.out.drew.trans (HB2.out.mono HB.out.size))
    rename_i hh
    clear hh c0 e0 q0 r0 c1 e1 q1 r1 c2 e2 q2 r2 c3 e3 q3 r3
    go_wp2
    go_roundw
    case rel=>exact ⟨i+1,by omega,by simp,HB3.out⟩
    case measure=>simp;omega
   ·obtain rfl:i=n:=by omega
    go_wp2
    go_ret
    exact ⟨rfl,hbw⟩
def gy (w:World) (v:Value) (n:Nat) (x0:Nat->Int):Prop:=
 (n=0/\∃ a cap,v=.slice a 0 cap)∨∃ b o cap,v=.slice (some ⟨b,o,none⟩) n cap/\b<w.heap.size/\n<=cap/\∀ i,i<n->w.cell? ⟨b,o+i,none⟩=some (.int .i64 (x0 i))
theorem gy.low {w w':World} {v:Value} {n B:Nat} {x0:Nat->Int} (h:gy w v n x0) (hb:Below B w w') (hB:w.heap.size<=B):gy w' v n x0:=by
 rcases h with h|⟨b,o,cap,rfl,hbB,hcap,hc⟩
 ·exact .inl h
 ·refine .inr ⟨b,o,cap,rfl,Nat.lt_of_lt_of_le hbB hb.size,hcap,fun i hi=>?_⟩
  have hc:=hc i hi
  exact (hb.cell (p:=⟨b,o+i,none⟩) (Nat.lt_of_lt_of_le hbB hB)).trans hc
theorem gy.val {w:World} {v:Value} {n:Nat} {x0:Nat->Int} (h:gy w v n x0):∃ a cap,v=.slice a n cap:=by
 rcases h with ⟨rfl,a,cap,rfl⟩|⟨b,o,cap,rfl,_⟩
 ·exact ⟨a,cap,rfl⟩
 ·exact ⟨_,cap,rfl⟩
def kG (w:World) (g n:Nat) (x0:Nat->Int):Prop:=∃ f,ah w 3 g (n*1) f/\∀ i,i<n->f (i)=(.int .i64 (x0 i))
theorem kG.by {w:World} {g n:Nat} {x0:Nat->Int} (h:kG w g n x0):gy w (.slice (some ⟨g,0,none⟩) n n) n x0:=by
 obtain ⟨f,h1,h2⟩:=h
 refine .inr ⟨g,0,n,rfl,h1.lt,Nat.le_refl _,fun i hi=>?_⟩
 have h2:=h2 i hi
 rw [Nat.zero_add,h1.cell (j:=i) (by omega),h2]
theorem kG.low {w w':World} {g n B:Nat} {x0:Nat->Int} (h:kG w g n x0) (hb:Below B w w') (hg:g<B):kG w' g n x0:=by
 obtain ⟨f,h1,h2⟩:=h
 exact ⟨f,h1.low hb hg,h2⟩
theorem kG.other {w:World} {g g' j n:Nat} {x0:Nat->Int} {x:Value} (h:kG w g n x0) (hn:g≠g'):kG (w.setCell ⟨g',j,none⟩ x) g n x0:=by
 obtain ⟨f,h1,h2⟩:=h
 exact ⟨f,h1.other hn,h2⟩
theorem kG.lt {w:World} {g n:Nat} {x0:Nat->Int} (h:kG w g n x0):g<w.heap.size:=by
 obtain ⟨f,h1,h2⟩:=h
 exact h1.lt
theorem Tryz.info3:(Tryz.prog.info? 3).map (fun i=>(i.zero,i.size,i.bytes))=some (some (.int .i64 0),1,8):=by kernel_rfl
theorem E_ {n i:Nat} {f:Nat->Value} {x0:Nat->Int} (h:∀ k,k<i->f (k)=(.int .i64 (x0 k))):∀ k,k<i+1->(fun j=>if j=i then (.int .i64 (x0 i)) else f j) (k)=(.int .i64 (x0 k)):=by
 intro k hk
 by_cases e:k=i
 ·subst e
  simp
 ·have:=h k (by omega)
  exact (if_neg (by omega)).trans this
set_option maxHeartbeats 800000 in
set_option maxRecDepth 100000 in
theorem Av (v:Value) (n:Nat) (x0:Nat->Int) (w:World) (hn:n<=1048576) (h:gy w v n x0):
 Calls Tryz.prog 60 #[v] w fun e w'=>e=.returned (.slice (some ⟨w.heap.size,0,none⟩) n n)/\kG w' w.heap.size n x0/\Below w.heap.size w w':=by
 obtain ⟨i0,hi,hz0,hz1,hz2⟩:=info_parts Tryz.info3
 rcases h with ⟨rfl,a,cap,rfl⟩|⟨b,o,cap,rfl,hb,hcap,hc⟩
 ·go_enter Tryz.func60,Tryz.ntmps60
  go_wp2_with (first
   |(at_make;refine wpList_make_full _ rfl _ _ 41 rfl w.heap.size 3 i0 (.int .i64 0) 1 Tryz.underlying41 hi hz0 hz1 _ _ _ _ 0 rfl rfl rfl rfl (by rw [hz2];omega) (by unfold maxLen;omega) (Nat.le_refl _) ?_;intro w1 hown hgrow)
   |go_in)
  have hb1:Below w.heap.size w w1:=(Below.refl _ _).grown hgrow (Nat.le_refl _) (fun _ h=>by cases h)
  have HO:=hide (bQ hown)
  clear hgrow hown
  go_wp2
  go_loopw [4] (fun iv wr=>iv=.int .i64 0/\wr=w1) (fun _ _=>0)
  case atStart=>exact ⟨rfl,rfl⟩
  case round=>
   obtain ⟨rfl,rfl⟩:=hrel
   go_wp2
   go_ret
   exact ⟨rfl,⟨_,HO.out,fun i hi=>by omega⟩,hb1⟩
 ·have HC:=hide hc
  clear hc
  go_enter Tryz.func60,Tryz.ntmps60
  go_wp2_with (first
   |(at_make;refine wpList_make_full _ rfl _ _ 41 rfl w.heap.size 3 i0 (.int .i64 0) 1 Tryz.underlying41 hi hz0 hz1 _ _ _ _ n rfl rfl rfl rfl (by rw [hz2];omega) (by unfold maxLen;omega) (Nat.le_refl _) ?_;intro w1 hown hgrow)
   |go_in)
  have hb1:Below w.heap.size w w1:=(Below.refl _ _).grown hgrow (Nat.le_refl _) (fun _ h=>by cases h)
  have HO:=hide (bQ hown)
  clear hgrow hown
  go_wp2
  go_loopw [4] (fun iv wr=>∃ i:Nat,i<=n/\iv=.int .i64 i/\(∃ f,ah wr 3 w.heap.size (n*1) f/\∀ k,k<i->f (k)=(.int .i64 (x0 k)))/\Below w.heap.size w wr) (fun iv _=>match iv with | .int _ x=>n-x.toNat|_=>0)
  case atStart=>exact ⟨0,by omega,rfl,⟨_,HO.out,fun k hk=>by omega⟩,hb1⟩
  case round=>
   clear HO hb1
   obtain ⟨i,hi9,rfl,⟨f,hF,hf⟩,hbw⟩:=hrel
   by_cases hin:i<n
   ·have c0:=(hbw.cell (p:=⟨b,o+i,none⟩) (by assumption)).trans (HC.out i hin)
    have hbw2:=hbw
    have hF2:=hF
    clear hF hbw
    have d0:=hF2.cell (j:=i) (by omega)
    have z0:=hF2.frz (i)
    have HF:=hide hf
    have HR:=hide (hF2.set (j:=i) (by omega) (.int .i64 (x0 i)))
    have HB:=hide (hbw2.setCell (p:=⟨w.heap.size,i,none⟩) (Nat.le_refl _) (.int .i64 (x0 i)))
    clear hf hF2 hbw2
    go_wp2
    go_roundw
    case rel=>exact ⟨i+1,by omega,by simp,⟨_,HR.out,E_ (n:=n) HF.out⟩,HB.out⟩
    case measure=>simp;omega
   ·obtain rfl:i=n:=by omega
    have HO:=hide hF
    have HF:=hide hf
    clear hF hf
    go_wp2
    go_ret
    exact ⟨rfl,⟨f,HO.out,HF.out⟩,hbw⟩
set_option maxHeartbeats 800000 in
set_option maxRecDepth 100000 in
theorem z_ (v v':Value) (n:Nat) (x0:Nat->Int) (w:World) (hn:n<=1048576) (h:gy w v n x0) (h':gy w v' n x0):
 Calls Tryz.prog 81 #[v,v'] w fun e w'=>e=.returned (.bool true)/\Below w.heap.size w w':=by
 by_cases h0:n=0
 ·subst h0
  obtain ⟨a,cap,rfl⟩:=h.val
  obtain ⟨a',cap',rfl⟩:=h'.val
  clear h h'
  go_enter Tryz.func81,Tryz.ntmps81
  go_wp2
  go_loopw [5] (fun iv wr=>iv=.int .i64 0/\wr=w) (fun _ _=>0)
  case atStart=>exact ⟨rfl,rfl⟩
  case round=>
   obtain ⟨rfl,rfl⟩:=hrel
   go_wp2
   go_ret
   exact ⟨rfl,Below.refl _ _⟩
 ·rcases h with ⟨h9,_⟩|⟨b,o,cap,rfl,hb,hcap,hc⟩
  ·exact absurd h9 h0
  rcases h' with ⟨h9,_⟩|⟨b',o',cap',rfl,hb',hcap',hc'⟩
  ·exact absurd h9 h0
  have HC:=hide hc
  have HC':=hide hc'
  clear hc hc'
  go_enter Tryz.func81,Tryz.ntmps81
  go_wp2
  go_loopw [5] (fun iv wr=>∃ i:Nat,i<=n/\iv=.int .i64 i/\Below w.heap.size w wr) (fun iv _=>match iv with | .int _ x=>n-x.toNat|_=>0)
  case atStart=>exact ⟨0,by omega,rfl,Below.refl _ _⟩
  case round=>
   obtain ⟨i,hi9,rfl,hbw⟩:=hrel
   by_cases hin:i<n
   ·have c0:=(hbw.cell (p:=⟨b,o+i,none⟩) (by assumption)).trans (HC.out i hin)
    have e0:=(hbw.cell (p:=⟨b',o'+i,none⟩) (by assumption)).trans (HC'.out i hin)
    go_wp2
    go_quiet (fail)
    go_wp2
    go_roundw
    case rel=>exact ⟨i+1,by omega,by simp,bF hbw _⟩
    case measure=>simp;omega
   ·obtain rfl:i=n:=by omega
    go_wp2
    go_ret
    exact ⟨rfl,hbw⟩
structure PV where
 params:Int
 regs:Int
 line:Int
 dots:Bool
 nu:Nat
 u0:Nat->Bool
 u1:Nat->Int
 nc:Nat
 c0:Nat->Int
 c1:Nat->Int
 c2:Nat->Int
 c3:Nat->ByteArray
 ni:Nat
 i0:Nat->Int
 i1:Nat->Int
 i2:Nat->Int
 i3:Nat->Int
 nl:Nat
 l0:Nat->Int
structure PVA (w:World) (p:PV) (s4 s5 s6 s7:Value):Prop where
 u:mq w s4 p.nu p.u0 p.u1
 c:gD w s5 p.nc p.c0 p.c1 p.c2 p.c3
 i:jQ w s6 p.ni p.i0 p.i1 p.i2 p.i3
 l:gy w s7 p.nl p.l0
theorem PVA.low {w w':World} {p:PV} {s4 s5 s6 s7:Value} {B:Nat} (h:PVA w p s4 s5 s6 s7) (hb:Below B w w') (hB:w.heap.size<=B):PVA w' p s4 s5 s6 s7:=
 ⟨h.u.low hb hB,h.c.low hb hB,h.i.low hb hB,h.l.low hb hB⟩
structure PVO (w:World) (p:PV) (g4 g5 g6 g7:Nat):Prop where
 u:ql w g4 p.nu p.u0 p.u1
 c:kH w g5 p.nc p.c0 p.c1 p.c2 p.c3
 i:qg w g6 p.ni p.i0 p.i1 p.i2 p.i3
 l:kG w g7 p.nl p.l0
def PV.fits (p:PV) (m:Nat):Prop:=p.nu<=m/\p.nc<=m/\p.ni<=m/\p.nl<=m/\∀ k,k<p.nc->(p.c3 k).size<=m
def PV.agg (p:PV) (s4 s5 s6 s7:Value):Value:=.agg #[.int .i64 p.params,.int .i64 p.regs,.int .i64 p.line,.bool p.dots,s4,s5,s6,s7]
set_option maxHeartbeats 800000 in
set_option maxRecDepth 100000 in
theorem EJ (a:Option Addr) (n cap:Nat) (l:Int) (w:World) (h0:0<=l) (h1:l<=1048576) (hn:n<=9223372036854775807):
 Calls Tryz.prog 47 #[.slice a n cap,.int .i64 l] w fun e w'=>e=.returned (.int .i64 (if l<n then -1 else l-n))/\w'=w:=by
 by_cases h:l<n
 ·rw [if_pos h]
  go_enter Tryz.func47,Tryz.ntmps47
  go_wp2
  go_ret
  exact ⟨rfl,rfl⟩
 ·rw [if_neg h]
  go_enter Tryz.func47,Tryz.ntmps47
  go_wp2
  go_ret
  exact ⟨rfl,rfl⟩
set_option maxHeartbeats 800000 in
set_option maxRecDepth 100000 in
theorem vB (a:Option Addr) (n cap:Nat) (l:Int) (w:World) (h0:0<=l) (h1:l<=1048576) (hn:n<=9223372036854775807):
 Calls Tryz.prog 49 #[.slice a n cap,.int .i64 l] w fun e w'=>e=.returned (.int .i64 (if l<n then -1 else l-n))/\w'=w:=by
 by_cases h:l<n
 ·rw [if_pos h]
  go_enter Tryz.func49,Tryz.ntmps49
  go_wp2
  go_ret
  exact ⟨rfl,rfl⟩
 ·rw [if_neg h]
  go_enter Tryz.func49,Tryz.ntmps49
  go_wp2
  go_ret
  exact ⟨rfl,rfl⟩
set_option maxHeartbeats 800000 in
set_option maxRecDepth 100000 in
theorem Ai (a:Option Addr) (n cap:Nat) (l:Int) (w:World) (h0:0<=l) (h1:l<=1048576) (hn:n<=9223372036854775807):
 Calls Tryz.prog 50 #[.slice a n cap,.int .i64 l] w fun e w'=>e=.returned (.int .i64 (if l<n then -1 else l-n))/\w'=w:=by
 by_cases h:l<n
 ·rw [if_pos h]
  go_enter Tryz.func50,Tryz.ntmps50
  go_wp2
  go_ret
  exact ⟨rfl,rfl⟩
 ·rw [if_neg h]
  go_enter Tryz.func50,Tryz.ntmps50
  go_wp2
  go_ret
  exact ⟨rfl,rfl⟩
set_option maxHeartbeats 800000 in
set_option maxRecDepth 100000 in
theorem zB (p0 p1 p2:Int) (p3:ByteArray) (l:Int) (w:World) (h0:0<=l) (h1:l<=1048576) (hs:p3.size<=9223372036854775807):
 Calls Tryz.prog 82 #[.agg #[.int .i64 p0,.int .i64 p1,.int .u64 p2,.string p3],.int .i64 l] w fun e w'=>e=.returned (.int .i64 (if l<p3.size then -1 else l-p3.size))/\Below w.heap.size w w':=by
 by_cases h:l<p3.size
 ·rw [if_pos h]
  go_enter Tryz.func82,Tryz.ntmps82
  go_wp2
  go_ret
  exact ⟨rfl,b_1 _ _⟩
 ·rw [if_neg h]
  go_enter Tryz.func82,Tryz.ntmps82
  go_wp2
  go_ret
  exact ⟨rfl,b_1 _ _⟩
end Go.Proofs.YtjibjahfbblieaaGreatDoor
namespace Go.Proofs.YtjibjahfbblieaaGreatDoor
open Go.ChangeShapes Go.WideShapes Go.ChangeAt Go Go.RowKit Go.ChangeMaps Go.WideElems
set_option linter.unusedVariables false
theorem JG {H:Type} {enc:TypeId × Value->H} {P:Program} {f:Func} {s:ChangeSpec} {apart fresh handsOn again:Bool} {W W':World} {args:Array Value} {v:Value} {ds gs:List (DataW H)} {before pa pv:List MemPlace}
 (hW:DataW.Whole enc P f.params.toList s.vars apart W args.toList ds gs before)
 (hres:∀ (b:Nat) (sp:Nat->Bool) (hd:Bool),DataW.TrodAll enc P W' b sp hd f.resultTypes.toList (v.resultList f.resultTypes.size) (s.fn H (ds++gs)).results [])
 (hargs:∀ sp:Nat->Bool,(∀ p∈before,sp p.block=true)->DataW.TrodAll enc P W' 0 sp true f.params.toList args.toList (s.fn H (ds++gs)).args pa)
 (hvars:∀ sp:Nat->Bool,(∀ p∈before,sp p.block=true)->DataW.TrodVars enc P W' sp s.vars (s.fn H (ds++gs)).vars pv)
 (hps:before=pa++pv) (hb:Below W.heap.size W W')
 (hok:∀ (j:Nat) (t:TypeId) (r:Value),f.resultTypes[j]?=some t->(v.resultList f.resultTypes.size)[j]?=some r->Value.okWide P W' .any 0 t r):
 s.post enc P f apart fresh handsOn again W args v W':=by
 have hlt:=hW.lt
 have hold:∀ p∈before,(fun b=>decide (b<W.heap.size)) p.block=true:=fun p hp=>by simpa using hlt p hp
 refine ⟨ds,gs,before,[],pa,pv,hW,hres _ _ _,hargs _ hold,hvars _ hold,World.keptBut_mono (fun p hp=>⟨hp,?_⟩) (hb.frame _),fun _=>?_⟩
 ·rw [hps,List.mem_append] at hp
  exact Or.inr hp
 ·obtain ⟨_,_,_,_,_,hz,hn⟩:=hW
  refine ⟨hok,_,_,([]++pa)++pv,⟨[]++pa,pv,trodAll_append (hargs _ (fun _ _=>rfl)) (hres _ _ _),hvars _ (fun _ _=>rfl),rfl,?_,?_⟩,?_⟩
  ·intro b off hp
   have hp':MemPlace.cell b off∈before:=by rw [hps];simpa using hp
   rw [hb.frozen (p:=⟨b,off,none⟩) (hlt _ hp')]
   exact hz b off hp'
  ·intro ha
   have:=hn ha
   rw [hps] at this
   simpa using this
  ·intro p hp _
   rw [hps]
   simpa using hp
theorem cell_lt {w:World} {b o:Nat} {sp:Option Nat} {v:Value} (h:w.cell? ⟨b,o,sp⟩=some v):b<w.heap.size:=by
 rcases Nat.lt_or_ge b w.heap.size with g|g
 ·exact g
 ·exfalso
  unfold World.cell? at h
  rw [Array.getElem?_eq_none g] at h
  cases h
theorem Bq {w:World} {b o:Nat} {sp:Option Nat} {v:Value} (h:w.cell? ⟨b,o,sp⟩=some v):sp=none:=by
 rcases sp with _|x
 ·rfl
 ·exact absurd h (by unfold World.cell?;split<;>simp)
theorem dW (b o k:Nat):(⟨b,o,none⟩:Addr).add k=⟨b,o+k,none⟩:=by
 unfold Addr.add
 split
 ·rename_i h;subst h;rfl
 ·rfl
theorem rU {l:List Int} {k:Nat} (h:k<l.length):l.getD k 0∈l:=by
 rw [List.getD_eq_getElem?_getD,List.getElem?_eq_getElem h]
 exact List.getElem_mem h
theorem Tryz.own:ownKnob Tryz.prog.godebug=none:=by kernel_rfl
end Go.Proofs.YtjibjahfbblieaaGreatDoor
