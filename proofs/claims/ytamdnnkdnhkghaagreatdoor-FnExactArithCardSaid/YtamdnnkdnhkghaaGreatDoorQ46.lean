import Derived.Test.YtamdnnkdnhkghaaGreatDoorQ43
import Derived.Test.YtamdnnkdnhkghaaGreatDoorQ44
import Derived.Test.YtamdnnkdnhkghaaGreatDoorQ45
set_option maxHeartbeats 12800000
set_option maxRecDepth 100000
set_option linter.unusedVariables false
namespace Go.Proofs.YtamdnnkdnhkghaaGreatDoor
open Go Go.RowKit
theorem zrt (f1 f2:Bool) (i1 u1 i2 u2:Int) (A B:Nat) (o:Option Nat) (w:World) (hx:FOf f1 i1 u1 A) (hy:FOf f2 i2 u2 B) (hrun:FRun .quo A B o) (ho:OkW o):
 Rb 91 #[.int .i64 4,.agg #[.bool f1,.int .i64 i1,.int .u64 u1],.agg #[.bool f2,.int .i64 i2,.int .u64 u2]] w (.tuple #[.agg #[.bool true,.int .i64 0,.int .u64 (opW o:Nat)],.nilIface]):=by
 have HX:=hide hx
 have HY:=hide hy
 have HN:=hide zbK
 have HRun:=hide (zbD _ A B o hrun (zhb A B))
 have Ho:=hide ho
 clear hx hy hrun ho
 go_enter Tryz.func91,Tryz.ntmps91
 go_wp2_with fail
 have HK:=hide (fun (w2:World) (h:Below (((w.alloc (numC f1 i1 u1)).alloc (numC f2 i2 u2)).alloc (numC false 0 0)).heap.size (((w.alloc (numC f1 i1 u1)).alloc (numC f2 i2 u2)).alloc (numC false 0 0)) w2)=>zac h)
 have HC:=hide (fun (w2:World) (h:Below (((w.alloc (numC f1 i1 u1)).alloc (numC f2 i2 u2)).alloc (numC false 0 0)).heap.size (((w.alloc (numC f1 i1 u1)).alloc (numC f2 i2 u2)).alloc (numC false 0 0)) w2)=>res_3 h)
 have HPut:=hide (fun (w2:World) (h:Below (((w.alloc (numC f1 i1 u1)).alloc (numC f2 i2 u2)).alloc (numC false 0 0)).heap.size (((w.alloc (numC f1 i1 u1)).alloc (numC f2 i2 u2)).alloc (numC false 0 0)) w2)=>put_3 h)
 have HPlain:=hide (fun (w2:World) (h:Below (((w.alloc (numC f1 i1 u1)).alloc (numC f2 i2 u2)).alloc (numC false 0 0)).heap.size (((w.alloc (numC f1 i1 u1)).alloc (numC f2 i2 u2)).alloc (numC false 0 0)) w2)=>za7 h)
 generalize (((w.alloc (numC f1 i1 u1)).alloc (numC f2 i2 u2)).alloc (numC false 0 0))=W at *
 obtain ⟨a0,a1,a2,b0,b1,b2⟩:=HK.out W (Below.refl _ _)
 have HD:=hide (zag (Below.refl W.heap.size W))
 go_region_with (first
  |(go_at_call_of 22 u1;refine (HX.out _).mono ?_;rintro e w1 ⟨rfl,hb1⟩;have HB1:=hide ((HD.out 1).trans (hb1.mono (HD.out 1).size));obtain ⟨a0,a1,a2,b0,b1,b2⟩:=HK.out _ HB1.out;clear hb1)
  |(go_at_call_of 22 u2;refine (HY.out _).mono ?_;rintro e w2 ⟨rfl,hb2⟩;have HB2:=hide (bt HB1.out hb2);clear hb2;obtain ⟨Q,kk,hrun,hres⟩:=HRun.out w2;have HRes:=hide hres;have HB2d:=hide (zag HB2.out kk);clear hres;obtain ⟨n3,l3⟩:=zbI HRes.out Ho.out;have Hn:=hide n3;have HX2:=hide l3;clear n3 l3)
  |(go_at_call 68;refine (HN.out Q _ HX2.out).mono ?_;rw [Hn.out];rintro e w4 ⟨rfl,hb4⟩;have HB4:=hide (bt HB2d.out hb4);obtain ⟨⟨c0,c1,c2⟩,z0,z1,z2⟩:=HC.out _ HB4.out;clear hb4))
 all_goals (
  go_wp2
  refine bodyPost_ret (v:=.tuple #[.agg #[.bool true,.int .i64 0,.int .u64 (opW o:Nat)],.nilIface]) ?_ rfl ⟨rfl,HPut.out _ HB4.out _ _ _⟩
  simp [results,Tryz.results91,go_sem,c0,c1,c2])
theorem zn7 (f1 f2:Bool) (i1 u1 i2 u2:Int) (A B:Nat) (f3:Bool) (i3 u3:Int) (ev:Value) (w:World) (hx:FOf f1 i1 u1 A) (hy:FOf f2 i2 u2 B) (hp:∀ w',Below w.heap.size w w'->Rb 137 #[.float .f64 A,.float .f64 B] w' (.tuple #[.agg #[.bool f3,.int .i64 i3,.int .u64 u3],ev])):
 Rb 91 #[.int .i64 7,.agg #[.bool f1,.int .i64 i1,.int .u64 u1],.agg #[.bool f2,.int .i64 i2,.int .u64 u2]] w (.tuple #[.agg #[.bool f3,.int .i64 i3,.int .u64 u3],ev]):=by
 have HX:=hide hx
 have HY:=hide hy
 have HN:=hide zbK
 have HP:=hide hp
 clear hx hy hp
 go_enter Tryz.func91,Tryz.ntmps91
 go_wp2_with fail
 have HK:=hide (fun (w2:World) (h:Below (((w.alloc (numC f1 i1 u1)).alloc (numC f2 i2 u2)).alloc (numC false 0 0)).heap.size (((w.alloc (numC f1 i1 u1)).alloc (numC f2 i2 u2)).alloc (numC false 0 0)) w2)=>zac h)
 have HC:=hide (fun (w2:World) (h:Below (((w.alloc (numC f1 i1 u1)).alloc (numC f2 i2 u2)).alloc (numC false 0 0)).heap.size (((w.alloc (numC f1 i1 u1)).alloc (numC f2 i2 u2)).alloc (numC false 0 0)) w2)=>res_3 h)
 have HPut:=hide (fun (w2:World) (h:Below (((w.alloc (numC f1 i1 u1)).alloc (numC f2 i2 u2)).alloc (numC false 0 0)).heap.size (((w.alloc (numC f1 i1 u1)).alloc (numC f2 i2 u2)).alloc (numC false 0 0)) w2)=>put_3 h)
 have HPlain:=hide (fun (w2:World) (h:Below (((w.alloc (numC f1 i1 u1)).alloc (numC f2 i2 u2)).alloc (numC false 0 0)).heap.size (((w.alloc (numC f1 i1 u1)).alloc (numC f2 i2 u2)).alloc (numC false 0 0)) w2)=>za7 h)
 generalize (((w.alloc (numC f1 i1 u1)).alloc (numC f2 i2 u2)).alloc (numC false 0 0))=W at *
 obtain ⟨a0,a1,a2,b0,b1,b2⟩:=HK.out W (Below.refl _ _)
 have HD:=hide (zag (Below.refl W.heap.size W))
 go_region_with (first
  |(go_at_call_of 22 u1;refine (HX.out _).mono ?_;rintro e w1 ⟨rfl,hb1⟩;have HB1:=hide ((HD.out 1).trans (hb1.mono (HD.out 1).size));obtain ⟨a0,a1,a2,b0,b1,b2⟩:=HK.out _ HB1.out;clear hb1)
  |(go_at_call_of 22 u2;refine (HY.out _).mono ?_;rintro e w2 ⟨rfl,hb2⟩;have HB2:=hide (bt HB1.out hb2);clear hb2)
  |(go_at_call 137;refine (HP.out _ (HPlain.out _ HB2.out)).mono ?_;rintro e w4 ⟨rfl,hb4⟩;have HB4:=hide (bt HB2.out hb4);obtain ⟨⟨c0,c1,c2⟩,z0,z1,z2⟩:=HC.out _ HB4.out;clear hb4))
 all_goals (
  go_wp2
  refine bodyPost_ret (v:=.tuple #[.agg #[.bool f3,.int .i64 i3,.int .u64 u3],ev]) ?_ rfl ⟨rfl,HPut.out _ HB4.out _ _ _⟩
  simp [results,Tryz.results91,go_sem,c0,c1,c2])
theorem zr9 {z:Int} (h0: -9223372036854775808<=z) (h1:z<=9223372036854775807):bits BinOp.xor IntKind.i64 (-1) z= -1-z:=by
 show IntKind.i64.wrap ((BitVec.ofInt 64 (-1)^^^BitVec.ofInt 64 z).toNat:Nat)=_
 have e:BitVec.ofInt 64 (-1)=BitVec.allOnes 64:=by decide
 rw [e,BitVec.allOnes_xor,BitVec.toNat_not,BitVec.toNat_ofInt,IntKind.wrap_i64]
 omega
theorem zeJ (op:Int) (hop:op=1∨op=2∨op=3) (f1 f2 f3:Bool) (i1 u1 i2 u2 i3 u3:Int) (ev:Value) (w:World)
 (hO:∀ w',Below w.heap.size w w'->Rb 135 #[.int .i64 op,.agg #[.bool f1,.int .i64 i1,.int .u64 u1],.agg #[.bool f2,.int .i64 i2,.int .u64 u2]] w' (.agg #[.bool f3,.int .i64 i3,.int .u64 u3])):
 Rb 91 #[.int .i64 op,.agg #[.bool f1,.int .i64 i1,.int .u64 u1],.agg #[.bool f2,.int .i64 i2,.int .u64 u2]] w (.tuple #[.agg #[.bool f3,.int .i64 i3,.int .u64 u3],.nilIface]):=by
 have HO:=hide hO
 clear hO
 rcases hop with rfl|rfl|rfl
 all_goals (
  obtain ⟨a0,a1,a2,b0,b1,b2⟩:=zac (Below.refl (((w.alloc (numC f1 i1 u1)).alloc (numC f2 i2 u2)).alloc (numC false 0 0)).heap.size (((w.alloc (numC f1 i1 u1)).alloc (numC f2 i2 u2)).alloc (numC false 0 0)))
  go_enter Tryz.func91,Tryz.ntmps91
  go_wp2_with fail
  refine rb (HO.out _ (za7 (Below.refl _ _))) fun w1 hb1=>?_
  have HB:=hide hb1
  clear hb1
  obtain ⟨⟨c0,c1,c2⟩,z0,z1,z2⟩:=res_3 HB.out
  go_wp2
  refine bodyPost_ret (v:=.tuple #[.agg #[.bool f3,.int .i64 i3,.int .u64 u3],.nilIface]) ?_ rfl ⟨rfl,put_3 HB.out _ _ _⟩
  simp [results,Tryz.results91,go_sem,c0,c1,c2])
theorem zeS (op:Int) (hop:op=5∨op=6) (f1 f2 f3:Bool) (i1 u1 i2 u2 i3 u3:Int) (ev:Value) (w:World)
 (hO:∀ w',Below w.heap.size w w'->Rb 136 #[.int .i64 op,.agg #[.bool f1,.int .i64 i1,.int .u64 u1],.agg #[.bool f2,.int .i64 i2,.int .u64 u2]] w' (.tuple #[.agg #[.bool f3,.int .i64 i3,.int .u64 u3],ev])):
 Rb 91 #[.int .i64 op,.agg #[.bool f1,.int .i64 i1,.int .u64 u1],.agg #[.bool f2,.int .i64 i2,.int .u64 u2]] w (.tuple #[.agg #[.bool f3,.int .i64 i3,.int .u64 u3],ev]):=by
 have HO:=hide hO
 clear hO
 rcases hop with rfl|rfl
 all_goals (
  obtain ⟨a0,a1,a2,b0,b1,b2⟩:=zac (Below.refl (((w.alloc (numC f1 i1 u1)).alloc (numC f2 i2 u2)).alloc (numC false 0 0)).heap.size (((w.alloc (numC f1 i1 u1)).alloc (numC f2 i2 u2)).alloc (numC false 0 0)))
  go_enter Tryz.func91,Tryz.ntmps91
  go_wp2_with fail
  refine rb (HO.out _ (za7 (Below.refl _ _))) fun w1 hb1=>?_
  have HB:=hide hb1
  clear hb1
  obtain ⟨⟨c0,c1,c2⟩,z0,z1,z2⟩:=res_3 HB.out
  go_wp2
  refine bodyPost_ret (v:=.tuple #[.agg #[.bool f3,.int .i64 i3,.int .u64 u3],ev]) ?_ rfl ⟨rfl,put_3 HB.out _ _ _⟩
  simp [results,Tryz.results91,go_sem,c0,c1,c2])
theorem zjm (op:Int) (hop:op=8∨op=9∨op=10∨op=11∨op=12) (f1 f2 f3:Bool) (i1 u1 i2 u2 i3 u3:Int) (ev:Value) (w:World)
 (hO:∀ w',Below w.heap.size w w'->Rb 138 #[.int .i64 op,.agg #[.bool f1,.int .i64 i1,.int .u64 u1],.agg #[.bool f2,.int .i64 i2,.int .u64 u2]] w' (.tuple #[.agg #[.bool f3,.int .i64 i3,.int .u64 u3],ev])):
 Rb 91 #[.int .i64 op,.agg #[.bool f1,.int .i64 i1,.int .u64 u1],.agg #[.bool f2,.int .i64 i2,.int .u64 u2]] w (.tuple #[.agg #[.bool f3,.int .i64 i3,.int .u64 u3],ev]):=by
 have HO:=hide hO
 clear hO
 rcases hop with rfl|rfl|rfl|rfl|rfl
 all_goals (
  obtain ⟨a0,a1,a2,b0,b1,b2⟩:=zac (Below.refl (((w.alloc (numC f1 i1 u1)).alloc (numC f2 i2 u2)).alloc (numC false 0 0)).heap.size (((w.alloc (numC f1 i1 u1)).alloc (numC f2 i2 u2)).alloc (numC false 0 0)))
  go_enter Tryz.func91,Tryz.ntmps91
  go_wp2_with fail
  refine rb (HO.out _ (za7 (Below.refl _ _))) fun w1 hb1=>?_
  have HB:=hide hb1
  clear hb1
  obtain ⟨⟨c0,c1,c2⟩,z0,z1,z2⟩:=res_3 HB.out
  go_wp2
  refine bodyPost_ret (v:=.tuple #[.agg #[.bool f3,.int .i64 i3,.int .u64 u3],ev]) ?_ rfl ⟨rfl,put_3 HB.out _ _ _⟩
  simp [results,Tryz.results91,go_sem,c0,c1,c2])
theorem zml (op:Int) (hop:op=13) (f1 f2 f3:Bool) (i1 u1 i2 u2 i3 u3:Int) (ev:Value) (w:World)
 (hO:∀ w',Below w.heap.size w w'->Rb 120 #[.agg #[.bool f1,.int .i64 i1,.int .u64 u1]] w' (.agg #[.bool f3,.int .i64 i3,.int .u64 u3])):
 Rb 91 #[.int .i64 op,.agg #[.bool f1,.int .i64 i1,.int .u64 u1],.agg #[.bool f2,.int .i64 i2,.int .u64 u2]] w (.tuple #[.agg #[.bool f3,.int .i64 i3,.int .u64 u3],.nilIface]):=by
 have HO:=hide hO
 clear hO
 rcases hop with rfl
 all_goals (
  obtain ⟨a0,a1,a2,b0,b1,b2⟩:=zac (Below.refl (((w.alloc (numC f1 i1 u1)).alloc (numC f2 i2 u2)).alloc (numC false 0 0)).heap.size (((w.alloc (numC f1 i1 u1)).alloc (numC f2 i2 u2)).alloc (numC false 0 0)))
  go_enter Tryz.func91,Tryz.ntmps91
  go_wp2_with fail
  refine rb (HO.out _ (za7 (Below.refl _ _))) fun w1 hb1=>?_
  have HB:=hide hb1
  clear hb1
  obtain ⟨⟨c0,c1,c2⟩,z0,z1,z2⟩:=res_3 HB.out
  go_wp2
  refine bodyPost_ret (v:=.tuple #[.agg #[.bool f3,.int .i64 i3,.int .u64 u3],.nilIface]) ?_ rfl ⟨rfl,put_3 HB.out _ _ _⟩
  simp [results,Tryz.results91,go_sem,c0,c1,c2])
theorem zuu (f1 f2:Bool) (i1 u1 i2 u2 z:Int) (w:World) (z0: -9223372036854775808<=z) (z1:z<=9223372036854775807)
 (hO:∀ w',Below w.heap.size w w'->Rb 41 #[.agg #[.bool f1,.int .i64 i1,.int .u64 u1]] w' (.tuple #[.int .i64 z,.nilIface])):
 Rb 91 #[.int .i64 14,.agg #[.bool f1,.int .i64 i1,.int .u64 u1],.agg #[.bool f2,.int .i64 i2,.int .u64 u2]] w (.tuple #[.agg #[.bool false,.int .i64 (-1-z),.int .u64 0],.nilIface]):=by
 have HO:=hide hO
 clear hO
 obtain ⟨a0,a1,a2,b0,b1,b2⟩:=zac (Below.refl (((w.alloc (numC f1 i1 u1)).alloc (numC f2 i2 u2)).alloc (numC false 0 0)).heap.size (((w.alloc (numC f1 i1 u1)).alloc (numC f2 i2 u2)).alloc (numC false 0 0)))
 go_enter Tryz.func91,Tryz.ntmps91
 go_wp2_with fail
 refine rb (HO.out _ (za7 (Below.refl _ _))) fun w1 hb1=>?_
 have HB1:=hide hb1
 clear hb1
 have hxn:=zr9 z0 z1
 go_wp2_with fail
 refine rb (zaD _ _) fun w3 hb3=>?_
 have hb3':=bt HB1.out hb3
 have HB3:=hide hb3'
 obtain ⟨⟨c0,c1,c2⟩,y0,y1,y2⟩:=res_3 hb3'
 clear hb3 hb3'
 go_wp2
 refine bodyPost_ret (v:=.tuple #[.agg #[.bool false,.int .i64 (-1-z),.int .u64 0],.nilIface]) ?_ rfl ⟨rfl,put_3 HB3.out _ _ _⟩
 simp [results,Tryz.results91,go_sem,c0,c1,c2]
theorem zt4 (f1 f2:Bool) (i1 u1 i2 u2:Int) (tt:TypeId) (x:Value) (w:World)
 (hO:∀ w',Below w.heap.size w w'->Rb 41 #[.agg #[.bool f1,.int .i64 i1,.int .u64 u1]] w' (.tuple #[.int .i64 0,.iface tt x])):
 Rb 91 #[.int .i64 14,.agg #[.bool f1,.int .i64 i1,.int .u64 u1],.agg #[.bool f2,.int .i64 i2,.int .u64 u2]] w (.tuple #[.agg #[.bool false,.int .i64 0,.int .u64 0],.iface tt x]):=by
 have HO:=hide hO
 clear hO
 obtain ⟨a0,a1,a2,b0,b1,b2⟩:=zac (Below.refl (((w.alloc (numC f1 i1 u1)).alloc (numC f2 i2 u2)).alloc (numC false 0 0)).heap.size (((w.alloc (numC f1 i1 u1)).alloc (numC f2 i2 u2)).alloc (numC false 0 0)))
 go_enter Tryz.func91,Tryz.ntmps91
 go_wp2_with fail
 refine rb (HO.out _ (za7 (Below.refl _ _))) fun w1 hb1=>?_
 have HB1:=hide hb1
 clear hb1
 obtain ⟨⟨c0,c1,c2⟩,y0,y1,y2⟩:=res_3 HB1.out
 go_wp2
 refine bodyPost_ret (v:=.tuple #[.agg #[.bool false,.int .i64 0,.int .u64 0],.iface tt x]) ?_ rfl ⟨rfl,put_3 HB1.out _ _ _⟩
 simp [results,Tryz.results91,go_sem,c0,c1,c2]
theorem zs0 (op:Int) (hop:op<1∨14<op) (f1 f2:Bool) (i1 u1 i2 u2:Int) (ev:Value) (w:World) (h3:2<w.heap.size) (he:w.cell? ⟨2,0,none⟩=some ev):
 Rb 91 #[.int .i64 op,.agg #[.bool f1,.int .i64 i1,.int .u64 u1],.agg #[.bool f2,.int .i64 i2,.int .u64 u2]] w (.tuple #[.agg #[.bool false,.int .i64 0,.int .u64 0],ev]):=by
 have hb0:Below w.heap.size w (((w.alloc (numC f1 i1 u1)).alloc (numC f2 i2 u2)).alloc (numC false 0 0)):=za7 (Below.refl _ _)
 have he3:=(hb0.cell (p:=⟨2,0,none⟩) h3).trans he
 obtain ⟨⟨c0,c1,c2⟩,z0,z1,z2⟩:=res_3 (Below.refl (((w.alloc (numC f1 i1 u1)).alloc (numC f2 i2 u2)).alloc (numC false 0 0)).heap.size (((w.alloc (numC f1 i1 u1)).alloc (numC f2 i2 u2)).alloc (numC false 0 0)))
 clear hb0 he
 rcases hop with hop|hop
 all_goals (
  go_enter Tryz.func91,Tryz.ntmps91
  go_wp2
  go_region
  go_wp2
  refine bodyPost_ret (v:=.tuple #[.agg #[.bool false,.int .i64 0,.int .u64 0],ev]) ?_ rfl ⟨rfl,?_⟩
  ·simp [results,Tryz.results91,go_sem,c0,c1,c2]
  exact Below.drew (za7 (Below.refl _ _)))
theorem zqN (o:Option Value) (h:∀ v,o=some v->∃ f i u,v=numG f i u):∃ f i u k,opV o=resG f i u k/\(k=true↔o.isSome=true):=by
 cases o with
 |none=>exact ⟨_,_,_,_,rfl,by simp⟩
 |some v=>
  obtain ⟨f,i,u,rfl⟩:=h v rfl
  exact ⟨_,_,_,_,rfl,by simp⟩
theorem zlp {v:Value} (h:IsNum v):∃ f i u,v=numG f i u:=by
 rcases h with ⟨i,rfl,_⟩|⟨s,r,rfl,_⟩
 ·exact ⟨_,_,_,rfl⟩
 exact ⟨_,_,_,rfl⟩
def WordN (s:Bool) (r:Nat):Prop:=r<=infW∨(s=false/\r=9221120237041090560)
theorem WordN.lt {s:Bool} {r:Nat} (h:WordN s r):r<9223372036854775808:=by
 have hi:infW=9218868437227405312:=rfl
 rcases h with h|⟨_,h⟩<;>omega
theorem WordN.nrm {s:Bool} {r:Nat} (h:WordN s r):nrmW (wordS s r)=wordS s r:=by
 rcases h with h|⟨rfl,rfl⟩
 ·unfold nrmW
  rw [if_neg (by have:=(zbJ (s:=s) h).1;omega)]
 rfl
theorem WordN.lt64 {s:Bool} {r:Nat} (h:WordN s r):wordS s r<18446744073709551616:=by
 have:=h.lt
 unfold wordS
 split<;>omega
theorem zqh {A:Nat} (h:A%9223372036854775808<=infW) (h2:A<18446744073709551616):∃ s r,A=wordS s r/\r<=infW:=
 ⟨_,_,zbo h2,h⟩
def NumN (v:Value):Prop:=(∃ i,v=intV i/\ -9223372036854775808<=i/\i<=9223372036854775807)∨(∃ s r,v=fltV (wordS s r)/\WordN s r)
theorem OpR.numN {t:ByteArray} {v:Value} (h:OpR t (some v)):NumN v:=by
 unfold OpR at h
 split at h
 ·cases h;exact .inr ⟨false,9221120237041090560,rfl,.inr ⟨rfl,rfl⟩⟩
 split at h
 ·cases h;exact .inr ⟨false,infW,rfl,.inl (Nat.le_refl _)⟩
 split at h
 ·cases h;exact .inr ⟨true,infW,rfl,.inl (Nat.le_refl _)⟩
 split at h
 ·obtain ⟨f,i,u,ok,hp,h⟩:=h
  cases ok with
  |false=>cases h
  |true=>
   cases h
   unfold za8
   split
   ·exact .inl ⟨_,rfl,by omega,by omega⟩
   unfold negN
   rcases hp.ok.1 with ⟨rfl,rfl,h1⟩|⟨rfl,rfl,W,hW,rfl⟩
   ·exact .inl ⟨_,rfl,za6 _⟩
   refine .inr ⟨true,W,?_,.inl (by omega)⟩
   show numG true 0 (9223372036854775808+(W:Int))=fltV (9223372036854775808+W)
   unfold fltV
   rw [Int.natCast_add]
   rfl
 obtain ⟨f,i,u,ok,hp,h⟩:=h
 cases ok with
 |false=>cases h
 |true=>
  cases h
  rcases hp.ok.1 with ⟨rfl,rfl,h1⟩|⟨rfl,rfl,W,hW,rfl⟩
  ·exact .inl ⟨_,rfl,h1⟩
  exact .inr ⟨false,W,rfl,.inl (by omega)⟩
structure Side (f:Bool) (i u:Int) (s:Bool) (r:Nat):Prop where
 fo:FOf f i u (wordS s r)
 sp:ASF f i u (wordS s r)
 ok:WordN s r
 kind:(f=false/\u=0/\ -9223372036854775808<=i/\i<=9223372036854775807)∨(f=true/\i=0/\u=(wordS s r:Nat))
theorem zhl {v:Value} (h:NumN v):∃ f i u s r,v=numG f i u/\Side f i u s r:=by
 rcases h with ⟨i,rfl,h0,h1⟩|⟨s,r,rfl,hok⟩
 ·refine ⟨false,i,0,decide (i<0),Ieee.double.nearest false i.natAbs 0,rfl,fun w=>?_,fun w=>zhW i w h0 h1,.inl (zbr _ _),.inl ⟨rfl,rfl,h0,h1⟩⟩
  have:=zjl i w
  rw [zgy] at this
  exact this
 refine ⟨true,0,(wordS s r:Nat),s,r,rfl,fun w=>zc4 (wordS s r) w,fun w=>?_,hok,.inr ⟨rfl,rfl,rfl⟩⟩
 have:=ziQ (wordS s r) w hok.lt64
 rw [hok.nrm] at this
 exact this
def codV (a2 a3 a4 a5:Addr) (k:Int):Value:=if k=0 then .nilIface else if k=2 then senV a2 else if k=3 then senV a3 else if k=4 then senV a4 else senV a5
def ArS (op:Int) (v1 v2:Value) (f:Bool) (i u k:Int):Prop:=
 ∀ w,Rb 44 #[.int .i64 op,v1,v2] w (.tuple #[numG f i u,.int .i64 k])
def ArP (op:Int) (v1 v2:Value) (f:Bool) (i u k:Int):Prop:=
 ∀ w a1 a2 a3 a4 a5,Full w a1 a2 a3 a4 a5->Rb 91 #[.int .i64 op,v1,v2] w (.tuple #[numG f i u,codV a2 a3 a4 a5 k])
def ArB (op:Int) (v1 v2:Value):Prop:=∃ f i u k,ArS op v1 v2 f i u k/\ArP op v1 v2 f i u k/\(-9223372036854775808<=i/\i<=9223372036854775807)/\(0<=u/\u<18446744073709551616)/\(k=0∨k=3∨k=4∨k=5)
theorem ArB.flt {op:Int} {v1 v2:Value} {R:Nat} (hR:R<18446744073709551616) (h1:ArS op v1 v2 true 0 (R:Nat) 0) (h2:ArP op v1 v2 true 0 (R:Nat) 0):ArB op v1 v2:=
 ⟨true,0,(R:Nat),0,h1,h2,⟨by omega,by omega⟩,⟨by omega,by omega⟩,.inl rfl⟩
theorem ArB.int {op:Int} {v1 v2:Value} {i:Int} (hi: -9223372036854775808<=i/\i<=9223372036854775807) (h1:ArS op v1 v2 false i 0 0) (h2:ArP op v1 v2 false i 0 0):ArB op v1 v2:=
 ⟨false,i,0,0,h1,h2,hi,⟨by omega,by omega⟩,.inl rfl⟩
theorem ArB.err {op:Int} {v1 v2:Value} {k:Int} (hk:k=3∨k=4∨k=5) (h1:ArS op v1 v2 false 0 0 k) (h2:ArP op v1 v2 false 0 0 k):ArB op v1 v2:=
 ⟨false,0,0,k,h1,h2,⟨by omega,by omega⟩,⟨by omega,by omega⟩,.inr hk⟩
theorem zkg (s t:Bool) (r q:Nat) (h1:WordN s r) (h2:q<9223372036854775808) (w:World):
 Rb 86 #[.int .u64 (wordS s r:Nat),.int .u64 (wordS t q:Nat)] w (.int .u64 (opW (Ieee.double.add (wordS s r) (wordS t q)):Nat)):=zka s t r q w h1.lt h2
theorem oppo (d:Ieee.Datum):d.opposite.opposite=d:=by
 cases d<;>simp [Ieee.Datum.opposite]
theorem ztt {A:Nat} {t:Bool} {q:Nat} (hq:q<9223372036854775808):Ieee.double.add A (wordS (!t) q)=Ieee.double.sub A (wordS t q):=by
 unfold Ieee.Format.add Ieee.Format.sub
 have e:Ieee.double.read (wordS (!t) q)=(Ieee.double.read (wordS t q)).opposite:=by
  rw [zeW hq,zeW hq]
  cases t with
  |false=>rfl
  |true=>
   show Ieee.double.read q=((Ieee.double.read q).opposite).opposite
   rw [oppo]
 rw [e]
theorem zkf {t:Bool} {q:Nat} (hq:q<9223372036854775808):bits BinOp.xor IntKind.u64 ((wordS t q:Nat):Int) 9223372036854775808=((wordS (!t) q:Nat):Int):=by
 have hl:wordS t q<18446744073709551616:=by unfold wordS;split<;>omega
 have h:=bits_xor_u64_nat (wordS t q) 9223372036854775808 hl (by omega)
 have hx:=zhd (x:=q) hq
 have e:wordS t q^^^9223372036854775808=wordS (!t) q:=by
  cases t with
  |false=>exact hx
  |true=>
   have:wordS true q=q^^^9223372036854775808:=hx.symm
   rw [this,Nat.xor_assoc,Nat.xor_self,Nat.xor_zero]
   rfl
 rw [e] at h
 exact h
theorem zfQ {f1 f2:Bool} {i1 u1 i2 u2:Int} {s t:Bool} {r q:Nat} (S1:Side f1 i1 u1 s r) (S2:Side f2 i2 u2 t q) (hf:¬ (f1||f2)=true):f1=false/\f2=false/\u1=0/\u2=0/\(-9223372036854775808<=i1/\i1<=9223372036854775807)/\(-9223372036854775808<=i2/\i2<=9223372036854775807):=by
 have h1:f1=false:=by cases f1<;>simp at hf ⊢
 have h2:f2=false:=by cases f2<;>simp at hf ⊢
 subst h1 h2
 rcases S1.kind with ⟨_,h3,h4⟩|⟨h,_⟩
 ·rcases S2.kind with ⟨_,g3,g4⟩|⟨h,_⟩
  ·exact ⟨rfl,rfl,h3,g3,h4,g4⟩
  cases h
 cases h
theorem zuA {f1 f2:Bool} {i1 u1 i2 u2:Int} {s t:Bool} {r q:Nat} (S1:Side f1 i1 u1 s r) (S2:Side f2 i2 u2 t q):ArB 1 (numG f1 i1 u1) (numG f2 i2 u2):=by
 by_cases hf:(f1||f2)=true
 ·refine ArB.flt (R:=opW (Ieee.double.add (wordS s r) (wordS t q))) (zdD (zc2 _ _)) (fun w=>?_) (fun w a1 a2 a3 a4 a5 hF=>?_)
  ·have:=zuF f1 f2 i1 u1 i2 u2 _ _ _ w S1.sp S2.sp hf (zdD (zc2 _ _)) (fun w=>zkg s t r q S1.ok S2.ok.lt w)
   rw [zda (zc2 _ _)] at this
   exact this
  exact zeJ 1 (.inl rfl) f1 f2 true i1 u1 i2 u2 0 _ .nilIface w (fun w' _=>zg6 1 .add (.inl ⟨rfl,rfl⟩) f1 f2 i1 u1 i2 u2 _ _ _ w' S1.fo S2.fo hf (zg7 _ _) (zc2 _ _))
 obtain ⟨rfl,rfl,rfl,rfl,r1,r2⟩:=zfQ S1 S2 hf
 exact ArB.int (za6 _) (fun w=>ztI i1 i2 _ _ w S1.sp S2.sp) (fun w a1 a2 a3 a4 a5 hF=>zeJ 1 (.inl rfl) false false false i1 0 i2 0 _ 0 .nilIface w (fun w' _=>zoi i1 i2 w'))
theorem zu7 {f1 f2:Bool} {i1 u1 i2 u2:Int} {s t:Bool} {r q:Nat} (S1:Side f1 i1 u1 s r) (S2:Side f2 i2 u2 t q):ArB 2 (numG f1 i1 u1) (numG f2 i2 u2):=by
 by_cases hf:(f1||f2)=true
 ·refine ArB.flt (R:=opW (Ieee.double.sub (wordS s r) (wordS t q))) (zdD (zmk _ _)) (fun w=>?_) (fun w a1 a2 a3 a4 a5 hF=>?_)
  ·have:=zua f1 f2 i1 u1 i2 u2 _ _ _ w S1.sp S2.sp hf (zdD (zc2 _ _)) _ (zkf S2.ok.lt) (fun w=>zkg s (!t) r q S1.ok S2.ok.lt w)
   rw [zda (zc2 _ _),ztt S2.ok.lt] at this
   exact this
  exact zeJ 2 (.inr (.inl rfl)) f1 f2 true i1 u1 i2 u2 0 _ .nilIface w (fun w' _=>zg6 2 .sub (.inr (.inl ⟨rfl,rfl⟩)) f1 f2 i1 u1 i2 u2 _ _ _ w' S1.fo S2.fo hf (zoL _ _) (zmk _ _))
 obtain ⟨rfl,rfl,rfl,rfl,r1,r2⟩:=zfQ S1 S2 hf
 exact ArB.int (za6 _) (fun w=>zt0 i1 i2 _ _ w S1.sp S2.sp) (fun w a1 a2 a3 a4 a5 hF=>zeJ 2 (.inr (.inl rfl)) false false false i1 0 i2 0 _ 0 .nilIface w (fun w' _=>zmA i1 i2 w'))
theorem ztZ {f1 f2:Bool} {i1 u1 i2 u2:Int} {s t:Bool} {r q:Nat} (S1:Side f1 i1 u1 s r) (S2:Side f2 i2 u2 t q):ArB 3 (numG f1 i1 u1) (numG f2 i2 u2):=by
 by_cases hf:(f1||f2)=true
 ·refine ArB.flt (R:=opW (Ieee.double.mul (wordS s r) (wordS t q))) (zdD (zb6 _ _)) (fun w=>?_) (fun w a1 a2 a3 a4 a5 hF=>?_)
  ·have:=zuK f1 f2 i1 u1 i2 u2 _ _ _ w S1.sp S2.sp hf (zdD (zb6 _ _)) (fun w=>zkz s t r q w S1.ok.lt S2.ok.lt)
   rw [zda (zb6 _ _)] at this
   exact this
  exact zeJ 3 (.inr (.inr rfl)) f1 f2 true i1 u1 i2 u2 0 _ .nilIface w (fun w' _=>zg6 3 .mul (.inr (.inr ⟨rfl,rfl⟩)) f1 f2 i1 u1 i2 u2 _ _ _ w' S1.fo S2.fo hf (zed _ _) (zb6 _ _))
 obtain ⟨rfl,rfl,rfl,rfl,r1,r2⟩:=zfQ S1 S2 hf
 exact ArB.int (za6 _) (fun w=>ztH i1 i2 _ _ w S1.sp S2.sp) (fun w a1 a2 a3 a4 a5 hF=>zeJ 3 (.inr (.inr rfl)) false false false i1 0 i2 0 _ 0 .nilIface w (fun w' _=>znP i1 i2 w'))
theorem zug {f1 f2:Bool} {i1 u1 i2 u2:Int} {s t:Bool} {r q:Nat} (S1:Side f1 i1 u1 s r) (S2:Side f2 i2 u2 t q):ArB 4 (numG f1 i1 u1) (numG f2 i2 u2):=by
 refine ArB.flt (R:=opW (Ieee.double.div (wordS s r) (wordS t q))) (zdD (zdp _ _)) (fun w=>?_) (fun w a1 a2 a3 a4 a5 hF=>?_)
 ·have:=zuf f1 f2 i1 u1 i2 u2 _ _ _ w S1.sp S2.sp (zdD (zdp _ _)) (fun w=>zhp s t r q w S1.ok.lt S2.ok.lt)
  rw [zda (zdp _ _)] at this
  exact this
 exact zrt f1 f2 i1 u1 i2 u2 _ _ _ w S1.fo S2.fo (zhn _ _) (zdp _ _)
theorem zuT {f1 f2:Bool} {i1 u1 i2 u2:Int} {s t:Bool} {r q:Nat} (S1:Side f1 i1 u1 s r) (S2:Side f2 i2 u2 t q):ArB 5 (numG f1 i1 u1) (numG f2 i2 u2):=by
 by_cases hf:(f1||f2)=true
 ·obtain ⟨M,hM,hS,hP⟩:=zp4 s t r q S1.ok.lt S2.ok.lt
  refine ArB.flt (R:=nrmW M) (zn3 hM) (fun w=>zuq f1 f2 i1 u1 i2 u2 _ _ _ w S1.sp S2.sp hf hM hS) (fun w a1 a2 a3 a4 a5 hF=>?_)
  refine zeS 5 (.inl rfl) f1 f2 true i1 u1 i2 u2 0 _ .nilIface w (fun w' _=>?_)
  cases f1 with
  |true=>exact zmx f2 i1 u1 i2 u2 _ _ M w' S1.fo S2.fo hP
  |false=>
   obtain rfl:f2=true:=by simpa using hf
   exact zny i1 u1 i2 u2 _ _ M w' S1.fo S2.fo hP
 obtain ⟨rfl,rfl,rfl,rfl,r1,r2⟩:=zfQ S1 S2 hf
 by_cases h0:i2=0
 ·subst h0
  refine ArB.err (k:=3) (.inl rfl) (fun w=>zm7 5 i1 _ _ w (.inl rfl) S1.sp S2.sp) (fun w a1 a2 a3 a4 a5 hF=>?_)
  exact zeS 5 (.inl rfl) false false false i1 0 0 0 0 0 (senV a3) w (fun w' hb=>zku 5 i1 (senV a3) w' (by have:=(hF.below hb).ready.size;omega) (hF.below hb).sents.g3)
 refine ArB.int (i:=rZ i1 i2) (zkA h0 r2.1 r2.2) (fun w=>?_) (fun w a1 a2 a3 a4 a5 hF=>?_)
 ·have:=zuS i1 i2 _ _ w S1.sp S2.sp r1.1 r1.2 r2.1 r2.2 (by rw [beq_eq_false_iff_ne];exact h0)
  rw [rZ_eq h0 r2.1 r2.2] at this
  exact this
 exact zeS 5 (.inl rfl) false false false i1 0 i2 0 _ 0 .nilIface w (fun w' hb=>zs6 i1 i2 w' r1.1 r1.2 r2.1 r2.2 h0)
theorem zqz (a b:Int): -9223372036854775808<=qZ a b/\qZ a b<=9223372036854775807:=by
 unfold qZ
 split
 ·exact za6 _
 split<;>exact za6 _
theorem zus {f1 f2:Bool} {i1 u1 i2 u2:Int} {s t:Bool} {r q:Nat} (S1:Side f1 i1 u1 s r) (S2:Side f2 i2 u2 t q):ArB 6 (numG f1 i1 u1) (numG f2 i2 u2):=by
 by_cases hf:(f1||f2)=true
 ·have hD:=fun w=>zhp s t r q w S1.ok.lt S2.ok.lt
  have hrun:=zhn (wordS s r) (wordS t q)
  have hok:=zdp (wordS s r) (wordS t q)
  generalize Ieee.double.div (wordS s r) (wordS t q)=o at *
  have prog:∀ (M:Nat),(∀ Q,FRes o Q->∀ w,Calls Tryz.prog 174 #[.float .f64 Q] w fun e w'=>∃ X,e=.returned (.float .f64 X)/\X<18446744073709551616/\nrmW X=nrmW M/\Below w.heap.size w w')->ArP 6 (numG f1 i1 u1) (numG f2 i2 u2) true 0 (nrmW M:Nat) 0:=by
   intro M hl w a1 a2 a3 a4 a5 hF
   refine zeS 6 (.inr rfl) f1 f2 true i1 u1 i2 u2 0 _ .nilIface w (fun w' _=>?_)
   cases f1 with
   |true=>exact zno f2 i1 u1 i2 u2 _ _ M o w' S1.fo S2.fo hrun hl
   |false=>
    obtain rfl:f2=true:=by simpa using hf
    exact zmO i1 u1 i2 u2 _ _ M o w' S1.fo S2.fo hrun hl
  cases o with
  |none=>
   have hN:=fun w=>zcF (9221120237041090560:Int) w (by omega)
   have e0:decide ((9218868437227405312:Int)<9221120237041090560%9223372036854775808)=true:=by decide
   rw [e0] at hN
   refine ArB.flt (R:=nrmW 9221120237041090560) (by decide) (fun w=>ztJ f1 f2 i1 u1 i2 u2 _ _ 9221120237041090560 w S1.sp S2.sp hf (by decide) hD hN) (prog _ ?_)
   intro Q hQ w
   rcases hQ with ⟨R,h,_⟩|⟨_,h1,h2⟩
   ·cases h
   have hs:=zbo h2
   have hm:Q%9223372036854775808<9223372036854775808:=Nat.mod_lt _ (by omega)
   have hp:=zdM (decide (9223372036854775808<=Q)) (Q%9223372036854775808) hm (by rw [zk0 h1 hm];rfl) w
   rw [<-hs] at hp
   refine hp.mono ?_
   rintro e w' ⟨rfl,rfl⟩
   exact ⟨Q,rfl,h2,by unfold nrmW;rw [if_pos h1];rfl,Below.refl _ _⟩
  |some R=>
   obtain ⟨h1,h2⟩:=hok R rfl
   obtain ⟨s',r',rfl,hr'⟩:=zqh h1 h2
   obtain ⟨F,hF1,hF2,hFs,hFp⟩:=zlF s' r' hr'
   have hN:=fun w=>(zeA (s:=s') (r:=r') (by have hi:infW=9218868437227405312:=rfl;omega)).c1 w
   rw [decide_eq_false (show ¬ infW<r' by omega)] at hN
   refine ArB.flt (R:=nrmW F) (zn3 hF2) (fun w=>zuV f1 f2 i1 u1 i2 u2 _ _ _ F w S1.sp S2.sp hf hF2 hD hN hFs) (prog _ ?_)
   intro Q hQ w
   rcases hQ with ⟨R,h,rfl⟩|⟨h,_⟩
   ·cases h
    refine (hFp w).mono ?_
    rintro e w' ⟨rfl,rfl⟩
    exact ⟨F,rfl,hF2,rfl,Below.refl _ _⟩
   cases h
 obtain ⟨rfl,rfl,rfl,rfl,r1,r2⟩:=zfQ S1 S2 hf
 by_cases h0:i2=0
 ·subst h0
  refine ArB.err (k:=3) (.inl rfl) (fun w=>zm7 6 i1 _ _ w (.inr rfl) S1.sp S2.sp) (fun w a1 a2 a3 a4 a5 hF=>?_)
  exact zeS 6 (.inr rfl) false false false i1 0 0 0 0 0 (senV a3) w (fun w' hb=>zku 6 i1 (senV a3) w' (by have:=(hF.below hb).ready.size;omega) (hF.below hb).sents.g3)
 refine ArB.int (zqz i1 i2) (fun w=>zt1 i1 i2 _ _ w S1.sp S2.sp r1.1 r1.2 r2.1 r2.2 (by rw [beq_eq_false_iff_ne];exact h0)) (fun w a1 a2 a3 a4 a5 hF=>?_)
 exact zeS 6 (.inr rfl) false false false i1 0 i2 0 _ 0 .nilIface w (fun w' hb=>zsR i1 i2 w' r1.1 r1.2 r2.1 r2.2 h0)
theorem zt3 {f1 f2:Bool} {i1 u1 i2 u2:Int} {s t:Bool} {r q:Nat} (S1:Side f1 i1 u1 s r) (S2:Side f2 i2 u2 t q):ArB 7 (numG f1 i1 u1) (numG f2 i2 u2):=by
 obtain ⟨o,⟨hS,hP⟩,hok⟩:=zo1 (wordS s r) t q S1.ok.lt64 S1.ok.nrm S2.ok
 cases o with
 |none=>
  refine ArB.err (k:=4) (.inr (.inl rfl)) (fun w=>zty f1 f2 i1 u1 i2 u2 _ _ w S1.sp S2.sp hS) (fun w a1 a2 a3 a4 a5 hF=>?_)
  exact zn7 f1 f2 i1 u1 i2 u2 _ _ false 0 0 (senV a4) w S1.fo S2.fo (fun w' hb=>hP w' (senV a4) (by have:=(hF.below hb).ready.size;omega) (hF.below hb).sents.g4)
 |some R=>
  obtain ⟨h1,h2⟩:=hok R rfl
  refine ArB.flt (R:=R) h1 (fun w=>?_) (fun w a1 a2 a3 a4 a5 hF=>?_)
  ·have:=zuI f1 f2 i1 u1 i2 u2 _ _ R w S1.sp S2.sp h1 hS
   rw [h2] at this
   exact this
  exact zn7 f1 f2 i1 u1 i2 u2 _ _ true 0 (R:Nat) .nilIface w S1.fo S2.fo (fun w' hb=>hP w' (senV a4) (by have:=(hF.below hb).ready.size;omega) (hF.below hb).sents.g4)
theorem zuL {f1:Bool} {i1 u1:Int} {s:Bool} {r:Nat} (S1:Side f1 i1 u1 s r):ArB 13 (numG f1 i1 u1) (numG f1 i1 u1):=by
 rcases S1.kind with ⟨rfl,rfl,h0,h1⟩|⟨rfl,rfl,rfl⟩
 ·exact ArB.int (za6 _) (fun w=>ztQ i1 i1 _ _ w S1.sp S1.sp) (fun w a1 a2 a3 a4 a5 hF=>zml 13 rfl false false false i1 0 i1 0 _ 0 .nilIface w (fun w' _=>zs4 i1 w'))
 have hl:wordS (!s) r<18446744073709551616:=by have:=S1.ok.lt;unfold wordS;split<;>omega
 refine ArB.flt (R:=nrmW (wordS (!s) r)) (zn3 hl) (fun w=>zuN true true 0 _ 0 _ _ _ _ w S1.sp S1.sp rfl hl (zkf S1.ok.lt)) (fun w a1 a2 a3 a4 a5 hF=>?_)
 exact zml 13 rfl true true true 0 _ 0 _ 0 _ .nilIface w (fun w' _=>zrH s r w' S1.ok.lt)
theorem zdO (x:Int): -9223372036854775808<=IntKind.i64.wrap x/\IntKind.i64.wrap x<=9223372036854775807:=by
 rw [IntKind.wrap_i64]
 omega
theorem zit (a n:Int): -9223372036854775808<=shZ a n/\shZ a n<=9223372036854775807:=by
 unfold shZ
 split<;>exact za6 _
theorem zeU {f:Bool} {i u:Int} {s:Bool} {r:Nat} (S:Side f i u s r):∃ z:Option Int,(∀ k,z=some k-> -9223372036854775808<=k/\k<=9223372036854775807)/\AIs (numG f i u) z/\WOf (numG f i u) z:=by
 rcases S.kind with ⟨rfl,rfl,h0,h1⟩|⟨rfl,rfl,rfl⟩
 ·exact ⟨some i,fun k hk=>by cases hk;exact ⟨h0,h1⟩,fun w=>znv i w,fun w ev _ _=>zjt i ev w⟩
 refine ⟨zaL s r,fun k hk=>?_,fun w=>zif s r w S.ok.lt,fun w ev h5 hev=>zjw s r ev w S.ok.lt h5 hev⟩
 unfold zaL at hk
 split at hk
 ·rename_i hc
  cases hk
  exact zfx hc.1
 cases hk
theorem zfW {w:World} {a1 a2 a3 a4 a5:Addr} (hF:Full w a1 a2 a3 a4 a5):5<w.heap.size/\w.cell? ⟨5,0,none⟩=some (senV a5)/\∃ a b,senV a5=.iface a b:=
 ⟨by have:=hF.ready.size;omega,hF.sents.g5,_,_,rfl⟩
theorem zse {f1 f2:Bool} {i1 u1 i2 u2:Int} {s t:Bool} {r q:Nat} (S1:Side f1 i1 u1 s r) (S2:Side f2 i2 u2 t q) (op:Int) (hop:op=8∨op=9∨op=10∨op=11∨op=12):ArB op (numG f1 i1 u1) (numG f2 i2 u2):=by
 obtain ⟨z1,h1,A1,W1⟩:=zeU S1
 obtain ⟨z2,h2,A2,W2⟩:=zeU S2
 have h8:8<=op:=by omega
 have h13:op≠13:=by omega
 cases z1 with
 |none=>
  refine ArB.err (k:=5) (.inr (.inr rfl)) (fun w=>zfN op h8 h13 f1 f2 i1 u1 i2 u2 false 0 0 5 w (fun w=>zoe f1 f2 i1 u1 i2 u2 0 op z2 w A1 A2)) (fun w a1 a2 a3 a4 a5 hF=>?_)
  refine zjm op hop f1 f2 false i1 u1 i2 u2 0 0 (senV a5) w (fun w' hb=>?_)
  obtain ⟨x1,x2,x3⟩:=zfW (hF.below hb)
  exact zsa f1 f2 i1 u1 i2 u2 op z2 (senV a5) w' W1 W2 x1 x2 x3
 |some x=>
  obtain ⟨p0,p1⟩:=h1 x rfl
  cases z2 with
  |none=>
   refine ArB.err (k:=5) (.inr (.inr rfl)) (fun w=>zfN op h8 h13 f1 f2 i1 u1 i2 u2 false 0 0 5 w (fun w=>zsH f1 f2 i1 u1 i2 u2 x op w A1 A2)) (fun w a1 a2 a3 a4 a5 hF=>?_)
   refine zjm op hop f1 f2 false i1 u1 i2 u2 0 0 (senV a5) w (fun w' hb=>?_)
   obtain ⟨x1,x2,x3⟩:=zfW (hF.below hb)
   exact zsS f1 f2 i1 u1 i2 u2 x op (senV a5) w' W1 W2 x1 x2 x3
  |some y=>
   obtain ⟨p2,p3⟩:=h2 y rfl
   have go:∀ (R:Int),(-9223372036854775808<=R/\R<=9223372036854775807)->(∀ w,Rb 83 #[.int .i64 op,numG f1 i1 u1,numG f2 i2 u2] w (.tuple #[numG false R 0,.int .i64 0]))->
    (∀ w a5,5<w.heap.size->w.cell? ⟨5,0,none⟩=some (senV a5)->(∃ a b,senV a5=.iface a b)->Rb 138 #[.int .i64 op,numG f1 i1 u1,numG f2 i2 u2] w (.tuple #[numG false R 0,.nilIface]))->ArB op (numG f1 i1 u1) (numG f2 i2 u2):=by
    intro R hR hS hP
    refine ArB.int hR (fun w=>zfN op h8 h13 f1 f2 i1 u1 i2 u2 false R 0 0 w hS) (fun w a1 a2 a3 a4 a5 hF=>?_)
    refine zjm op hop f1 f2 false i1 u1 i2 u2 R 0 .nilIface w (fun w' hb=>?_)
    obtain ⟨x1,x2,x3⟩:=zfW (hF.below hb)
    exact hP w' a5 x1 x2 x3
   rcases hop with rfl|rfl|rfl|rfl|rfl
   ·exact go _ (zdO _) (fun w=>zpQ f1 f2 i1 u1 i2 u2 x y w A1 A2) (fun w a5 x1 x2 x3=>zoW f1 f2 i1 u1 i2 u2 x y (senV a5) w W1 W2 x1 x2 x3)
   ·exact go _ (zdO _) (fun w=>ztm f1 f2 i1 u1 i2 u2 x y w A1 A2) (fun w a5 x1 x2 x3=>zsG f1 f2 i1 u1 i2 u2 x y (senV a5) w W1 W2 x1 x2 x3)
   ·exact go _ (zdO _) (fun w=>zoS f1 f2 i1 u1 i2 u2 x y w A1 A2) (fun w a5 x1 x2 x3=>zqG f1 f2 i1 u1 i2 u2 x y (senV a5) w W1 W2 x1 x2 x3)
   ·exact go _ (zit _ _) (fun w=>zo0 f1 f2 i1 u1 i2 u2 x y w A1 A2 p0 p1 p2 p3) (fun w a5 x1 x2 x3=>zpK f1 f2 i1 u1 i2 u2 x y (senV a5) w W1 W2 x1 x2 x3 p0 p1 p2 p3)
   refine go _ (zit _ _) (fun w=>?_) (fun w a5 x1 x2 x3=>zqc f1 f2 i1 u1 i2 u2 x y (senV a5) w W1 W2 x1 x2 x3 p0 p1 p2 p3)
   by_cases hm:y= -9223372036854775808
   ·subst hm
    have e:shZ x (wrap64 (-(-9223372036854775808)))=0:=by
     have e1:wrap64 (-(-9223372036854775808))= -9223372036854775808:=by unfold wrap64;omega
     rw [e1]
     exact zom (by omega) (by omega) (.inl (by omega))
    rw [e]
    exact zpE f1 f2 i1 u1 i2 u2 x w A1 A2
   have e:wrap64 (-y)= -y:=zmJ (by omega) (by omega)
   rw [e]
   exact zpW f1 f2 i1 u1 i2 u2 x y w A1 A2 p0 p1 p2 p3 hm
theorem zt9 {f1:Bool} {i1 u1:Int} {s:Bool} {r:Nat} (S1:Side f1 i1 u1 s r):ArB 14 (numG f1 i1 u1) (numG f1 i1 u1):=by
 obtain ⟨z1,h1,A1,W1⟩:=zeU S1
 cases z1 with
 |none=>
  refine ArB.err (k:=5) (.inr (.inr rfl)) (fun w=>zfN 14 (by omega) (by omega) f1 f1 i1 u1 i1 u1 false 0 0 5 w (fun w=>zoe f1 f1 i1 u1 i1 u1 0 14 none w A1 A1)) (fun w a1 a2 a3 a4 a5 hF=>?_)
  refine zt4 f1 f1 i1 u1 i1 u1 228 (.pointer (some a5)) w (fun w' hb=>?_)
  obtain ⟨x1,x2,x3⟩:=zfW (hF.below hb)
  exact W1 w' _ x1 x2
 |some x=>
  obtain ⟨p0,p1⟩:=h1 x rfl
  refine ArB.int ⟨by omega,by omega⟩ (fun w=>zfN 14 (by omega) (by omega) f1 f1 i1 u1 i1 u1 false (-1-x) 0 0 w (fun w=>zo3 f1 f1 i1 u1 i1 u1 x x w A1 A1 p0 p1)) (fun w a1 a2 a3 a4 a5 hF=>?_)
  refine zuu f1 f1 i1 u1 i1 u1 x w p0 p1 (fun w' hb=>?_)
  obtain ⟨x1,x2,x3⟩:=zfW (hF.below hb)
  exact W1 w' _ x1 x2
theorem zun {v1 v2:Value} (h1:NumN v1) (h2:NumN v2) (op:Int) (h:1<=op/\op<=12):ArB op v1 v2:=by
 obtain ⟨f1,i1,u1,s,r,rfl,S1⟩:=zhl h1
 obtain ⟨f2,i2,u2,t,q,rfl,S2⟩:=zhl h2
 have hop:op=1∨op=2∨op=3∨op=4∨op=5∨op=6∨op=7∨(op=8∨op=9∨op=10∨op=11∨op=12):=by omega
 rcases hop with rfl|rfl|rfl|rfl|rfl|rfl|rfl|hb
 ·exact zuA S1 S2
 ·exact zu7 S1 S2
 ·exact ztZ S1 S2
 ·exact zug S1 S2
 ·exact zuT S1 S2
 ·exact zus S1 S2
 ·exact zt3 S1 S2
 exact zse S1 S2 op hb
theorem ztB {v:Value} (h1:NumN v) (op:Int) (h:op=13∨op=14):ArB op v v:=by
 obtain ⟨f1,i1,u1,s,r,rfl,S1⟩:=zhl h1
 rcases h with rfl|rfl
 ·exact zuL S1
 exact zt9 S1
structure Full2 (w:World) (a1 a2 a3 a4 a5:Addr):Prop where
 full:Full w a1 a2 a3 a4 a5
 fe:FE w
 x21:Apart w a2 a1
 x31:Apart w a3 a1
 x32:Apart w a3 a2
 x41:Apart w a4 a1
 x42:Apart w a4 a2
 x43:Apart w a4 a3
theorem Full2.below {w w':World} {a1 a2 a3 a4 a5:Addr} (h:Full2 w a1 a2 a3 a4 a5) (hb:Below w.heap.size w w'):Full2 w' a1 a2 a3 a4 a5:=
 ⟨h.full.below hb,h.fe.below hb,h.x21.below hb,h.x31.below hb,h.x32.below hb,h.x41.below hb,h.x42.below hb,h.x43.below hb⟩
theorem zlM (a1 a2 a3 a4 a5:Addr) (w:World) (h:Full2 w a1 a2 a3 a4 a5):
 Rb 40 #[senV a2] w (.int .i64 2):=by
 have HS:=hide (zf3 a2 w)
 have H1:=hide h.x21.is
 have g1:=h.full.sents.g1
 have g2:=h.full.sents.g2
 clear h
 go_enter Tryz.func40,Tryz.ntmps40
 go_wp2_with fail
 refine rs H1.out ?_
 go_wp2_with fail
 refine rs HS.out ?_
 go_wp2
 all_goals go_ret
 all_goals exact ⟨rfl,Below.refl _ _⟩
theorem znL (a1 a2 a3 a4 a5:Addr) (w:World) (h:Full2 w a1 a2 a3 a4 a5):
 Rb 40 #[senV a3] w (.int .i64 3):=by
 have HS:=hide (zf3 a3 w)
 have H1:=hide h.x31.is
 have H2:=hide h.x32.is
 have g1:=h.full.sents.g1
 have g2:=h.full.sents.g2
 have g3:=h.full.sents.g3
 clear h
 go_enter Tryz.func40,Tryz.ntmps40
 go_wp2_with fail
 refine rs H1.out ?_
 go_wp2_with fail
 refine rs H2.out ?_
 go_wp2_with fail
 refine rs HS.out ?_
 go_wp2
 all_goals go_ret
 all_goals exact ⟨rfl,Below.refl _ _⟩
theorem zkV (a1 a2 a3 a4 a5:Addr) (w:World) (h:Full2 w a1 a2 a3 a4 a5):
 Rb 40 #[senV a4] w (.int .i64 4):=by
 have HS:=hide (zf3 a4 w)
 have H1:=hide h.x41.is
 have H2:=hide h.x42.is
 have H3:=hide h.x43.is
 have g1:=h.full.sents.g1
 have g2:=h.full.sents.g2
 have g3:=h.full.sents.g3
 have g4:=h.full.sents.g4
 clear h
 go_enter Tryz.func40,Tryz.ntmps40
 go_wp2_with fail
 refine rs H1.out ?_
 go_wp2_with fail
 refine rs H2.out ?_
 go_wp2_with fail
 refine rs H3.out ?_
 go_wp2_with fail
 refine rs HS.out ?_
 go_wp2
 all_goals go_ret
 all_goals exact ⟨rfl,Below.refl _ _⟩
theorem zkr {w:World} {a1 a2 a3 a4 a5:Addr} (h:Full2 w a1 a2 a3 a4 a5) {k:Int} (hk:k=2∨k=3∨k=4∨k=5):
 ∃ b,codV a2 a3 a4 a5 k=senV b/\Rb 40 #[senV b] w (.int .i64 k):=by
 rcases hk with rfl|rfl|rfl|rfl
 ·exact ⟨a2,rfl,zlM a1 a2 a3 a4 a5 w h⟩
 ·exact ⟨a3,rfl,znL a1 a2 a3 a4 a5 w h⟩
 ·exact ⟨a4,rfl,zkV a1 a2 a3 a4 a5 w h⟩
 exact ⟨a5,rfl,zlt a1 a2 a3 a4 a5 w h.full.sents⟩
def OpC (t:ByteArray) (f:Bool) (i u:Int) (k:Bool):Prop:=∀ w,Rb 36 #[.string t] w (.tuple #[.agg #[.bool f,.int .i64 i,.int .u64 u],.bool k])
abbrev txV (T:ByteArray) (c:Int):Value:=.tuple #[.string T,.int .i64 c]
theorem zrx (op:Int) (hop:op=13∨op=14) (t1 t2:ByteArray) (f:Bool) (i u:Int) (w:World) (h1:OpC t1 f i u false):
 Rb 18 #[.int .i64 op,.string t1,.string t2] w (txV ⟨#[]⟩ 1):=by
 have H1:=hide h1
 clear h1
 rcases hop with rfl|rfl
 all_goals (
  go_enter Tryz.func18,Tryz.ntmps18
  go_wp2_with fail
  refine rb (H1.out _) fun w1 hb1=>?_
  have HB1:=hide ((hb1.alloc hb1.size (numC f i u)).alloc (by have:=hb1.size;simp;omega) (numC f i u))
  clear hb1
  go_wp2
  all_goals go_ret2
  all_goals exact ⟨rfl,HB1.out⟩)
theorem set3 {a w2:World} {base blk:Nat} (h:Below base a w2) (hb:base<=blk) (x y z:Value):Below base a (((w2.setCell ⟨blk,0,none⟩ x).setCell ⟨blk,1,none⟩ y).setCell ⟨blk,2,none⟩ z):=
 Below.setCell (Below.setCell (Below.setCell h (show base<=blk from hb) _) (show base<=blk from hb) _) (show base<=blk from hb) _
theorem zki {w1 w2:World} {f g:Bool} {i u j v:Int} (h:Below ((w1.alloc (numC f i u)).alloc (numC g j v)).heap.size ((w1.alloc (numC f i u)).alloc (numC g j v)) w2):
 (w2.cell? ⟨w1.heap.size,0,none⟩=some (.bool f)/\w2.cell? ⟨w1.heap.size,1,none⟩=some (.int .i64 i)/\w2.cell? ⟨w1.heap.size,2,none⟩=some (.int .u64 u))/\
 (w2.cell? ⟨w1.heap.size+1,0,none⟩=some (.bool g)/\w2.cell? ⟨w1.heap.size+1,1,none⟩=some (.int .i64 j)/\w2.cell? ⟨w1.heap.size+1,2,none⟩=some (.int .u64 v))/\
 w2.frozen? ⟨w1.heap.size+1,0,none⟩=false/\w2.frozen? ⟨w1.heap.size+1,1,none⟩=false/\w2.frozen? ⟨w1.heap.size+1,2,none⟩=false:=by
 have ka:=fun j=>h.cell (p:=⟨w1.heap.size,j,none⟩) (by simp;omega)
 have kb:=fun j=>h.cell (p:=⟨w1.heap.size+1,j,none⟩) (by simp)
 have kf:=fun j=>h.frozen (p:=⟨w1.heap.size+1,j,none⟩) (by simp)
 exact ⟨⟨(ka 0).trans (by simp),(ka 1).trans (by simp),(ka 2).trans (by simp)⟩,⟨(kb 0).trans (by simp),(kb 1).trans (by simp),(kb 2).trans (by simp)⟩,(kf 0).trans (by simp),(kf 1).trans (by simp),(kf 2).trans (by simp)⟩
theorem zoc (op:Int) (h13:(op !=13)=true) (h14:(op !=14)=true) (t1 t2:ByteArray) (f:Bool) (i u:Int) (k:Bool) (g:Bool) (j v:Int) (l:Bool) (w:World) (h1:OpC t1 f i u k) (h2:OpC t2 g j v l) (hkl:(k&&l)=false):
 Rb 18 #[.int .i64 op,.string t1,.string t2] w (txV ⟨#[]⟩ 1):=by
 have H1:=hide h1
 have H2:=hide h2
 clear h1 h2
 go_enter Tryz.func18,Tryz.ntmps18
 go_wp2_with fail
 refine rb (H1.out _) fun w1 hb1=>?_
 have hz1:w.heap.size<=w1.heap.size:=hb1.size
 have HB1:=hide ((hb1.alloc hb1.size (numC f i u)).alloc (by have:=hb1.size;simp;omega) (numC f i u))
 clear hb1
 go_wp2_with fail
 refine rb (H2.out _) fun w2 hb2=>?_
 obtain ⟨⟨a0,a1,a2⟩,⟨b0,b1,b2⟩,z0,z1,z2⟩:=zki hb2
 have HB2:=hide (bt HB1.out hb2)
 clear hb2
 cases k<;>cases l
 case true.true=>cases hkl
 all_goals (
  go_wp2
  all_goals go_ret2
  all_goals exact ⟨rfl,Below.setCell (Below.setCell (Below.setCell HB2.out (by simp;omega) _) (by simp;omega) _) (by simp;omega) _⟩)
theorem zti (op:Int) (h13:(op !=13)=true) (h14:(op !=14)=true) (hop:op<1∨14<op) (t1 t2:ByteArray) (f:Bool) (i u:Int) (g:Bool) (j v:Int) (w:World) (h1:OpC t1 f i u true) (h2:OpC t2 g j v true):
 Rb 18 #[.int .i64 op,.string t1,.string t2] w (txV ⟨#[]⟩ 2):=by
 have H1:=hide h1
 have H2:=hide h2
 clear h1 h2
 rcases hop with hop|hop
 all_goals (
  go_enter Tryz.func18,Tryz.ntmps18
  go_wp2_with fail
  refine rb (H1.out _) fun w1 hb1=>?_
  have hz1:w.heap.size<=w1.heap.size:=hb1.size
  have HB1:=hide ((hb1.alloc hb1.size (numC f i u)).alloc (by have:=hb1.size;simp;omega) (numC f i u))
  clear hb1
  go_wp2_with fail
  refine rb (H2.out _) fun w2 hb2=>?_
  obtain ⟨⟨a0,a1,a2⟩,⟨b0,b1,b2⟩,z0,z1,z2⟩:=zki hb2
  have HB2:=hide (bt HB1.out hb2)
  clear hb2
  go_wp2
  all_goals go_ret2
  all_goals exact ⟨rfl,(Below.setCell (Below.setCell (Below.setCell HB2.out (by simp;omega) _) (by simp;omega) _) (by simp;omega) _)⟩)
theorem zqI (op:Int) (h13:(op !=13)=true) (h14:(op !=14)=true) (hop:1<=op) (hop2:op<=14) (t1 t2:ByteArray) (f:Bool) (i u:Int) (g:Bool) (j v:Int) (f3:Bool) (i3 u3 k:Int) (w:World) (h1:OpC t1 f i u true) (h2:OpC t2 g j v true) (hA:ArS op (numG f i u) (numG g j v) f3 i3 u3 k) (hk:(k !=0)=true):
 Rb 18 #[.int .i64 op,.string t1,.string t2] w (txV ⟨#[]⟩ k):=by
 have H1:=hide h1
 have H2:=hide h2
 have HA:=hide hA
 clear h1 h2 hA
 skip
 go_enter Tryz.func18,Tryz.ntmps18
 go_wp2_with fail
 refine rb (H1.out _) fun w1 hb1=>?_
 have hz1:w.heap.size<=w1.heap.size:=hb1.size
 have HB1:=hide ((hb1.alloc hb1.size (numC f i u)).alloc (by have:=hb1.size;simp;omega) (numC f i u))
 clear hb1
 go_wp2_with fail
 refine rb (H2.out _) fun w2 hb2=>?_
 obtain ⟨⟨a0,a1,a2⟩,⟨b0,b1,b2⟩,z0,z1,z2⟩:=zki hb2
 have HB2:=hide (bt HB1.out hb2)
 clear hb2
 go_wp2_with fail
 have HB2s:=hide (set3 HB2.out (show w.heap.size<=w1.heap.size+1 by omega) (.bool g) (.int .i64 j) (.int .u64 v))
 refine rb (HA.out _) fun w3 hb3=>?_
 have hb3':=bt HB2s.out hb3
 have HB3:=hide (hb3'.alloc hb3'.size (numC f3 i3 u3))
 clear hb3 hb3'
 go_wp2
 all_goals go_ret2
 all_goals exact ⟨rfl,HB3.out⟩
theorem zr0 (op:Int) (h13:(op !=13)=true) (h14:(op !=14)=true) (hop:1<=op) (hop2:op<=14) (t1 t2:ByteArray) (f:Bool) (i u:Int) (g:Bool) (j v:Int) (f3:Bool) (i3 u3:Int) (T:ByteArray->Prop) (w:World) (h1:OpC t1 f i u true) (h2:OpC t2 g j v true) (hA:ArS op (numG f i u) (numG g j v) f3 i3 u3 0) (hT:∀ w,Calls Tryz.prog 20 #[.agg #[.bool f3,.int .i64 i3,.int .u64 u3]] w fun e w'=>FNum T w e w'):
 Calls Tryz.prog 18 #[.int .i64 op,.string t1,.string t2] w fun e w'=>∃ b,e=.returned (txV b 0)/\T b/\Below w.heap.size w w':=by
 have H1:=hide h1
 have H2:=hide h2
 have HA:=hide hA
 have HT:=hide hT
 clear h1 h2 hA hT
 skip
 go_enter Tryz.func18,Tryz.ntmps18
 go_wp2_with fail
 refine rb (H1.out _) fun w1 hb1=>?_
 have hz1:w.heap.size<=w1.heap.size:=hb1.size
 have HB1:=hide ((hb1.alloc hb1.size (numC f i u)).alloc (by have:=hb1.size;simp;omega) (numC f i u))
 clear hb1
 go_wp2_with fail
 refine rb (H2.out _) fun w2 hb2=>?_
 obtain ⟨⟨a0,a1,a2⟩,⟨b0,b1,b2⟩,z0,z1,z2⟩:=zki hb2
 have HB2:=hide (bt HB1.out hb2)
 clear hb2
 go_wp2_with fail
 have HB2s:=hide (set3 HB2.out (show w.heap.size<=w1.heap.size+1 by omega) (.bool g) (.int .i64 j) (.int .u64 v))
 refine rb (HA.out _) fun w3 hb3=>?_
 have hb3':=bt HB2s.out hb3
 have HB3:=hide (hb3'.alloc hb3'.size (numC f3 i3 u3))
 clear hb3 hb3'
 go_wp2_with fail
 refine (HT.out _).mono ?_
 rintro e w4 ⟨b,rfl,hb,hb4⟩
 have HB4:=hide (bt HB3.out hb4)
 have Hb:=hide hb
 clear hb hb4
 go_wp2
 all_goals go_ret2
 all_goals exact ⟨b,rfl,Hb.out,HB4.out⟩
theorem zp9 (op:Int) (hop:op=13∨op=14) (t1 t2:ByteArray) (f:Bool) (i u:Int) (f3:Bool) (i3 u3 k:Int) (w:World) (h1:OpC t1 f i u true) (hA:ArS op (numG f i u) (numG f i u) f3 i3 u3 k) (hk:(k !=0)=true):
 Rb 18 #[.int .i64 op,.string t1,.string t2] w (txV ⟨#[]⟩ k):=by
 have H1:=hide h1
 have HA:=hide hA
 clear h1 hA
 rcases hop with rfl|rfl
 all_goals (
  go_enter Tryz.func18,Tryz.ntmps18
  go_wp2_with fail
  refine rb (H1.out _) fun w1 hb1=>?_
  have hz1:w.heap.size<=w1.heap.size:=hb1.size
  have HB1:=hide ((hb1.alloc hb1.size (numC f i u)).alloc (by have:=hb1.size;simp;omega) (numC f i u))
  clear hb1
  go_wp2_with fail
  refine rb (HA.out _) fun w3 hb3=>?_
  have hb3':=bt HB1.out hb3
  have HB3:=hide (hb3'.alloc hb3'.size (numC f3 i3 u3))
  clear hb3 hb3'
  go_wp2
  all_goals go_ret2
  all_goals exact ⟨rfl,HB3.out⟩)
theorem zrM (op:Int) (hop:op=13∨op=14) (t1 t2:ByteArray) (f:Bool) (i u:Int) (f3:Bool) (i3 u3:Int) (T:ByteArray->Prop) (w:World) (h1:OpC t1 f i u true) (hA:ArS op (numG f i u) (numG f i u) f3 i3 u3 0) (hT:∀ w,Calls Tryz.prog 20 #[.agg #[.bool f3,.int .i64 i3,.int .u64 u3]] w fun e w'=>FNum T w e w'):
 Calls Tryz.prog 18 #[.int .i64 op,.string t1,.string t2] w fun e w'=>∃ b,e=.returned (txV b 0)/\T b/\Below w.heap.size w w':=by
 have H1:=hide h1
 have HA:=hide hA
 have HT:=hide hT
 clear h1 hA hT
 rcases hop with rfl|rfl
 all_goals (
  go_enter Tryz.func18,Tryz.ntmps18
  go_wp2_with fail
  refine rb (H1.out _) fun w1 hb1=>?_
  have hz1:w.heap.size<=w1.heap.size:=hb1.size
  have HB1:=hide ((hb1.alloc hb1.size (numC f i u)).alloc (by have:=hb1.size;simp;omega) (numC f i u))
  clear hb1
  go_wp2_with fail
  refine rb (HA.out _) fun w3 hb3=>?_
  have hb3':=bt HB1.out hb3
  have HB3:=hide (hb3'.alloc hb3'.size (numC f3 i3 u3))
  clear hb3 hb3'
  go_wp2_with fail
  refine (HT.out _).mono ?_
  rintro e w4 ⟨b,rfl,hb,hb4⟩
  have HB4:=hide (bt HB3.out hb4)
  have Hb:=hide hb
  clear hb hb4
  go_wp2
  all_goals go_ret2
  all_goals exact ⟨b,rfl,Hb.out,HB4.out⟩)
end Go.Proofs.YtamdnnkdnhkghaaGreatDoor
