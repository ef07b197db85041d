import Derived.Test.YtamdnnkdnhkghaaGreatDoorQ40
set_option maxHeartbeats 12800000
set_option maxRecDepth 100000
set_option linter.unusedVariables false
namespace Go.Proofs.YtamdnnkdnhkghaaGreatDoor
open Go Go.RowKit
def ASF (f:Bool) (i u:Int) (X:Nat):Prop:=∀ w,Rb 84 #[.agg #[.bool f,.int .i64 i,.int .u64 u]] w (.int .u64 X)
theorem zuF (f1 f2:Bool) (i1 u1 i2 u2:Int) (X Y R:Nat) (w:World) (hx:ASF f1 i1 u1 X) (hy:ASF f2 i2 u2 Y) (hf:(f1||f2)=true) (hR:R<18446744073709551616) (hO:∀ w,Rb 86 #[.int .u64 X,.int .u64 Y] w (.int .u64 R)):
 Rb 44 #[.int .i64 1,.agg #[.bool f1,.int .i64 i1,.int .u64 u1],.agg #[.bool f2,.int .i64 i2,.int .u64 u2]] w (.tuple #[.agg #[.bool true,.int .i64 0,.int .u64 (nrmW R:Nat)],.int .i64 0]):=by
 have HX:=hide hx
 have HY:=hide hy
 have HO:=hide hO
 have HN:=hide (fun w=>zaZ R w hR)
 clear hx hy hO hR
 cases f1<;>cases f2
 case false.false=>cases hf
 all_goals (
  go_enter Tryz.func44,Tryz.ntmps44
  go_wp2_with fail
  refine rb (HX.out _) fun w1 hb1=>?_
  have HB:=hide hb1
  obtain ⟨a0,a1,a2,b0,b1,b2⟩:=zac hb1
  clear hb1
  go_wp2_with fail
  refine rb (HY.out _) fun w2 hb2=>?_
  have hbn:=bt HB.out hb2
  clear HB hb2 a0 a1 a2 b0 b1 b2
  have HB:=hide hbn
  obtain ⟨a0,a1,a2,b0,b1,b2⟩:=zac hbn
  clear hbn
  go_wp2_with fail
  refine rb (HO.out _) fun w3 hb3=>?_
  have hbn:=bt HB.out hb3
  clear HB hb3 a0 a1 a2 b0 b1 b2
  have HB:=hide hbn
  obtain ⟨a0,a1,a2,b0,b1,b2⟩:=zac hbn
  clear hbn
  go_wp2_with fail
  refine rb (HN.out _) fun w4 hb3=>?_
  have hbn:=bt HB.out hb3
  clear HB hb3 a0 a1 a2 b0 b1 b2
  have HB:=hide hbn
  obtain ⟨a0,a1,a2,b0,b1,b2⟩:=zac hbn
  clear hbn
  obtain ⟨⟨c0,c1,c2⟩,z0,z1,z2⟩:=res_3 HB.out
  go_wp2
  refine bodyPost_ret (v:=.tuple #[.agg #[.bool true,.int .i64 0,.int .u64 (nrmW R:Nat)],.int .i64 0]) ?_ rfl ⟨rfl,put_3 HB.out _ _ _⟩
  simp [results,Tryz.results44,go_sem,c0,c1,c2])
theorem zua (f1 f2:Bool) (i1 u1 i2 u2:Int) (X Y R:Nat) (w:World) (hx:ASF f1 i1 u1 X) (hy:ASF f2 i2 u2 Y) (hf:(f1||f2)=true) (hR:R<18446744073709551616) (Z:Nat) (hZ:bits BinOp.xor IntKind.u64 (Y:Int) 9223372036854775808=(Z:Int)) (hO:∀ w,Rb 86 #[.int .u64 X,.int .u64 Z] w (.int .u64 R)):
 Rb 44 #[.int .i64 2,.agg #[.bool f1,.int .i64 i1,.int .u64 u1],.agg #[.bool f2,.int .i64 i2,.int .u64 u2]] w (.tuple #[.agg #[.bool true,.int .i64 0,.int .u64 (nrmW R:Nat)],.int .i64 0]):=by
 have HX:=hide hx
 have HY:=hide hy
 have HO:=hide hO
 have HN:=hide (fun w=>zaZ R w hR)
 clear hx hy hO hR
 cases f1<;>cases f2
 case false.false=>cases hf
 all_goals (
  go_enter Tryz.func44,Tryz.ntmps44
  go_wp2_with fail
  refine rb (HX.out _) fun w1 hb1=>?_
  have HB:=hide hb1
  obtain ⟨a0,a1,a2,b0,b1,b2⟩:=zac hb1
  clear hb1
  go_wp2_with fail
  refine rb (HY.out _) fun w2 hb2=>?_
  have hbn:=bt HB.out hb2
  clear HB hb2 a0 a1 a2 b0 b1 b2
  have HB:=hide hbn
  obtain ⟨a0,a1,a2,b0,b1,b2⟩:=zac hbn
  clear hbn
  go_wp2_with fail
  refine rb (HO.out _) fun w3 hb3=>?_
  have hbn:=bt HB.out hb3
  clear HB hb3 a0 a1 a2 b0 b1 b2
  have HB:=hide hbn
  obtain ⟨a0,a1,a2,b0,b1,b2⟩:=zac hbn
  clear hbn
  go_wp2_with fail
  refine rb (HN.out _) fun w4 hb3=>?_
  have hbn:=bt HB.out hb3
  clear HB hb3 a0 a1 a2 b0 b1 b2
  have HB:=hide hbn
  obtain ⟨a0,a1,a2,b0,b1,b2⟩:=zac hbn
  clear hbn
  obtain ⟨⟨c0,c1,c2⟩,z0,z1,z2⟩:=res_3 HB.out
  go_wp2
  refine bodyPost_ret (v:=.tuple #[.agg #[.bool true,.int .i64 0,.int .u64 (nrmW R:Nat)],.int .i64 0]) ?_ rfl ⟨rfl,put_3 HB.out _ _ _⟩
  simp [results,Tryz.results44,go_sem,c0,c1,c2])
theorem zuK (f1 f2:Bool) (i1 u1 i2 u2:Int) (X Y R:Nat) (w:World) (hx:ASF f1 i1 u1 X) (hy:ASF f2 i2 u2 Y) (hf:(f1||f2)=true) (hR:R<18446744073709551616) (hO:∀ w,Rb 87 #[.int .u64 X,.int .u64 Y] w (.int .u64 R)):
 Rb 44 #[.int .i64 3,.agg #[.bool f1,.int .i64 i1,.int .u64 u1],.agg #[.bool f2,.int .i64 i2,.int .u64 u2]] w (.tuple #[.agg #[.bool true,.int .i64 0,.int .u64 (nrmW R:Nat)],.int .i64 0]):=by
 have HX:=hide hx
 have HY:=hide hy
 have HO:=hide hO
 have HN:=hide (fun w=>zaZ R w hR)
 clear hx hy hO hR
 cases f1<;>cases f2
 case false.false=>cases hf
 all_goals (
  go_enter Tryz.func44,Tryz.ntmps44
  go_wp2_with fail
  refine rb (HX.out _) fun w1 hb1=>?_
  have HB:=hide hb1
  obtain ⟨a0,a1,a2,b0,b1,b2⟩:=zac hb1
  clear hb1
  go_wp2_with fail
  refine rb (HY.out _) fun w2 hb2=>?_
  have hbn:=bt HB.out hb2
  clear HB hb2 a0 a1 a2 b0 b1 b2
  have HB:=hide hbn
  obtain ⟨a0,a1,a2,b0,b1,b2⟩:=zac hbn
  clear hbn
  go_wp2_with fail
  refine rb (HO.out _) fun w3 hb3=>?_
  have hbn:=bt HB.out hb3
  clear HB hb3 a0 a1 a2 b0 b1 b2
  have HB:=hide hbn
  obtain ⟨a0,a1,a2,b0,b1,b2⟩:=zac hbn
  clear hbn
  go_wp2_with fail
  refine rb (HN.out _) fun w4 hb3=>?_
  have hbn:=bt HB.out hb3
  clear HB hb3 a0 a1 a2 b0 b1 b2
  have HB:=hide hbn
  obtain ⟨a0,a1,a2,b0,b1,b2⟩:=zac hbn
  clear hbn
  obtain ⟨⟨c0,c1,c2⟩,z0,z1,z2⟩:=res_3 HB.out
  go_wp2
  refine bodyPost_ret (v:=.tuple #[.agg #[.bool true,.int .i64 0,.int .u64 (nrmW R:Nat)],.int .i64 0]) ?_ rfl ⟨rfl,put_3 HB.out _ _ _⟩
  simp [results,Tryz.results44,go_sem,c0,c1,c2])
theorem zuf (f1 f2:Bool) (i1 u1 i2 u2:Int) (X Y R:Nat) (w:World) (hx:ASF f1 i1 u1 X) (hy:ASF f2 i2 u2 Y) (hR:R<18446744073709551616) (hO:∀ w,Rb 60 #[.int .u64 X,.int .u64 Y] w (.int .u64 R)):
 Rb 44 #[.int .i64 4,.agg #[.bool f1,.int .i64 i1,.int .u64 u1],.agg #[.bool f2,.int .i64 i2,.int .u64 u2]] w (.tuple #[.agg #[.bool true,.int .i64 0,.int .u64 (nrmW R:Nat)],.int .i64 0]):=by
 have HX:=hide hx
 have HY:=hide hy
 have HO:=hide hO
 have HN:=hide (fun w=>zaZ R w hR)
 clear hx hy hO hR
 cases f1<;>cases f2
 all_goals (
  go_enter Tryz.func44,Tryz.ntmps44
  go_wp2_with fail
  refine rb (HX.out _) fun w1 hb1=>?_
  have HB:=hide hb1
  obtain ⟨a0,a1,a2,b0,b1,b2⟩:=zac hb1
  clear hb1
  go_wp2_with fail
  refine rb (HY.out _) fun w2 hb2=>?_
  have hbn:=bt HB.out hb2
  clear HB hb2 a0 a1 a2 b0 b1 b2
  have HB:=hide hbn
  obtain ⟨a0,a1,a2,b0,b1,b2⟩:=zac hbn
  clear hbn
  go_wp2_with fail
  refine rb (HO.out _) fun w3 hb3=>?_
  have hbn:=bt HB.out hb3
  clear HB hb3 a0 a1 a2 b0 b1 b2
  have HB:=hide hbn
  obtain ⟨a0,a1,a2,b0,b1,b2⟩:=zac hbn
  clear hbn
  go_wp2_with fail
  refine rb (HN.out _) fun w4 hb3=>?_
  have hbn:=bt HB.out hb3
  clear HB hb3 a0 a1 a2 b0 b1 b2
  have HB:=hide hbn
  obtain ⟨a0,a1,a2,b0,b1,b2⟩:=zac hbn
  clear hbn
  obtain ⟨⟨c0,c1,c2⟩,z0,z1,z2⟩:=res_3 HB.out
  go_wp2
  refine bodyPost_ret (v:=.tuple #[.agg #[.bool true,.int .i64 0,.int .u64 (nrmW R:Nat)],.int .i64 0]) ?_ rfl ⟨rfl,put_3 HB.out _ _ _⟩
  simp [results,Tryz.results44,go_sem,c0,c1,c2])
theorem zuq (f1 f2:Bool) (i1 u1 i2 u2:Int) (X Y R:Nat) (w:World) (hx:ASF f1 i1 u1 X) (hy:ASF f2 i2 u2 Y) (hf:(f1||f2)=true) (hR:R<18446744073709551616) (hO:∀ w,Rb 88 #[.int .u64 X,.int .u64 Y] w (.int .u64 R)):
 Rb 44 #[.int .i64 5,.agg #[.bool f1,.int .i64 i1,.int .u64 u1],.agg #[.bool f2,.int .i64 i2,.int .u64 u2]] w (.tuple #[.agg #[.bool true,.int .i64 0,.int .u64 (nrmW R:Nat)],.int .i64 0]):=by
 have HX:=hide hx
 have HY:=hide hy
 have HO:=hide hO
 have HN:=hide (fun w=>zaZ R w hR)
 clear hx hy hO hR
 cases f1<;>cases f2
 case false.false=>cases hf
 all_goals (
  go_enter Tryz.func44,Tryz.ntmps44
  go_wp2_with fail
  refine rb (HX.out _) fun w1 hb1=>?_
  have HB:=hide hb1
  obtain ⟨a0,a1,a2,b0,b1,b2⟩:=zac hb1
  clear hb1
  go_wp2_with fail
  refine rb (HY.out _) fun w2 hb2=>?_
  have hbn:=bt HB.out hb2
  clear HB hb2 a0 a1 a2 b0 b1 b2
  have HB:=hide hbn
  obtain ⟨a0,a1,a2,b0,b1,b2⟩:=zac hbn
  clear hbn
  go_wp2_with fail
  refine rb (HO.out _) fun w3 hb3=>?_
  have hbn:=bt HB.out hb3
  clear HB hb3 a0 a1 a2 b0 b1 b2
  have HB:=hide hbn
  obtain ⟨a0,a1,a2,b0,b1,b2⟩:=zac hbn
  clear hbn
  go_wp2_with fail
  refine rb (HN.out _) fun w4 hb3=>?_
  have hbn:=bt HB.out hb3
  clear HB hb3 a0 a1 a2 b0 b1 b2
  have HB:=hide hbn
  obtain ⟨a0,a1,a2,b0,b1,b2⟩:=zac hbn
  clear hbn
  obtain ⟨⟨c0,c1,c2⟩,z0,z1,z2⟩:=res_3 HB.out
  go_wp2
  refine bodyPost_ret (v:=.tuple #[.agg #[.bool true,.int .i64 0,.int .u64 (nrmW R:Nat)],.int .i64 0]) ?_ rfl ⟨rfl,put_3 HB.out _ _ _⟩
  simp [results,Tryz.results44,go_sem,c0,c1,c2])
theorem zuN (f1 f2:Bool) (i1 u1 i2 u2:Int) (X Y R:Nat) (w:World) (hx:ASF f1 i1 u1 X) (hy:ASF f2 i2 u2 Y) (hf:(f1||f2)=true) (hR:R<18446744073709551616) (hZ:bits BinOp.xor IntKind.u64 (X:Int) 9223372036854775808=(R:Int)):
 Rb 44 #[.int .i64 13,.agg #[.bool f1,.int .i64 i1,.int .u64 u1],.agg #[.bool f2,.int .i64 i2,.int .u64 u2]] w (.tuple #[.agg #[.bool true,.int .i64 0,.int .u64 (nrmW R:Nat)],.int .i64 0]):=by
 have HX:=hide hx
 have HY:=hide hy
 have HN:=hide (fun w=>zaZ R w hR)
 clear hx hy hR
 cases f1<;>cases f2
 case false.false=>cases hf
 all_goals (
  go_enter Tryz.func44,Tryz.ntmps44
  go_wp2_with fail
  refine rb (HX.out _) fun w1 hb1=>?_
  have HB:=hide hb1
  obtain ⟨a0,a1,a2,b0,b1,b2⟩:=zac hb1
  clear hb1
  go_wp2_with fail
  refine rb (HY.out _) fun w2 hb2=>?_
  have hbn:=bt HB.out hb2
  clear HB hb2 a0 a1 a2 b0 b1 b2
  have HB:=hide hbn
  obtain ⟨a0,a1,a2,b0,b1,b2⟩:=zac hbn
  clear hbn
  go_wp2_with fail
  refine rb (HN.out _) fun w3 hb3=>?_
  have hbn:=bt HB.out hb3
  clear HB hb3 a0 a1 a2 b0 b1 b2
  have HB:=hide hbn
  obtain ⟨a0,a1,a2,b0,b1,b2⟩:=zac hbn
  clear hbn
  obtain ⟨⟨c0,c1,c2⟩,z0,z1,z2⟩:=res_3 HB.out
  go_wp2
  refine bodyPost_ret (v:=.tuple #[.agg #[.bool true,.int .i64 0,.int .u64 (nrmW R:Nat)],.int .i64 0]) ?_ rfl ⟨rfl,put_3 HB.out _ _ _⟩
  simp [results,Tryz.results44,go_sem,c0,c1,c2])
theorem ztJ (f1 f2:Bool) (i1 u1 i2 u2:Int) (X Y Q:Nat) (w:World) (hx:ASF f1 i1 u1 X) (hy:ASF f2 i2 u2 Y) (hf:(f1||f2)=true) (hQ:Q<18446744073709551616) (hO:∀ w,Rb 60 #[.int .u64 X,.int .u64 Y] w (.int .u64 Q)) (hI:∀ w,Rs 46 #[.int .u64 Q] w (.bool true)):
 Rb 44 #[.int .i64 6,.agg #[.bool f1,.int .i64 i1,.int .u64 u1],.agg #[.bool f2,.int .i64 i2,.int .u64 u2]] w (.tuple #[.agg #[.bool true,.int .i64 0,.int .u64 (nrmW Q:Nat)],.int .i64 0]):=by
 have HX:=hide hx
 have HY:=hide hy
 have HO:=hide hO
 have HI:=hide hI
 have HN:=hide (fun w=>zaZ Q w hQ)
 clear hx hy hO hI hQ
 cases f1<;>cases f2
 case false.false=>cases hf
 all_goals (
  go_enter Tryz.func44,Tryz.ntmps44
  go_wp2_with fail
  refine rb (HX.out _) fun w1 hb1=>?_
  have HB:=hide hb1
  obtain ⟨a0,a1,a2,b0,b1,b2⟩:=zac hb1
  clear hb1
  go_wp2_with fail
  refine rb (HY.out _) fun w2 hb2=>?_
  have hbn:=bt HB.out hb2
  clear HB hb2 a0 a1 a2 b0 b1 b2
  have HB:=hide hbn
  obtain ⟨a0,a1,a2,b0,b1,b2⟩:=zac hbn
  clear hbn
  go_wp2_with fail
  refine rb (HO.out _) fun w3 hb3=>?_
  have hbn:=bt HB.out hb3
  clear HB hb3 a0 a1 a2 b0 b1 b2
  have HB:=hide hbn
  obtain ⟨a0,a1,a2,b0,b1,b2⟩:=zac hbn
  clear hbn
  go_wp2_with fail
  refine rs (HI.out _) ?_
  go_wp2_with fail
  refine rb (HN.out _) fun w5 hb3=>?_
  have hbn:=bt HB.out hb3
  clear HB hb3 a0 a1 a2 b0 b1 b2
  have HB:=hide hbn
  obtain ⟨a0,a1,a2,b0,b1,b2⟩:=zac hbn
  clear hbn
  obtain ⟨⟨c0,c1,c2⟩,z0,z1,z2⟩:=res_3 HB.out
  go_wp2
  refine bodyPost_ret (v:=.tuple #[.agg #[.bool true,.int .i64 0,.int .u64 (nrmW Q:Nat)],.int .i64 0]) ?_ rfl ⟨rfl,put_3 HB.out _ _ _⟩
  simp [results,Tryz.results44,go_sem,c0,c1,c2])
theorem zuV (f1 f2:Bool) (i1 u1 i2 u2:Int) (X Y Q R:Nat) (w:World) (hx:ASF f1 i1 u1 X) (hy:ASF f2 i2 u2 Y) (hf:(f1||f2)=true) (hR:R<18446744073709551616) (hO:∀ w,Rb 60 #[.int .u64 X,.int .u64 Y] w (.int .u64 Q)) (hI:∀ w,Rs 46 #[.int .u64 Q] w (.bool false)) (hL:∀ w,Rb 89 #[.int .u64 Q] w (.int .u64 R)):
 Rb 44 #[.int .i64 6,.agg #[.bool f1,.int .i64 i1,.int .u64 u1],.agg #[.bool f2,.int .i64 i2,.int .u64 u2]] w (.tuple #[.agg #[.bool true,.int .i64 0,.int .u64 (nrmW R:Nat)],.int .i64 0]):=by
 have HX:=hide hx
 have HY:=hide hy
 have HO:=hide hO
 have HI:=hide hI
 have HL:=hide hL
 have HN:=hide (fun w=>zaZ R w hR)
 clear hx hy hO hI hL hR
 cases f1<;>cases f2
 case false.false=>cases hf
 all_goals (
  go_enter Tryz.func44,Tryz.ntmps44
  go_wp2_with fail
  refine rb (HX.out _) fun w1 hb1=>?_
  have HB:=hide hb1
  obtain ⟨a0,a1,a2,b0,b1,b2⟩:=zac hb1
  clear hb1
  go_wp2_with fail
  refine rb (HY.out _) fun w2 hb2=>?_
  have hbn:=bt HB.out hb2
  clear HB hb2 a0 a1 a2 b0 b1 b2
  have HB:=hide hbn
  obtain ⟨a0,a1,a2,b0,b1,b2⟩:=zac hbn
  clear hbn
  go_wp2_with fail
  refine rb (HO.out _) fun w3 hb3=>?_
  have hbn:=bt HB.out hb3
  clear HB hb3 a0 a1 a2 b0 b1 b2
  have HB:=hide hbn
  obtain ⟨a0,a1,a2,b0,b1,b2⟩:=zac hbn
  clear hbn
  go_wp2_with fail
  refine rs (HI.out _) ?_
  go_wp2_with fail
  refine rb (HL.out _) fun w5 hb3=>?_
  have hbn:=bt HB.out hb3
  clear HB hb3 a0 a1 a2 b0 b1 b2
  have HB:=hide hbn
  obtain ⟨a0,a1,a2,b0,b1,b2⟩:=zac hbn
  clear hbn
  go_wp2_with fail
  refine rb (HN.out _) fun w6 hb3=>?_
  have hbn:=bt HB.out hb3
  clear HB hb3 a0 a1 a2 b0 b1 b2
  have HB:=hide hbn
  obtain ⟨a0,a1,a2,b0,b1,b2⟩:=zac hbn
  clear hbn
  obtain ⟨⟨c0,c1,c2⟩,z0,z1,z2⟩:=res_3 HB.out
  go_wp2
  refine bodyPost_ret (v:=.tuple #[.agg #[.bool true,.int .i64 0,.int .u64 (nrmW R:Nat)],.int .i64 0]) ?_ rfl ⟨rfl,put_3 HB.out _ _ _⟩
  simp [results,Tryz.results44,go_sem,c0,c1,c2])
theorem zuI (f1 f2:Bool) (i1 u1 i2 u2:Int) (X Y R:Nat) (w:World) (hx:ASF f1 i1 u1 X) (hy:ASF f2 i2 u2 Y) (hR:R<18446744073709551616) (hO:∀ w,Rb 90 #[.int .u64 X,.int .u64 Y] w (.tuple #[.int .u64 R,.int .i64 0])):
 Rb 44 #[.int .i64 7,.agg #[.bool f1,.int .i64 i1,.int .u64 u1],.agg #[.bool f2,.int .i64 i2,.int .u64 u2]] w (.tuple #[.agg #[.bool true,.int .i64 0,.int .u64 (nrmW R:Nat)],.int .i64 0]):=by
 have HX:=hide hx
 have HY:=hide hy
 have HO:=hide hO
 have HN:=hide (fun w=>zaZ R w hR)
 clear hx hy hO hR
 cases f1<;>cases f2
 all_goals (
  go_enter Tryz.func44,Tryz.ntmps44
  go_wp2_with fail
  refine rb (HX.out _) fun w1 hb1=>?_
  have HB:=hide hb1
  obtain ⟨a0,a1,a2,b0,b1,b2⟩:=zac hb1
  clear hb1
  go_wp2_with fail
  refine rb (HY.out _) fun w2 hb2=>?_
  have hbn:=bt HB.out hb2
  clear HB hb2 a0 a1 a2 b0 b1 b2
  have HB:=hide hbn
  obtain ⟨a0,a1,a2,b0,b1,b2⟩:=zac hbn
  clear hbn
  go_wp2_with fail
  refine rb (HO.out _) fun w3 hb3=>?_
  have hbn:=bt HB.out hb3
  clear HB hb3 a0 a1 a2 b0 b1 b2
  have HB:=hide hbn
  obtain ⟨a0,a1,a2,b0,b1,b2⟩:=zac hbn
  clear hbn
  go_wp2_with fail
  refine rb (HN.out _) fun w4 hb3=>?_
  have hbn:=bt HB.out hb3
  clear HB hb3 a0 a1 a2 b0 b1 b2
  have HB:=hide hbn
  obtain ⟨a0,a1,a2,b0,b1,b2⟩:=zac hbn
  clear hbn
  obtain ⟨⟨c0,c1,c2⟩,z0,z1,z2⟩:=res_3 HB.out
  go_wp2
  refine bodyPost_ret (v:=.tuple #[.agg #[.bool true,.int .i64 0,.int .u64 (nrmW R:Nat)],.int .i64 0]) ?_ rfl ⟨rfl,put_3 HB.out _ _ _⟩
  simp [results,Tryz.results44,go_sem,c0,c1,c2])
theorem zty (f1 f2:Bool) (i1 u1 i2 u2:Int) (X Y:Nat) (w:World) (hx:ASF f1 i1 u1 X) (hy:ASF f2 i2 u2 Y) (hO:∀ w,Rb 90 #[.int .u64 X,.int .u64 Y] w (.tuple #[.int .u64 0,.int .i64 4])):
 Rb 44 #[.int .i64 7,.agg #[.bool f1,.int .i64 i1,.int .u64 u1],.agg #[.bool f2,.int .i64 i2,.int .u64 u2]] w (.tuple #[.agg #[.bool false,.int .i64 0,.int .u64 0],.int .i64 4]):=by
 have HX:=hide hx
 have HY:=hide hy
 have HO:=hide hO
 clear hx hy hO
 cases f1<;>cases f2
 all_goals (
  go_enter Tryz.func44,Tryz.ntmps44
  go_wp2_with fail
  refine rb (HX.out _) fun w1 hb1=>?_
  have HB:=hide hb1
  obtain ⟨a0,a1,a2,b0,b1,b2⟩:=zac hb1
  clear hb1
  go_wp2_with fail
  refine rb (HY.out _) fun w2 hb2=>?_
  have hbn:=bt HB.out hb2
  clear HB hb2 a0 a1 a2 b0 b1 b2
  have HB:=hide hbn
  obtain ⟨a0,a1,a2,b0,b1,b2⟩:=zac hbn
  clear hbn
  go_wp2_with fail
  refine rb (HO.out _) fun w3 hb3=>?_
  have hbn:=bt HB.out hb3
  clear HB hb3 a0 a1 a2 b0 b1 b2
  have HB:=hide hbn
  obtain ⟨a0,a1,a2,b0,b1,b2⟩:=zac hbn
  clear hbn
  obtain ⟨⟨c0,c1,c2⟩,z0,z1,z2⟩:=res_3 HB.out
  go_wp2
  refine bodyPost_ret (v:=.tuple #[.agg #[.bool false,.int .i64 0,.int .u64 0],.int .i64 4]) ?_ rfl ⟨rfl,put_3 HB.out _ _ _⟩
  simp [results,Tryz.results44,go_sem,c0,c1,c2])
end Go.Proofs.YtamdnnkdnhkghaaGreatDoor
