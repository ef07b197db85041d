import Derived.Test.YtamdnnkdnhkghaaGreatDoorQ42
set_option maxHeartbeats 12800000
set_option maxRecDepth 100000
set_option linter.unusedVariables false
namespace Go.Proofs.YtamdnnkdnhkghaaGreatDoor
open Go Go.RowKit
theorem zmx (f2:Bool) (i1 u1 i2 u2:Int) (A B:Nat) (M:Nat) (w:World) (hx:FOf true i1 u1 A) (hy:FOf f2 i2 u2 B) (hr:∀ w,Calls Tryz.prog 173 #[.float .f64 A,.float .f64 B] w fun e w'=>∃ X,e=.returned (.float .f64 X)/\X<18446744073709551616/\nrmW X=nrmW M/\Below w.heap.size w w'):
 Rb 136 #[.int .i64 5,.agg #[.bool true,.int .i64 i1,.int .u64 u1],.agg #[.bool f2,.int .i64 i2,.int .u64 u2]] w (.tuple #[.agg #[.bool true,.int .i64 0,.int .u64 (nrmW M:Nat)],.nilIface]):=by
 have HX:=hide hx
 have HY:=hide hy
 have HN:=hide zbK
 have HR:=hide hr
 clear hx hy hr
 go_enter Tryz.func136,Tryz.ntmps136
 go_wp2_with fail
 have HK:=hide (fun (w2:World) (h:Below (((w.alloc (numC true i1 u1)).alloc (numC f2 i2 u2)).alloc (numC false 0 0)).heap.size (((w.alloc (numC true i1 u1)).alloc (numC f2 i2 u2)).alloc (numC false 0 0)) w2)=>zac h)
 have HC:=hide (fun (w2:World) (h:Below (((w.alloc (numC true i1 u1)).alloc (numC f2 i2 u2)).alloc (numC false 0 0)).heap.size (((w.alloc (numC true i1 u1)).alloc (numC f2 i2 u2)).alloc (numC false 0 0)) w2)=>res_3 h)
 have HPut:=hide (fun (w2:World) (h:Below (((w.alloc (numC true i1 u1)).alloc (numC f2 i2 u2)).alloc (numC false 0 0)).heap.size (((w.alloc (numC true i1 u1)).alloc (numC f2 i2 u2)).alloc (numC false 0 0)) w2)=>put_3 h)
 have HPlain:=hide (fun (w2:World) (h:Below (((w.alloc (numC true i1 u1)).alloc (numC f2 i2 u2)).alloc (numC false 0 0)).heap.size (((w.alloc (numC true i1 u1)).alloc (numC f2 i2 u2)).alloc (numC false 0 0)) w2)=>za7 h)
 generalize (((w.alloc (numC true i1 u1)).alloc (numC f2 i2 u2)).alloc (numC false 0 0))=W at *
 obtain ⟨a0,a1,a2,b0,b1,b2⟩:=HK.out W (Below.refl _ _)
 have HD:=hide (zag (Below.refl W.heap.size W))
 go_region_with (first
  |(go_at_call_of 22 u1;refine (HX.out _).mono ?_;rintro e w1 ⟨rfl,hb1⟩;have HB1:=hide ((HD.out 1).trans (hb1.mono (HD.out 1).size));obtain ⟨a0,a1,a2,b0,b1,b2⟩:=HK.out _ HB1.out;clear hb1)
  |(go_at_call_of 22 u2;refine (HY.out _).mono ?_;rintro e w2 ⟨rfl,hb2⟩;have HB2:=hide (bt HB1.out hb2);clear hb2)
  |(go_at_call 173;refine (HR.out _).mono ?_;rintro e w3 ⟨X,rfl,hX,hn,hb3⟩;have HB3:=hide (bt HB2.out hb3);have Hn:=hide hn;have HX2:=hide hX;clear hb3 hn hX)
  |(go_at_call 68;refine (HN.out X _ HX2.out).mono ?_;rw [Hn.out];rintro e w4 ⟨rfl,hb4⟩;have HB4:=hide (bt HB3.out hb4);obtain ⟨⟨c0,c1,c2⟩,z0,z1,z2⟩:=HC.out _ HB4.out;clear hb4))
 all_goals (
  go_wp2
  refine bodyPost_ret (v:=.tuple #[.agg #[.bool true,.int .i64 0,.int .u64 (nrmW M:Nat)],.nilIface]) ?_ rfl ⟨rfl,HPut.out _ HB4.out _ _ _⟩
  simp [results,Tryz.results136,go_sem,c0,c1,c2])
theorem zny (i1 u1 i2 u2:Int) (A B:Nat) (M:Nat) (w:World) (hx:FOf false i1 u1 A) (hy:FOf true i2 u2 B) (hr:∀ w,Calls Tryz.prog 173 #[.float .f64 A,.float .f64 B] w fun e w'=>∃ X,e=.returned (.float .f64 X)/\X<18446744073709551616/\nrmW X=nrmW M/\Below w.heap.size w w'):
 Rb 136 #[.int .i64 5,.agg #[.bool false,.int .i64 i1,.int .u64 u1],.agg #[.bool true,.int .i64 i2,.int .u64 u2]] w (.tuple #[.agg #[.bool true,.int .i64 0,.int .u64 (nrmW M:Nat)],.nilIface]):=by
 have HX:=hide hx
 have HY:=hide hy
 have HN:=hide zbK
 have HR:=hide hr
 clear hx hy hr
 go_enter Tryz.func136,Tryz.ntmps136
 go_wp2_with fail
 have HK:=hide (fun (w2:World) (h:Below (((w.alloc (numC false i1 u1)).alloc (numC true i2 u2)).alloc (numC false 0 0)).heap.size (((w.alloc (numC false i1 u1)).alloc (numC true i2 u2)).alloc (numC false 0 0)) w2)=>zac h)
 have HC:=hide (fun (w2:World) (h:Below (((w.alloc (numC false i1 u1)).alloc (numC true i2 u2)).alloc (numC false 0 0)).heap.size (((w.alloc (numC false i1 u1)).alloc (numC true i2 u2)).alloc (numC false 0 0)) w2)=>res_3 h)
 have HPut:=hide (fun (w2:World) (h:Below (((w.alloc (numC false i1 u1)).alloc (numC true i2 u2)).alloc (numC false 0 0)).heap.size (((w.alloc (numC false i1 u1)).alloc (numC true i2 u2)).alloc (numC false 0 0)) w2)=>put_3 h)
 have HPlain:=hide (fun (w2:World) (h:Below (((w.alloc (numC false i1 u1)).alloc (numC true i2 u2)).alloc (numC false 0 0)).heap.size (((w.alloc (numC false i1 u1)).alloc (numC true i2 u2)).alloc (numC false 0 0)) w2)=>za7 h)
 generalize (((w.alloc (numC false i1 u1)).alloc (numC true i2 u2)).alloc (numC false 0 0))=W at *
 obtain ⟨a0,a1,a2,b0,b1,b2⟩:=HK.out W (Below.refl _ _)
 have HD:=hide (zag (Below.refl W.heap.size W))
 go_region_with (first
  |(go_at_call_of 22 u1;refine (HX.out _).mono ?_;rintro e w1 ⟨rfl,hb1⟩;have HB1:=hide ((HD.out 1).trans (hb1.mono (HD.out 1).size));obtain ⟨a0,a1,a2,b0,b1,b2⟩:=HK.out _ HB1.out;clear hb1)
  |(go_at_call_of 22 u2;refine (HY.out _).mono ?_;rintro e w2 ⟨rfl,hb2⟩;have HB2:=hide (bt HB1.out hb2);clear hb2)
  |(go_at_call 173;refine (HR.out _).mono ?_;rintro e w3 ⟨X,rfl,hX,hn,hb3⟩;have HB3:=hide (bt HB2.out hb3);have Hn:=hide hn;have HX2:=hide hX;clear hb3 hn hX)
  |(go_at_call 68;refine (HN.out X _ HX2.out).mono ?_;rw [Hn.out];rintro e w4 ⟨rfl,hb4⟩;have HB4:=hide (bt HB3.out hb4);obtain ⟨⟨c0,c1,c2⟩,z0,z1,z2⟩:=HC.out _ HB4.out;clear hb4))
 all_goals (
  go_wp2
  refine bodyPost_ret (v:=.tuple #[.agg #[.bool true,.int .i64 0,.int .u64 (nrmW M:Nat)],.nilIface]) ?_ rfl ⟨rfl,HPut.out _ HB4.out _ _ _⟩
  simp [results,Tryz.results136,go_sem,c0,c1,c2])
end Go.Proofs.YtamdnnkdnhkghaaGreatDoor
