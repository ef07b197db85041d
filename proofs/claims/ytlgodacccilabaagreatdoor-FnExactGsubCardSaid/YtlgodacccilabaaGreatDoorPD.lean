import Derived.Test.YtlgodacccilabaaGreatDoorPC
namespace Go.Proofs.YtlgodacccilabaaGreatDoor
open Go Go.RowKit
set_option linter.unusedVariables false
set_option maxHeartbeats 4000000 in
set_option maxRecDepth 100000 in
theorem class_97 (c:Int) (w:World) (h0:0≤c) (h1:c<256):
 Calls Tryz.prog 81 #[.int .u8 97,.int .u8 c] w fun e w'=>e=.returned (.tuple #[.bool (cls 97 c),.bool (clsIs 97)])∧w'=w:=by
 go_enter Tryz.func81,Tryz.ntmps81
 go_wp2
 all_goals
  refine bodyPost_ret (v:=.tuple #[.bool (cls 97 c),.bool (clsIs 97)]) ?_ rfl ⟨rfl,rfl⟩
  simp [results,Tryz.results81,go_sem,cls,clsIs,isLow,isUp]
  all_goals try (rw [Bool.eq_iff_iff];simp)
  all_goals omega
set_option maxHeartbeats 4000000 in
set_option maxRecDepth 100000 in
theorem class_100 (c:Int) (w:World) (h0:0≤c) (h1:c<256):
 Calls Tryz.prog 81 #[.int .u8 100,.int .u8 c] w fun e w'=>e=.returned (.tuple #[.bool (cls 100 c),.bool (clsIs 100)])∧w'=w:=by
 go_enter Tryz.func81,Tryz.ntmps81
 go_wp2
 all_goals
  refine bodyPost_ret (v:=.tuple #[.bool (cls 100 c),.bool (clsIs 100)]) ?_ rfl ⟨rfl,rfl⟩
  simp [results,Tryz.results81,go_sem,cls,clsIs,isDg]
  all_goals try (rw [Bool.eq_iff_iff];simp)
  all_goals omega
set_option maxHeartbeats 4000000 in
set_option maxRecDepth 100000 in
theorem class_108 (c:Int) (w:World) (h0:0≤c) (h1:c<256):
 Calls Tryz.prog 81 #[.int .u8 108,.int .u8 c] w fun e w'=>e=.returned (.tuple #[.bool (cls 108 c),.bool (clsIs 108)])∧w'=w:=by
 go_enter Tryz.func81,Tryz.ntmps81
 go_wp2
 all_goals
  refine bodyPost_ret (v:=.tuple #[.bool (cls 108 c),.bool (clsIs 108)]) ?_ rfl ⟨rfl,rfl⟩
  simp [results,Tryz.results81,go_sem,cls,clsIs,isLow]
  all_goals try (rw [Bool.eq_iff_iff];simp)
  all_goals omega
set_option maxHeartbeats 4000000 in
set_option maxRecDepth 100000 in
theorem class_115 (c:Int) (w:World) (h0:0≤c) (h1:c<256):
 Calls Tryz.prog 81 #[.int .u8 115,.int .u8 c] w fun e w'=>e=.returned (.tuple #[.bool (cls 115 c),.bool (clsIs 115)])∧w'=w:=by
 go_enter Tryz.func81,Tryz.ntmps81
 go_wp2
 all_goals
  refine bodyPost_ret (v:=.tuple #[.bool (cls 115 c),.bool (clsIs 115)]) ?_ rfl ⟨rfl,rfl⟩
  simp [results,Tryz.results81,go_sem,cls,clsIs]
  all_goals try (rw [Bool.eq_iff_iff];simp)
  all_goals omega
set_option maxHeartbeats 4000000 in
set_option maxRecDepth 100000 in
theorem class_117 (c:Int) (w:World) (h0:0≤c) (h1:c<256):
 Calls Tryz.prog 81 #[.int .u8 117,.int .u8 c] w fun e w'=>e=.returned (.tuple #[.bool (cls 117 c),.bool (clsIs 117)])∧w'=w:=by
 go_enter Tryz.func81,Tryz.ntmps81
 go_wp2
 all_goals
  refine bodyPost_ret (v:=.tuple #[.bool (cls 117 c),.bool (clsIs 117)]) ?_ rfl ⟨rfl,rfl⟩
  simp [results,Tryz.results81,go_sem,cls,clsIs,isUp]
  all_goals try (rw [Bool.eq_iff_iff];simp)
  all_goals omega
set_option maxHeartbeats 4000000 in
set_option maxRecDepth 100000 in
theorem class_119 (c:Int) (w:World) (h0:0≤c) (h1:c<256):
 Calls Tryz.prog 81 #[.int .u8 119,.int .u8 c] w fun e w'=>e=.returned (.tuple #[.bool (cls 119 c),.bool (clsIs 119)])∧w'=w:=by
 go_enter Tryz.func81,Tryz.ntmps81
 go_wp2
 all_goals
  refine bodyPost_ret (v:=.tuple #[.bool (cls 119 c),.bool (clsIs 119)]) ?_ rfl ⟨rfl,rfl⟩
  simp [results,Tryz.results81,go_sem,cls,clsIs,isLow,isUp,isDg]
  all_goals try (rw [Bool.eq_iff_iff];simp)
  all_goals omega
set_option maxHeartbeats 4000000 in
set_option maxRecDepth 100000 in
theorem class_120 (c:Int) (w:World) (h0:0≤c) (h1:c<256):
 Calls Tryz.prog 81 #[.int .u8 120,.int .u8 c] w fun e w'=>e=.returned (.tuple #[.bool (cls 120 c),.bool (clsIs 120)])∧w'=w:=by
 go_enter Tryz.func81,Tryz.ntmps81
 go_wp2
 all_goals
  refine bodyPost_ret (v:=.tuple #[.bool (cls 120 c),.bool (clsIs 120)]) ?_ rfl ⟨rfl,rfl⟩
  simp [results,Tryz.results81,go_sem,cls,clsIs,isDg]
  all_goals try (rw [Bool.eq_iff_iff];simp)
  all_goals omega
set_option maxHeartbeats 4000000 in
set_option maxRecDepth 100000 in
theorem class_112 (c:Int) (w:World) (h0:0≤c) (h1:c<256):
 Calls Tryz.prog 81 #[.int .u8 112,.int .u8 c] w fun e w'=>e=.returned (.tuple #[.bool (cls 112 c),.bool (clsIs 112)])∧w'=w:=by
 go_enter Tryz.func81,Tryz.ntmps81
 go_wp2
 all_goals
  refine bodyPost_ret (v:=.tuple #[.bool (cls 112 c),.bool (clsIs 112)]) ?_ rfl ⟨rfl,rfl⟩
  simp [results,Tryz.results81,go_sem,cls,clsIs,isLow,isUp,isDg]
  all_goals try (rw [Bool.eq_iff_iff];simp)
  all_goals omega
set_option maxHeartbeats 4000000 in
set_option maxRecDepth 100000 in
theorem class_99 (c:Int) (w:World) (h0:0≤c) (h1:c<256):
 Calls Tryz.prog 81 #[.int .u8 99,.int .u8 c] w fun e w'=>e=.returned (.tuple #[.bool (cls 99 c),.bool (clsIs 99)])∧w'=w:=by
 go_enter Tryz.func81,Tryz.ntmps81
 go_wp2
 all_goals
  refine bodyPost_ret (v:=.tuple #[.bool (cls 99 c),.bool (clsIs 99)]) ?_ rfl ⟨rfl,rfl⟩
  simp [results,Tryz.results81,go_sem,cls,clsIs]
  all_goals try (rw [Bool.eq_iff_iff];simp)
  all_goals omega
set_option maxHeartbeats 4000000 in
set_option maxRecDepth 100000 in
theorem class_no (k c:Int) (w:World) (h0:0≤c) (h1:c<256) (hk:clsIs k=false):
 Calls Tryz.prog 81 #[.int .u8 k,.int .u8 c] w fun e w'=>e=.returned (.tuple #[.bool (cls k c),.bool (clsIs k)])∧w'=w:=by
 rw [hk]
 have e1:cls k c=false:=by
  unfold clsIs at hk
  simp only [Bool.or_eq_false_iff,decide_eq_false_iff_not] at hk
  obtain ⟨⟨⟨⟨⟨⟨⟨⟨a1,a2⟩,a3⟩,a4⟩,a5⟩,a6⟩,a7⟩,a8⟩,a9⟩:=hk
  simp [cls,a1,a2,a3,a4,a5,a6,a7,a8,a9]
 rw [e1]
 unfold clsIs at hk
 simp only [Bool.or_eq_false_iff,decide_eq_false_iff_not] at hk
 obtain ⟨⟨⟨⟨⟨⟨⟨⟨a1,a2⟩,a3⟩,a4⟩,a5⟩,a6⟩,a7⟩,a8⟩,a9⟩:=hk
 go_enter Tryz.func81,Tryz.ntmps81
 go_wp2
 all_goals
  refine bodyPost_ret (v:=.tuple #[.bool false,.bool false]) ?_ rfl ⟨rfl,rfl⟩
  simp [results,Tryz.results81,go_sem]
theorem class_any (k c:Int) (w:World) (h0:0≤c) (h1:c<256):
 Calls Tryz.prog 81 #[.int .u8 k,.int .u8 c] w fun e w'=>e=.returned (.tuple #[.bool (cls k c),.bool (clsIs k)])∧w'=w:=by
 cases hk:clsIs k with
 |false=>rw [←hk];exact class_no k c w h0 h1 hk
 |true=>
  rw [←hk]
  unfold clsIs at hk
  simp only [Bool.or_eq_true,decide_eq_true_eq] at hk
  rcases hk with (((((((rfl|rfl)|rfl)|rfl)|rfl)|rfl)|rfl)|rfl)|rfl
  ·exact class_97 c w h0 h1
  ·exact class_100 c w h0 h1
  ·exact class_108 c w h0 h1
  ·exact class_115 c w h0 h1
  ·exact class_117 c w h0 h1
  ·exact class_119 c w h0 h1
  ·exact class_120 c w h0 h1
  ·exact class_112 c w h0 h1
  ·exact class_99 c w h0 h1
end Go.Proofs.YtlgodacccilabaaGreatDoor
