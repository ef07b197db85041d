import Derived.Test.YtjibjahfbblieaaGreatDoorKMC1
namespace Go.Proofs.YtjibjahfbblieaaGreatDoor
open Go Go.RowKit
set_option linter.unusedVariables false
theorem Jp {k:Nat} (h:k<39):aU (k:Int)=oH.getD k []:=by
 unfold aU
 rw [if_pos (by omega)]
 rfl
theorem Dw {k:Nat} (h:k<15):aU (64+(k:Int))=jA.getD k []:=by
 unfold aU
 rw [if_neg (by omega),if_pos (by omega),show (64+(k:Int)).toNat-64=k by omega]
set_option maxHeartbeats 1600000 in
set_option maxRecDepth 100000 in
theorem gV (o:Int) (w:World) (h0: -9223372036854775808<=o) (h1:o<=9223372036854775807):Calls Tryz.prog 11 #[.int .i64 o] w fun e w'=>e=.returned (.string (bT (aU o)))/\Below w.heap.size w w':=by
 by_cases ha:0<=o/\o<39
 ·obtain ⟨k,rfl⟩:=Int.eq_ofNat_of_zero_le ha.1
  have hk:k<39:=by omega
  rw [Jp hk]
  go_enter Tryz.func11,Tryz.ntmps11
  go_wp2_with fail
  go_ret
  refine ⟨congrArg Ending.returned ?_,zU _ _ _⟩
  clear ha h0 h1
  iterate 39 (rcases k with _|k;· rfl)
  omega
 ·by_cases hb:64<=o/\o<79
  ·obtain ⟨k,rfl⟩:∃ k:Nat,o=64+(k:Int):=⟨(o-64).toNat,by omega⟩
   have hk:k<15:=by omega
   rw [Dw hk]
   go_enter Tryz.func11,Tryz.ntmps11
   go_wp2_with fail
   go_ret
   refine ⟨congrArg Ending.returned ?_,zU _ _ _⟩
   clear ha hb h0 h1
   iterate 15 (rcases k with _|k;· rfl)
   omega
  ·have hn:aU o=[]:=by unfold aU;rw [if_neg ha,if_neg hb]
   rw [hn]
   go_enter Tryz.func11,Tryz.ntmps11
   go_wp2_with fail
   all_goals go_ret
   all_goals exact ⟨rfl,zU _ _ _⟩
end Go.Proofs.YtjibjahfbblieaaGreatDoor
