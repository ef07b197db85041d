import Derived.Test.YtamdnnkdnhkghaaGreatDoorQ38
set_option maxHeartbeats 12800000
set_option maxRecDepth 100000
set_option linter.unusedVariables false
namespace Go.Proofs.YtamdnnkdnhkghaaGreatDoor
open Go Go.RowKit
theorem zjG (w:World):Rb 59 #[.int .i64 (-9223372036854775808)] w (.int .u64 14114281232179134464):=by
 go_enter Tryz.func59,Tryz.ntmps59
 go_wp2
 all_goals go_ret
 all_goals exact ⟨rfl,Below.refl _ _⟩
end Go.Proofs.YtamdnnkdnhkghaaGreatDoor
