import Derived.Test.YtamdnnkdnhkghaaGreatDoorQ47
set_option maxHeartbeats 12800000
set_option maxRecDepth 100000
set_option linter.unusedVariables false
namespace Go.Proofs.YtamdnnkdnhkghaaGreatDoor
open Go.ChangeShapes Go.WideShapes Go.ChangeAt Go Go.RowKit
theorem acl_inPlace:(Rows.fnExactArithRow.inPlace==Tryz.prog.inPlace 7)=true:=by kernel_rfl
end Go.Proofs.YtamdnnkdnhkghaaGreatDoor
