import Derived.Test.YtamdnnkdnhkghaaGreatDoorQ48
import Derived.Test.YtamdnnkdnhkghaaGreatDoorQ49
import Derived.Test.YtamdnnkdnhkghaaGreatDoorQ50
import Derived.Test.YtamdnnkdnhkghaaGreatDoorQ51
set_option maxHeartbeats 12800000
set_option maxRecDepth 100000
set_option linter.unusedVariables false
namespace Go.Proofs.YtamdnnkdnhkghaaGreatDoor
open Go.ChangeShapes Go.WideShapes Go.ChangeAt Go Go.RowKit
theorem aclosed1:joinedFacts Tryz.prog 7 Tryz.f7 (OpenSpec.ofChange Rows.fnExactArithSpec).bare Rows.fnExactArithRow=true:=by
 unfold joinedFacts
 rw [acl_inPlace,acl_unf,acl_rec,acl_named]
 kernel_rfl
end Go.Proofs.YtamdnnkdnhkghaaGreatDoor
