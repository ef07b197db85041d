import Derived.Test.YtamdnnkdnhkghaaGreatDoorQ49
import Derived.Test.YtamdnnkdnhkghaaGreatDoorCards
import Derived.Lay
import Derived.SevenTiedAt
namespace Go.Proofs.YtamdnnkdnhkghaaGreatDoor
open Go.ChangeShapes Go.WideShapes Go.ChangeAt Go Go.RowKit
set_option maxRecDepth 100000
theorem closed1 : joinedFacts Tryz.prog 5 Tryz.f5 (OpenSpec.ofChange Rows.fnExactToIntegerSpec).bare Rows.fnExactToIntegerRow = true := by kernel_rfl
end Go.Proofs.YtamdnnkdnhkghaaGreatDoor
