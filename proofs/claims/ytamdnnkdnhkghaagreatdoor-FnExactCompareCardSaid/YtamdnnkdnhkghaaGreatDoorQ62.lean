import Derived.Test.YtamdnnkdnhkghaaGreatDoorQ49
import Derived.Test.YtamdnnkdnhkghaaGreatDoorCards
import Derived.Lay
import Derived.SevenTiedAt
namespace Go.Proofs.YtamdnnkdnhkghaaGreatDoor
open Go.ChangeShapes Go.WideShapes Go.ChangeAt Go Go.RowKit
set_option maxRecDepth 100000
theorem cclosed1 : joinedFacts Tryz.prog 6 Tryz.f6 (OpenSpec.ofChange Rows.fnExactCompareSpec).bare Rows.fnExactCompareRow = true := by kernel_rfl
end Go.Proofs.YtamdnnkdnhkghaaGreatDoor
