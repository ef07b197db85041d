import Derived.Test.YtamdnnkdnhkghaaGreatDoorCards
import Derived.Lay
import Derived.SevenTiedAt
import Derived.Test.YtamdnnkdnhkghaaGreatDoorP27
namespace Go.Proofs.YtamdnnkdnhkghaaGreatDoor

open Go.ChangeShapes Go.WideShapes Go.ChangeAt Go Go.RowKit

set_option maxRecDepth 100000

theorem fclosed1 : joinedFacts Tryz.prog 3 Tryz.f3 (OpenSpec.ofChange Rows.fnExactFormatNumberSpec).bare Rows.fnExactFormatNumberRow = true := by kernel_rfl

end Go.Proofs.YtamdnnkdnhkghaaGreatDoor
