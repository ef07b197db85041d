import Derived.Test.YtmndipnifjpdjaaGreatDoorCards
import Derived.Lay
import Derived.SevenTiedAt
namespace Go.Proofs.YtmndipnifjpdjaaGreatDoor
open Go
set_option maxRecDepth 100000
theorem closed1 : joinedFacts Tryz.prog 3 Tryz.f3 (OpenSpec.ofChange Rows.fnExactLexSpec).bare Rows.fnExactLexRow = true := by kernel_rfl
end Go.Proofs.YtmndipnifjpdjaaGreatDoor
