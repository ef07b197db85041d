import Derived.Test.YtamdnnkdnhkghaaGreatDoorCards
import Derived.Lay
import Derived.SevenTiedAt
import Derived.Test.YtamdnnkdnhkghaaGreatDoorT47
namespace Go.Proofs.YtamdnnkdnhkghaaGreatDoor

open Go.ChangeShapes Go.WideShapes Go.ChangeAt Go Go.RowKit

set_option maxRecDepth 100000

theorem tcl_unf : (Rows.fnFloatTextRow.unfollowed == Tryz.prog.unfollowed 4) = true := by kernel_rfl

end Go.Proofs.YtamdnnkdnhkghaaGreatDoor
