import Derived.Test.YtamdnnkdnhkghaaGreatDoorCards
import Derived.Lay
import Derived.SevenTiedAt
import Derived.Test.YtamdnnkdnhkghaaGreatDoorT47
namespace Go.Proofs.YtamdnnkdnhkghaaGreatDoor

open Go.ChangeShapes Go.WideShapes Go.ChangeAt Go Go.RowKit

set_option maxRecDepth 100000

theorem tcl_rec : (Rows.fnFloatTextRow.recurses == Tryz.prog.recurses 4) = true := by kernel_rfl

end Go.Proofs.YtamdnnkdnhkghaaGreatDoor
