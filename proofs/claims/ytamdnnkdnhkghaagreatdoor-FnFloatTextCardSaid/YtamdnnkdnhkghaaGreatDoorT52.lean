import Derived.Test.YtamdnnkdnhkghaaGreatDoorCards
import Derived.Lay
import Derived.SevenTiedAt
import Derived.Test.YtamdnnkdnhkghaaGreatDoorT47
import Derived.Test.YtamdnnkdnhkghaaGreatDoorT48
import Derived.Test.YtamdnnkdnhkghaaGreatDoorT49
import Derived.Test.YtamdnnkdnhkghaaGreatDoorT50
import Derived.Test.YtamdnnkdnhkghaaGreatDoorT51
namespace Go.Proofs.YtamdnnkdnhkghaaGreatDoor

open Go.ChangeShapes Go.WideShapes Go.ChangeAt Go Go.RowKit

set_option maxRecDepth 100000

theorem tclosed1 : joinedFacts Tryz.prog 4 Tryz.f4 (OpenSpec.ofChange Rows.fnFloatTextSpec).bare Rows.fnFloatTextRow = true := by
  unfold joinedFacts
  rw [tcl_inPlace, tcl_unf, tcl_rec, tcl_named]
  kernel_rfl

end Go.Proofs.YtamdnnkdnhkghaaGreatDoor
