import Derived.Test.YtjibjahfbblieaaGreatDoorRows
import Derived.Test.YtjibjahfbblieaaGreatDoorCards
import Derived.Lay
import Derived.SevenTiedAt
namespace Go.Proofs.YtjibjahfbblieaaGreatDoor
open Go
set_option maxRecDepth 100000
theorem F6:joinedFacts Tryz.prog 3 Tryz.f3 (OpenSpec.ofChange Rows.fnExactListSpec).bare Rows.fnExactListRow=true:=by kernel_rfl
end Go.Proofs.YtjibjahfbblieaaGreatDoor
