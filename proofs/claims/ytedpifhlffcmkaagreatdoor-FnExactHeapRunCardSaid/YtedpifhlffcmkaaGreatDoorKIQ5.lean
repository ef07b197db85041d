import Derived.Test.YtedpifhlffcmkaaGreatDoorRows
import Derived.Test.YtedpifhlffcmkaaGreatDoorCards
import Derived.Lay
import Derived.SevenTiedAt
namespace Go.Proofs.YtedpifhlffcmkaaGreatDoor
open Go
set_option maxRecDepth 100000
theorem wQ:joinedFacts Tryz.prog 5 Tryz.f5 (OpenSpec.ofChange Rows.fnExactHeapRunSpec).bare Rows.fnExactHeapRunRow=true:=by kernel_rfl
end Go.Proofs.YtedpifhlffcmkaaGreatDoor
