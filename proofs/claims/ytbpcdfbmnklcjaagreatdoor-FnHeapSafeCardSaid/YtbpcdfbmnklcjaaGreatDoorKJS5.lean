import Derived.Test.YtbpcdfbmnklcjaaGreatDoorKHG
import Derived.Test.YtbpcdfbmnklcjaaGreatDoorRows
import Derived.Test.YtbpcdfbmnklcjaaGreatDoorCards
import Derived.Lay
import Derived.SevenTiedAt
namespace Go.Proofs.YtbpcdfbmnklcjaaGreatDoor
open Go
set_option maxRecDepth 100000
theorem zA:joinedFacts Tryz.prog 3 Tryz.f3 (OpenSpec.ofChange Rows.fnHeapSafeSpec).bare Rows.fnHeapSafeRow=true:=by kernel_rfl
end Go.Proofs.YtbpcdfbmnklcjaaGreatDoor
