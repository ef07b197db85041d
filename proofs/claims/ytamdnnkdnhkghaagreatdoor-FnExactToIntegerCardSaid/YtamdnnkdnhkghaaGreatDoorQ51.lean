import Derived.Test.YtamdnnkdnhkghaaGreatDoorQ49
import Derived.Test.YtamdnnkdnhkghaaGreatDoorCards
import Derived.Lay
import Derived.SevenTiedAt
namespace Go.Proofs.YtamdnnkdnhkghaaGreatDoor
open Go.ChangeShapes Go.WideShapes Go.ChangeAt Go Go.RowKit
set_option maxRecDepth 100000
theorem closed2 : Tryz.f5.isInstance Tryz.prog Rows.fnExactToIntegerRow.origin Rows.fnExactToIntegerRow.targs := of_decide_eq_true (by kernel_rfl)
theorem closed3 : Tryz.prog.funcNamed Rows.fnExactToIntegerRow.func = some 5 := by kernel_rfl
end Go.Proofs.YtamdnnkdnhkghaaGreatDoor

namespace Go.Proofs.YtamdnnkdnhkghaaGreatDoor
open Go.ChangeShapes Go.WideShapes Go.ChangeAt Go Go.RowKit
set_option maxRecDepth 100000
theorem closed4 : Tryz.f5.isWrapper Tryz.prog Rows.fnExactToIntegerRow.wrapper Rows.fnExactToIntegerRow.mainSum := by unfold Func.isWrapper; first | (rw [if_pos (by decide +kernel)]; kernel_rfl) | (rw [if_neg (by decide +kernel)]; exact ⟨rfl, rfl⟩)
end Go.Proofs.YtamdnnkdnhkghaaGreatDoor
