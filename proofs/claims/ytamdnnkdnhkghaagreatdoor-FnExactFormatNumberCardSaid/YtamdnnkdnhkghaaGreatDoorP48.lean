import Derived.Test.YtamdnnkdnhkghaaGreatDoorCards
import Derived.Lay
import Derived.SevenTiedAt
import Derived.Test.YtamdnnkdnhkghaaGreatDoorP27
namespace Go.Proofs.YtamdnnkdnhkghaaGreatDoor

open Go.ChangeShapes Go.WideShapes Go.ChangeAt Go Go.RowKit

set_option maxRecDepth 100000

theorem fclosed2 : Tryz.f3.isInstance Tryz.prog Rows.fnExactFormatNumberRow.origin Rows.fnExactFormatNumberRow.targs := of_decide_eq_true (by kernel_rfl)

theorem fclosed3 : Tryz.prog.funcNamed Rows.fnExactFormatNumberRow.func = some 3 := by kernel_rfl

end Go.Proofs.YtamdnnkdnhkghaaGreatDoor

namespace Go.Proofs.YtamdnnkdnhkghaaGreatDoor

open Go.ChangeShapes Go.WideShapes Go.ChangeAt Go Go.RowKit

set_option maxRecDepth 100000

theorem fclosed4 : Tryz.f3.isWrapper Tryz.prog Rows.fnExactFormatNumberRow.wrapper Rows.fnExactFormatNumberRow.mainSum := by unfold Func.isWrapper; first | (rw [if_pos (by decide +kernel)]; kernel_rfl) | (rw [if_neg (by decide +kernel)]; exact ⟨rfl, rfl⟩)

end Go.Proofs.YtamdnnkdnhkghaaGreatDoor
