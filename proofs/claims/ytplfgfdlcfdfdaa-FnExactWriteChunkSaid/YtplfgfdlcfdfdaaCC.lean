import Derived.Test.YtplfgfdlcfdfdaaCB
namespace Go.Proofs.Ytplfgfdlcfdfdaa
open Go Go.RowKit
set_option linter.unusedVariables false

def flagI (b : Bool) : Int := if b then 1 else 0
theorem ownL_one (w : World) (z : Int) : OwnL (w.alloc (.cells #[.int .u8 z] 5)) w.heap.size (.slice (some ⟨w.heap.size, 0, none⟩) 1 1) [z] :=
  ⟨World.ownsRow_lit w #[.int .u8 z] 1 (Nat.le_refl _) (by simp [maxLen]) rfl, fun h => by cases h⟩

set_option maxHeartbeats 1600000 in
set_option maxRecDepth 100000 in
theorem flag_any (b : Bool) (w : World) :
    Calls Try.prog 30 #[.bool b] w fun e w' => ∃ v', e = .returned v' ∧ OwnL w' w.heap.size v' [flagI b] ∧ Below w.heap.size w w' := by
  cases b
  · go_enter Try.func30, Try.ntmps30
    go_wp2
    go_ret
    exact ⟨_, rfl, ownL_one w 0, b_1 _ _⟩
  · go_enter Try.func30, Try.ntmps30
    go_wp2
    go_ret
    exact ⟨_, rfl, ownL_one w 1, b_1 _ _⟩

end Go.Proofs.Ytplfgfdlcfdfdaa
