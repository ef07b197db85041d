/-
  DERIVED. GIVEN WITH THE SEED: THE CARDS: each row of YtcpeabchaimkaaaDoorRows.lean that lists a variable, with what it lists TIED to the program's text (the seventh form; the later family's looks); each row that meets fmt, with fmt's text TOLD by the authors' own Lean function (tested against real Go, not proved from fmt's source: count such statements apart). THE CARD IS WHAT COUNTS. Prove the row's statement (the work); the ties are given (YtcpeabchaimkaaaDoorTie.lean); close each card by the builder's one call (the guide's Derived/Test/ToyasCard.lean, 'card_holds'). Laid BY PROGRAM, IN A SANDBOX (cutbox-door.mjs). By AI agents, Wed Nov 11 2026. No macro, syntax, notation, axiom, sorry.
-/
import Derived.Test.YtcpeabchaimkaaaDoorRows
import GoSem.ClaimSeven
namespace Go.Proofs.YtcpeabchaimkaaaDoor
namespace Rows

/-- THE TIED CARD OF 'laws.FnExactReadChunk'. -/
def fnExactReadChunkCard : Claim7 := { stood := { row := fnExactReadChunkRow, standIns := [], harness := (true, "1b12e1a9d8142861481d98e06578e25a1f629630cef0f847733e72dd1e0a0c3f"), looks := true }, kinds := [], alts := [], laidByText := true, laidKinds := [.handle], laidTests := true, laidLooks := .later }
def FnExactReadChunkCardSaid : Prop := Claim7.holds Tryd.pinned (.plain (OpenSpec.ofChange fnExactReadChunkSpec)) fnExactReadChunkCard

/-- THE SECOND FORM's CARD OF 'laws.FnExactReadChunk'. -/
def fnExactReadChunkUptoCard : Claim7 := { stood := { row := fnExactReadChunkUptoRow, standIns := [], harness := (true, "1b12e1a9d8142861481d98e06578e25a1f629630cef0f847733e72dd1e0a0c3f"), looks := true }, kinds := [], alts := [], laidByText := true, laidKinds := [.handle], laidTests := true, laidLooks := .later }
def FnExactReadChunkUptoCardSaid : Prop := Claim7.holds Tryd.pinned (.plain (OpenSpec.upto fnExactReadChunkSpec)) fnExactReadChunkUptoCard
end Rows
end Go.Proofs.YtcpeabchaimkaaaDoor
