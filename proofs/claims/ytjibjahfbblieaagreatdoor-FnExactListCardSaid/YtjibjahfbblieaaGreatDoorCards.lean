/-
  DERIVED. GIVEN WITH THE SEED: THE CARDS: each row of YtjibjahfbblieaaGreatDoorRows.lean that lists a variable, with what it lists TIED to the program's text (the seventh form; the later family's looks); each row that meets fmt, with fmt's text TOLD by the authors' own Lean function (tested against real Go, not proved from fmt's source: count such statements apart). THE CARD IS WHAT COUNTS. Prove the row's statement (the work); the ties are given (YtjibjahfbblieaaGreatDoorTie.lean); close each card by the builder's one call (the guide's Derived/Test/ToyasCard.lean, 'card_holds'). Laid BY PROGRAM, IN A SANDBOX (cutbox-door.mjs). By AI agents, Wed Nov 11 2026. No macro, syntax, notation, axiom, sorry.
-/
import Derived.Test.YtjibjahfbblieaaGreatDoorRows
import GoSem.ClaimSeven
namespace Go.Proofs.YtjibjahfbblieaaGreatDoor
namespace Rows

/-- THE TIED CARD OF 'laws.FnExactList'. -/
def fnExactListCard : Claim7 := { stood := { row := fnExactListRow, standIns := [], harness := (true, "f9f9fde1007b1e38839db42658cfa08ef7c47caa1864d76123ee73865c8ab193"), looks := true }, kinds := [], alts := [], laidByText := true, laidKinds := [.data, .data, .widerDeep, .widerDeep, .data, .data, .data, .data, .data, .data, .sentinel, .sentinel, .listed, .data, .pinned, .pinned, .pinned], laidTests := true, laidLooks := .later }
def FnExactListCardSaid : Prop := Claim7.holds Tryz.pinned (.plain (OpenSpec.ofChange fnExactListSpec)) fnExactListCard

/-- THE SECOND FORM's CARD OF 'laws.FnExactList'. -/
def fnExactListUptoCard : Claim7 := { stood := { row := fnExactListUptoRow, standIns := [], harness := (true, "f9f9fde1007b1e38839db42658cfa08ef7c47caa1864d76123ee73865c8ab193"), looks := true }, kinds := [], alts := [], laidByText := true, laidKinds := [.data, .data, .widerDeep, .widerDeep, .data, .data, .data, .data, .data, .data, .sentinel, .sentinel, .listed, .data, .pinned, .pinned, .pinned], laidTests := true, laidLooks := .later }
def FnExactListUptoCardSaid : Prop := Claim7.holds Tryz.pinned (.plain (OpenSpec.upto fnExactListSpec)) fnExactListUptoCard
end Rows
end Go.Proofs.YtjibjahfbblieaaGreatDoor
