/-
  DERIVED. GIVEN WITH THE SEED: THE CARDS: each row of YtmndipnifjpdjaaGreatDoorRows.lean that lists a variable, with what it lists TIED to the program's text (the seventh form; the later family's looks); each row that meets fmt, with fmt's text TOLD by the authors' own Lean function (tested against real Go, not proved from fmt's source: count such statements apart). THE CARD IS WHAT COUNTS. Prove the row's statement (the work); the ties are given (YtmndipnifjpdjaaGreatDoorTie.lean); close each card by the builder's one call (the guide's Derived/Test/ToyasCard.lean, 'card_holds'). Laid BY PROGRAM, IN A SANDBOX (cutbox-door.mjs). By AI agents, Wed Nov 11 2026. No macro, syntax, notation, axiom, sorry.
-/
import Derived.Test.YtmndipnifjpdjaaGreatDoorRows
import GoSem.ClaimSeven
namespace Go.Proofs.YtmndipnifjpdjaaGreatDoor
namespace Rows

/-- THE TIED CARD OF 'laws.FnExactLex'. -/
def fnExactLexCard : Claim7 := { stood := { row := fnExactLexRow, standIns := [], harness := (true, "4e812c1d917f201d97005957df718c23877b9c596af6931792470e978997fd75"), looks := true }, kinds := [], alts := [], laidByText := true, laidKinds := [.data, .data, .widerDeep, .widerDeep, .data, .data, .data, .data, .data, .data, .sentinel, .sentinel, .listed, .data, .pinned, .pinned, .pinned], laidTests := true, laidLooks := .later }
def FnExactLexCardSaid : Prop := Claim7.holds Tryz.pinned (.plain (OpenSpec.ofChange fnExactLexSpec)) fnExactLexCard

/-- THE TIED CARD OF 'laws.FnExactMinify'. -/
def fnExactMinifyCard : Claim7 := { stood := { row := fnExactMinifyRow, standIns := [], harness := (true, "4e812c1d917f201d97005957df718c23877b9c596af6931792470e978997fd75"), looks := true }, kinds := [], alts := [], laidByText := true, laidKinds := [.data, .data, .widerDeep, .widerDeep, .data, .data, .data, .data, .data, .data, .sentinel, .sentinel, .listed, .data, .pinned, .pinned, .pinned], laidTests := true, laidLooks := .later }
def FnExactMinifyCardSaid : Prop := Claim7.holds Tryz.pinned (.plain (OpenSpec.ofChange fnExactMinifySpec)) fnExactMinifyCard

/-- THE TIED CARD OF 'laws.FnMinify'. -/
def fnMinifyCard : Claim7 := { stood := { row := fnMinifyRow, standIns := [], harness := (true, "4e812c1d917f201d97005957df718c23877b9c596af6931792470e978997fd75"), looks := true }, kinds := [], alts := [], laidByText := true, laidKinds := [.data, .data, .widerDeep, .widerDeep, .data, .data, .data, .data, .data, .data, .sentinel, .sentinel, .listed, .data, .pinned, .pinned, .pinned], laidTests := true, laidLooks := .later }
def FnMinifyCardSaid : Prop := Claim7.holds Tryz.pinned (.plain (OpenSpec.ofChange fnMinifySpec)) fnMinifyCard

/-- THE SECOND FORM's CARD OF 'laws.FnExactLex'. -/
def fnExactLexUptoCard : Claim7 := { stood := { row := fnExactLexUptoRow, standIns := [], harness := (true, "4e812c1d917f201d97005957df718c23877b9c596af6931792470e978997fd75"), looks := true }, kinds := [], alts := [], laidByText := true, laidKinds := [.data, .data, .widerDeep, .widerDeep, .data, .data, .data, .data, .data, .data, .sentinel, .sentinel, .listed, .data, .pinned, .pinned, .pinned], laidTests := true, laidLooks := .later }
def FnExactLexUptoCardSaid : Prop := Claim7.holds Tryz.pinned (.plain (OpenSpec.upto fnExactLexSpec)) fnExactLexUptoCard

/-- THE SECOND FORM's CARD OF 'laws.FnExactMinify'. -/
def fnExactMinifyUptoCard : Claim7 := { stood := { row := fnExactMinifyUptoRow, standIns := [], harness := (true, "4e812c1d917f201d97005957df718c23877b9c596af6931792470e978997fd75"), looks := true }, kinds := [], alts := [], laidByText := true, laidKinds := [.data, .data, .widerDeep, .widerDeep, .data, .data, .data, .data, .data, .data, .sentinel, .sentinel, .listed, .data, .pinned, .pinned, .pinned], laidTests := true, laidLooks := .later }
def FnExactMinifyUptoCardSaid : Prop := Claim7.holds Tryz.pinned (.plain (OpenSpec.upto fnExactMinifySpec)) fnExactMinifyUptoCard

/-- THE SECOND FORM's CARD OF 'laws.FnMinify'. -/
def fnMinifyUptoCard : Claim7 := { stood := { row := fnMinifyUptoRow, standIns := [], harness := (true, "4e812c1d917f201d97005957df718c23877b9c596af6931792470e978997fd75"), looks := true }, kinds := [], alts := [], laidByText := true, laidKinds := [.data, .data, .widerDeep, .widerDeep, .data, .data, .data, .data, .data, .data, .sentinel, .sentinel, .listed, .data, .pinned, .pinned, .pinned], laidTests := true, laidLooks := .later }
def FnMinifyUptoCardSaid : Prop := Claim7.holds Tryz.pinned (.plain (OpenSpec.upto fnMinifySpec)) fnMinifyUptoCard
end Rows
end Go.Proofs.YtmndipnifjpdjaaGreatDoor
