/-
  DERIVED. GIVEN WITH THE SEED: THE CARDS: each row of YtbpcdfbmnklcjaaGreatDoorRows.lean that lists a variable, with what it lists TIED to the program's text (the seventh form; the later family's looks); each row that meets fmt, with fmt's text TOLD by the authors' own Lean function (tested against real Go, not proved from fmt's source: count such statements apart). THE CARD IS WHAT COUNTS. Prove the row's statement (the work); the ties are given (YtbpcdfbmnklcjaaGreatDoorTie.lean); close each card by the builder's one call (the guide's Derived/Test/ToyasCard.lean, 'card_holds'). Laid BY PROGRAM, IN A SANDBOX (cutbox-door.mjs). By AI agents, Wed Nov 11 2026. No macro, syntax, notation, axiom, sorry.
-/
import Derived.Test.YtbpcdfbmnklcjaaGreatDoorRows
import GoSem.ClaimSeven
namespace Go.Proofs.YtbpcdfbmnklcjaaGreatDoor
namespace Rows

/-- THE TIED CARD OF 'laws.FnHeapSafe'. -/
def fnHeapSafeCard : Claim7 := { stood := { row := fnHeapSafeRow, standIns := [], harness := (true, "6de9614664d86718d4aa59b015b46c572684bdb33f691f46a8382cc00edb0770"), looks := true }, kinds := [], alts := [], laidByText := true, laidKinds := [.sentinel], laidTests := true, laidLooks := .later }
def FnHeapSafeCardSaid : Prop := Claim7.holds Tryz.pinned (.plain (OpenSpec.ofChange fnHeapSafeSpec)) fnHeapSafeCard

/-- THE TIED CARD OF 'laws.FnHeapClean'. -/
def fnHeapCleanCard : Claim7 := { stood := { row := fnHeapCleanRow, standIns := [], harness := (true, "6de9614664d86718d4aa59b015b46c572684bdb33f691f46a8382cc00edb0770"), looks := true }, kinds := [], alts := [], laidByText := true, laidKinds := [.sentinel], laidTests := true, laidLooks := .later }
def FnHeapCleanCardSaid : Prop := Claim7.holds Tryz.pinned (.plain (OpenSpec.ofChange fnHeapCleanSpec)) fnHeapCleanCard

/-- THE TIED CARD OF 'laws.FnExactHeapRun'. -/
def fnExactHeapRunCard : Claim7 := { stood := { row := fnExactHeapRunRow, standIns := [], harness := (true, "6de9614664d86718d4aa59b015b46c572684bdb33f691f46a8382cc00edb0770"), looks := true }, kinds := [], alts := [], laidByText := true, laidKinds := [.sentinel], laidTests := true, laidLooks := .later }
def FnExactHeapRunCardSaid : Prop := Claim7.holds Tryz.pinned (.plain (OpenSpec.ofChange fnExactHeapRunSpec)) fnExactHeapRunCard

/-- THE SECOND FORM's CARD OF 'laws.FnHeapSafe'. -/
def fnHeapSafeUptoCard : Claim7 := { stood := { row := fnHeapSafeUptoRow, standIns := [], harness := (true, "6de9614664d86718d4aa59b015b46c572684bdb33f691f46a8382cc00edb0770"), looks := true }, kinds := [], alts := [], laidByText := true, laidKinds := [.sentinel], laidTests := true, laidLooks := .later }
def FnHeapSafeUptoCardSaid : Prop := Claim7.holds Tryz.pinned (.plain (OpenSpec.upto fnHeapSafeSpec)) fnHeapSafeUptoCard

/-- THE SECOND FORM's CARD OF 'laws.FnHeapClean'. -/
def fnHeapCleanUptoCard : Claim7 := { stood := { row := fnHeapCleanUptoRow, standIns := [], harness := (true, "6de9614664d86718d4aa59b015b46c572684bdb33f691f46a8382cc00edb0770"), looks := true }, kinds := [], alts := [], laidByText := true, laidKinds := [.sentinel], laidTests := true, laidLooks := .later }
def FnHeapCleanUptoCardSaid : Prop := Claim7.holds Tryz.pinned (.plain (OpenSpec.upto fnHeapCleanSpec)) fnHeapCleanUptoCard

/-- THE SECOND FORM's CARD OF 'laws.FnExactHeapRun'. -/
def fnExactHeapRunUptoCard : Claim7 := { stood := { row := fnExactHeapRunUptoRow, standIns := [], harness := (true, "6de9614664d86718d4aa59b015b46c572684bdb33f691f46a8382cc00edb0770"), looks := true }, kinds := [], alts := [], laidByText := true, laidKinds := [.sentinel], laidTests := true, laidLooks := .later }
def FnExactHeapRunUptoCardSaid : Prop := Claim7.holds Tryz.pinned (.plain (OpenSpec.upto fnExactHeapRunSpec)) fnExactHeapRunUptoCard
end Rows
end Go.Proofs.YtbpcdfbmnklcjaaGreatDoor
