/-
  NARROWER THAN 'FOR EVERY INPUT', by the rows' own cells (each row's printed sentence says how): FnExactFind: laid · FnExactFindAll: laid.
  DERIVED. THE GIVEN ROWS OF THIS SEAT. 2 by the template 'for every input the law returns true; each argument reads behind the call as it read before'; 0 by the template 'total and deterministic' (their statements: YtemciphihnpniaaDoorTotals.lean).
  GIVEN WITH THE SEED: the statements are not yours to turn. If you find one false, say at which input.
  Laid BY PROGRAM, IN A SANDBOX (cutbox-rows.mjs): the forced cells as the released guide's own fill.sh prints them over the translation a2eb9509b02295f3… (all of the seat's roots in one cut). By AI agents, Wed Nov 11 2026. No macro, syntax, notation, axiom, sorry.
-/
import Derived.Test.YtemciphihnpniaaDoorChecked
import GoSem.Claim
import GoSem.ClaimJoined
import GoSem.ClaimMapViews
import Derived.JoinedTies
import Derived.KernelRfl
namespace Go.Proofs.YtemciphihnpniaaDoor
/- THE CELL 'sum', in the pinned program and in every row, IS THE sha256 OF THE DUMP (.gsa) THAT YtemciphihnpniaaDoorProg.lean LOADS. Nothing in Lean hashes anything: it is a label: what it is worth is what the hold of that sum in a sandbox is worth. -/
noncomputable def Tryd.pinned : Pinned := { name := "ytemciphihnpniaadoor", sum := "a2eb9509b02295f3ccbaf1ed1d531be4ee13e24c1efa387902caa2c46a54993d", checked := Tryd.checked }
namespace Rows
def none {H : Type} : Left H := { results := [], args := [] }

/- WHAT THE LISTED PACKAGE-LEVEL VARIABLES READ AS WHEN THE CALL BEGINS. Each datum BY PROGRAM (the guide's laid-datum.mjs) off the statement by which the dump's own 'gosem.cut.vars' lays the variable. In a bare row this is a premise. The card (YtemciphihnpniaaDoorCards.lean) ties it to the program's text. -/
def laid_loop_example_g00002_impl_letterRanges {H : Type} : DataW H := .agg [.agg [.lit (.int .u8 97), .lit (.string [97, 122, 65, 90])], .agg [.lit (.int .u8 100), .lit (.string [48, 57])], .agg [.lit (.int .u8 108), .lit (.string [97, 122])], .agg [.lit (.int .u8 115), .lit (.string [9, 13, 32, 32])], .agg [.lit (.int .u8 117), .lit (.string [65, 90])], .agg [.lit (.int .u8 119), .lit (.string [97, 122, 65, 90, 48, 57])], .agg [.lit (.int .u8 120), .lit (.string [48, 57, 97, 102, 65, 70])], .agg [.lit (.int .u8 112), .lit (.string [33, 47, 58, 64, 91, 96, 123, 126])], .agg [.lit (.int .u8 99), .lit (.string [0, 31, 127, 127])]]

/-- 'laws.FnExactFind': WHATEVER THE INPUT: true; the input reads as it did. -/
def fnExactFindSpec : ChangeSpec := { name := "fnExactFind", vars := ["loop.example/g00002/impl.letterRanges"], fn := fun _ => fun
  | [d1, d2, d3, g1] => { results := [.lit (.bool true)], args := [d1, d2, d3], vars := [g1] }
  | _ => none }
def fnExactFindRow : OpenClaim := { program := "ytemciphihnpniaadoor", sum := "a2eb9509b02295f3ccbaf1ed1d531be4ee13e24c1efa387902caa2c46a54993d", func := "loop.example/g00002/laws.FnExactFind", spec := "fnExactFind", unfollowed := true, recurses := true, named := ["loop.example/g00002/impl.letterRanges"], apart := false, laid := [("loop.example/g00002/impl.letterRanges", laid_loop_example_g00002_impl_letterRanges)] }
def FnExactFindSaid : Prop := fnExactFindRow.holds Tryd.pinned (OpenSpec.ofChange fnExactFindSpec)

/-- ITS FALSE NEIGHBOUR: 'it returns false'. Refute it at one input. -/
def fnExactFindWrong : ChangeSpec := { name := "fnExactFind", vars := ["loop.example/g00002/impl.letterRanges"], fn := fun _ => fun
  | [d1, d2, d3, g1] => { results := [.lit (.bool false)], args := [d1, d2, d3], vars := [g1] }
  | _ => none }
def FnExactFindWrongFalsely : Prop := fnExactFindRow.holds Tryd.pinned (OpenSpec.ofChange fnExactFindWrong)

/-- 'laws.FnExactFindAll': WHATEVER THE INPUT: true; the input reads as it did. -/
def fnExactFindAllSpec : ChangeSpec := { name := "fnExactFindAll", vars := ["loop.example/g00002/impl.letterRanges"], fn := fun _ => fun
  | [d1, d2, g1] => { results := [.lit (.bool true)], args := [d1, d2], vars := [g1] }
  | _ => none }
def fnExactFindAllRow : OpenClaim := { program := "ytemciphihnpniaadoor", sum := "a2eb9509b02295f3ccbaf1ed1d531be4ee13e24c1efa387902caa2c46a54993d", func := "loop.example/g00002/laws.FnExactFindAll", spec := "fnExactFindAll", unfollowed := true, recurses := true, named := ["loop.example/g00002/impl.letterRanges"], apart := false, laid := [("loop.example/g00002/impl.letterRanges", laid_loop_example_g00002_impl_letterRanges)] }
def FnExactFindAllSaid : Prop := fnExactFindAllRow.holds Tryd.pinned (OpenSpec.ofChange fnExactFindAllSpec)

/-- ITS FALSE NEIGHBOUR: 'it returns false'. Refute it at one input. -/
def fnExactFindAllWrong : ChangeSpec := { name := "fnExactFindAll", vars := ["loop.example/g00002/impl.letterRanges"], fn := fun _ => fun
  | [d1, d2, g1] => { results := [.lit (.bool false)], args := [d1, d2], vars := [g1] }
  | _ => none }
def FnExactFindAllWrongFalsely : Prop := fnExactFindAllRow.holds Tryd.pinned (OpenSpec.ofChange fnExactFindAllWrong)

/- THE SECOND FORM. 'bulk': how many values and letters a reading holds, each counted each time it is reached (what is shared counts as often as it is met; a slice's spare places count too). A statement '..UptoSaid' is the law's where the arguments, and the package variables that the reading takes, are together of bulk at most 1048576: NARROWER than '..Said'. Prove '..Said' where nothing that the law and all that it calls make is longer than what came in: it says more and counts as full. Else prove '..UptoSaid'. A law counts once. -/
mutual
def uptoBulk {H : Type} : DataW H → Nat
  | .lit (.string bytes) => bytes.length + 1
  | .lit _ => 1
  | .nil => 1
  | .ptr d => uptoBulk d + 1
  | .slice elems spare => uptoBulkAll elems + uptoBulkAll spare + 1
  | .agg parts => uptoBulkAll parts + 1
  | .iface _ d => uptoBulk d + 1
  | .map entries => uptoBulkEntries entries + 1
  | .held _ => 1
def uptoBulkAll {H : Type} : List (DataW H) → Nat
  | [] => 0
  | d :: r => uptoBulk d + uptoBulkAll r
def uptoBulkEntries {H : Type} : List (Lit × DataW H) → Nat
  | [] => 0
  | x :: r => uptoBulkEntry x + uptoBulkEntries r
def uptoBulkEntry {H : Type} : Lit × DataW H → Nat
  | (.string bytes, d) => bytes.length + uptoBulk d + 1
  | (_, d) => uptoBulk d + 1
 end
def uptoSmall : (H : Type) → List (DataW H) → Bool := fun _ ds => decide (uptoBulkAll ds ≤ 1048576)
def OpenSpec.upto (s : _root_.Go.ChangeSpec) : _root_.Go.OpenSpec := { _root_.Go.OpenSpec.ofChange s with cond := some uptoSmall }

/-- 'laws.FnExactFind', WHERE WHAT IT READS IS OF BULK AT MOST 1048576: true; the input reads as it did. -/
def fnExactFindUptoRow : OpenClaim := { program := "ytemciphihnpniaadoor", sum := "a2eb9509b02295f3ccbaf1ed1d531be4ee13e24c1efa387902caa2c46a54993d", func := "loop.example/g00002/laws.FnExactFind", spec := "fnExactFind", unfollowed := true, recurses := true, named := ["loop.example/g00002/impl.letterRanges"], apart := false, laid := [("loop.example/g00002/impl.letterRanges", laid_loop_example_g00002_impl_letterRanges)], narrowed := true }
def FnExactFindUptoSaid : Prop := fnExactFindUptoRow.holds Tryd.pinned (OpenSpec.upto fnExactFindSpec)

/-- 'laws.FnExactFindAll', WHERE WHAT IT READS IS OF BULK AT MOST 1048576: true; the input reads as it did. -/
def fnExactFindAllUptoRow : OpenClaim := { program := "ytemciphihnpniaadoor", sum := "a2eb9509b02295f3ccbaf1ed1d531be4ee13e24c1efa387902caa2c46a54993d", func := "loop.example/g00002/laws.FnExactFindAll", spec := "fnExactFindAll", unfollowed := true, recurses := true, named := ["loop.example/g00002/impl.letterRanges"], apart := false, laid := [("loop.example/g00002/impl.letterRanges", laid_loop_example_g00002_impl_letterRanges)], narrowed := true }
def FnExactFindAllUptoSaid : Prop := fnExactFindAllUptoRow.holds Tryd.pinned (OpenSpec.upto fnExactFindAllSpec)

end Rows
end Go.Proofs.YtemciphihnpniaaDoor
