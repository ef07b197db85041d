/-
  NARROWER THAN 'FOR EVERY INPUT', by the rows' own cells (each row's printed sentence says how): FnHeapSafe: ifaces, laid · FnHeapClean: ifaces, laid · FnExactHeapRun: ifaces, laid.
  DERIVED. THE GIVEN ROWS OF THIS SEAT. 3 by the template 'for every input the law returns true; each argument reads behind the call as it read before'; 0 by the template 'total and deterministic' (their statements: YtbpcdfbmnklcjaaGreatDoorTotals.lean).
  GIVEN WITH THE SEED: the statements are not yours to turn. If you find one false, say at which input.
  Laid BY PROGRAM, IN A SANDBOX (cutbox-rows.mjs): the forced cells as the released guide's own fill.sh prints them over the translation 2ae82def49ad3f73… (all of the seat's roots in one cut). By AI agents, Wed Nov 11 2026. No macro, syntax, notation, axiom, sorry.
-/
import Derived.Test.YtbpcdfbmnklcjaaGreatDoorChecked
import GoSem.Claim
import GoSem.ClaimJoined
import GoSem.ClaimMapViews
import Derived.JoinedTies
import Derived.KernelRfl
namespace Go.Proofs.YtbpcdfbmnklcjaaGreatDoor
/- THE CELL 'sum', in the pinned program and in every row, IS THE sha256 OF THE DUMP (.gsa) THAT YtbpcdfbmnklcjaaGreatDoorProg.lean LOADS. Nothing in Lean hashes anything: it is a label: what it is worth is what the hold of that sum in a sandbox is worth. -/
noncomputable def Tryz.pinned : Pinned := { name := "ytbpcdfbmnklcjaagreatdoor", sum := "2ae82def49ad3f73dea862d66a6b0300451f4ec57988082c529575d27b66f092", checked := Tryz.checked }
namespace Rows
def none {H : Type} : Left H := { results := [], args := [] }

/- WHAT THE LISTED PACKAGE-LEVEL VARIABLES READ AS WHEN THE CALL BEGINS. Each datum BY PROGRAM (the guide's laid-datum.mjs) off the statement by which the dump's own 'gosem.cut.vars' lays the variable. In a bare row this is a premise. The card (YtbpcdfbmnklcjaaGreatDoorCards.lean) ties it to the program's text. -/
def laid_loop_example_g00002_impl_errNumWhole {H : Type} : DataW H := .iface "*errors.errorString" (.ptr (.agg [.lit (.string [110, 117, 109, 98, 101, 114, 32, 104, 97, 115, 32, 110, 111, 32, 105, 110, 116, 101, 103, 101, 114, 32, 114, 101, 112, 114, 101, 115, 101, 110, 116, 97, 116, 105, 111, 110])]))

/-- 'laws.FnHeapSafe': WHATEVER THE INPUT: true; the input reads as it did. -/
def fnHeapSafeSpec : ChangeSpec := { name := "fnHeapSafe", vars := ["loop.example/g00002/impl.errNumWhole"], fn := fun _ => fun
  | [d, g1] => { results := [.lit (.bool true)], args := [d], vars := [g1] }
  | _ => none }
def fnHeapSafeRow : OpenClaim := { program := "ytbpcdfbmnklcjaagreatdoor", sum := "2ae82def49ad3f73dea862d66a6b0300451f4ec57988082c529575d27b66f092", func := "loop.example/g00002/laws.FnHeapSafe", spec := "fnHeapSafe", inPlace := ["math.Float64frombits", "math.archTrunc", "math.Float64bits", "slices.overlaps[loop.example/g00002/impl.object]"], unfollowed := true, recurses := true, named := ["loop.example/g00002/impl.errNumWhole"], ifaces := true, plainKeys := false, apart := false, laid := [("loop.example/g00002/impl.errNumWhole", laid_loop_example_g00002_impl_errNumWhole)] }
def FnHeapSafeSaid : Prop := fnHeapSafeRow.holds Tryz.pinned (OpenSpec.ofChange fnHeapSafeSpec)

/-- ITS FALSE NEIGHBOUR: 'it returns false'. Refute it at one input. -/
def fnHeapSafeWrong : ChangeSpec := { name := "fnHeapSafe", vars := ["loop.example/g00002/impl.errNumWhole"], fn := fun _ => fun
  | [d, g1] => { results := [.lit (.bool false)], args := [d], vars := [g1] }
  | _ => none }
def FnHeapSafeWrongFalsely : Prop := fnHeapSafeRow.holds Tryz.pinned (OpenSpec.ofChange fnHeapSafeWrong)

/-- 'laws.FnHeapClean': WHATEVER THE INPUT: true; the input reads as it did. -/
def fnHeapCleanSpec : ChangeSpec := { name := "fnHeapClean", vars := ["loop.example/g00002/impl.errNumWhole"], fn := fun _ => fun
  | [d1, d2, g1] => { results := [.lit (.bool true)], args := [d1, d2], vars := [g1] }
  | _ => none }
def fnHeapCleanRow : OpenClaim := { program := "ytbpcdfbmnklcjaagreatdoor", sum := "2ae82def49ad3f73dea862d66a6b0300451f4ec57988082c529575d27b66f092", func := "loop.example/g00002/laws.FnHeapClean", spec := "fnHeapClean", inPlace := ["math.Float64frombits", "math.archTrunc", "math.Float64bits", "slices.overlaps[loop.example/g00002/impl.object]"], unfollowed := true, recurses := true, named := ["loop.example/g00002/impl.errNumWhole"], ifaces := true, plainKeys := false, apart := false, laid := [("loop.example/g00002/impl.errNumWhole", laid_loop_example_g00002_impl_errNumWhole)] }
def FnHeapCleanSaid : Prop := fnHeapCleanRow.holds Tryz.pinned (OpenSpec.ofChange fnHeapCleanSpec)

/-- ITS FALSE NEIGHBOUR: 'it returns false'. Refute it at one input. -/
def fnHeapCleanWrong : ChangeSpec := { name := "fnHeapClean", vars := ["loop.example/g00002/impl.errNumWhole"], fn := fun _ => fun
  | [d1, d2, g1] => { results := [.lit (.bool false)], args := [d1, d2], vars := [g1] }
  | _ => none }
def FnHeapCleanWrongFalsely : Prop := fnHeapCleanRow.holds Tryz.pinned (OpenSpec.ofChange fnHeapCleanWrong)

/-- 'laws.FnExactHeapRun': WHATEVER THE INPUT: true; the input reads as it did. -/
def fnExactHeapRunSpec : ChangeSpec := { name := "fnExactHeapRun", vars := ["loop.example/g00002/impl.errNumWhole"], fn := fun _ => fun
  | [d, g1] => { results := [.lit (.bool true)], args := [d], vars := [g1] }
  | _ => none }
def fnExactHeapRunRow : OpenClaim := { program := "ytbpcdfbmnklcjaagreatdoor", sum := "2ae82def49ad3f73dea862d66a6b0300451f4ec57988082c529575d27b66f092", func := "loop.example/g00002/laws.FnExactHeapRun", spec := "fnExactHeapRun", inPlace := ["math.Float64frombits", "math.archTrunc", "math.Float64bits", "slices.overlaps[loop.example/g00002/impl.object]"], unfollowed := true, recurses := true, named := ["loop.example/g00002/impl.errNumWhole"], ifaces := true, plainKeys := false, apart := false, laid := [("loop.example/g00002/impl.errNumWhole", laid_loop_example_g00002_impl_errNumWhole)] }
def FnExactHeapRunSaid : Prop := fnExactHeapRunRow.holds Tryz.pinned (OpenSpec.ofChange fnExactHeapRunSpec)

/-- ITS FALSE NEIGHBOUR: 'it returns false'. Refute it at one input. -/
def fnExactHeapRunWrong : ChangeSpec := { name := "fnExactHeapRun", vars := ["loop.example/g00002/impl.errNumWhole"], fn := fun _ => fun
  | [d, g1] => { results := [.lit (.bool false)], args := [d], vars := [g1] }
  | _ => none }
def FnExactHeapRunWrongFalsely : Prop := fnExactHeapRunRow.holds Tryz.pinned (OpenSpec.ofChange fnExactHeapRunWrong)

/- THE SECOND FORM. 'bulk': how many values and letters a reading holds, each counted each time it is reached (what is shared counts as often as it is met; a slice's spare places count too). A statement '..UptoSaid' is the law's where the arguments, and the package variables that the reading takes, are together of bulk at most 1048576: NARROWER than '..Said'. Prove '..Said' where nothing that the law and all that it calls make is longer than what came in: it says more and counts as full. Else prove '..UptoSaid'. A law counts once. -/
mutual
def uptoBulk {H : Type} : DataW H → Nat
  | .lit (.string bytes) => bytes.length + 1
  | .lit _ => 1
  | .nil => 1
  | .ptr d => uptoBulk d + 1
  | .slice elems spare => uptoBulkAll elems + uptoBulkAll spare + 1
  | .agg parts => uptoBulkAll parts + 1
  | .iface _ d => uptoBulk d + 1
  | .map entries => uptoBulkEntries entries + 1
  | .held _ => 1
def uptoBulkAll {H : Type} : List (DataW H) → Nat
  | [] => 0
  | d :: r => uptoBulk d + uptoBulkAll r
def uptoBulkEntries {H : Type} : List (Lit × DataW H) → Nat
  | [] => 0
  | x :: r => uptoBulkEntry x + uptoBulkEntries r
def uptoBulkEntry {H : Type} : Lit × DataW H → Nat
  | (.string bytes, d) => bytes.length + uptoBulk d + 1
  | (_, d) => uptoBulk d + 1
 end
def uptoSmall : (H : Type) → List (DataW H) → Bool := fun _ ds => decide (uptoBulkAll ds ≤ 1048576)
def OpenSpec.upto (s : _root_.Go.ChangeSpec) : _root_.Go.OpenSpec := { _root_.Go.OpenSpec.ofChange s with cond := some uptoSmall }

/-- 'laws.FnHeapSafe', WHERE WHAT IT READS IS OF BULK AT MOST 1048576: true; the input reads as it did. -/
def fnHeapSafeUptoRow : OpenClaim := { program := "ytbpcdfbmnklcjaagreatdoor", sum := "2ae82def49ad3f73dea862d66a6b0300451f4ec57988082c529575d27b66f092", func := "loop.example/g00002/laws.FnHeapSafe", spec := "fnHeapSafe", inPlace := ["math.Float64frombits", "math.archTrunc", "math.Float64bits", "slices.overlaps[loop.example/g00002/impl.object]"], unfollowed := true, recurses := true, named := ["loop.example/g00002/impl.errNumWhole"], ifaces := true, plainKeys := false, apart := false, laid := [("loop.example/g00002/impl.errNumWhole", laid_loop_example_g00002_impl_errNumWhole)], narrowed := true }
def FnHeapSafeUptoSaid : Prop := fnHeapSafeUptoRow.holds Tryz.pinned (OpenSpec.upto fnHeapSafeSpec)

/-- 'laws.FnHeapClean', WHERE WHAT IT READS IS OF BULK AT MOST 1048576: true; the input reads as it did. -/
def fnHeapCleanUptoRow : OpenClaim := { program := "ytbpcdfbmnklcjaagreatdoor", sum := "2ae82def49ad3f73dea862d66a6b0300451f4ec57988082c529575d27b66f092", func := "loop.example/g00002/laws.FnHeapClean", spec := "fnHeapClean", inPlace := ["math.Float64frombits", "math.archTrunc", "math.Float64bits", "slices.overlaps[loop.example/g00002/impl.object]"], unfollowed := true, recurses := true, named := ["loop.example/g00002/impl.errNumWhole"], ifaces := true, plainKeys := false, apart := false, laid := [("loop.example/g00002/impl.errNumWhole", laid_loop_example_g00002_impl_errNumWhole)], narrowed := true }
def FnHeapCleanUptoSaid : Prop := fnHeapCleanUptoRow.holds Tryz.pinned (OpenSpec.upto fnHeapCleanSpec)

/-- 'laws.FnExactHeapRun', WHERE WHAT IT READS IS OF BULK AT MOST 1048576: true; the input reads as it did. -/
def fnExactHeapRunUptoRow : OpenClaim := { program := "ytbpcdfbmnklcjaagreatdoor", sum := "2ae82def49ad3f73dea862d66a6b0300451f4ec57988082c529575d27b66f092", func := "loop.example/g00002/laws.FnExactHeapRun", spec := "fnExactHeapRun", inPlace := ["math.Float64frombits", "math.archTrunc", "math.Float64bits", "slices.overlaps[loop.example/g00002/impl.object]"], unfollowed := true, recurses := true, named := ["loop.example/g00002/impl.errNumWhole"], ifaces := true, plainKeys := false, apart := false, laid := [("loop.example/g00002/impl.errNumWhole", laid_loop_example_g00002_impl_errNumWhole)], narrowed := true }
def FnExactHeapRunUptoSaid : Prop := fnExactHeapRunUptoRow.holds Tryz.pinned (OpenSpec.upto fnExactHeapRunSpec)

end Rows
end Go.Proofs.YtbpcdfbmnklcjaaGreatDoor
