/-
  NARROWER THAN 'FOR EVERY INPUT', by the rows' own cells (each row's printed sentence says how): FnExactSaveProgram: laid · FnExactThread: laid.
  DERIVED. THE GIVEN ROWS OF THIS SEAT. 2 by the template 'for every input the law returns true; each argument reads behind the call as it read before'; 0 by the template 'total and deterministic' (their statements: YtpkgibdbkmddiaaDoorTotals.lean).
  GIVEN WITH THE SEED: the statements are not yours to turn. If you find one false, say at which input.
  Laid BY PROGRAM, IN A SANDBOX (cutbox-rows.mjs): the forced cells as the released guide's own fill.sh prints them over the translation 5c857fcd10703970… (all of the seat's roots in one cut). By AI agents, Wed Nov 11 2026. No macro, syntax, notation, axiom, sorry.
-/
import Derived.Test.YtpkgibdbkmddiaaDoorChecked
import GoSem.Claim
import GoSem.ClaimJoined
import GoSem.ClaimMapViews
import Derived.JoinedTies
import Derived.KernelRfl
namespace Go.Proofs.YtpkgibdbkmddiaaDoor
/- THE CELL 'sum', in the pinned program and in every row, IS THE sha256 OF THE DUMP (.gsa) THAT YtpkgibdbkmddiaaDoorProg.lean LOADS. Nothing in Lean hashes anything: it is a label: what it is worth is what the hold of that sum in a sandbox is worth. -/
noncomputable def Tryd.pinned : Pinned := { name := "ytpkgibdbkmddiaadoor", sum := "5c857fcd10703970c424fa92c7f61bc3455d16f144c0a43ef9d3ee494803c0bc", checked := Tryd.checked }
namespace Rows
def none {H : Type} : Left H := { results := [], args := [] }

/- WHAT THE LISTED PACKAGE-LEVEL VARIABLES READ AS WHEN THE CALL BEGINS. Each datum BY PROGRAM (the guide's laid-datum.mjs) off the statement by which the dump's own 'gosem.cut.vars' lays the variable. In a bare row this is a premise. The card (YtpkgibdbkmddiaaDoorCards.lean) ties it to the program's text. -/
def laid_loop_example_s02245_impl_shapes {H : Type} : DataW H := .agg [.agg [.lit (.int .i64 1), .lit (.int .i64 0), .lit (.int .i64 0), .lit (.int .i64 1)], .agg [.lit (.int .i64 0), .lit (.int .i64 0), .lit (.int .i64 0), .lit (.int .i64 1)], .agg [.lit (.int .i64 0), .lit (.int .i64 0), .lit (.int .i64 0), .lit (.int .i64 1)], .agg [.lit (.int .i64 0), .lit (.int .i64 0), .lit (.int .i64 0), .lit (.int .i64 1)], .agg [.lit (.int .i64 2), .lit (.int .i64 0), .lit (.int .i64 0), .lit (.int .i64 1)], .agg [.lit (.int .i64 3), .lit (.int .i64 0), .lit (.int .i64 0), .lit (.int .i64 1)], .agg [.lit (.int .i64 3), .lit (.int .i64 0), .lit (.int .i64 1), .lit (.int .i64 0)], .agg [.lit (.int .i64 3), .lit (.int .i64 0), .lit (.int .i64 1), .lit (.int .i64 0)], .agg [.lit (.int .i64 5), .lit (.int .i64 0), .lit (.int .i64 0), .lit (.int .i64 1)], .agg [.lit (.int .i64 5), .lit (.int .i64 0), .lit (.int .i64 1), .lit (.int .i64 0)], .agg [.lit (.int .i64 6), .lit (.int .i64 0), .lit (.int .i64 0), .lit (.int .i64 1)], .agg [.lit (.int .i64 0), .lit (.int .i64 0), .lit (.int .i64 0), .lit (.int .i64 1)], .agg [.lit (.int .i64 0), .lit (.int .i64 0), .lit (.int .i64 3), .lit (.int .i64 1)], .agg [.lit (.int .i64 0), .lit (.int .i64 0), .lit (.int .i64 2), .lit (.int .i64 1)], .agg [.lit (.int .i64 0), .lit (.int .i64 0), .lit (.int .i64 3), .lit (.int .i64 0)], .agg [.lit (.int .i64 7), .lit (.int .i64 0), .lit (.int .i64 2), .lit (.int .i64 1)], .agg [.lit (.int .i64 0), .lit (.int .i64 0), .lit (.int .i64 1), .lit (.int .i64 1)], .agg [.lit (.int .i64 0), .lit (.int .i64 0), .lit (.int .i64 1), .lit (.int .i64 1)], .agg [.lit (.int .i64 9), .lit (.int .i64 0), .lit (.int .i64 0), .lit (.int .i64 0)], .agg [.lit (.int .i64 9), .lit (.int .i64 0), .lit (.int .i64 1), .lit (.int .i64 0)], .agg [.lit (.int .i64 9), .lit (.int .i64 0), .lit (.int .i64 1), .lit (.int .i64 0)], .agg [.lit (.int .i64 9), .lit (.int .i64 0), .lit (.int .i64 1), .lit (.int .i64 0)], .agg [.lit (.int .i64 8), .lit (.int .i64 8), .lit (.int .i64 1), .lit (.int .i64 0)], .agg [.lit (.int .i64 8), .lit (.int .i64 0), .lit (.int .i64 1), .lit (.int .i64 0)], .agg [.lit (.int .i64 8), .lit (.int .i64 0), .lit (.int .i64 0), .lit (.int .i64 0)], .agg [.lit (.int .i64 0), .lit (.int .i64 0), .lit (.int .i64 1), .lit (.int .i64 0)], .agg [.lit (.int .i64 4), .lit (.int .i64 9), .lit (.int .i64 0), .lit (.int .i64 0)], .agg [.lit (.int .i64 4), .lit (.int .i64 9), .lit (.int .i64 0), .lit (.int .i64 0)]]

/-- 'laws.FnExactSaveProgram': WHATEVER THE INPUT: true; the input reads as it did. -/
def fnExactSaveProgramSpec : ChangeSpec := { name := "fnExactSaveProgram", vars := ["loop.example/s02245/impl.shapes"], fn := fun _ => fun
  | [d, g1] => { results := [.lit (.bool true)], args := [d], vars := [g1] }
  | _ => none }
def fnExactSaveProgramRow : OpenClaim := { program := "ytpkgibdbkmddiaadoor", sum := "5c857fcd10703970c424fa92c7f61bc3455d16f144c0a43ef9d3ee494803c0bc", func := "loop.example/s02245/laws.FnExactSaveProgram", spec := "fnExactSaveProgram", unfollowed := true, recurses := true, named := ["loop.example/s02245/impl.shapes"], apart := false, laid := [("loop.example/s02245/impl.shapes", laid_loop_example_s02245_impl_shapes)] }
def FnExactSaveProgramSaid : Prop := fnExactSaveProgramRow.holds Tryd.pinned (OpenSpec.ofChange fnExactSaveProgramSpec)

/-- ITS FALSE NEIGHBOUR: 'it returns false'. Refute it at one input. -/
def fnExactSaveProgramWrong : ChangeSpec := { name := "fnExactSaveProgram", vars := ["loop.example/s02245/impl.shapes"], fn := fun _ => fun
  | [d, g1] => { results := [.lit (.bool false)], args := [d], vars := [g1] }
  | _ => none }
def FnExactSaveProgramWrongFalsely : Prop := fnExactSaveProgramRow.holds Tryd.pinned (OpenSpec.ofChange fnExactSaveProgramWrong)

/-- 'laws.FnExactThread': WHATEVER THE INPUT: true; the input reads as it did. -/
def fnExactThreadSpec : ChangeSpec := { name := "fnExactThread", vars := ["loop.example/s02245/impl.shapes"], fn := fun _ => fun
  | [d, g1] => { results := [.lit (.bool true)], args := [d], vars := [g1] }
  | _ => none }
def fnExactThreadRow : OpenClaim := { program := "ytpkgibdbkmddiaadoor", sum := "5c857fcd10703970c424fa92c7f61bc3455d16f144c0a43ef9d3ee494803c0bc", func := "loop.example/s02245/laws.FnExactThread", spec := "fnExactThread", unfollowed := true, recurses := true, named := ["loop.example/s02245/impl.shapes"], apart := false, laid := [("loop.example/s02245/impl.shapes", laid_loop_example_s02245_impl_shapes)] }
def FnExactThreadSaid : Prop := fnExactThreadRow.holds Tryd.pinned (OpenSpec.ofChange fnExactThreadSpec)

/-- ITS FALSE NEIGHBOUR: 'it returns false'. Refute it at one input. -/
def fnExactThreadWrong : ChangeSpec := { name := "fnExactThread", vars := ["loop.example/s02245/impl.shapes"], fn := fun _ => fun
  | [d, g1] => { results := [.lit (.bool false)], args := [d], vars := [g1] }
  | _ => none }
def FnExactThreadWrongFalsely : Prop := fnExactThreadRow.holds Tryd.pinned (OpenSpec.ofChange fnExactThreadWrong)

/- THE SECOND FORM. 'bulk': how many values and letters a reading holds, each counted each time it is reached (what is shared counts as often as it is met; a slice's spare places count too). A statement '..UptoSaid' is the law's where the arguments, and the package variables that the reading takes, are together of bulk at most 1048576: NARROWER than '..Said'. Prove '..Said' where nothing that the law and all that it calls make is longer than what came in: it says more and counts as full. Else prove '..UptoSaid'. A law counts once. -/
mutual
def uptoBulk {H : Type} : DataW H → Nat
  | .lit (.string bytes) => bytes.length + 1
  | .lit _ => 1
  | .nil => 1
  | .ptr d => uptoBulk d + 1
  | .slice elems spare => uptoBulkAll elems + uptoBulkAll spare + 1
  | .agg parts => uptoBulkAll parts + 1
  | .iface _ d => uptoBulk d + 1
  | .map entries => uptoBulkEntries entries + 1
  | .held _ => 1
def uptoBulkAll {H : Type} : List (DataW H) → Nat
  | [] => 0
  | d :: r => uptoBulk d + uptoBulkAll r
def uptoBulkEntries {H : Type} : List (Lit × DataW H) → Nat
  | [] => 0
  | x :: r => uptoBulkEntry x + uptoBulkEntries r
def uptoBulkEntry {H : Type} : Lit × DataW H → Nat
  | (.string bytes, d) => bytes.length + uptoBulk d + 1
  | (_, d) => uptoBulk d + 1
 end
def uptoSmall : (H : Type) → List (DataW H) → Bool := fun _ ds => decide (uptoBulkAll ds ≤ 1048576)
def OpenSpec.upto (s : _root_.Go.ChangeSpec) : _root_.Go.OpenSpec := { _root_.Go.OpenSpec.ofChange s with cond := some uptoSmall }

/-- 'laws.FnExactSaveProgram', WHERE WHAT IT READS IS OF BULK AT MOST 1048576: true; the input reads as it did. -/
def fnExactSaveProgramUptoRow : OpenClaim := { program := "ytpkgibdbkmddiaadoor", sum := "5c857fcd10703970c424fa92c7f61bc3455d16f144c0a43ef9d3ee494803c0bc", func := "loop.example/s02245/laws.FnExactSaveProgram", spec := "fnExactSaveProgram", unfollowed := true, recurses := true, named := ["loop.example/s02245/impl.shapes"], apart := false, laid := [("loop.example/s02245/impl.shapes", laid_loop_example_s02245_impl_shapes)], narrowed := true }
def FnExactSaveProgramUptoSaid : Prop := fnExactSaveProgramUptoRow.holds Tryd.pinned (OpenSpec.upto fnExactSaveProgramSpec)

/-- 'laws.FnExactThread', WHERE WHAT IT READS IS OF BULK AT MOST 1048576: true; the input reads as it did. -/
def fnExactThreadUptoRow : OpenClaim := { program := "ytpkgibdbkmddiaadoor", sum := "5c857fcd10703970c424fa92c7f61bc3455d16f144c0a43ef9d3ee494803c0bc", func := "loop.example/s02245/laws.FnExactThread", spec := "fnExactThread", unfollowed := true, recurses := true, named := ["loop.example/s02245/impl.shapes"], apart := false, laid := [("loop.example/s02245/impl.shapes", laid_loop_example_s02245_impl_shapes)], narrowed := true }
def FnExactThreadUptoSaid : Prop := fnExactThreadUptoRow.holds Tryd.pinned (OpenSpec.upto fnExactThreadSpec)

end Rows
end Go.Proofs.YtpkgibdbkmddiaaDoor
