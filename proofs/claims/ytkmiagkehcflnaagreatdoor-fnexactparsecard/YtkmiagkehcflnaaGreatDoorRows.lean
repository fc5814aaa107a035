/-
  NARROWER THAN 'FOR EVERY INPUT', by the rows' own cells (each row's printed sentence says how): FnExactParse: laid.
  DERIVED. THE GIVEN ROWS OF THIS SEAT. 1 by the template 'for every input the law returns true; each argument reads behind the call as it read before'; 0 by the template 'total and deterministic' (their statements: YtkmiagkehcflnaaGreatDoorTotals.lean).
  GIVEN WITH THE SEED: the statements are not yours to turn. If you find one false, say at which input.
  Laid BY PROGRAM, IN A SANDBOX (cutbox-rows.mjs): the forced cells as the released guide's own fill.sh prints them over the translation 0c00b2c4d3a5636b… (all of the seat's roots in one cut). By AI agents, Wed Nov 11 2026. No macro, syntax, notation, axiom, sorry.
-/
import Derived.Test.YtkmiagkehcflnaaGreatDoorChecked
import GoSem.Claim
import GoSem.ClaimJoined
import GoSem.ClaimMapViews
import Derived.JoinedTies
import Derived.KernelRfl
namespace Go.Proofs.YtkmiagkehcflnaaGreatDoor
/- THE CELL 'sum', in the pinned program and in every row, IS THE sha256 OF THE DUMP (.gsa) THAT YtkmiagkehcflnaaGreatDoorProg.lean LOADS. Nothing in Lean hashes anything: it is a label: what it is worth is what the hold of that sum in a sandbox is worth. -/
noncomputable def Tryz.pinned : Pinned := { name := "ytkmiagkehcflnaagreatdoor", sum := "0c00b2c4d3a5636bd8d4a06bb04f413610737d4099eb3782c9e0aaf717cbea30", checked := Tryz.checked }
namespace Rows
def none {H : Type} : Left H := { results := [], args := [] }

/- WHAT THE LISTED PACKAGE-LEVEL VARIABLES READ AS WHEN THE CALL BEGINS. Each datum BY PROGRAM (the guide's laid-datum.mjs) off the statement by which the dump's own 'gosem.cut.vars' lays the variable. In a bare row this is a premise. The card (YtkmiagkehcflnaaGreatDoorCards.lean) ties it to the program's text. -/
def laid_errors_errorType {H : Type} : DataW H := .iface "internal/reflectlite.rtype" (.agg [.ptr (.lit (.string [101, 114, 114, 111, 114]))])
def laid_loop_example_s02245_impl_operators {H : Type} : DataW H := .agg [.agg [.lit (.string [111, 114]), .lit (.int .i64 23), .lit (.int .i64 0), .lit (.int .i64 1)], .agg [.lit (.string [97, 110, 100]), .lit (.int .i64 22), .lit (.int .i64 0), .lit (.int .i64 2)], .agg [.lit (.string [61, 61]), .lit (.int .i64 21), .lit (.int .i64 6), .lit (.int .i64 3)], .agg [.lit (.string [126, 61]), .lit (.int .i64 21), .lit (.int .i64 7), .lit (.int .i64 3)], .agg [.lit (.string [60]), .lit (.int .i64 21), .lit (.int .i64 8), .lit (.int .i64 3)], .agg [.lit (.string [60, 61]), .lit (.int .i64 21), .lit (.int .i64 9), .lit (.int .i64 3)], .agg [.lit (.string [62]), .lit (.int .i64 21), .lit (.int .i64 10), .lit (.int .i64 3)], .agg [.lit (.string [62, 61]), .lit (.int .i64 21), .lit (.int .i64 11), .lit (.int .i64 3)], .agg [.lit (.string [46, 46]), .lit (.int .i64 21), .lit (.int .i64 5), .lit (.int .i64 4)], .agg [.lit (.string [43]), .lit (.int .i64 21), .lit (.int .i64 0), .lit (.int .i64 5)], .agg [.lit (.string [45]), .lit (.int .i64 21), .lit (.int .i64 1), .lit (.int .i64 5)], .agg [.lit (.string [42]), .lit (.int .i64 21), .lit (.int .i64 2), .lit (.int .i64 6)], .agg [.lit (.string [47, 47]), .lit (.int .i64 21), .lit (.int .i64 3), .lit (.int .i64 6)], .agg [.lit (.string [37]), .lit (.int .i64 21), .lit (.int .i64 4), .lit (.int .i64 6)]]

/-- 'laws.FnExactParse': WHATEVER THE INPUT: true; the input reads as it did. -/
def fnExactParseSpec : ChangeSpec := { name := "fnExactParse", vars := ["loop.example/s02245/impl.operators"], fn := fun _ => fun
  | [d, g1] => { results := [.lit (.bool true)], args := [d], vars := [g1] }
  | _ => none }
def fnExactParseRow : OpenClaim := { program := "ytkmiagkehcflnaagreatdoor", sum := "0c00b2c4d3a5636bd8d4a06bb04f413610737d4099eb3782c9e0aaf717cbea30", func := "loop.example/s02245/laws.FnExactParse", spec := "fnExactParse", inPlace := ["internal/reflectlite.ValueOf", "(internal/reflectlite.Value).Type", "(internal/reflectlite.Value).IsNil", "internal/reflectlite.TypeOf", "(internal/reflectlite.Value).Elem", "(internal/reflectlite.Value).Set"], unfollowed := true, recurses := true, named := ["errors.errorType", "loop.example/s02245/impl.operators"], plainKeys := false, apart := false, laid := [("errors.errorType", laid_errors_errorType), ("loop.example/s02245/impl.operators", laid_loop_example_s02245_impl_operators)] }
def FnExactParseSaid : Prop := fnExactParseRow.holds Tryz.pinned (OpenSpec.ofChange fnExactParseSpec)

/-- ITS FALSE NEIGHBOUR: 'it returns false'. Refute it at one input. -/
def fnExactParseWrong : ChangeSpec := { name := "fnExactParse", vars := ["loop.example/s02245/impl.operators"], fn := fun _ => fun
  | [d, g1] => { results := [.lit (.bool false)], args := [d], vars := [g1] }
  | _ => none }
def FnExactParseWrongFalsely : Prop := fnExactParseRow.holds Tryz.pinned (OpenSpec.ofChange fnExactParseWrong)

/- THE SECOND FORM. 'bulk': how many values and letters a reading holds, each counted each time it is reached (what is shared counts as often as it is met; a slice's spare places count too). A statement '..UptoSaid' is the law's where the arguments, and the package variables that the reading takes, are together of bulk at most 1048576: NARROWER than '..Said'. Prove '..Said' where nothing that the law and all that it calls make is longer than what came in: it says more and counts as full. Else prove '..UptoSaid'. A law counts once. -/
mutual
def uptoBulk {H : Type} : DataW H → Nat
  | .lit (.string bytes) => bytes.length + 1
  | .lit _ => 1
  | .nil => 1
  | .ptr d => uptoBulk d + 1
  | .slice elems spare => uptoBulkAll elems + uptoBulkAll spare + 1
  | .agg parts => uptoBulkAll parts + 1
  | .iface _ d => uptoBulk d + 1
  | .map entries => uptoBulkEntries entries + 1
  | .held _ => 1
def uptoBulkAll {H : Type} : List (DataW H) → Nat
  | [] => 0
  | d :: r => uptoBulk d + uptoBulkAll r
def uptoBulkEntries {H : Type} : List (Lit × DataW H) → Nat
  | [] => 0
  | x :: r => uptoBulkEntry x + uptoBulkEntries r
def uptoBulkEntry {H : Type} : Lit × DataW H → Nat
  | (.string bytes, d) => bytes.length + uptoBulk d + 1
  | (_, d) => uptoBulk d + 1
 end
def uptoSmall : (H : Type) → List (DataW H) → Bool := fun _ ds => decide (uptoBulkAll ds ≤ 1048576)
def OpenSpec.upto (s : _root_.Go.ChangeSpec) : _root_.Go.OpenSpec := { _root_.Go.OpenSpec.ofChange s with cond := some uptoSmall }

/-- 'laws.FnExactParse', WHERE WHAT IT READS IS OF BULK AT MOST 1048576: true; the input reads as it did. -/
def fnExactParseUptoRow : OpenClaim := { program := "ytkmiagkehcflnaagreatdoor", sum := "0c00b2c4d3a5636bd8d4a06bb04f413610737d4099eb3782c9e0aaf717cbea30", func := "loop.example/s02245/laws.FnExactParse", spec := "fnExactParse", inPlace := ["internal/reflectlite.ValueOf", "(internal/reflectlite.Value).Type", "(internal/reflectlite.Value).IsNil", "internal/reflectlite.TypeOf", "(internal/reflectlite.Value).Elem", "(internal/reflectlite.Value).Set"], unfollowed := true, recurses := true, named := ["errors.errorType", "loop.example/s02245/impl.operators"], plainKeys := false, apart := false, laid := [("errors.errorType", laid_errors_errorType), ("loop.example/s02245/impl.operators", laid_loop_example_s02245_impl_operators)], narrowed := true }
def FnExactParseUptoSaid : Prop := fnExactParseUptoRow.holds Tryz.pinned (OpenSpec.upto fnExactParseSpec)

end Rows
end Go.Proofs.YtkmiagkehcflnaaGreatDoor
