/-
  No cell of these rows narrows 'for every input' (looked for: loops, veiled, ifaces, maps, wideKeys, modest, calm, conditions, laid).
  DERIVED. THE GIVEN ROWS OF THIS SEAT. 2 by the template 'for every input the law returns true; each argument reads behind the call as it read before'; 0 by the template 'total and deterministic' (their statements: YtffhfjaoinijjabGreatTotals.lean).
  GIVEN WITH THE SEED: the statements are not yours to turn. If you find one false, say at which input.
  Laid BY PROGRAM, IN A SANDBOX (cutbox-rows.mjs): the forced cells as the released guide's own fill.sh prints them over the translation 2f718b6458317208… (all of the seat's roots in one cut). By AI agents, Wed Nov 11 2026. No macro, syntax, notation, axiom, sorry.
-/
import Derived.Test.YtffhfjaoinijjabGreatChecked
import GoSem.Claim
import GoSem.ClaimJoined
import GoSem.ClaimMapViews
import Derived.JoinedTies
import Derived.KernelRfl
namespace Go.Proofs.YtffhfjaoinijjabGreat
/- THE CELL 'sum', in the pinned program and in every row, IS THE sha256 OF THE DUMP (.gsa) THAT YtffhfjaoinijjabGreatProg.lean LOADS. Nothing in Lean hashes anything: it is a label: what it is worth is what the hold of that sum in a sandbox is worth. -/
noncomputable def Tryz.pinned : Pinned := { name := "ytffhfjaoinijjabgreat", sum := "2f718b64583172089ef780365dc27efad1fbfdad6309020b3877fe99d7bbe94a", checked := Tryz.checked }
namespace Rows
def none {H : Type} : Left H := { results := [], args := [] }

/-- 'laws.FnExactValidTree': WHATEVER THE INPUT: true; the input reads as it did. -/
def fnExactValidTreeSpec : ChangeSpec := { name := "fnExactValidTree", fn := fun _ => fun
  | [d] => { results := [.lit (.bool true)], args := [d] }
  | _ => none }
def fnExactValidTreeRow : OpenClaim := { program := "ytffhfjaoinijjabgreat", sum := "2f718b64583172089ef780365dc27efad1fbfdad6309020b3877fe99d7bbe94a", func := "loop.example/s02245/laws.FnExactValidTree", spec := "fnExactValidTree", unfollowed := true, recurses := true, plainKeys := false, apart := false }
def FnExactValidTreeSaid : Prop := fnExactValidTreeRow.holds Tryz.pinned (OpenSpec.ofChange fnExactValidTreeSpec)

/-- ITS FALSE NEIGHBOUR: 'it returns false'. Refute it at one input. -/
def fnExactValidTreeWrong : ChangeSpec := { name := "fnExactValidTree", fn := fun _ => fun
  | [d] => { results := [.lit (.bool false)], args := [d] }
  | _ => none }
def FnExactValidTreeWrongFalsely : Prop := fnExactValidTreeRow.holds Tryz.pinned (OpenSpec.ofChange fnExactValidTreeWrong)

/-- 'laws.FnExactPrintTree': WHATEVER THE INPUT: true; the input reads as it did. -/
def fnExactPrintTreeSpec : ChangeSpec := { name := "fnExactPrintTree", fn := fun _ => fun
  | [d] => { results := [.lit (.bool true)], args := [d] }
  | _ => none }
def fnExactPrintTreeRow : OpenClaim := { program := "ytffhfjaoinijjabgreat", sum := "2f718b64583172089ef780365dc27efad1fbfdad6309020b3877fe99d7bbe94a", func := "loop.example/s02245/laws.FnExactPrintTree", spec := "fnExactPrintTree", unfollowed := true, recurses := true, plainKeys := false, apart := false }
def FnExactPrintTreeSaid : Prop := fnExactPrintTreeRow.holds Tryz.pinned (OpenSpec.ofChange fnExactPrintTreeSpec)

/-- ITS FALSE NEIGHBOUR: 'it returns false'. Refute it at one input. -/
def fnExactPrintTreeWrong : ChangeSpec := { name := "fnExactPrintTree", fn := fun _ => fun
  | [d] => { results := [.lit (.bool false)], args := [d] }
  | _ => none }
def FnExactPrintTreeWrongFalsely : Prop := fnExactPrintTreeRow.holds Tryz.pinned (OpenSpec.ofChange fnExactPrintTreeWrong)

/- THE SECOND FORM. 'bulk': how many values and letters a reading holds, each counted each time it is reached (what is shared counts as often as it is met; a slice's spare places count too). A statement '..UptoSaid' is the law's where the arguments, and the package variables that the reading takes, are together of bulk at most 1048576: NARROWER than '..Said'. Prove '..Said' where nothing that the law and all that it calls make is longer than what came in: it says more and counts as full. Else prove '..UptoSaid'. A law counts once. -/
mutual
def uptoBulk {H : Type} : DataW H → Nat
  | .lit (.string bytes) => bytes.length + 1
  | .lit _ => 1
  | .nil => 1
  | .ptr d => uptoBulk d + 1
  | .slice elems spare => uptoBulkAll elems + uptoBulkAll spare + 1
  | .agg parts => uptoBulkAll parts + 1
  | .iface _ d => uptoBulk d + 1
  | .map entries => uptoBulkEntries entries + 1
  | .held _ => 1
def uptoBulkAll {H : Type} : List (DataW H) → Nat
  | [] => 0
  | d :: r => uptoBulk d + uptoBulkAll r
def uptoBulkEntries {H : Type} : List (Lit × DataW H) → Nat
  | [] => 0
  | x :: r => uptoBulkEntry x + uptoBulkEntries r
def uptoBulkEntry {H : Type} : Lit × DataW H → Nat
  | (.string bytes, d) => bytes.length + uptoBulk d + 1
  | (_, d) => uptoBulk d + 1
 end
def uptoSmall : (H : Type) → List (DataW H) → Bool := fun _ ds => decide (uptoBulkAll ds ≤ 1048576)
def OpenSpec.upto (s : _root_.Go.ChangeSpec) : _root_.Go.OpenSpec := { _root_.Go.OpenSpec.ofChange s with cond := some uptoSmall }

/-- 'laws.FnExactValidTree', WHERE WHAT IT READS IS OF BULK AT MOST 1048576: true; the input reads as it did. -/
def fnExactValidTreeUptoRow : OpenClaim := { program := "ytffhfjaoinijjabgreat", sum := "2f718b64583172089ef780365dc27efad1fbfdad6309020b3877fe99d7bbe94a", func := "loop.example/s02245/laws.FnExactValidTree", spec := "fnExactValidTree", unfollowed := true, recurses := true, plainKeys := false, apart := false, narrowed := true }
def FnExactValidTreeUptoSaid : Prop := fnExactValidTreeUptoRow.holds Tryz.pinned (OpenSpec.upto fnExactValidTreeSpec)

/-- 'laws.FnExactPrintTree', WHERE WHAT IT READS IS OF BULK AT MOST 1048576: true; the input reads as it did. -/
def fnExactPrintTreeUptoRow : OpenClaim := { program := "ytffhfjaoinijjabgreat", sum := "2f718b64583172089ef780365dc27efad1fbfdad6309020b3877fe99d7bbe94a", func := "loop.example/s02245/laws.FnExactPrintTree", spec := "fnExactPrintTree", unfollowed := true, recurses := true, plainKeys := false, apart := false, narrowed := true }
def FnExactPrintTreeUptoSaid : Prop := fnExactPrintTreeUptoRow.holds Tryz.pinned (OpenSpec.upto fnExactPrintTreeSpec)

end Rows
end Go.Proofs.YtffhfjaoinijjabGreat
