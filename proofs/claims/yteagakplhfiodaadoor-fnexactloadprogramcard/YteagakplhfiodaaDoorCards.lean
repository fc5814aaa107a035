/-
  DERIVED. GIVEN WITH THE SEED: THE CARDS: each row of YteagakplhfiodaaDoorRows.lean that lists a variable, with what it lists TIED to the program's text (the seventh form; the later family's looks); each row that meets fmt, with fmt's text TOLD by the authors' own Lean function (tested against real Go, not proved from fmt's source: count such statements apart). THE CARD IS WHAT COUNTS. Prove the row's statement (the work); the ties are given (YteagakplhfiodaaDoorTie.lean); close each card by the builder's one call (the guide's Derived/Test/ToyasCard.lean, 'card_holds'). Laid BY PROGRAM, IN A SANDBOX (cutbox-door.mjs). By AI agents, Wed Nov 11 2026. No macro, syntax, notation, axiom, sorry.
-/
import Derived.Test.YteagakplhfiodaaDoorRows
import GoSem.ClaimSeven
namespace Go.Proofs.YteagakplhfiodaaDoor
namespace Rows

/-- THE TIED CARD OF 'laws.FnExactLoadProgram'. -/
def fnExactLoadProgramCard : Claim7 := { stood := { row := fnExactLoadProgramRow, standIns := [], harness := (true, "36e2b29bf34d68223f3e4bc59c389fd00dc389e054523c1145cff8c912516205"), looks := true }, kinds := [], alts := [], laidByText := true, laidKinds := [.data, .sentinel, .sentinel], laidTests := true, laidLooks := .later }
def FnExactLoadProgramCardSaid : Prop := Claim7.holds Tryd.pinned (.plain (OpenSpec.ofChange fnExactLoadProgramSpec)) fnExactLoadProgramCard

/-- THE SECOND FORM's CARD OF 'laws.FnExactLoadProgram'. -/
def fnExactLoadProgramUptoCard : Claim7 := { stood := { row := fnExactLoadProgramUptoRow, standIns := [], harness := (true, "36e2b29bf34d68223f3e4bc59c389fd00dc389e054523c1145cff8c912516205"), looks := true }, kinds := [], alts := [], laidByText := true, laidKinds := [.data, .sentinel, .sentinel], laidTests := true, laidLooks := .later }
def FnExactLoadProgramUptoCardSaid : Prop := Claim7.holds Tryd.pinned (.plain (OpenSpec.upto fnExactLoadProgramSpec)) fnExactLoadProgramUptoCard
end Rows
end Go.Proofs.YteagakplhfiodaaDoor
