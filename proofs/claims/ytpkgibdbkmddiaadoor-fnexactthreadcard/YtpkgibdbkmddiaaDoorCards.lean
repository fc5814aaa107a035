/-
  DERIVED. GIVEN WITH THE SEED: THE CARDS: each row of YtpkgibdbkmddiaaDoorRows.lean that lists a variable, with what it lists TIED to the program's text (the seventh form; the later family's looks); each row that meets fmt, with fmt's text TOLD by the authors' own Lean function (tested against real Go, not proved from fmt's source: count such statements apart). THE CARD IS WHAT COUNTS. Prove the row's statement (the work); the ties are given (YtpkgibdbkmddiaaDoorTie.lean); close each card by the builder's one call (the guide's Derived/Test/ToyasCard.lean, 'card_holds'). Laid BY PROGRAM, IN A SANDBOX (cutbox-door.mjs). By AI agents, Wed Nov 11 2026. No macro, syntax, notation, axiom, sorry.
-/
import Derived.Test.YtpkgibdbkmddiaaDoorRows
import GoSem.ClaimSeven
namespace Go.Proofs.YtpkgibdbkmddiaaDoor
namespace Rows

/-- THE TIED CARD OF 'laws.FnExactSaveProgram'. -/
def fnExactSaveProgramCard : Claim7 := { stood := { row := fnExactSaveProgramRow, standIns := [], harness := (true, "d15d9318af113a4ccf44740cedc78b8d06a2cce186b1c922d52a939d5c92be43"), looks := false }, kinds := [], alts := [], laidByText := true, laidKinds := [.data], laidTests := true, laidLooks := .later }
def FnExactSaveProgramCardSaid : Prop := Claim7.holds Tryd.pinned (.plain (OpenSpec.ofChange fnExactSaveProgramSpec)) fnExactSaveProgramCard

/-- THE TIED CARD OF 'laws.FnExactThread'. -/
def fnExactThreadCard : Claim7 := { stood := { row := fnExactThreadRow, standIns := [], harness := (true, "d15d9318af113a4ccf44740cedc78b8d06a2cce186b1c922d52a939d5c92be43"), looks := false }, kinds := [], alts := [], laidByText := true, laidKinds := [.data], laidTests := true, laidLooks := .later }
def FnExactThreadCardSaid : Prop := Claim7.holds Tryd.pinned (.plain (OpenSpec.ofChange fnExactThreadSpec)) fnExactThreadCard

/-- THE SECOND FORM's CARD OF 'laws.FnExactSaveProgram'. -/
def fnExactSaveProgramUptoCard : Claim7 := { stood := { row := fnExactSaveProgramUptoRow, standIns := [], harness := (true, "d15d9318af113a4ccf44740cedc78b8d06a2cce186b1c922d52a939d5c92be43"), looks := false }, kinds := [], alts := [], laidByText := true, laidKinds := [.data], laidTests := true, laidLooks := .later }
def FnExactSaveProgramUptoCardSaid : Prop := Claim7.holds Tryd.pinned (.plain (OpenSpec.upto fnExactSaveProgramSpec)) fnExactSaveProgramUptoCard

/-- THE SECOND FORM's CARD OF 'laws.FnExactThread'. -/
def fnExactThreadUptoCard : Claim7 := { stood := { row := fnExactThreadUptoRow, standIns := [], harness := (true, "d15d9318af113a4ccf44740cedc78b8d06a2cce186b1c922d52a939d5c92be43"), looks := false }, kinds := [], alts := [], laidByText := true, laidKinds := [.data], laidTests := true, laidLooks := .later }
def FnExactThreadUptoCardSaid : Prop := Claim7.holds Tryd.pinned (.plain (OpenSpec.upto fnExactThreadSpec)) fnExactThreadUptoCard
end Rows
end Go.Proofs.YtpkgibdbkmddiaaDoor
