/-
  DERIVED. GIVEN WITH THE SEED: THE PROGRAM's TIES (one call each: nine closed facts by the kernel) AND EACH ROW's TIE, after the 31st guide's Derived/Test/Toyas{Tie, Card}.lean. No idea stands in it: it is a product of the set-up. Laid BY PROGRAM, IN A SANDBOX (cutbox-door.mjs). By AI agents, Wed Nov 11 2026. No macro, syntax, notation, axiom, sorry.
-/
import Derived.Test.YteagakplhfiodaaDoorRows
import Derived.LaidByTextLater
import Derived.SevenTiedAt
import Derived.LaidSub
import Derived.LaidOnce
namespace Go.Proofs.YteagakplhfiodaaDoor
open Go
set_option maxRecDepth 100000
theorem seatTie1 : Tryd.prog.laidByTextLater [("loop.example/s02245/impl.shapes", Rows.laid_loop_example_s02245_impl_shapes), ("loop.example/s02245/impl.errEnd", Rows.laid_loop_example_s02245_impl_errEnd), ("loop.example/s02245/impl.errForm", Rows.laid_loop_example_s02245_impl_errForm)] [.data, .sentinel, .sentinel] true :=
  Program.laidByTextLater_by_one 80 8 113 (by kernel_rfl) (by kernel_rfl) (by kernel_rfl) (by kernel_rfl) (by kernel_rfl) (by kernel_rfl) (fun _ _ => by kernel_rfl)
theorem noOwnUnsafe : Tryd.pinned.checked.prog.headLifts.contains "ownunsafe" = false := by kernel_rfl
theorem tie : Tryd.prog.laidByTextLater [("loop.example/s02245/impl.shapes", Rows.laid_loop_example_s02245_impl_shapes), ("loop.example/s02245/impl.errEnd", Rows.laid_loop_example_s02245_impl_errEnd), ("loop.example/s02245/impl.errForm", Rows.laid_loop_example_s02245_impl_errForm)] [.data, .sentinel, .sentinel] true :=
  Program.laidByTextLater.sub seatTie1 ["loop.example/s02245/impl.shapes", "loop.example/s02245/impl.errEnd", "loop.example/s02245/impl.errForm"] (by kernel_rfl) (by kernel_rfl)
theorem fnExactLoadProgram_row_tie : Rows.fnExactLoadProgramRow.laidByTextAt .later Tryd.pinned [.data, .sentinel, .sentinel] true :=
  OpenClaim.laidByTextAt_later rfl rfl tie noOwnUnsafe
theorem fnExactLoadProgramUpto_row_tie : Rows.fnExactLoadProgramUptoRow.laidByTextAt .later Tryd.pinned [.data, .sentinel, .sentinel] true :=
  OpenClaim.laidByTextAt_later rfl rfl tie noOwnUnsafe
end Go.Proofs.YteagakplhfiodaaDoor
