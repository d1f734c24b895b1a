/-
  DERIVED. GIVEN WITH THE SEED: THE PROGRAM's TIES (one call each: nine closed facts by the kernel) AND EACH ROW's TIE, after the 31st guide's Derived/Test/Toyas{Tie, Card}.lean. No idea stands in it: it is a product of the set-up. Laid BY PROGRAM, IN A SANDBOX (cutbox-door.mjs). By AI agents, Wed Nov 11 2026. No macro, syntax, notation, axiom, sorry.
-/
import Derived.Test.YtfcbcbmoebhfhaaDoorRows
import Derived.LaidByTextLater
import Derived.SevenTiedAt
import Derived.LaidSub
import Derived.LaidOnce
namespace Go.Proofs.YtfcbcbmoebhfhaaDoor
open Go
set_option maxRecDepth 100000
theorem seatTie1 : Tryd.prog.laidByTextLater [("loop.example/g00348/impl.laneShifts", Rows.laid_loop_example_g00348_impl_laneShifts), ("loop.example/g00348/impl.roundConstants", Rows.laid_loop_example_g00348_impl_roundConstants), ("loop.example/g00348/impl.shapes", Rows.laid_loop_example_g00348_impl_shapes)] [.data, .data, .data] true :=
  Program.laidByTextLater_by_one 32 8 26 (by kernel_rfl) (by kernel_rfl) (by kernel_rfl) (by kernel_rfl) (by kernel_rfl) (by kernel_rfl) (fun _ _ => by kernel_rfl)
theorem noOwnUnsafe : Tryd.pinned.checked.prog.headLifts.contains "ownunsafe" = false := by kernel_rfl
theorem tie : Tryd.prog.laidByTextLater [("loop.example/g00348/impl.laneShifts", Rows.laid_loop_example_g00348_impl_laneShifts), ("loop.example/g00348/impl.roundConstants", Rows.laid_loop_example_g00348_impl_roundConstants)] [.data, .data] true :=
  Program.laidByTextLater.sub seatTie1 ["loop.example/g00348/impl.laneShifts", "loop.example/g00348/impl.roundConstants"] (by kernel_rfl) (by kernel_rfl)
theorem fnMatrix_row_tie : Rows.fnMatrixRow.laidByTextAt .later Tryd.pinned [.data, .data] true :=
  OpenClaim.laidByTextAt_later rfl rfl tie noOwnUnsafe
theorem tie2 : Tryd.prog.laidByTextLater [("loop.example/g00348/impl.shapes", Rows.laid_loop_example_g00348_impl_shapes)] [.data] true :=
  Program.laidByTextLater.sub seatTie1 ["loop.example/g00348/impl.shapes"] (by kernel_rfl) (by kernel_rfl)
theorem fnExactSystemOf_row_tie : Rows.fnExactSystemOfRow.laidByTextAt .later Tryd.pinned [.data] true :=
  OpenClaim.laidByTextAt_later rfl rfl tie2 noOwnUnsafe
theorem fnMatrixUpto_row_tie : Rows.fnMatrixUptoRow.laidByTextAt .later Tryd.pinned [.data, .data] true :=
  OpenClaim.laidByTextAt_later rfl rfl tie noOwnUnsafe
theorem fnExactSystemOfUpto_row_tie : Rows.fnExactSystemOfUptoRow.laidByTextAt .later Tryd.pinned [.data] true :=
  OpenClaim.laidByTextAt_later rfl rfl tie2 noOwnUnsafe
end Go.Proofs.YtfcbcbmoebhfhaaDoor
