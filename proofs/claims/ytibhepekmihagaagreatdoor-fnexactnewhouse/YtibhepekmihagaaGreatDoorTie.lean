/-
  DERIVED. GIVEN WITH THE SEED: THE PROGRAM's TIES (one call each: nine closed facts by the kernel) AND EACH ROW's TIE, after the 31st guide's Derived/Test/Toyas{Tie, Card}.lean. No idea stands in it: it is a product of the set-up. Laid BY PROGRAM, IN A SANDBOX (cutbox-door.mjs). By AI agents, Wed Nov 11 2026. No macro, syntax, notation, axiom, sorry.
-/
import Derived.Test.YtibhepekmihagaaGreatDoorRows
import Derived.LaidByTextLater
import Derived.SevenTiedAt
import Derived.LaidSub
import Derived.LaidOnce
namespace Go.Proofs.YtibhepekmihagaaGreatDoor
open Go
set_option maxRecDepth 100000
theorem seatTie1 : Tryz.prog.laidByTextLater [("errors.errorType", Rows.laid_errors_errorType), ("loop.example/g00372/impl.errWrongShelf", Rows.laid_loop_example_g00372_impl_errWrongShelf), ("loop.example/g00372/impl.errWrongOp", Rows.laid_loop_example_g00372_impl_errWrongOp), ("loop.example/g00372/impl.errNoBook", Rows.laid_loop_example_g00372_impl_errNoBook), ("loop.example/g00372/impl.errBookThere", Rows.laid_loop_example_g00372_impl_errBookThere), ("loop.example/g00372/impl.errFenced", Rows.laid_loop_example_g00372_impl_errFenced), ("loop.example/g00372/impl.errFixed", Rows.laid_loop_example_g00372_impl_errFixed), ("loop.example/g00372/impl.errRange", Rows.laid_loop_example_g00372_impl_errRange), ("loop.example/g00372/impl.errManyBooks", Rows.laid_loop_example_g00372_impl_errManyBooks), ("loop.example/g00372/impl.errWorn", Rows.laid_loop_example_g00372_impl_errWorn), ("loop.example/g00372/impl.errNoPage", Rows.laid_loop_example_g00372_impl_errNoPage), ("loop.example/g00372/impl.errCannotBe", Rows.laid_loop_example_g00372_impl_errCannotBe)] [.handle, .sentinel, .sentinel, .sentinel, .sentinel, .sentinel, .sentinel, .sentinel, .sentinel, .sentinel, .sentinel, .sentinel] true :=
  Program.laidByTextLater_by_one 225 8 2 (by kernel_rfl) (by kernel_rfl) (by kernel_rfl) (by kernel_rfl) (by kernel_rfl) (by kernel_rfl) (fun _ _ => by kernel_rfl)
theorem noOwnUnsafe : Tryz.pinned.checked.prog.headLifts.contains "ownunsafe" = false := by kernel_rfl
theorem tie : Tryz.prog.laidByTextLater [("errors.errorType", Rows.laid_errors_errorType), ("loop.example/g00372/impl.errWrongShelf", Rows.laid_loop_example_g00372_impl_errWrongShelf), ("loop.example/g00372/impl.errWrongOp", Rows.laid_loop_example_g00372_impl_errWrongOp), ("loop.example/g00372/impl.errNoBook", Rows.laid_loop_example_g00372_impl_errNoBook), ("loop.example/g00372/impl.errBookThere", Rows.laid_loop_example_g00372_impl_errBookThere), ("loop.example/g00372/impl.errFenced", Rows.laid_loop_example_g00372_impl_errFenced), ("loop.example/g00372/impl.errFixed", Rows.laid_loop_example_g00372_impl_errFixed), ("loop.example/g00372/impl.errRange", Rows.laid_loop_example_g00372_impl_errRange), ("loop.example/g00372/impl.errManyBooks", Rows.laid_loop_example_g00372_impl_errManyBooks), ("loop.example/g00372/impl.errWorn", Rows.laid_loop_example_g00372_impl_errWorn), ("loop.example/g00372/impl.errNoPage", Rows.laid_loop_example_g00372_impl_errNoPage), ("loop.example/g00372/impl.errCannotBe", Rows.laid_loop_example_g00372_impl_errCannotBe)] [.handle, .sentinel, .sentinel, .sentinel, .sentinel, .sentinel, .sentinel, .sentinel, .sentinel, .sentinel, .sentinel, .sentinel] true :=
  Program.laidByTextLater.sub seatTie1 ["errors.errorType", "loop.example/g00372/impl.errWrongShelf", "loop.example/g00372/impl.errWrongOp", "loop.example/g00372/impl.errNoBook", "loop.example/g00372/impl.errBookThere", "loop.example/g00372/impl.errFenced", "loop.example/g00372/impl.errFixed", "loop.example/g00372/impl.errRange", "loop.example/g00372/impl.errManyBooks", "loop.example/g00372/impl.errWorn", "loop.example/g00372/impl.errNoPage", "loop.example/g00372/impl.errCannotBe"] (by kernel_rfl) (by kernel_rfl)
theorem fnExactNewHouse_row_tie : Rows.fnExactNewHouseRow.laidByTextAt .later Tryz.pinned [.handle, .sentinel, .sentinel, .sentinel, .sentinel, .sentinel, .sentinel, .sentinel, .sentinel, .sentinel, .sentinel, .sentinel] true :=
  OpenClaim.laidByTextAt_later rfl rfl tie noOwnUnsafe
theorem fnExactReplayed_row_tie : Rows.fnExactReplayedRow.laidByTextAt .later Tryz.pinned [.handle, .sentinel, .sentinel, .sentinel, .sentinel, .sentinel, .sentinel, .sentinel, .sentinel, .sentinel, .sentinel, .sentinel] true :=
  OpenClaim.laidByTextAt_later rfl rfl tie noOwnUnsafe
theorem fnExactHouseOk_row_tie : Rows.fnExactHouseOkRow.laidByTextAt .later Tryz.pinned [.handle, .sentinel, .sentinel, .sentinel, .sentinel, .sentinel, .sentinel, .sentinel, .sentinel, .sentinel, .sentinel, .sentinel] true :=
  OpenClaim.laidByTextAt_later rfl rfl tie noOwnUnsafe
theorem fnExactNewWorld_row_tie : Rows.fnExactNewWorldRow.laidByTextAt .later Tryz.pinned [.handle, .sentinel, .sentinel, .sentinel, .sentinel, .sentinel, .sentinel, .sentinel, .sentinel, .sentinel, .sentinel, .sentinel] true :=
  OpenClaim.laidByTextAt_later rfl rfl tie noOwnUnsafe
theorem fnExactNewHouseUpto_row_tie : Rows.fnExactNewHouseUptoRow.laidByTextAt .later Tryz.pinned [.handle, .sentinel, .sentinel, .sentinel, .sentinel, .sentinel, .sentinel, .sentinel, .sentinel, .sentinel, .sentinel, .sentinel] true :=
  OpenClaim.laidByTextAt_later rfl rfl tie noOwnUnsafe
theorem fnExactReplayedUpto_row_tie : Rows.fnExactReplayedUptoRow.laidByTextAt .later Tryz.pinned [.handle, .sentinel, .sentinel, .sentinel, .sentinel, .sentinel, .sentinel, .sentinel, .sentinel, .sentinel, .sentinel, .sentinel] true :=
  OpenClaim.laidByTextAt_later rfl rfl tie noOwnUnsafe
theorem fnExactHouseOkUpto_row_tie : Rows.fnExactHouseOkUptoRow.laidByTextAt .later Tryz.pinned [.handle, .sentinel, .sentinel, .sentinel, .sentinel, .sentinel, .sentinel, .sentinel, .sentinel, .sentinel, .sentinel, .sentinel] true :=
  OpenClaim.laidByTextAt_later rfl rfl tie noOwnUnsafe
theorem fnExactNewWorldUpto_row_tie : Rows.fnExactNewWorldUptoRow.laidByTextAt .later Tryz.pinned [.handle, .sentinel, .sentinel, .sentinel, .sentinel, .sentinel, .sentinel, .sentinel, .sentinel, .sentinel, .sentinel, .sentinel] true :=
  OpenClaim.laidByTextAt_later rfl rfl tie noOwnUnsafe
end Go.Proofs.YtibhepekmihagaaGreatDoor
