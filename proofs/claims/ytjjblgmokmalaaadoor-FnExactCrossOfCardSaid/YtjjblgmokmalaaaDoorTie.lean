/-
  DERIVED. GIVEN WITH THE SEED: THE PROGRAM's TIES (one call each: nine closed facts by the kernel) AND EACH ROW's TIE, after the 31st guide's Derived/Test/Toyas{Tie, Card}.lean. No idea stands in it: it is a product of the set-up. Laid BY PROGRAM, IN A SANDBOX (cutbox-door.mjs). By AI agents, Wed Nov 11 2026. No macro, syntax, notation, axiom, sorry.
-/
import Derived.Test.YtjjblgmokmalaaaDoorRows
import Derived.LaidByTextLater
import Derived.SevenTiedAt
import Derived.LaidSub
import Derived.LaidOnce
namespace Go.Proofs.YtjjblgmokmalaaaDoor
open Go
set_option maxRecDepth 100000
theorem seatTie1 : Tryd.prog.laidByTextLater [("loop.example/g01297/impl.errNoFraction", Rows.laid_loop_example_g01297_impl_errNoFraction), ("loop.example/g01297/impl.errNoSpot", Rows.laid_loop_example_g01297_impl_errNoSpot), ("loop.example/g01297/impl.errNoCone", Rows.laid_loop_example_g01297_impl_errNoCone), ("loop.example/g01297/impl.errNoTetra", Rows.laid_loop_example_g01297_impl_errNoTetra)] [.sentinel, .sentinel, .sentinel, .sentinel] true :=
  Program.laidByTextLater_by_one 85 8 2 (by kernel_rfl) (by kernel_rfl) (by kernel_rfl) (by kernel_rfl) (by kernel_rfl) (by kernel_rfl) (fun _ _ => by kernel_rfl)
theorem noOwnUnsafe : Tryd.pinned.checked.prog.headLifts.contains "ownunsafe" = false := by kernel_rfl
theorem tie : Tryd.prog.laidByTextLater [("loop.example/g01297/impl.errNoFraction", Rows.laid_loop_example_g01297_impl_errNoFraction), ("loop.example/g01297/impl.errNoSpot", Rows.laid_loop_example_g01297_impl_errNoSpot)] [.sentinel, .sentinel] true :=
  Program.laidByTextLater.sub seatTie1 ["loop.example/g01297/impl.errNoFraction", "loop.example/g01297/impl.errNoSpot"] (by kernel_rfl) (by kernel_rfl)
theorem fnExactCrossOf_row_tie : Rows.fnExactCrossOfRow.laidByTextAt .later Tryd.pinned [.sentinel, .sentinel] true :=
  OpenClaim.laidByTextAt_later rfl rfl tie noOwnUnsafe
theorem fnExactDeterminantOfSpots_row_tie : Rows.fnExactDeterminantOfSpotsRow.laidByTextAt .later Tryd.pinned [.sentinel, .sentinel] true :=
  OpenClaim.laidByTextAt_later rfl rfl tie noOwnUnsafe
theorem fnExactLengthOfSpot_row_tie : Rows.fnExactLengthOfSpotRow.laidByTextAt .later Tryd.pinned [.sentinel, .sentinel] true :=
  OpenClaim.laidByTextAt_later rfl rfl tie noOwnUnsafe
theorem fnExactDistanceOfSpot_row_tie : Rows.fnExactDistanceOfSpotRow.laidByTextAt .later Tryd.pinned [.sentinel, .sentinel] true :=
  OpenClaim.laidByTextAt_later rfl rfl tie noOwnUnsafe
theorem tie2 : Tryd.prog.laidByTextLater [("loop.example/g01297/impl.errNoFraction", Rows.laid_loop_example_g01297_impl_errNoFraction), ("loop.example/g01297/impl.errNoSpot", Rows.laid_loop_example_g01297_impl_errNoSpot), ("loop.example/g01297/impl.errNoCone", Rows.laid_loop_example_g01297_impl_errNoCone)] [.sentinel, .sentinel, .sentinel] true :=
  Program.laidByTextLater.sub seatTie1 ["loop.example/g01297/impl.errNoFraction", "loop.example/g01297/impl.errNoSpot", "loop.example/g01297/impl.errNoCone"] (by kernel_rfl) (by kernel_rfl)
theorem fnExactCoordinatesIn_row_tie : Rows.fnExactCoordinatesInRow.laidByTextAt .later Tryd.pinned [.sentinel, .sentinel, .sentinel] true :=
  OpenClaim.laidByTextAt_later rfl rfl tie2 noOwnUnsafe
theorem fnExactIsInCone_row_tie : Rows.fnExactIsInConeRow.laidByTextAt .later Tryd.pinned [.sentinel, .sentinel, .sentinel] true :=
  OpenClaim.laidByTextAt_later rfl rfl tie2 noOwnUnsafe
theorem tie3 : Tryd.prog.laidByTextLater [("loop.example/g01297/impl.errNoFraction", Rows.laid_loop_example_g01297_impl_errNoFraction), ("loop.example/g01297/impl.errNoCone", Rows.laid_loop_example_g01297_impl_errNoCone)] [.sentinel, .sentinel] true :=
  Program.laidByTextLater.sub seatTie1 ["loop.example/g01297/impl.errNoFraction", "loop.example/g01297/impl.errNoCone"] (by kernel_rfl) (by kernel_rfl)
theorem fnExactIsRegularCone_row_tie : Rows.fnExactIsRegularConeRow.laidByTextAt .later Tryd.pinned [.sentinel, .sentinel] true :=
  OpenClaim.laidByTextAt_later rfl rfl tie3 noOwnUnsafe
theorem fnExactBoxOf_row_tie : Rows.fnExactBoxOfRow.laidByTextAt .later Tryd.pinned [.sentinel, .sentinel] true :=
  OpenClaim.laidByTextAt_later rfl rfl tie3 noOwnUnsafe
theorem tie4 : Tryd.prog.laidByTextLater [("loop.example/g01297/impl.errNoFraction", Rows.laid_loop_example_g01297_impl_errNoFraction), ("loop.example/g01297/impl.errNoTetra", Rows.laid_loop_example_g01297_impl_errNoTetra)] [.sentinel, .sentinel] true :=
  Program.laidByTextLater.sub seatTie1 ["loop.example/g01297/impl.errNoFraction", "loop.example/g01297/impl.errNoTetra"] (by kernel_rfl) (by kernel_rfl)
theorem fnExactVolumeOf_row_tie : Rows.fnExactVolumeOfRow.laidByTextAt .later Tryd.pinned [.sentinel, .sentinel] true :=
  OpenClaim.laidByTextAt_later rfl rfl tie4 noOwnUnsafe
theorem fnExactCountSpots_row_tie : Rows.fnExactCountSpotsRow.laidByTextAt .later Tryd.pinned [.sentinel, .sentinel] true :=
  OpenClaim.laidByTextAt_later rfl rfl tie4 noOwnUnsafe
theorem fnExactIsEmptyTetra_row_tie : Rows.fnExactIsEmptyTetraRow.laidByTextAt .later Tryd.pinned [.sentinel, .sentinel] true :=
  OpenClaim.laidByTextAt_later rfl rfl tie4 noOwnUnsafe
theorem fnExactCrossOfUpto_row_tie : Rows.fnExactCrossOfUptoRow.laidByTextAt .later Tryd.pinned [.sentinel, .sentinel] true :=
  OpenClaim.laidByTextAt_later rfl rfl tie noOwnUnsafe
theorem fnExactDeterminantOfSpotsUpto_row_tie : Rows.fnExactDeterminantOfSpotsUptoRow.laidByTextAt .later Tryd.pinned [.sentinel, .sentinel] true :=
  OpenClaim.laidByTextAt_later rfl rfl tie noOwnUnsafe
theorem fnExactLengthOfSpotUpto_row_tie : Rows.fnExactLengthOfSpotUptoRow.laidByTextAt .later Tryd.pinned [.sentinel, .sentinel] true :=
  OpenClaim.laidByTextAt_later rfl rfl tie noOwnUnsafe
theorem fnExactCoordinatesInUpto_row_tie : Rows.fnExactCoordinatesInUptoRow.laidByTextAt .later Tryd.pinned [.sentinel, .sentinel, .sentinel] true :=
  OpenClaim.laidByTextAt_later rfl rfl tie2 noOwnUnsafe
theorem fnExactIsInConeUpto_row_tie : Rows.fnExactIsInConeUptoRow.laidByTextAt .later Tryd.pinned [.sentinel, .sentinel, .sentinel] true :=
  OpenClaim.laidByTextAt_later rfl rfl tie2 noOwnUnsafe
theorem fnExactIsRegularConeUpto_row_tie : Rows.fnExactIsRegularConeUptoRow.laidByTextAt .later Tryd.pinned [.sentinel, .sentinel] true :=
  OpenClaim.laidByTextAt_later rfl rfl tie3 noOwnUnsafe
theorem fnExactBoxOfUpto_row_tie : Rows.fnExactBoxOfUptoRow.laidByTextAt .later Tryd.pinned [.sentinel, .sentinel] true :=
  OpenClaim.laidByTextAt_later rfl rfl tie3 noOwnUnsafe
theorem fnExactVolumeOfUpto_row_tie : Rows.fnExactVolumeOfUptoRow.laidByTextAt .later Tryd.pinned [.sentinel, .sentinel] true :=
  OpenClaim.laidByTextAt_later rfl rfl tie4 noOwnUnsafe
theorem fnExactCountSpotsUpto_row_tie : Rows.fnExactCountSpotsUptoRow.laidByTextAt .later Tryd.pinned [.sentinel, .sentinel] true :=
  OpenClaim.laidByTextAt_later rfl rfl tie4 noOwnUnsafe
theorem fnExactIsEmptyTetraUpto_row_tie : Rows.fnExactIsEmptyTetraUptoRow.laidByTextAt .later Tryd.pinned [.sentinel, .sentinel] true :=
  OpenClaim.laidByTextAt_later rfl rfl tie4 noOwnUnsafe
theorem fnExactDistanceOfSpotUpto_row_tie : Rows.fnExactDistanceOfSpotUptoRow.laidByTextAt .later Tryd.pinned [.sentinel, .sentinel] true :=
  OpenClaim.laidByTextAt_later rfl rfl tie noOwnUnsafe
end Go.Proofs.YtjjblgmokmalaaaDoor
