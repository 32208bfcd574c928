/-
  DERIVED. GIVEN WITH THE SEED: THE CARDS: each row of YtjjblgmokmalaaaDoorRows.lean that lists a variable, with what it lists TIED to the program's text (the seventh form; the later family's looks); each row that meets fmt, with fmt's text TOLD by the authors' own Lean function (tested against real Go, not proved from fmt's source: count such statements apart). THE CARD IS WHAT COUNTS. Prove the row's statement (the work); the ties are given (YtjjblgmokmalaaaDoorTie.lean); close each card by the builder's one call (the guide's Derived/Test/ToyasCard.lean, 'card_holds'). Laid BY PROGRAM, IN A SANDBOX (cutbox-door.mjs). By AI agents, Wed Nov 11 2026. No macro, syntax, notation, axiom, sorry.
-/
import Derived.Test.YtjjblgmokmalaaaDoorRows
import GoSem.ClaimSeven
namespace Go.Proofs.YtjjblgmokmalaaaDoor
namespace Rows

/-- THE TIED CARD OF 'laws.FnExactCrossOf'. -/
def fnExactCrossOfCard : Claim7 := { stood := { row := fnExactCrossOfRow, standIns := [], harness := (true, "1b56f361397b29a549da91111dd4f3561f260202020cdcff8c1da88ba6bcc579"), looks := true }, kinds := [], alts := [], goes := true, laidByText := true, laidKinds := [.sentinel, .sentinel], laidTests := true, laidLooks := .later }
def FnExactCrossOfCardSaid : Prop := Claim7.holds Tryd.pinned (.plain (OpenSpec.ofChange fnExactCrossOfSpec)) fnExactCrossOfCard

/-- THE TIED CARD OF 'laws.FnExactDeterminantOfSpots'. -/
def fnExactDeterminantOfSpotsCard : Claim7 := { stood := { row := fnExactDeterminantOfSpotsRow, standIns := [], harness := (true, "1b56f361397b29a549da91111dd4f3561f260202020cdcff8c1da88ba6bcc579"), looks := true }, kinds := [], alts := [], goes := true, laidByText := true, laidKinds := [.sentinel, .sentinel], laidTests := true, laidLooks := .later }
def FnExactDeterminantOfSpotsCardSaid : Prop := Claim7.holds Tryd.pinned (.plain (OpenSpec.ofChange fnExactDeterminantOfSpotsSpec)) fnExactDeterminantOfSpotsCard

/-- THE TIED CARD OF 'laws.FnExactLengthOfSpot'. -/
def fnExactLengthOfSpotCard : Claim7 := { stood := { row := fnExactLengthOfSpotRow, standIns := [], harness := (true, "1b56f361397b29a549da91111dd4f3561f260202020cdcff8c1da88ba6bcc579"), looks := true }, kinds := [], alts := [], goes := true, laidByText := true, laidKinds := [.sentinel, .sentinel], laidTests := true, laidLooks := .later }
def FnExactLengthOfSpotCardSaid : Prop := Claim7.holds Tryd.pinned (.plain (OpenSpec.ofChange fnExactLengthOfSpotSpec)) fnExactLengthOfSpotCard

/-- THE TIED CARD OF 'laws.FnExactCoordinatesIn'. -/
def fnExactCoordinatesInCard : Claim7 := { stood := { row := fnExactCoordinatesInRow, standIns := [], harness := (true, "1b56f361397b29a549da91111dd4f3561f260202020cdcff8c1da88ba6bcc579"), looks := true }, kinds := [], alts := [], goes := true, laidByText := true, laidKinds := [.sentinel, .sentinel, .sentinel], laidTests := true, laidLooks := .later }
def FnExactCoordinatesInCardSaid : Prop := Claim7.holds Tryd.pinned (.plain (OpenSpec.ofChange fnExactCoordinatesInSpec)) fnExactCoordinatesInCard

/-- THE TIED CARD OF 'laws.FnExactIsInCone'. -/
def fnExactIsInConeCard : Claim7 := { stood := { row := fnExactIsInConeRow, standIns := [], harness := (true, "1b56f361397b29a549da91111dd4f3561f260202020cdcff8c1da88ba6bcc579"), looks := true }, kinds := [], alts := [], goes := true, laidByText := true, laidKinds := [.sentinel, .sentinel, .sentinel], laidTests := true, laidLooks := .later }
def FnExactIsInConeCardSaid : Prop := Claim7.holds Tryd.pinned (.plain (OpenSpec.ofChange fnExactIsInConeSpec)) fnExactIsInConeCard

/-- THE TIED CARD OF 'laws.FnExactIsRegularCone'. -/
def fnExactIsRegularConeCard : Claim7 := { stood := { row := fnExactIsRegularConeRow, standIns := [], harness := (true, "1b56f361397b29a549da91111dd4f3561f260202020cdcff8c1da88ba6bcc579"), looks := true }, kinds := [], alts := [], goes := true, laidByText := true, laidKinds := [.sentinel, .sentinel], laidTests := true, laidLooks := .later }
def FnExactIsRegularConeCardSaid : Prop := Claim7.holds Tryd.pinned (.plain (OpenSpec.ofChange fnExactIsRegularConeSpec)) fnExactIsRegularConeCard

/-- THE TIED CARD OF 'laws.FnExactBoxOf'. -/
def fnExactBoxOfCard : Claim7 := { stood := { row := fnExactBoxOfRow, standIns := [], harness := (true, "1b56f361397b29a549da91111dd4f3561f260202020cdcff8c1da88ba6bcc579"), looks := true }, kinds := [], alts := [], goes := true, laidByText := true, laidKinds := [.sentinel, .sentinel], laidTests := true, laidLooks := .later }
def FnExactBoxOfCardSaid : Prop := Claim7.holds Tryd.pinned (.plain (OpenSpec.ofChange fnExactBoxOfSpec)) fnExactBoxOfCard

/-- THE TIED CARD OF 'laws.FnExactVolumeOf'. -/
def fnExactVolumeOfCard : Claim7 := { stood := { row := fnExactVolumeOfRow, standIns := [], harness := (true, "1b56f361397b29a549da91111dd4f3561f260202020cdcff8c1da88ba6bcc579"), looks := true }, kinds := [], alts := [], goes := true, laidByText := true, laidKinds := [.sentinel, .sentinel], laidTests := true, laidLooks := .later }
def FnExactVolumeOfCardSaid : Prop := Claim7.holds Tryd.pinned (.plain (OpenSpec.ofChange fnExactVolumeOfSpec)) fnExactVolumeOfCard

/-- THE TIED CARD OF 'laws.FnExactCountSpots'. -/
def fnExactCountSpotsCard : Claim7 := { stood := { row := fnExactCountSpotsRow, standIns := [], harness := (true, "1b56f361397b29a549da91111dd4f3561f260202020cdcff8c1da88ba6bcc579"), looks := true }, kinds := [], alts := [], goes := true, laidByText := true, laidKinds := [.sentinel, .sentinel], laidTests := true, laidLooks := .later }
def FnExactCountSpotsCardSaid : Prop := Claim7.holds Tryd.pinned (.plain (OpenSpec.ofChange fnExactCountSpotsSpec)) fnExactCountSpotsCard

/-- THE TIED CARD OF 'laws.FnExactIsEmptyTetra'. -/
def fnExactIsEmptyTetraCard : Claim7 := { stood := { row := fnExactIsEmptyTetraRow, standIns := [], harness := (true, "1b56f361397b29a549da91111dd4f3561f260202020cdcff8c1da88ba6bcc579"), looks := true }, kinds := [], alts := [], goes := true, laidByText := true, laidKinds := [.sentinel, .sentinel], laidTests := true, laidLooks := .later }
def FnExactIsEmptyTetraCardSaid : Prop := Claim7.holds Tryd.pinned (.plain (OpenSpec.ofChange fnExactIsEmptyTetraSpec)) fnExactIsEmptyTetraCard

/-- THE TIED CARD OF 'laws.FnExactDistanceOfSpot'. -/
def fnExactDistanceOfSpotCard : Claim7 := { stood := { row := fnExactDistanceOfSpotRow, standIns := [], harness := (true, "1b56f361397b29a549da91111dd4f3561f260202020cdcff8c1da88ba6bcc579"), looks := true }, kinds := [], alts := [], goes := true, laidByText := true, laidKinds := [.sentinel, .sentinel], laidTests := true, laidLooks := .later }
def FnExactDistanceOfSpotCardSaid : Prop := Claim7.holds Tryd.pinned (.plain (OpenSpec.ofChange fnExactDistanceOfSpotSpec)) fnExactDistanceOfSpotCard

/-- THE SECOND FORM's CARD OF 'laws.FnExactCrossOf'. -/
def fnExactCrossOfUptoCard : Claim7 := { stood := { row := fnExactCrossOfUptoRow, standIns := [], harness := (true, "1b56f361397b29a549da91111dd4f3561f260202020cdcff8c1da88ba6bcc579"), looks := true }, kinds := [], alts := [], goes := true, laidByText := true, laidKinds := [.sentinel, .sentinel], laidTests := true, laidLooks := .later }
def FnExactCrossOfUptoCardSaid : Prop := Claim7.holds Tryd.pinned (.plain (OpenSpec.upto fnExactCrossOfSpec)) fnExactCrossOfUptoCard

/-- THE SECOND FORM's CARD OF 'laws.FnExactDeterminantOfSpots'. -/
def fnExactDeterminantOfSpotsUptoCard : Claim7 := { stood := { row := fnExactDeterminantOfSpotsUptoRow, standIns := [], harness := (true, "1b56f361397b29a549da91111dd4f3561f260202020cdcff8c1da88ba6bcc579"), looks := true }, kinds := [], alts := [], goes := true, laidByText := true, laidKinds := [.sentinel, .sentinel], laidTests := true, laidLooks := .later }
def FnExactDeterminantOfSpotsUptoCardSaid : Prop := Claim7.holds Tryd.pinned (.plain (OpenSpec.upto fnExactDeterminantOfSpotsSpec)) fnExactDeterminantOfSpotsUptoCard

/-- THE SECOND FORM's CARD OF 'laws.FnExactLengthOfSpot'. -/
def fnExactLengthOfSpotUptoCard : Claim7 := { stood := { row := fnExactLengthOfSpotUptoRow, standIns := [], harness := (true, "1b56f361397b29a549da91111dd4f3561f260202020cdcff8c1da88ba6bcc579"), looks := true }, kinds := [], alts := [], goes := true, laidByText := true, laidKinds := [.sentinel, .sentinel], laidTests := true, laidLooks := .later }
def FnExactLengthOfSpotUptoCardSaid : Prop := Claim7.holds Tryd.pinned (.plain (OpenSpec.upto fnExactLengthOfSpotSpec)) fnExactLengthOfSpotUptoCard

/-- THE SECOND FORM's CARD OF 'laws.FnExactCoordinatesIn'. -/
def fnExactCoordinatesInUptoCard : Claim7 := { stood := { row := fnExactCoordinatesInUptoRow, standIns := [], harness := (true, "1b56f361397b29a549da91111dd4f3561f260202020cdcff8c1da88ba6bcc579"), looks := true }, kinds := [], alts := [], goes := true, laidByText := true, laidKinds := [.sentinel, .sentinel, .sentinel], laidTests := true, laidLooks := .later }
def FnExactCoordinatesInUptoCardSaid : Prop := Claim7.holds Tryd.pinned (.plain (OpenSpec.upto fnExactCoordinatesInSpec)) fnExactCoordinatesInUptoCard

/-- THE SECOND FORM's CARD OF 'laws.FnExactIsInCone'. -/
def fnExactIsInConeUptoCard : Claim7 := { stood := { row := fnExactIsInConeUptoRow, standIns := [], harness := (true, "1b56f361397b29a549da91111dd4f3561f260202020cdcff8c1da88ba6bcc579"), looks := true }, kinds := [], alts := [], goes := true, laidByText := true, laidKinds := [.sentinel, .sentinel, .sentinel], laidTests := true, laidLooks := .later }
def FnExactIsInConeUptoCardSaid : Prop := Claim7.holds Tryd.pinned (.plain (OpenSpec.upto fnExactIsInConeSpec)) fnExactIsInConeUptoCard

/-- THE SECOND FORM's CARD OF 'laws.FnExactIsRegularCone'. -/
def fnExactIsRegularConeUptoCard : Claim7 := { stood := { row := fnExactIsRegularConeUptoRow, standIns := [], harness := (true, "1b56f361397b29a549da91111dd4f3561f260202020cdcff8c1da88ba6bcc579"), looks := true }, kinds := [], alts := [], goes := true, laidByText := true, laidKinds := [.sentinel, .sentinel], laidTests := true, laidLooks := .later }
def FnExactIsRegularConeUptoCardSaid : Prop := Claim7.holds Tryd.pinned (.plain (OpenSpec.upto fnExactIsRegularConeSpec)) fnExactIsRegularConeUptoCard

/-- THE SECOND FORM's CARD OF 'laws.FnExactBoxOf'. -/
def fnExactBoxOfUptoCard : Claim7 := { stood := { row := fnExactBoxOfUptoRow, standIns := [], harness := (true, "1b56f361397b29a549da91111dd4f3561f260202020cdcff8c1da88ba6bcc579"), looks := true }, kinds := [], alts := [], goes := true, laidByText := true, laidKinds := [.sentinel, .sentinel], laidTests := true, laidLooks := .later }
def FnExactBoxOfUptoCardSaid : Prop := Claim7.holds Tryd.pinned (.plain (OpenSpec.upto fnExactBoxOfSpec)) fnExactBoxOfUptoCard

/-- THE SECOND FORM's CARD OF 'laws.FnExactVolumeOf'. -/
def fnExactVolumeOfUptoCard : Claim7 := { stood := { row := fnExactVolumeOfUptoRow, standIns := [], harness := (true, "1b56f361397b29a549da91111dd4f3561f260202020cdcff8c1da88ba6bcc579"), looks := true }, kinds := [], alts := [], goes := true, laidByText := true, laidKinds := [.sentinel, .sentinel], laidTests := true, laidLooks := .later }
def FnExactVolumeOfUptoCardSaid : Prop := Claim7.holds Tryd.pinned (.plain (OpenSpec.upto fnExactVolumeOfSpec)) fnExactVolumeOfUptoCard

/-- THE SECOND FORM's CARD OF 'laws.FnExactCountSpots'. -/
def fnExactCountSpotsUptoCard : Claim7 := { stood := { row := fnExactCountSpotsUptoRow, standIns := [], harness := (true, "1b56f361397b29a549da91111dd4f3561f260202020cdcff8c1da88ba6bcc579"), looks := true }, kinds := [], alts := [], goes := true, laidByText := true, laidKinds := [.sentinel, .sentinel], laidTests := true, laidLooks := .later }
def FnExactCountSpotsUptoCardSaid : Prop := Claim7.holds Tryd.pinned (.plain (OpenSpec.upto fnExactCountSpotsSpec)) fnExactCountSpotsUptoCard

/-- THE SECOND FORM's CARD OF 'laws.FnExactIsEmptyTetra'. -/
def fnExactIsEmptyTetraUptoCard : Claim7 := { stood := { row := fnExactIsEmptyTetraUptoRow, standIns := [], harness := (true, "1b56f361397b29a549da91111dd4f3561f260202020cdcff8c1da88ba6bcc579"), looks := true }, kinds := [], alts := [], goes := true, laidByText := true, laidKinds := [.sentinel, .sentinel], laidTests := true, laidLooks := .later }
def FnExactIsEmptyTetraUptoCardSaid : Prop := Claim7.holds Tryd.pinned (.plain (OpenSpec.upto fnExactIsEmptyTetraSpec)) fnExactIsEmptyTetraUptoCard

/-- THE SECOND FORM's CARD OF 'laws.FnExactDistanceOfSpot'. -/
def fnExactDistanceOfSpotUptoCard : Claim7 := { stood := { row := fnExactDistanceOfSpotUptoRow, standIns := [], harness := (true, "1b56f361397b29a549da91111dd4f3561f260202020cdcff8c1da88ba6bcc579"), looks := true }, kinds := [], alts := [], goes := true, laidByText := true, laidKinds := [.sentinel, .sentinel], laidTests := true, laidLooks := .later }
def FnExactDistanceOfSpotUptoCardSaid : Prop := Claim7.holds Tryd.pinned (.plain (OpenSpec.upto fnExactDistanceOfSpotSpec)) fnExactDistanceOfSpotUptoCard
end Rows
end Go.Proofs.YtjjblgmokmalaaaDoor
