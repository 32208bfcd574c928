/-
  DERIVED. GIVEN WITH THE SEED: THE CARDS: each row of YtcaleapedomfmaaDoorRows.lean that lists a variable, with what it lists TIED to the program's text (the seventh form; the later family's looks); each row that meets fmt, with fmt's text TOLD by the authors' own Lean function (tested against real Go, not proved from fmt's source: count such statements apart). THE CARD IS WHAT COUNTS. Prove the row's statement (the work); the ties are given (YtcaleapedomfmaaDoorTie.lean); close each card by the builder's one call (the guide's Derived/Test/ToyasCard.lean, 'card_holds'). Laid BY PROGRAM, IN A SANDBOX (cutbox-door.mjs). By AI agents, Wed Nov 11 2026. No macro, syntax, notation, axiom, sorry.
-/
import Derived.Test.YtcaleapedomfmaaDoorRows
import GoSem.ClaimSeven
namespace Go.Proofs.YtcaleapedomfmaaDoor
namespace Rows

/-- THE TIED CARD OF 'laws.FnExactAreNeighbours'. -/
def fnExactAreNeighboursCard : Claim7 := { stood := { row := fnExactAreNeighboursRow, standIns := [], harness := (true, "0093c6eff25526ab49ad1c563a5115493e2a89880f31c91de9668e792ce0b561"), looks := true }, kinds := [], alts := [], laidByText := true, laidKinds := [.sentinel, .sentinel], laidTests := true, laidLooks := .later }
def FnExactAreNeighboursCardSaid : Prop := Claim7.holds Tryd.pinned (.plain (OpenSpec.ofChange fnExactAreNeighboursSpec)) fnExactAreNeighboursCard

/-- THE TIED CARD OF 'laws.FnExactSumOfNeighbours'. -/
def fnExactSumOfNeighboursCard : Claim7 := { stood := { row := fnExactSumOfNeighboursRow, standIns := [], harness := (true, "0093c6eff25526ab49ad1c563a5115493e2a89880f31c91de9668e792ce0b561"), looks := true }, kinds := [], alts := [], laidByText := true, laidKinds := [.sentinel, .sentinel], laidTests := true, laidLooks := .later }
def FnExactSumOfNeighboursCardSaid : Prop := Claim7.holds Tryd.pinned (.plain (OpenSpec.ofChange fnExactSumOfNeighboursSpec)) fnExactSumOfNeighboursCard

/-- THE TIED CARD OF 'laws.FnExactDifferenceOfNeighbours'. -/
def fnExactDifferenceOfNeighboursCard : Claim7 := { stood := { row := fnExactDifferenceOfNeighboursRow, standIns := [], harness := (true, "0093c6eff25526ab49ad1c563a5115493e2a89880f31c91de9668e792ce0b561"), looks := true }, kinds := [], alts := [], laidByText := true, laidKinds := [.sentinel, .sentinel], laidTests := true, laidLooks := .later }
def FnExactDifferenceOfNeighboursCardSaid : Prop := Claim7.holds Tryd.pinned (.plain (OpenSpec.ofChange fnExactDifferenceOfNeighboursSpec)) fnExactDifferenceOfNeighboursCard

/-- THE TIED CARD OF 'laws.FnExactReflectFraction'. -/
def fnExactReflectFractionCard : Claim7 := { stood := { row := fnExactReflectFractionRow, standIns := [], harness := (true, "0093c6eff25526ab49ad1c563a5115493e2a89880f31c91de9668e792ce0b561"), looks := true }, kinds := [], alts := [], laidByText := true, laidKinds := [.sentinel, .sentinel], laidTests := true, laidLooks := .later }
def FnExactReflectFractionCardSaid : Prop := Claim7.holds Tryd.pinned (.plain (OpenSpec.ofChange fnExactReflectFractionSpec)) fnExactReflectFractionCard

/-- THE TIED CARD OF 'laws.FnExactParentsOf'. -/
def fnExactParentsOfCard : Claim7 := { stood := { row := fnExactParentsOfRow, standIns := [], harness := (true, "0093c6eff25526ab49ad1c563a5115493e2a89880f31c91de9668e792ce0b561"), looks := true }, kinds := [], alts := [], laidByText := true, laidKinds := [.sentinel, .sentinel], laidTests := true, laidLooks := .later }
def FnExactParentsOfCardSaid : Prop := Claim7.holds Tryd.pinned (.plain (OpenSpec.ofChange fnExactParentsOfSpec)) fnExactParentsOfCard

/-- THE TIED CARD OF 'laws.FnExactPathOf'. -/
def fnExactPathOfCard : Claim7 := { stood := { row := fnExactPathOfRow, standIns := [], harness := (true, "0093c6eff25526ab49ad1c563a5115493e2a89880f31c91de9668e792ce0b561"), looks := true }, kinds := [], alts := [], laidByText := true, laidKinds := [.sentinel, .sentinel], laidTests := true, laidLooks := .later }
def FnExactPathOfCardSaid : Prop := Claim7.holds Tryd.pinned (.plain (OpenSpec.ofChange fnExactPathOfSpec)) fnExactPathOfCard

/-- THE TIED CARD OF 'laws.FnExactFractionOfPath'. -/
def fnExactFractionOfPathCard : Claim7 := { stood := { row := fnExactFractionOfPathRow, standIns := [], harness := (true, "0093c6eff25526ab49ad1c563a5115493e2a89880f31c91de9668e792ce0b561"), looks := true }, kinds := [], alts := [], laidByText := true, laidKinds := [.data, .pinned], laidTests := true, laidLooks := .later }
def FnExactFractionOfPathCardSaid : Prop := Claim7.holds Tryd.pinned (.plain (OpenSpec.ofChange fnExactFractionOfPathSpec)) fnExactFractionOfPathCard

/-- THE TIED CARD OF 'laws.FnExactFareyDistance'. -/
def fnExactFareyDistanceCard : Claim7 := { stood := { row := fnExactFareyDistanceRow, standIns := [], harness := (true, "0093c6eff25526ab49ad1c563a5115493e2a89880f31c91de9668e792ce0b561"), looks := true }, kinds := [], alts := [], laidByText := true, laidKinds := [.sentinel, .sentinel], laidTests := true, laidLooks := .later }
def FnExactFareyDistanceCardSaid : Prop := Claim7.holds Tryd.pinned (.plain (OpenSpec.ofChange fnExactFareyDistanceSpec)) fnExactFareyDistanceCard

/-- THE TIED CARD OF 'laws.FnExactGeodesicOf'. -/
def fnExactGeodesicOfCard : Claim7 := { stood := { row := fnExactGeodesicOfRow, standIns := [], harness := (true, "0093c6eff25526ab49ad1c563a5115493e2a89880f31c91de9668e792ce0b561"), looks := true }, kinds := [], alts := [], laidByText := true, laidKinds := [.sentinel, .sentinel], laidTests := true, laidLooks := .later }
def FnExactGeodesicOfCardSaid : Prop := Claim7.holds Tryd.pinned (.plain (OpenSpec.ofChange fnExactGeodesicOfSpec)) fnExactGeodesicOfCard

/-- THE TIED CARD OF 'laws.FnExactApplyToFraction'. -/
def fnExactApplyToFractionCard : Claim7 := { stood := { row := fnExactApplyToFractionRow, standIns := [], harness := (true, "0093c6eff25526ab49ad1c563a5115493e2a89880f31c91de9668e792ce0b561"), looks := true }, kinds := [], alts := [], laidByText := true, laidKinds := [.sentinel, .sentinel], laidTests := true, laidLooks := .later }
def FnExactApplyToFractionCardSaid : Prop := Claim7.holds Tryd.pinned (.plain (OpenSpec.ofChange fnExactApplyToFractionSpec)) fnExactApplyToFractionCard

/-- THE SECOND FORM's CARD OF 'laws.FnExactAreNeighbours'. -/
def fnExactAreNeighboursUptoCard : Claim7 := { stood := { row := fnExactAreNeighboursUptoRow, standIns := [], harness := (true, "0093c6eff25526ab49ad1c563a5115493e2a89880f31c91de9668e792ce0b561"), looks := true }, kinds := [], alts := [], laidByText := true, laidKinds := [.sentinel, .sentinel], laidTests := true, laidLooks := .later }
def FnExactAreNeighboursUptoCardSaid : Prop := Claim7.holds Tryd.pinned (.plain (OpenSpec.upto fnExactAreNeighboursSpec)) fnExactAreNeighboursUptoCard

/-- THE SECOND FORM's CARD OF 'laws.FnExactSumOfNeighbours'. -/
def fnExactSumOfNeighboursUptoCard : Claim7 := { stood := { row := fnExactSumOfNeighboursUptoRow, standIns := [], harness := (true, "0093c6eff25526ab49ad1c563a5115493e2a89880f31c91de9668e792ce0b561"), looks := true }, kinds := [], alts := [], laidByText := true, laidKinds := [.sentinel, .sentinel], laidTests := true, laidLooks := .later }
def FnExactSumOfNeighboursUptoCardSaid : Prop := Claim7.holds Tryd.pinned (.plain (OpenSpec.upto fnExactSumOfNeighboursSpec)) fnExactSumOfNeighboursUptoCard

/-- THE SECOND FORM's CARD OF 'laws.FnExactDifferenceOfNeighbours'. -/
def fnExactDifferenceOfNeighboursUptoCard : Claim7 := { stood := { row := fnExactDifferenceOfNeighboursUptoRow, standIns := [], harness := (true, "0093c6eff25526ab49ad1c563a5115493e2a89880f31c91de9668e792ce0b561"), looks := true }, kinds := [], alts := [], laidByText := true, laidKinds := [.sentinel, .sentinel], laidTests := true, laidLooks := .later }
def FnExactDifferenceOfNeighboursUptoCardSaid : Prop := Claim7.holds Tryd.pinned (.plain (OpenSpec.upto fnExactDifferenceOfNeighboursSpec)) fnExactDifferenceOfNeighboursUptoCard

/-- THE SECOND FORM's CARD OF 'laws.FnExactReflectFraction'. -/
def fnExactReflectFractionUptoCard : Claim7 := { stood := { row := fnExactReflectFractionUptoRow, standIns := [], harness := (true, "0093c6eff25526ab49ad1c563a5115493e2a89880f31c91de9668e792ce0b561"), looks := true }, kinds := [], alts := [], laidByText := true, laidKinds := [.sentinel, .sentinel], laidTests := true, laidLooks := .later }
def FnExactReflectFractionUptoCardSaid : Prop := Claim7.holds Tryd.pinned (.plain (OpenSpec.upto fnExactReflectFractionSpec)) fnExactReflectFractionUptoCard

/-- THE SECOND FORM's CARD OF 'laws.FnExactParentsOf'. -/
def fnExactParentsOfUptoCard : Claim7 := { stood := { row := fnExactParentsOfUptoRow, standIns := [], harness := (true, "0093c6eff25526ab49ad1c563a5115493e2a89880f31c91de9668e792ce0b561"), looks := true }, kinds := [], alts := [], laidByText := true, laidKinds := [.sentinel, .sentinel], laidTests := true, laidLooks := .later }
def FnExactParentsOfUptoCardSaid : Prop := Claim7.holds Tryd.pinned (.plain (OpenSpec.upto fnExactParentsOfSpec)) fnExactParentsOfUptoCard

/-- THE SECOND FORM's CARD OF 'laws.FnExactPathOf'. -/
def fnExactPathOfUptoCard : Claim7 := { stood := { row := fnExactPathOfUptoRow, standIns := [], harness := (true, "0093c6eff25526ab49ad1c563a5115493e2a89880f31c91de9668e792ce0b561"), looks := true }, kinds := [], alts := [], laidByText := true, laidKinds := [.sentinel, .sentinel], laidTests := true, laidLooks := .later }
def FnExactPathOfUptoCardSaid : Prop := Claim7.holds Tryd.pinned (.plain (OpenSpec.upto fnExactPathOfSpec)) fnExactPathOfUptoCard

/-- THE SECOND FORM's CARD OF 'laws.FnExactFractionOfPath'. -/
def fnExactFractionOfPathUptoCard : Claim7 := { stood := { row := fnExactFractionOfPathUptoRow, standIns := [], harness := (true, "0093c6eff25526ab49ad1c563a5115493e2a89880f31c91de9668e792ce0b561"), looks := true }, kinds := [], alts := [], laidByText := true, laidKinds := [.data, .pinned], laidTests := true, laidLooks := .later }
def FnExactFractionOfPathUptoCardSaid : Prop := Claim7.holds Tryd.pinned (.plain (OpenSpec.upto fnExactFractionOfPathSpec)) fnExactFractionOfPathUptoCard

/-- THE SECOND FORM's CARD OF 'laws.FnExactFareyDistance'. -/
def fnExactFareyDistanceUptoCard : Claim7 := { stood := { row := fnExactFareyDistanceUptoRow, standIns := [], harness := (true, "0093c6eff25526ab49ad1c563a5115493e2a89880f31c91de9668e792ce0b561"), looks := true }, kinds := [], alts := [], laidByText := true, laidKinds := [.sentinel, .sentinel], laidTests := true, laidLooks := .later }
def FnExactFareyDistanceUptoCardSaid : Prop := Claim7.holds Tryd.pinned (.plain (OpenSpec.upto fnExactFareyDistanceSpec)) fnExactFareyDistanceUptoCard

/-- THE SECOND FORM's CARD OF 'laws.FnExactGeodesicOf'. -/
def fnExactGeodesicOfUptoCard : Claim7 := { stood := { row := fnExactGeodesicOfUptoRow, standIns := [], harness := (true, "0093c6eff25526ab49ad1c563a5115493e2a89880f31c91de9668e792ce0b561"), looks := true }, kinds := [], alts := [], laidByText := true, laidKinds := [.sentinel, .sentinel], laidTests := true, laidLooks := .later }
def FnExactGeodesicOfUptoCardSaid : Prop := Claim7.holds Tryd.pinned (.plain (OpenSpec.upto fnExactGeodesicOfSpec)) fnExactGeodesicOfUptoCard

/-- THE SECOND FORM's CARD OF 'laws.FnExactApplyToFraction'. -/
def fnExactApplyToFractionUptoCard : Claim7 := { stood := { row := fnExactApplyToFractionUptoRow, standIns := [], harness := (true, "0093c6eff25526ab49ad1c563a5115493e2a89880f31c91de9668e792ce0b561"), looks := true }, kinds := [], alts := [], laidByText := true, laidKinds := [.sentinel, .sentinel], laidTests := true, laidLooks := .later }
def FnExactApplyToFractionUptoCardSaid : Prop := Claim7.holds Tryd.pinned (.plain (OpenSpec.upto fnExactApplyToFractionSpec)) fnExactApplyToFractionUptoCard
end Rows
end Go.Proofs.YtcaleapedomfmaaDoor
