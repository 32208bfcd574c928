/-
  DERIVED. GIVEN WITH THE SEED: THE CARDS: each row of YtohnmogejidpdabDoorRows.lean that lists a variable, with what it lists TIED to the program's text (the seventh form; the later family's looks); each row that meets fmt, with fmt's text TOLD by the authors' own Lean function (tested against real Go, not proved from fmt's source: count such statements apart). THE CARD IS WHAT COUNTS. Prove the row's statement (the work); the ties are given (YtohnmogejidpdabDoorTie.lean); close each card by the builder's one call (the guide's Derived/Test/ToyasCard.lean, 'card_holds'). Laid BY PROGRAM, IN A SANDBOX (cutbox-door.mjs). By AI agents, Wed Nov 11 2026. No macro, syntax, notation, axiom, sorry.
-/
import Derived.Test.YtohnmogejidpdabDoorRows
import GoSem.ClaimSeven
namespace Go.Proofs.YtohnmogejidpdabDoor
namespace Rows

/-- THE TIED CARD OF 'laws.FnExactFractionOfPath'. -/
def fnExactFractionOfPathCard : Claim7 := { stood := { row := fnExactFractionOfPathRow, standIns := [], harness := (true, "1f383b543a7f50fa2a41a7fc09c3fb2027a683f3b3c08287659a74def390922b"), looks := true }, kinds := [], alts := [], laidByText := true, laidKinds := [.data, .pinned], laidTests := true, laidLooks := .later }
def FnExactFractionOfPathCardSaid : Prop := Claim7.holds Tryd.pinned (.plain (OpenSpec.ofChange fnExactFractionOfPathSpec)) fnExactFractionOfPathCard

/-- THE TIED CARD OF 'laws.FnExactGeodesicOf'. -/
def fnExactGeodesicOfCard : Claim7 := { stood := { row := fnExactGeodesicOfRow, standIns := [], harness := (true, "1f383b543a7f50fa2a41a7fc09c3fb2027a683f3b3c08287659a74def390922b"), looks := true }, kinds := [], alts := [], laidByText := true, laidKinds := [.sentinel, .sentinel], laidTests := true, laidLooks := .later }
def FnExactGeodesicOfCardSaid : Prop := Claim7.holds Tryd.pinned (.plain (OpenSpec.ofChange fnExactGeodesicOfSpec)) fnExactGeodesicOfCard

/-- THE SECOND FORM's CARD OF 'laws.FnExactFractionOfPath'. -/
def fnExactFractionOfPathUptoCard : Claim7 := { stood := { row := fnExactFractionOfPathUptoRow, standIns := [], harness := (true, "1f383b543a7f50fa2a41a7fc09c3fb2027a683f3b3c08287659a74def390922b"), looks := true }, kinds := [], alts := [], laidByText := true, laidKinds := [.data, .pinned], laidTests := true, laidLooks := .later }
def FnExactFractionOfPathUptoCardSaid : Prop := Claim7.holds Tryd.pinned (.plain (OpenSpec.upto fnExactFractionOfPathSpec)) fnExactFractionOfPathUptoCard

/-- THE SECOND FORM's CARD OF 'laws.FnExactGeodesicOf'. -/
def fnExactGeodesicOfUptoCard : Claim7 := { stood := { row := fnExactGeodesicOfUptoRow, standIns := [], harness := (true, "1f383b543a7f50fa2a41a7fc09c3fb2027a683f3b3c08287659a74def390922b"), looks := true }, kinds := [], alts := [], laidByText := true, laidKinds := [.sentinel, .sentinel], laidTests := true, laidLooks := .later }
def FnExactGeodesicOfUptoCardSaid : Prop := Claim7.holds Tryd.pinned (.plain (OpenSpec.upto fnExactGeodesicOfSpec)) fnExactGeodesicOfUptoCard
end Rows
end Go.Proofs.YtohnmogejidpdabDoor
