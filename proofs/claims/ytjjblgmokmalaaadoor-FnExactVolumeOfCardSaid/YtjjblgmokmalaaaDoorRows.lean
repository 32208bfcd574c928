/-
  NARROWER THAN 'FOR EVERY INPUT', by the rows' own cells (each row's printed sentence says how): FnExactCrossOf: ifaces, laid · FnExactDeterminantOfSpots: ifaces, laid · FnExactLengthOfSpot: ifaces, laid · FnExactCoordinatesIn: ifaces, laid · FnExactIsInCone: ifaces, laid · FnExactIsRegularCone: ifaces, laid · FnExactBoxOf: ifaces, laid · FnExactVolumeOf: ifaces, laid · FnExactCountSpots: ifaces, laid · FnExactIsEmptyTetra: ifaces, laid · FnExactDistanceOfSpot: ifaces, laid.
  DERIVED. THE GIVEN ROWS OF THIS SEAT. 11 by the template 'for every input the law returns true; each argument reads behind the call as it read before'; 0 by the template 'total and deterministic' (their statements: YtjjblgmokmalaaaDoorTotals.lean).
  GIVEN WITH THE SEED: the statements are not yours to turn. If you find one false, say at which input.
  Laid BY PROGRAM, IN A SANDBOX (cutbox-rows.mjs): the forced cells as the released guide's own fill.sh prints them over the translation fd9f29193cdbcf0c… (all of the seat's roots in one cut). By AI agents, Wed Nov 11 2026. No macro, syntax, notation, axiom, sorry.
-/
import Derived.Test.YtjjblgmokmalaaaDoorChecked
import GoSem.Claim
import GoSem.ClaimJoined
import GoSem.ClaimMapViews
import Derived.JoinedTies
import Derived.KernelRfl
namespace Go.Proofs.YtjjblgmokmalaaaDoor
/- THE CELL 'sum', in the pinned program and in every row, IS THE sha256 OF THE DUMP (.gsa) THAT YtjjblgmokmalaaaDoorProg.lean LOADS. Nothing in Lean hashes anything: it is a label: what it is worth is what the hold of that sum in a sandbox is worth. -/
noncomputable def Tryd.pinned : Pinned := { name := "ytjjblgmokmalaaadoor", sum := "fd9f29193cdbcf0c578ffbcc9da55fea57a57ade9c627f33b92b923c02397b3c", checked := Tryd.checked }
namespace Rows
def none {H : Type} : Left H := { results := [], args := [] }

/- WHAT THE LISTED PACKAGE-LEVEL VARIABLES READ AS WHEN THE CALL BEGINS. Each datum BY PROGRAM (the guide's laid-datum.mjs) off the statement by which the dump's own 'gosem.cut.vars' lays the variable. In a bare row this is a premise. The card (YtjjblgmokmalaaaDoorCards.lean) ties it to the program's text. -/
def laid_loop_example_g01297_impl_errNoFraction {H : Type} : DataW H := .iface "*errors.errorString" (.ptr (.agg [.lit (.string [110, 111, 116, 32, 97, 32, 102, 114, 97, 99, 116, 105, 111, 110])]))
def laid_loop_example_g01297_impl_errNoSpot {H : Type} : DataW H := .iface "*errors.errorString" (.ptr (.agg [.lit (.string [110, 111, 116, 32, 97, 32, 115, 112, 111, 116])]))
def laid_loop_example_g01297_impl_errNoCone {H : Type} : DataW H := .iface "*errors.errorString" (.ptr (.agg [.lit (.string [110, 111, 116, 32, 97, 32, 99, 111, 110, 101])]))
def laid_loop_example_g01297_impl_errNoTetra {H : Type} : DataW H := .iface "*errors.errorString" (.ptr (.agg [.lit (.string [110, 111, 116, 32, 97, 32, 116, 101, 116, 114, 97, 104, 101, 100, 114, 111, 110])]))

/-- 'laws.FnExactCrossOf': WHATEVER THE INPUT: true; the input reads as it did. -/
def fnExactCrossOfSpec : ChangeSpec := { name := "fnExactCrossOf", vars := ["loop.example/g01297/impl.errNoSpot", "loop.example/g01297/impl.errNoFraction"], fn := fun _ => fun
  | [d1, d2, g1, g2] => { results := [.lit (.bool true)], args := [d1, d2], vars := [g1, g2] }
  | _ => none }
def fnExactCrossOfRow : OpenClaim := { program := "ytjjblgmokmalaaadoor", sum := "fd9f29193cdbcf0c578ffbcc9da55fea57a57ade9c627f33b92b923c02397b3c", func := "loop.example/g01297/laws.FnExactCrossOf", spec := "fnExactCrossOf", inPlace := ["internal/reflectlite.TypeOf"], unfollowed := true, recurses := true, named := ["loop.example/g01297/impl.errNoSpot", "loop.example/g01297/impl.errNoFraction"], ifaces := true, leaving := true, apart := false, laid := [("loop.example/g01297/impl.errNoFraction", laid_loop_example_g01297_impl_errNoFraction), ("loop.example/g01297/impl.errNoSpot", laid_loop_example_g01297_impl_errNoSpot)] }
def FnExactCrossOfSaid : Prop := fnExactCrossOfRow.holds Tryd.pinned (OpenSpec.ofChange fnExactCrossOfSpec)

/-- ITS FALSE NEIGHBOUR: 'it returns false'. Refute it at one input. -/
def fnExactCrossOfWrong : ChangeSpec := { name := "fnExactCrossOf", vars := ["loop.example/g01297/impl.errNoSpot", "loop.example/g01297/impl.errNoFraction"], fn := fun _ => fun
  | [d1, d2, g1, g2] => { results := [.lit (.bool false)], args := [d1, d2], vars := [g1, g2] }
  | _ => none }
def FnExactCrossOfWrongFalsely : Prop := fnExactCrossOfRow.holds Tryd.pinned (OpenSpec.ofChange fnExactCrossOfWrong)

/-- 'laws.FnExactDeterminantOfSpots': WHATEVER THE INPUT: true; the input reads as it did. -/
def fnExactDeterminantOfSpotsSpec : ChangeSpec := { name := "fnExactDeterminantOfSpots", vars := ["loop.example/g01297/impl.errNoSpot", "loop.example/g01297/impl.errNoFraction"], fn := fun _ => fun
  | [d1, d2, d3, g1, g2] => { results := [.lit (.bool true)], args := [d1, d2, d3], vars := [g1, g2] }
  | _ => none }
def fnExactDeterminantOfSpotsRow : OpenClaim := { program := "ytjjblgmokmalaaadoor", sum := "fd9f29193cdbcf0c578ffbcc9da55fea57a57ade9c627f33b92b923c02397b3c", func := "loop.example/g01297/laws.FnExactDeterminantOfSpots", spec := "fnExactDeterminantOfSpots", inPlace := ["internal/reflectlite.TypeOf"], unfollowed := true, recurses := true, named := ["loop.example/g01297/impl.errNoSpot", "loop.example/g01297/impl.errNoFraction"], ifaces := true, leaving := true, apart := false, laid := [("loop.example/g01297/impl.errNoFraction", laid_loop_example_g01297_impl_errNoFraction), ("loop.example/g01297/impl.errNoSpot", laid_loop_example_g01297_impl_errNoSpot)] }
def FnExactDeterminantOfSpotsSaid : Prop := fnExactDeterminantOfSpotsRow.holds Tryd.pinned (OpenSpec.ofChange fnExactDeterminantOfSpotsSpec)

/-- ITS FALSE NEIGHBOUR: 'it returns false'. Refute it at one input. -/
def fnExactDeterminantOfSpotsWrong : ChangeSpec := { name := "fnExactDeterminantOfSpots", vars := ["loop.example/g01297/impl.errNoSpot", "loop.example/g01297/impl.errNoFraction"], fn := fun _ => fun
  | [d1, d2, d3, g1, g2] => { results := [.lit (.bool false)], args := [d1, d2, d3], vars := [g1, g2] }
  | _ => none }
def FnExactDeterminantOfSpotsWrongFalsely : Prop := fnExactDeterminantOfSpotsRow.holds Tryd.pinned (OpenSpec.ofChange fnExactDeterminantOfSpotsWrong)

/-- 'laws.FnExactLengthOfSpot': WHATEVER THE INPUT: true; the input reads as it did. -/
def fnExactLengthOfSpotSpec : ChangeSpec := { name := "fnExactLengthOfSpot", vars := ["loop.example/g01297/impl.errNoSpot", "loop.example/g01297/impl.errNoFraction"], fn := fun _ => fun
  | [d, g1, g2] => { results := [.lit (.bool true)], args := [d], vars := [g1, g2] }
  | _ => none }
def fnExactLengthOfSpotRow : OpenClaim := { program := "ytjjblgmokmalaaadoor", sum := "fd9f29193cdbcf0c578ffbcc9da55fea57a57ade9c627f33b92b923c02397b3c", func := "loop.example/g01297/laws.FnExactLengthOfSpot", spec := "fnExactLengthOfSpot", inPlace := ["internal/reflectlite.TypeOf"], unfollowed := true, recurses := true, named := ["loop.example/g01297/impl.errNoSpot", "loop.example/g01297/impl.errNoFraction"], ifaces := true, leaving := true, apart := false, laid := [("loop.example/g01297/impl.errNoFraction", laid_loop_example_g01297_impl_errNoFraction), ("loop.example/g01297/impl.errNoSpot", laid_loop_example_g01297_impl_errNoSpot)] }
def FnExactLengthOfSpotSaid : Prop := fnExactLengthOfSpotRow.holds Tryd.pinned (OpenSpec.ofChange fnExactLengthOfSpotSpec)

/-- ITS FALSE NEIGHBOUR: 'it returns false'. Refute it at one input. -/
def fnExactLengthOfSpotWrong : ChangeSpec := { name := "fnExactLengthOfSpot", vars := ["loop.example/g01297/impl.errNoSpot", "loop.example/g01297/impl.errNoFraction"], fn := fun _ => fun
  | [d, g1, g2] => { results := [.lit (.bool false)], args := [d], vars := [g1, g2] }
  | _ => none }
def FnExactLengthOfSpotWrongFalsely : Prop := fnExactLengthOfSpotRow.holds Tryd.pinned (OpenSpec.ofChange fnExactLengthOfSpotWrong)

/-- 'laws.FnExactCoordinatesIn': WHATEVER THE INPUT: true; the input reads as it did. -/
def fnExactCoordinatesInSpec : ChangeSpec := { name := "fnExactCoordinatesIn", vars := ["loop.example/g01297/impl.errNoCone", "loop.example/g01297/impl.errNoSpot", "loop.example/g01297/impl.errNoFraction"], fn := fun _ => fun
  | [d1, d2, g1, g2, g3] => { results := [.lit (.bool true)], args := [d1, d2], vars := [g1, g2, g3] }
  | _ => none }
def fnExactCoordinatesInRow : OpenClaim := { program := "ytjjblgmokmalaaadoor", sum := "fd9f29193cdbcf0c578ffbcc9da55fea57a57ade9c627f33b92b923c02397b3c", func := "loop.example/g01297/laws.FnExactCoordinatesIn", spec := "fnExactCoordinatesIn", inPlace := ["internal/reflectlite.TypeOf"], unfollowed := true, recurses := true, named := ["loop.example/g01297/impl.errNoCone", "loop.example/g01297/impl.errNoSpot", "loop.example/g01297/impl.errNoFraction"], ifaces := true, leaving := true, apart := false, laid := [("loop.example/g01297/impl.errNoFraction", laid_loop_example_g01297_impl_errNoFraction), ("loop.example/g01297/impl.errNoSpot", laid_loop_example_g01297_impl_errNoSpot), ("loop.example/g01297/impl.errNoCone", laid_loop_example_g01297_impl_errNoCone)] }
def FnExactCoordinatesInSaid : Prop := fnExactCoordinatesInRow.holds Tryd.pinned (OpenSpec.ofChange fnExactCoordinatesInSpec)

/-- ITS FALSE NEIGHBOUR: 'it returns false'. Refute it at one input. -/
def fnExactCoordinatesInWrong : ChangeSpec := { name := "fnExactCoordinatesIn", vars := ["loop.example/g01297/impl.errNoCone", "loop.example/g01297/impl.errNoSpot", "loop.example/g01297/impl.errNoFraction"], fn := fun _ => fun
  | [d1, d2, g1, g2, g3] => { results := [.lit (.bool false)], args := [d1, d2], vars := [g1, g2, g3] }
  | _ => none }
def FnExactCoordinatesInWrongFalsely : Prop := fnExactCoordinatesInRow.holds Tryd.pinned (OpenSpec.ofChange fnExactCoordinatesInWrong)

/-- 'laws.FnExactIsInCone': WHATEVER THE INPUT: true; the input reads as it did. -/
def fnExactIsInConeSpec : ChangeSpec := { name := "fnExactIsInCone", vars := ["loop.example/g01297/impl.errNoCone", "loop.example/g01297/impl.errNoSpot", "loop.example/g01297/impl.errNoFraction"], fn := fun _ => fun
  | [d1, d2, g1, g2, g3] => { results := [.lit (.bool true)], args := [d1, d2], vars := [g1, g2, g3] }
  | _ => none }
def fnExactIsInConeRow : OpenClaim := { program := "ytjjblgmokmalaaadoor", sum := "fd9f29193cdbcf0c578ffbcc9da55fea57a57ade9c627f33b92b923c02397b3c", func := "loop.example/g01297/laws.FnExactIsInCone", spec := "fnExactIsInCone", inPlace := ["internal/reflectlite.TypeOf"], unfollowed := true, recurses := true, named := ["loop.example/g01297/impl.errNoCone", "loop.example/g01297/impl.errNoSpot", "loop.example/g01297/impl.errNoFraction"], ifaces := true, leaving := true, apart := false, laid := [("loop.example/g01297/impl.errNoFraction", laid_loop_example_g01297_impl_errNoFraction), ("loop.example/g01297/impl.errNoSpot", laid_loop_example_g01297_impl_errNoSpot), ("loop.example/g01297/impl.errNoCone", laid_loop_example_g01297_impl_errNoCone)] }
def FnExactIsInConeSaid : Prop := fnExactIsInConeRow.holds Tryd.pinned (OpenSpec.ofChange fnExactIsInConeSpec)

/-- ITS FALSE NEIGHBOUR: 'it returns false'. Refute it at one input. -/
def fnExactIsInConeWrong : ChangeSpec := { name := "fnExactIsInCone", vars := ["loop.example/g01297/impl.errNoCone", "loop.example/g01297/impl.errNoSpot", "loop.example/g01297/impl.errNoFraction"], fn := fun _ => fun
  | [d1, d2, g1, g2, g3] => { results := [.lit (.bool false)], args := [d1, d2], vars := [g1, g2, g3] }
  | _ => none }
def FnExactIsInConeWrongFalsely : Prop := fnExactIsInConeRow.holds Tryd.pinned (OpenSpec.ofChange fnExactIsInConeWrong)

/-- 'laws.FnExactIsRegularCone': WHATEVER THE INPUT: true; the input reads as it did. -/
def fnExactIsRegularConeSpec : ChangeSpec := { name := "fnExactIsRegularCone", vars := ["loop.example/g01297/impl.errNoCone", "loop.example/g01297/impl.errNoFraction"], fn := fun _ => fun
  | [d, g1, g2] => { results := [.lit (.bool true)], args := [d], vars := [g1, g2] }
  | _ => none }
def fnExactIsRegularConeRow : OpenClaim := { program := "ytjjblgmokmalaaadoor", sum := "fd9f29193cdbcf0c578ffbcc9da55fea57a57ade9c627f33b92b923c02397b3c", func := "loop.example/g01297/laws.FnExactIsRegularCone", spec := "fnExactIsRegularCone", inPlace := ["internal/reflectlite.TypeOf"], unfollowed := true, recurses := true, named := ["loop.example/g01297/impl.errNoCone", "loop.example/g01297/impl.errNoFraction"], ifaces := true, leaving := true, apart := false, laid := [("loop.example/g01297/impl.errNoFraction", laid_loop_example_g01297_impl_errNoFraction), ("loop.example/g01297/impl.errNoCone", laid_loop_example_g01297_impl_errNoCone)] }
def FnExactIsRegularConeSaid : Prop := fnExactIsRegularConeRow.holds Tryd.pinned (OpenSpec.ofChange fnExactIsRegularConeSpec)

/-- ITS FALSE NEIGHBOUR: 'it returns false'. Refute it at one input. -/
def fnExactIsRegularConeWrong : ChangeSpec := { name := "fnExactIsRegularCone", vars := ["loop.example/g01297/impl.errNoCone", "loop.example/g01297/impl.errNoFraction"], fn := fun _ => fun
  | [d, g1, g2] => { results := [.lit (.bool false)], args := [d], vars := [g1, g2] }
  | _ => none }
def FnExactIsRegularConeWrongFalsely : Prop := fnExactIsRegularConeRow.holds Tryd.pinned (OpenSpec.ofChange fnExactIsRegularConeWrong)

/-- 'laws.FnExactBoxOf': WHATEVER THE INPUT: true; the input reads as it did. -/
def fnExactBoxOfSpec : ChangeSpec := { name := "fnExactBoxOf", vars := ["loop.example/g01297/impl.errNoCone", "loop.example/g01297/impl.errNoFraction"], fn := fun _ => fun
  | [d, g1, g2] => { results := [.lit (.bool true)], args := [d], vars := [g1, g2] }
  | _ => none }
def fnExactBoxOfRow : OpenClaim := { program := "ytjjblgmokmalaaadoor", sum := "fd9f29193cdbcf0c578ffbcc9da55fea57a57ade9c627f33b92b923c02397b3c", func := "loop.example/g01297/laws.FnExactBoxOf", spec := "fnExactBoxOf", inPlace := ["internal/reflectlite.TypeOf", "(*sync.WaitGroup).Add", "internal/race.ReleaseMerge", "internal/race.Disable", "internal/race.Enable", "internal/synctest.IsInBubble", "internal/synctest.Associate[sync.WaitGroup]", "sync.fatal", "sync/atomic.OrUint64", "sync/atomic.AddUint64", "internal/race.Read", "sync/atomic.LoadUint64", "sync/atomic.StoreUint64", "internal/synctest.Disassociate[sync.WaitGroup]", "sync.runtime_Semrelease", "(*sync.WaitGroup).Done", "(*sync.WaitGroup).Wait", "internal/race.Acquire", "internal/synctest.IsAssociated[sync.WaitGroup]", "sync/atomic.CompareAndSwapUint64", "internal/race.Write", "sync.runtime_SemacquireWaitGroup"], unfollowed := true, recurses := true, named := ["loop.example/g01297/impl.errNoCone", "loop.example/g01297/impl.errNoFraction"], ifaces := true, leaving := true, apart := false, laid := [("loop.example/g01297/impl.errNoFraction", laid_loop_example_g01297_impl_errNoFraction), ("loop.example/g01297/impl.errNoCone", laid_loop_example_g01297_impl_errNoCone)] }
def FnExactBoxOfSaid : Prop := fnExactBoxOfRow.holds Tryd.pinned (OpenSpec.ofChange fnExactBoxOfSpec)

/-- ITS FALSE NEIGHBOUR: 'it returns false'. Refute it at one input. -/
def fnExactBoxOfWrong : ChangeSpec := { name := "fnExactBoxOf", vars := ["loop.example/g01297/impl.errNoCone", "loop.example/g01297/impl.errNoFraction"], fn := fun _ => fun
  | [d, g1, g2] => { results := [.lit (.bool false)], args := [d], vars := [g1, g2] }
  | _ => none }
def FnExactBoxOfWrongFalsely : Prop := fnExactBoxOfRow.holds Tryd.pinned (OpenSpec.ofChange fnExactBoxOfWrong)

/-- 'laws.FnExactVolumeOf': WHATEVER THE INPUT: true; the input reads as it did. -/
def fnExactVolumeOfSpec : ChangeSpec := { name := "fnExactVolumeOf", vars := ["loop.example/g01297/impl.errNoTetra", "loop.example/g01297/impl.errNoFraction"], fn := fun _ => fun
  | [d, g1, g2] => { results := [.lit (.bool true)], args := [d], vars := [g1, g2] }
  | _ => none }
def fnExactVolumeOfRow : OpenClaim := { program := "ytjjblgmokmalaaadoor", sum := "fd9f29193cdbcf0c578ffbcc9da55fea57a57ade9c627f33b92b923c02397b3c", func := "loop.example/g01297/laws.FnExactVolumeOf", spec := "fnExactVolumeOf", inPlace := ["internal/reflectlite.TypeOf"], unfollowed := true, recurses := true, named := ["loop.example/g01297/impl.errNoTetra", "loop.example/g01297/impl.errNoFraction"], ifaces := true, leaving := true, apart := false, laid := [("loop.example/g01297/impl.errNoFraction", laid_loop_example_g01297_impl_errNoFraction), ("loop.example/g01297/impl.errNoTetra", laid_loop_example_g01297_impl_errNoTetra)] }
def FnExactVolumeOfSaid : Prop := fnExactVolumeOfRow.holds Tryd.pinned (OpenSpec.ofChange fnExactVolumeOfSpec)

/-- ITS FALSE NEIGHBOUR: 'it returns false'. Refute it at one input. -/
def fnExactVolumeOfWrong : ChangeSpec := { name := "fnExactVolumeOf", vars := ["loop.example/g01297/impl.errNoTetra", "loop.example/g01297/impl.errNoFraction"], fn := fun _ => fun
  | [d, g1, g2] => { results := [.lit (.bool false)], args := [d], vars := [g1, g2] }
  | _ => none }
def FnExactVolumeOfWrongFalsely : Prop := fnExactVolumeOfRow.holds Tryd.pinned (OpenSpec.ofChange fnExactVolumeOfWrong)

/-- 'laws.FnExactCountSpots': WHATEVER THE INPUT: true; the input reads as it did. -/
def fnExactCountSpotsSpec : ChangeSpec := { name := "fnExactCountSpots", vars := ["loop.example/g01297/impl.errNoTetra", "loop.example/g01297/impl.errNoFraction"], fn := fun _ => fun
  | [d, g1, g2] => { results := [.lit (.bool true)], args := [d], vars := [g1, g2] }
  | _ => none }
def fnExactCountSpotsRow : OpenClaim := { program := "ytjjblgmokmalaaadoor", sum := "fd9f29193cdbcf0c578ffbcc9da55fea57a57ade9c627f33b92b923c02397b3c", func := "loop.example/g01297/laws.FnExactCountSpots", spec := "fnExactCountSpots", inPlace := ["(*sync.WaitGroup).Add", "internal/race.ReleaseMerge", "internal/race.Disable", "internal/race.Enable", "internal/synctest.IsInBubble", "internal/synctest.Associate[sync.WaitGroup]", "sync.fatal", "sync/atomic.OrUint64", "sync/atomic.AddUint64", "internal/race.Read", "sync/atomic.LoadUint64", "sync/atomic.StoreUint64", "internal/synctest.Disassociate[sync.WaitGroup]", "sync.runtime_Semrelease", "(*sync.WaitGroup).Done", "(*sync.WaitGroup).Wait", "internal/race.Acquire", "internal/synctest.IsAssociated[sync.WaitGroup]", "sync/atomic.CompareAndSwapUint64", "internal/race.Write", "sync.runtime_SemacquireWaitGroup", "internal/reflectlite.TypeOf"], unfollowed := true, recurses := true, named := ["loop.example/g01297/impl.errNoTetra", "loop.example/g01297/impl.errNoFraction"], ifaces := true, leaving := true, apart := false, laid := [("loop.example/g01297/impl.errNoFraction", laid_loop_example_g01297_impl_errNoFraction), ("loop.example/g01297/impl.errNoTetra", laid_loop_example_g01297_impl_errNoTetra)] }
def FnExactCountSpotsSaid : Prop := fnExactCountSpotsRow.holds Tryd.pinned (OpenSpec.ofChange fnExactCountSpotsSpec)

/-- ITS FALSE NEIGHBOUR: 'it returns false'. Refute it at one input. -/
def fnExactCountSpotsWrong : ChangeSpec := { name := "fnExactCountSpots", vars := ["loop.example/g01297/impl.errNoTetra", "loop.example/g01297/impl.errNoFraction"], fn := fun _ => fun
  | [d, g1, g2] => { results := [.lit (.bool false)], args := [d], vars := [g1, g2] }
  | _ => none }
def FnExactCountSpotsWrongFalsely : Prop := fnExactCountSpotsRow.holds Tryd.pinned (OpenSpec.ofChange fnExactCountSpotsWrong)

/-- 'laws.FnExactIsEmptyTetra': WHATEVER THE INPUT: true; the input reads as it did. -/
def fnExactIsEmptyTetraSpec : ChangeSpec := { name := "fnExactIsEmptyTetra", vars := ["loop.example/g01297/impl.errNoTetra", "loop.example/g01297/impl.errNoFraction"], fn := fun _ => fun
  | [d, g1, g2] => { results := [.lit (.bool true)], args := [d], vars := [g1, g2] }
  | _ => none }
def fnExactIsEmptyTetraRow : OpenClaim := { program := "ytjjblgmokmalaaadoor", sum := "fd9f29193cdbcf0c578ffbcc9da55fea57a57ade9c627f33b92b923c02397b3c", func := "loop.example/g01297/laws.FnExactIsEmptyTetra", spec := "fnExactIsEmptyTetra", inPlace := ["(*sync.WaitGroup).Add", "internal/race.ReleaseMerge", "internal/race.Disable", "internal/race.Enable", "internal/synctest.IsInBubble", "internal/synctest.Associate[sync.WaitGroup]", "sync.fatal", "sync/atomic.OrUint64", "sync/atomic.AddUint64", "internal/race.Read", "sync/atomic.LoadUint64", "sync/atomic.StoreUint64", "internal/synctest.Disassociate[sync.WaitGroup]", "sync.runtime_Semrelease", "(*sync.WaitGroup).Done", "(*sync.WaitGroup).Wait", "internal/race.Acquire", "internal/synctest.IsAssociated[sync.WaitGroup]", "sync/atomic.CompareAndSwapUint64", "internal/race.Write", "sync.runtime_SemacquireWaitGroup", "internal/reflectlite.TypeOf"], unfollowed := true, recurses := true, named := ["loop.example/g01297/impl.errNoTetra", "loop.example/g01297/impl.errNoFraction"], ifaces := true, leaving := true, apart := false, laid := [("loop.example/g01297/impl.errNoFraction", laid_loop_example_g01297_impl_errNoFraction), ("loop.example/g01297/impl.errNoTetra", laid_loop_example_g01297_impl_errNoTetra)] }
def FnExactIsEmptyTetraSaid : Prop := fnExactIsEmptyTetraRow.holds Tryd.pinned (OpenSpec.ofChange fnExactIsEmptyTetraSpec)

/-- ITS FALSE NEIGHBOUR: 'it returns false'. Refute it at one input. -/
def fnExactIsEmptyTetraWrong : ChangeSpec := { name := "fnExactIsEmptyTetra", vars := ["loop.example/g01297/impl.errNoTetra", "loop.example/g01297/impl.errNoFraction"], fn := fun _ => fun
  | [d, g1, g2] => { results := [.lit (.bool false)], args := [d], vars := [g1, g2] }
  | _ => none }
def FnExactIsEmptyTetraWrongFalsely : Prop := fnExactIsEmptyTetraRow.holds Tryd.pinned (OpenSpec.ofChange fnExactIsEmptyTetraWrong)

/-- 'laws.FnExactDistanceOfSpot': WHATEVER THE INPUT: true; the input reads as it did. -/
def fnExactDistanceOfSpotSpec : ChangeSpec := { name := "fnExactDistanceOfSpot", vars := ["loop.example/g01297/impl.errNoSpot", "loop.example/g01297/impl.errNoFraction"], fn := fun _ => fun
  | [d1, d2, d3, d4, g1, g2] => { results := [.lit (.bool true)], args := [d1, d2, d3, d4], vars := [g1, g2] }
  | _ => none }
def fnExactDistanceOfSpotRow : OpenClaim := { program := "ytjjblgmokmalaaadoor", sum := "fd9f29193cdbcf0c578ffbcc9da55fea57a57ade9c627f33b92b923c02397b3c", func := "loop.example/g01297/laws.FnExactDistanceOfSpot", spec := "fnExactDistanceOfSpot", inPlace := ["internal/reflectlite.TypeOf"], unfollowed := true, recurses := true, named := ["loop.example/g01297/impl.errNoSpot", "loop.example/g01297/impl.errNoFraction"], ifaces := true, leaving := true, apart := false, laid := [("loop.example/g01297/impl.errNoFraction", laid_loop_example_g01297_impl_errNoFraction), ("loop.example/g01297/impl.errNoSpot", laid_loop_example_g01297_impl_errNoSpot)] }
def FnExactDistanceOfSpotSaid : Prop := fnExactDistanceOfSpotRow.holds Tryd.pinned (OpenSpec.ofChange fnExactDistanceOfSpotSpec)

/-- ITS FALSE NEIGHBOUR: 'it returns false'. Refute it at one input. -/
def fnExactDistanceOfSpotWrong : ChangeSpec := { name := "fnExactDistanceOfSpot", vars := ["loop.example/g01297/impl.errNoSpot", "loop.example/g01297/impl.errNoFraction"], fn := fun _ => fun
  | [d1, d2, d3, d4, g1, g2] => { results := [.lit (.bool false)], args := [d1, d2, d3, d4], vars := [g1, g2] }
  | _ => none }
def FnExactDistanceOfSpotWrongFalsely : Prop := fnExactDistanceOfSpotRow.holds Tryd.pinned (OpenSpec.ofChange fnExactDistanceOfSpotWrong)

/- THE SECOND FORM. 'bulk': how many values and letters a reading holds, each counted each time it is reached (what is shared counts as often as it is met; a slice's spare places count too). A statement '..UptoSaid' is the law's where the arguments, and the package variables that the reading takes, are together of bulk at most 1048576: NARROWER than '..Said'. Prove '..Said' where nothing that the law and all that it calls make is longer than what came in: it says more and counts as full. Else prove '..UptoSaid'. A law counts once. -/
mutual
def uptoBulk {H : Type} : DataW H → Nat
  | .lit (.string bytes) => bytes.length + 1
  | .lit _ => 1
  | .nil => 1
  | .ptr d => uptoBulk d + 1
  | .slice elems spare => uptoBulkAll elems + uptoBulkAll spare + 1
  | .agg parts => uptoBulkAll parts + 1
  | .iface _ d => uptoBulk d + 1
  | .map entries => uptoBulkEntries entries + 1
  | .held _ => 1
def uptoBulkAll {H : Type} : List (DataW H) → Nat
  | [] => 0
  | d :: r => uptoBulk d + uptoBulkAll r
def uptoBulkEntries {H : Type} : List (Lit × DataW H) → Nat
  | [] => 0
  | x :: r => uptoBulkEntry x + uptoBulkEntries r
def uptoBulkEntry {H : Type} : Lit × DataW H → Nat
  | (.string bytes, d) => bytes.length + uptoBulk d + 1
  | (_, d) => uptoBulk d + 1
 end
def uptoSmall : (H : Type) → List (DataW H) → Bool := fun _ ds => decide (uptoBulkAll ds ≤ 1048576)
def OpenSpec.upto (s : _root_.Go.ChangeSpec) : _root_.Go.OpenSpec := { _root_.Go.OpenSpec.ofChange s with cond := some uptoSmall }

/-- 'laws.FnExactCrossOf', WHERE WHAT IT READS IS OF BULK AT MOST 1048576: true; the input reads as it did. -/
def fnExactCrossOfUptoRow : OpenClaim := { program := "ytjjblgmokmalaaadoor", sum := "fd9f29193cdbcf0c578ffbcc9da55fea57a57ade9c627f33b92b923c02397b3c", func := "loop.example/g01297/laws.FnExactCrossOf", spec := "fnExactCrossOf", inPlace := ["internal/reflectlite.TypeOf"], unfollowed := true, recurses := true, named := ["loop.example/g01297/impl.errNoSpot", "loop.example/g01297/impl.errNoFraction"], ifaces := true, leaving := true, apart := false, laid := [("loop.example/g01297/impl.errNoFraction", laid_loop_example_g01297_impl_errNoFraction), ("loop.example/g01297/impl.errNoSpot", laid_loop_example_g01297_impl_errNoSpot)], narrowed := true }
def FnExactCrossOfUptoSaid : Prop := fnExactCrossOfUptoRow.holds Tryd.pinned (OpenSpec.upto fnExactCrossOfSpec)

/-- 'laws.FnExactDeterminantOfSpots', WHERE WHAT IT READS IS OF BULK AT MOST 1048576: true; the input reads as it did. -/
def fnExactDeterminantOfSpotsUptoRow : OpenClaim := { program := "ytjjblgmokmalaaadoor", sum := "fd9f29193cdbcf0c578ffbcc9da55fea57a57ade9c627f33b92b923c02397b3c", func := "loop.example/g01297/laws.FnExactDeterminantOfSpots", spec := "fnExactDeterminantOfSpots", inPlace := ["internal/reflectlite.TypeOf"], unfollowed := true, recurses := true, named := ["loop.example/g01297/impl.errNoSpot", "loop.example/g01297/impl.errNoFraction"], ifaces := true, leaving := true, apart := false, laid := [("loop.example/g01297/impl.errNoFraction", laid_loop_example_g01297_impl_errNoFraction), ("loop.example/g01297/impl.errNoSpot", laid_loop_example_g01297_impl_errNoSpot)], narrowed := true }
def FnExactDeterminantOfSpotsUptoSaid : Prop := fnExactDeterminantOfSpotsUptoRow.holds Tryd.pinned (OpenSpec.upto fnExactDeterminantOfSpotsSpec)

/-- 'laws.FnExactLengthOfSpot', WHERE WHAT IT READS IS OF BULK AT MOST 1048576: true; the input reads as it did. -/
def fnExactLengthOfSpotUptoRow : OpenClaim := { program := "ytjjblgmokmalaaadoor", sum := "fd9f29193cdbcf0c578ffbcc9da55fea57a57ade9c627f33b92b923c02397b3c", func := "loop.example/g01297/laws.FnExactLengthOfSpot", spec := "fnExactLengthOfSpot", inPlace := ["internal/reflectlite.TypeOf"], unfollowed := true, recurses := true, named := ["loop.example/g01297/impl.errNoSpot", "loop.example/g01297/impl.errNoFraction"], ifaces := true, leaving := true, apart := false, laid := [("loop.example/g01297/impl.errNoFraction", laid_loop_example_g01297_impl_errNoFraction), ("loop.example/g01297/impl.errNoSpot", laid_loop_example_g01297_impl_errNoSpot)], narrowed := true }
def FnExactLengthOfSpotUptoSaid : Prop := fnExactLengthOfSpotUptoRow.holds Tryd.pinned (OpenSpec.upto fnExactLengthOfSpotSpec)

/-- 'laws.FnExactCoordinatesIn', WHERE WHAT IT READS IS OF BULK AT MOST 1048576: true; the input reads as it did. -/
def fnExactCoordinatesInUptoRow : OpenClaim := { program := "ytjjblgmokmalaaadoor", sum := "fd9f29193cdbcf0c578ffbcc9da55fea57a57ade9c627f33b92b923c02397b3c", func := "loop.example/g01297/laws.FnExactCoordinatesIn", spec := "fnExactCoordinatesIn", inPlace := ["internal/reflectlite.TypeOf"], unfollowed := true, recurses := true, named := ["loop.example/g01297/impl.errNoCone", "loop.example/g01297/impl.errNoSpot", "loop.example/g01297/impl.errNoFraction"], ifaces := true, leaving := true, apart := false, laid := [("loop.example/g01297/impl.errNoFraction", laid_loop_example_g01297_impl_errNoFraction), ("loop.example/g01297/impl.errNoSpot", laid_loop_example_g01297_impl_errNoSpot), ("loop.example/g01297/impl.errNoCone", laid_loop_example_g01297_impl_errNoCone)], narrowed := true }
def FnExactCoordinatesInUptoSaid : Prop := fnExactCoordinatesInUptoRow.holds Tryd.pinned (OpenSpec.upto fnExactCoordinatesInSpec)

/-- 'laws.FnExactIsInCone', WHERE WHAT IT READS IS OF BULK AT MOST 1048576: true; the input reads as it did. -/
def fnExactIsInConeUptoRow : OpenClaim := { program := "ytjjblgmokmalaaadoor", sum := "fd9f29193cdbcf0c578ffbcc9da55fea57a57ade9c627f33b92b923c02397b3c", func := "loop.example/g01297/laws.FnExactIsInCone", spec := "fnExactIsInCone", inPlace := ["internal/reflectlite.TypeOf"], unfollowed := true, recurses := true, named := ["loop.example/g01297/impl.errNoCone", "loop.example/g01297/impl.errNoSpot", "loop.example/g01297/impl.errNoFraction"], ifaces := true, leaving := true, apart := false, laid := [("loop.example/g01297/impl.errNoFraction", laid_loop_example_g01297_impl_errNoFraction), ("loop.example/g01297/impl.errNoSpot", laid_loop_example_g01297_impl_errNoSpot), ("loop.example/g01297/impl.errNoCone", laid_loop_example_g01297_impl_errNoCone)], narrowed := true }
def FnExactIsInConeUptoSaid : Prop := fnExactIsInConeUptoRow.holds Tryd.pinned (OpenSpec.upto fnExactIsInConeSpec)

/-- 'laws.FnExactIsRegularCone', WHERE WHAT IT READS IS OF BULK AT MOST 1048576: true; the input reads as it did. -/
def fnExactIsRegularConeUptoRow : OpenClaim := { program := "ytjjblgmokmalaaadoor", sum := "fd9f29193cdbcf0c578ffbcc9da55fea57a57ade9c627f33b92b923c02397b3c", func := "loop.example/g01297/laws.FnExactIsRegularCone", spec := "fnExactIsRegularCone", inPlace := ["internal/reflectlite.TypeOf"], unfollowed := true, recurses := true, named := ["loop.example/g01297/impl.errNoCone", "loop.example/g01297/impl.errNoFraction"], ifaces := true, leaving := true, apart := false, laid := [("loop.example/g01297/impl.errNoFraction", laid_loop_example_g01297_impl_errNoFraction), ("loop.example/g01297/impl.errNoCone", laid_loop_example_g01297_impl_errNoCone)], narrowed := true }
def FnExactIsRegularConeUptoSaid : Prop := fnExactIsRegularConeUptoRow.holds Tryd.pinned (OpenSpec.upto fnExactIsRegularConeSpec)

/-- 'laws.FnExactBoxOf', WHERE WHAT IT READS IS OF BULK AT MOST 1048576: true; the input reads as it did. -/
def fnExactBoxOfUptoRow : OpenClaim := { program := "ytjjblgmokmalaaadoor", sum := "fd9f29193cdbcf0c578ffbcc9da55fea57a57ade9c627f33b92b923c02397b3c", func := "loop.example/g01297/laws.FnExactBoxOf", spec := "fnExactBoxOf", inPlace := ["internal/reflectlite.TypeOf", "(*sync.WaitGroup).Add", "internal/race.ReleaseMerge", "internal/race.Disable", "internal/race.Enable", "internal/synctest.IsInBubble", "internal/synctest.Associate[sync.WaitGroup]", "sync.fatal", "sync/atomic.OrUint64", "sync/atomic.AddUint64", "internal/race.Read", "sync/atomic.LoadUint64", "sync/atomic.StoreUint64", "internal/synctest.Disassociate[sync.WaitGroup]", "sync.runtime_Semrelease", "(*sync.WaitGroup).Done", "(*sync.WaitGroup).Wait", "internal/race.Acquire", "internal/synctest.IsAssociated[sync.WaitGroup]", "sync/atomic.CompareAndSwapUint64", "internal/race.Write", "sync.runtime_SemacquireWaitGroup"], unfollowed := true, recurses := true, named := ["loop.example/g01297/impl.errNoCone", "loop.example/g01297/impl.errNoFraction"], ifaces := true, leaving := true, apart := false, laid := [("loop.example/g01297/impl.errNoFraction", laid_loop_example_g01297_impl_errNoFraction), ("loop.example/g01297/impl.errNoCone", laid_loop_example_g01297_impl_errNoCone)], narrowed := true }
def FnExactBoxOfUptoSaid : Prop := fnExactBoxOfUptoRow.holds Tryd.pinned (OpenSpec.upto fnExactBoxOfSpec)

/-- 'laws.FnExactVolumeOf', WHERE WHAT IT READS IS OF BULK AT MOST 1048576: true; the input reads as it did. -/
def fnExactVolumeOfUptoRow : OpenClaim := { program := "ytjjblgmokmalaaadoor", sum := "fd9f29193cdbcf0c578ffbcc9da55fea57a57ade9c627f33b92b923c02397b3c", func := "loop.example/g01297/laws.FnExactVolumeOf", spec := "fnExactVolumeOf", inPlace := ["internal/reflectlite.TypeOf"], unfollowed := true, recurses := true, named := ["loop.example/g01297/impl.errNoTetra", "loop.example/g01297/impl.errNoFraction"], ifaces := true, leaving := true, apart := false, laid := [("loop.example/g01297/impl.errNoFraction", laid_loop_example_g01297_impl_errNoFraction), ("loop.example/g01297/impl.errNoTetra", laid_loop_example_g01297_impl_errNoTetra)], narrowed := true }
def FnExactVolumeOfUptoSaid : Prop := fnExactVolumeOfUptoRow.holds Tryd.pinned (OpenSpec.upto fnExactVolumeOfSpec)

/-- 'laws.FnExactCountSpots', WHERE WHAT IT READS IS OF BULK AT MOST 1048576: true; the input reads as it did. -/
def fnExactCountSpotsUptoRow : OpenClaim := { program := "ytjjblgmokmalaaadoor", sum := "fd9f29193cdbcf0c578ffbcc9da55fea57a57ade9c627f33b92b923c02397b3c", func := "loop.example/g01297/laws.FnExactCountSpots", spec := "fnExactCountSpots", inPlace := ["(*sync.WaitGroup).Add", "internal/race.ReleaseMerge", "internal/race.Disable", "internal/race.Enable", "internal/synctest.IsInBubble", "internal/synctest.Associate[sync.WaitGroup]", "sync.fatal", "sync/atomic.OrUint64", "sync/atomic.AddUint64", "internal/race.Read", "sync/atomic.LoadUint64", "sync/atomic.StoreUint64", "internal/synctest.Disassociate[sync.WaitGroup]", "sync.runtime_Semrelease", "(*sync.WaitGroup).Done", "(*sync.WaitGroup).Wait", "internal/race.Acquire", "internal/synctest.IsAssociated[sync.WaitGroup]", "sync/atomic.CompareAndSwapUint64", "internal/race.Write", "sync.runtime_SemacquireWaitGroup", "internal/reflectlite.TypeOf"], unfollowed := true, recurses := true, named := ["loop.example/g01297/impl.errNoTetra", "loop.example/g01297/impl.errNoFraction"], ifaces := true, leaving := true, apart := false, laid := [("loop.example/g01297/impl.errNoFraction", laid_loop_example_g01297_impl_errNoFraction), ("loop.example/g01297/impl.errNoTetra", laid_loop_example_g01297_impl_errNoTetra)], narrowed := true }
def FnExactCountSpotsUptoSaid : Prop := fnExactCountSpotsUptoRow.holds Tryd.pinned (OpenSpec.upto fnExactCountSpotsSpec)

/-- 'laws.FnExactIsEmptyTetra', WHERE WHAT IT READS IS OF BULK AT MOST 1048576: true; the input reads as it did. -/
def fnExactIsEmptyTetraUptoRow : OpenClaim := { program := "ytjjblgmokmalaaadoor", sum := "fd9f29193cdbcf0c578ffbcc9da55fea57a57ade9c627f33b92b923c02397b3c", func := "loop.example/g01297/laws.FnExactIsEmptyTetra", spec := "fnExactIsEmptyTetra", inPlace := ["(*sync.WaitGroup).Add", "internal/race.ReleaseMerge", "internal/race.Disable", "internal/race.Enable", "internal/synctest.IsInBubble", "internal/synctest.Associate[sync.WaitGroup]", "sync.fatal", "sync/atomic.OrUint64", "sync/atomic.AddUint64", "internal/race.Read", "sync/atomic.LoadUint64", "sync/atomic.StoreUint64", "internal/synctest.Disassociate[sync.WaitGroup]", "sync.runtime_Semrelease", "(*sync.WaitGroup).Done", "(*sync.WaitGroup).Wait", "internal/race.Acquire", "internal/synctest.IsAssociated[sync.WaitGroup]", "sync/atomic.CompareAndSwapUint64", "internal/race.Write", "sync.runtime_SemacquireWaitGroup", "internal/reflectlite.TypeOf"], unfollowed := true, recurses := true, named := ["loop.example/g01297/impl.errNoTetra", "loop.example/g01297/impl.errNoFraction"], ifaces := true, leaving := true, apart := false, laid := [("loop.example/g01297/impl.errNoFraction", laid_loop_example_g01297_impl_errNoFraction), ("loop.example/g01297/impl.errNoTetra", laid_loop_example_g01297_impl_errNoTetra)], narrowed := true }
def FnExactIsEmptyTetraUptoSaid : Prop := fnExactIsEmptyTetraUptoRow.holds Tryd.pinned (OpenSpec.upto fnExactIsEmptyTetraSpec)

/-- 'laws.FnExactDistanceOfSpot', WHERE WHAT IT READS IS OF BULK AT MOST 1048576: true; the input reads as it did. -/
def fnExactDistanceOfSpotUptoRow : OpenClaim := { program := "ytjjblgmokmalaaadoor", sum := "fd9f29193cdbcf0c578ffbcc9da55fea57a57ade9c627f33b92b923c02397b3c", func := "loop.example/g01297/laws.FnExactDistanceOfSpot", spec := "fnExactDistanceOfSpot", inPlace := ["internal/reflectlite.TypeOf"], unfollowed := true, recurses := true, named := ["loop.example/g01297/impl.errNoSpot", "loop.example/g01297/impl.errNoFraction"], ifaces := true, leaving := true, apart := false, laid := [("loop.example/g01297/impl.errNoFraction", laid_loop_example_g01297_impl_errNoFraction), ("loop.example/g01297/impl.errNoSpot", laid_loop_example_g01297_impl_errNoSpot)], narrowed := true }
def FnExactDistanceOfSpotUptoSaid : Prop := fnExactDistanceOfSpotUptoRow.holds Tryd.pinned (OpenSpec.upto fnExactDistanceOfSpotSpec)

end Rows
end Go.Proofs.YtjjblgmokmalaaaDoor
