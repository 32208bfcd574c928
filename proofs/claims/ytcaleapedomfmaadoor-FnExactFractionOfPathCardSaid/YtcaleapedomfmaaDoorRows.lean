/-
  NARROWER THAN 'FOR EVERY INPUT', by the rows' own cells (each row's printed sentence says how): FnExactAreNeighbours: ifaces, laid · FnExactSumOfNeighbours: ifaces, laid · FnExactDifferenceOfNeighbours: ifaces, laid · FnExactReflectFraction: ifaces, laid · FnExactParentsOf: ifaces, laid · FnExactPathOf: ifaces, laid · FnExactFractionOfPath: laid · FnExactFareyDistance: ifaces, laid · FnExactGeodesicOf: ifaces, laid · FnExactApplyToFraction: ifaces, laid.
  DERIVED. THE GIVEN ROWS OF THIS SEAT. 10 by the template 'for every input the law returns true; each argument reads behind the call as it read before'; 0 by the template 'total and deterministic' (their statements: YtcaleapedomfmaaDoorTotals.lean).
  GIVEN WITH THE SEED: the statements are not yours to turn. If you find one false, say at which input.
  Laid BY PROGRAM, IN A SANDBOX (cutbox-rows.mjs): the forced cells as the released guide's own fill.sh prints them over the translation d62919eec1fedb85… (all of the seat's roots in one cut). By AI agents, Wed Nov 11 2026. No macro, syntax, notation, axiom, sorry.
-/
import Derived.Test.YtcaleapedomfmaaDoorChecked
import GoSem.PinnedTables
import GoSem.Claim
import GoSem.ClaimJoined
import GoSem.ClaimMapViews
import Derived.JoinedTies
import Derived.KernelRfl
namespace Go.Proofs.YtcaleapedomfmaaDoor
/- THE CELL 'sum', in the pinned program and in every row, IS THE sha256 OF THE DUMP (.gsa) THAT YtcaleapedomfmaaDoorProg.lean LOADS. Nothing in Lean hashes anything: it is a label: what it is worth is what the hold of that sum in a sandbox is worth. -/
noncomputable def Tryd.pinned : Pinned := { name := "ytcaleapedomfmaadoor", sum := "d62919eec1fedb85c0c493a2dc4a77c5bd1bee555ed23003ad4bb290e8b99f51", checked := Tryd.checked }
namespace Rows
def none {H : Type} : Left H := { results := [], args := [] }

/- WHAT THE LISTED PACKAGE-LEVEL VARIABLES READ AS WHEN THE CALL BEGINS. Each datum BY PROGRAM (the guide's laid-datum.mjs) off the statement by which the dump's own 'gosem.cut.vars' lays the variable. In a bare row this is a premise. The card (YtcaleapedomfmaaDoorCards.lean) ties it to the program's text. -/
def laid_loop_example_g01297_impl_errNoPoint {H : Type} : DataW H := .iface "*errors.errorString" (.ptr (.agg [.lit (.string [110, 111, 116, 32, 97, 32, 112, 111, 105, 110, 116])]))
def laid_loop_example_g01297_impl_errNoFraction {H : Type} : DataW H := .iface "*errors.errorString" (.ptr (.agg [.lit (.string [110, 111, 116, 32, 97, 32, 102, 114, 97, 99, 116, 105, 111, 110])]))
def laid_unicode_utf8_acceptRanges {H : Type} : DataW H := .agg [.agg [.lit (.int .u8 128), .lit (.int .u8 191)], .agg [.lit (.int .u8 160), .lit (.int .u8 191)], .agg [.lit (.int .u8 128), .lit (.int .u8 159)], .agg [.lit (.int .u8 144), .lit (.int .u8 191)], .agg [.lit (.int .u8 128), .lit (.int .u8 143)], .agg [.lit (.int .u8 0), .lit (.int .u8 0)], .agg [.lit (.int .u8 0), .lit (.int .u8 0)], .agg [.lit (.int .u8 0), .lit (.int .u8 0)], .agg [.lit (.int .u8 0), .lit (.int .u8 0)], .agg [.lit (.int .u8 0), .lit (.int .u8 0)], .agg [.lit (.int .u8 0), .lit (.int .u8 0)], .agg [.lit (.int .u8 0), .lit (.int .u8 0)], .agg [.lit (.int .u8 0), .lit (.int .u8 0)], .agg [.lit (.int .u8 0), .lit (.int .u8 0)], .agg [.lit (.int .u8 0), .lit (.int .u8 0)], .agg [.lit (.int .u8 0), .lit (.int .u8 0)]]
/-- One of Go's own tables, pinned by name: the form's constant. -/
def laid_unicode_utf8_first : DataW Unit := Go.Pinned.utf8First

/-- 'laws.FnExactAreNeighbours': WHATEVER THE INPUT: true; the input reads as it did. -/
def fnExactAreNeighboursSpec : ChangeSpec := { name := "fnExactAreNeighbours", vars := ["loop.example/g01297/impl.errNoPoint", "loop.example/g01297/impl.errNoFraction"], fn := fun _ => fun
  | [d1, d2, g1, g2] => { results := [.lit (.bool true)], args := [d1, d2], vars := [g1, g2] }
  | _ => none }
def fnExactAreNeighboursRow : OpenClaim := { program := "ytcaleapedomfmaadoor", sum := "d62919eec1fedb85c0c493a2dc4a77c5bd1bee555ed23003ad4bb290e8b99f51", func := "loop.example/g01297/laws.FnExactAreNeighbours", spec := "fnExactAreNeighbours", inPlace := ["internal/reflectlite.TypeOf"], unfollowed := true, recurses := true, named := ["loop.example/g01297/impl.errNoPoint", "loop.example/g01297/impl.errNoFraction"], ifaces := true, plainKeys := false, apart := false, laid := [("loop.example/g01297/impl.errNoPoint", laid_loop_example_g01297_impl_errNoPoint), ("loop.example/g01297/impl.errNoFraction", laid_loop_example_g01297_impl_errNoFraction)] }
def FnExactAreNeighboursSaid : Prop := fnExactAreNeighboursRow.holds Tryd.pinned (OpenSpec.ofChange fnExactAreNeighboursSpec)

/-- ITS FALSE NEIGHBOUR: 'it returns false'. Refute it at one input. -/
def fnExactAreNeighboursWrong : ChangeSpec := { name := "fnExactAreNeighbours", vars := ["loop.example/g01297/impl.errNoPoint", "loop.example/g01297/impl.errNoFraction"], fn := fun _ => fun
  | [d1, d2, g1, g2] => { results := [.lit (.bool false)], args := [d1, d2], vars := [g1, g2] }
  | _ => none }
def FnExactAreNeighboursWrongFalsely : Prop := fnExactAreNeighboursRow.holds Tryd.pinned (OpenSpec.ofChange fnExactAreNeighboursWrong)

/-- 'laws.FnExactSumOfNeighbours': WHATEVER THE INPUT: true; the input reads as it did. -/
def fnExactSumOfNeighboursSpec : ChangeSpec := { name := "fnExactSumOfNeighbours", vars := ["loop.example/g01297/impl.errNoPoint", "loop.example/g01297/impl.errNoFraction"], fn := fun _ => fun
  | [d1, d2, g1, g2] => { results := [.lit (.bool true)], args := [d1, d2], vars := [g1, g2] }
  | _ => none }
def fnExactSumOfNeighboursRow : OpenClaim := { program := "ytcaleapedomfmaadoor", sum := "d62919eec1fedb85c0c493a2dc4a77c5bd1bee555ed23003ad4bb290e8b99f51", func := "loop.example/g01297/laws.FnExactSumOfNeighbours", spec := "fnExactSumOfNeighbours", inPlace := ["internal/reflectlite.TypeOf"], unfollowed := true, recurses := true, named := ["loop.example/g01297/impl.errNoPoint", "loop.example/g01297/impl.errNoFraction"], ifaces := true, plainKeys := false, apart := false, laid := [("loop.example/g01297/impl.errNoPoint", laid_loop_example_g01297_impl_errNoPoint), ("loop.example/g01297/impl.errNoFraction", laid_loop_example_g01297_impl_errNoFraction)] }
def FnExactSumOfNeighboursSaid : Prop := fnExactSumOfNeighboursRow.holds Tryd.pinned (OpenSpec.ofChange fnExactSumOfNeighboursSpec)

/-- ITS FALSE NEIGHBOUR: 'it returns false'. Refute it at one input. -/
def fnExactSumOfNeighboursWrong : ChangeSpec := { name := "fnExactSumOfNeighbours", vars := ["loop.example/g01297/impl.errNoPoint", "loop.example/g01297/impl.errNoFraction"], fn := fun _ => fun
  | [d1, d2, g1, g2] => { results := [.lit (.bool false)], args := [d1, d2], vars := [g1, g2] }
  | _ => none }
def FnExactSumOfNeighboursWrongFalsely : Prop := fnExactSumOfNeighboursRow.holds Tryd.pinned (OpenSpec.ofChange fnExactSumOfNeighboursWrong)

/-- 'laws.FnExactDifferenceOfNeighbours': WHATEVER THE INPUT: true; the input reads as it did. -/
def fnExactDifferenceOfNeighboursSpec : ChangeSpec := { name := "fnExactDifferenceOfNeighbours", vars := ["loop.example/g01297/impl.errNoPoint", "loop.example/g01297/impl.errNoFraction"], fn := fun _ => fun
  | [d1, d2, g1, g2] => { results := [.lit (.bool true)], args := [d1, d2], vars := [g1, g2] }
  | _ => none }
def fnExactDifferenceOfNeighboursRow : OpenClaim := { program := "ytcaleapedomfmaadoor", sum := "d62919eec1fedb85c0c493a2dc4a77c5bd1bee555ed23003ad4bb290e8b99f51", func := "loop.example/g01297/laws.FnExactDifferenceOfNeighbours", spec := "fnExactDifferenceOfNeighbours", inPlace := ["internal/reflectlite.TypeOf"], unfollowed := true, recurses := true, named := ["loop.example/g01297/impl.errNoPoint", "loop.example/g01297/impl.errNoFraction"], ifaces := true, plainKeys := false, apart := false, laid := [("loop.example/g01297/impl.errNoPoint", laid_loop_example_g01297_impl_errNoPoint), ("loop.example/g01297/impl.errNoFraction", laid_loop_example_g01297_impl_errNoFraction)] }
def FnExactDifferenceOfNeighboursSaid : Prop := fnExactDifferenceOfNeighboursRow.holds Tryd.pinned (OpenSpec.ofChange fnExactDifferenceOfNeighboursSpec)

/-- ITS FALSE NEIGHBOUR: 'it returns false'. Refute it at one input. -/
def fnExactDifferenceOfNeighboursWrong : ChangeSpec := { name := "fnExactDifferenceOfNeighbours", vars := ["loop.example/g01297/impl.errNoPoint", "loop.example/g01297/impl.errNoFraction"], fn := fun _ => fun
  | [d1, d2, g1, g2] => { results := [.lit (.bool false)], args := [d1, d2], vars := [g1, g2] }
  | _ => none }
def FnExactDifferenceOfNeighboursWrongFalsely : Prop := fnExactDifferenceOfNeighboursRow.holds Tryd.pinned (OpenSpec.ofChange fnExactDifferenceOfNeighboursWrong)

/-- 'laws.FnExactReflectFraction': WHATEVER THE INPUT: true; the input reads as it did. -/
def fnExactReflectFractionSpec : ChangeSpec := { name := "fnExactReflectFraction", vars := ["loop.example/g01297/impl.errNoPoint", "loop.example/g01297/impl.errNoFraction"], fn := fun _ => fun
  | [d1, d2, d3, g1, g2] => { results := [.lit (.bool true)], args := [d1, d2, d3], vars := [g1, g2] }
  | _ => none }
def fnExactReflectFractionRow : OpenClaim := { program := "ytcaleapedomfmaadoor", sum := "d62919eec1fedb85c0c493a2dc4a77c5bd1bee555ed23003ad4bb290e8b99f51", func := "loop.example/g01297/laws.FnExactReflectFraction", spec := "fnExactReflectFraction", inPlace := ["internal/reflectlite.TypeOf"], unfollowed := true, recurses := true, named := ["loop.example/g01297/impl.errNoPoint", "loop.example/g01297/impl.errNoFraction"], ifaces := true, plainKeys := false, apart := false, laid := [("loop.example/g01297/impl.errNoPoint", laid_loop_example_g01297_impl_errNoPoint), ("loop.example/g01297/impl.errNoFraction", laid_loop_example_g01297_impl_errNoFraction)] }
def FnExactReflectFractionSaid : Prop := fnExactReflectFractionRow.holds Tryd.pinned (OpenSpec.ofChange fnExactReflectFractionSpec)

/-- ITS FALSE NEIGHBOUR: 'it returns false'. Refute it at one input. -/
def fnExactReflectFractionWrong : ChangeSpec := { name := "fnExactReflectFraction", vars := ["loop.example/g01297/impl.errNoPoint", "loop.example/g01297/impl.errNoFraction"], fn := fun _ => fun
  | [d1, d2, d3, g1, g2] => { results := [.lit (.bool false)], args := [d1, d2, d3], vars := [g1, g2] }
  | _ => none }
def FnExactReflectFractionWrongFalsely : Prop := fnExactReflectFractionRow.holds Tryd.pinned (OpenSpec.ofChange fnExactReflectFractionWrong)

/-- 'laws.FnExactParentsOf': WHATEVER THE INPUT: true; the input reads as it did. -/
def fnExactParentsOfSpec : ChangeSpec := { name := "fnExactParentsOf", vars := ["loop.example/g01297/impl.errNoPoint", "loop.example/g01297/impl.errNoFraction"], fn := fun _ => fun
  | [d, g1, g2] => { results := [.lit (.bool true)], args := [d], vars := [g1, g2] }
  | _ => none }
def fnExactParentsOfRow : OpenClaim := { program := "ytcaleapedomfmaadoor", sum := "d62919eec1fedb85c0c493a2dc4a77c5bd1bee555ed23003ad4bb290e8b99f51", func := "loop.example/g01297/laws.FnExactParentsOf", spec := "fnExactParentsOf", inPlace := ["internal/reflectlite.TypeOf"], unfollowed := true, recurses := true, named := ["loop.example/g01297/impl.errNoPoint", "loop.example/g01297/impl.errNoFraction"], ifaces := true, plainKeys := false, apart := false, laid := [("loop.example/g01297/impl.errNoPoint", laid_loop_example_g01297_impl_errNoPoint), ("loop.example/g01297/impl.errNoFraction", laid_loop_example_g01297_impl_errNoFraction)] }
def FnExactParentsOfSaid : Prop := fnExactParentsOfRow.holds Tryd.pinned (OpenSpec.ofChange fnExactParentsOfSpec)

/-- ITS FALSE NEIGHBOUR: 'it returns false'. Refute it at one input. -/
def fnExactParentsOfWrong : ChangeSpec := { name := "fnExactParentsOf", vars := ["loop.example/g01297/impl.errNoPoint", "loop.example/g01297/impl.errNoFraction"], fn := fun _ => fun
  | [d, g1, g2] => { results := [.lit (.bool false)], args := [d], vars := [g1, g2] }
  | _ => none }
def FnExactParentsOfWrongFalsely : Prop := fnExactParentsOfRow.holds Tryd.pinned (OpenSpec.ofChange fnExactParentsOfWrong)

/-- 'laws.FnExactPathOf': WHATEVER THE INPUT: true; the input reads as it did. -/
def fnExactPathOfSpec : ChangeSpec := { name := "fnExactPathOf", vars := ["loop.example/g01297/impl.errNoPoint", "loop.example/g01297/impl.errNoFraction"], fn := fun _ => fun
  | [d, g1, g2] => { results := [.lit (.bool true)], args := [d], vars := [g1, g2] }
  | _ => none }
def fnExactPathOfRow : OpenClaim := { program := "ytcaleapedomfmaadoor", sum := "d62919eec1fedb85c0c493a2dc4a77c5bd1bee555ed23003ad4bb290e8b99f51", func := "loop.example/g01297/laws.FnExactPathOf", spec := "fnExactPathOf", inPlace := ["internal/reflectlite.TypeOf"], unfollowed := true, recurses := true, named := ["loop.example/g01297/impl.errNoPoint", "loop.example/g01297/impl.errNoFraction"], ifaces := true, plainKeys := false, apart := false, laid := [("loop.example/g01297/impl.errNoPoint", laid_loop_example_g01297_impl_errNoPoint), ("loop.example/g01297/impl.errNoFraction", laid_loop_example_g01297_impl_errNoFraction)] }
def FnExactPathOfSaid : Prop := fnExactPathOfRow.holds Tryd.pinned (OpenSpec.ofChange fnExactPathOfSpec)

/-- ITS FALSE NEIGHBOUR: 'it returns false'. Refute it at one input. -/
def fnExactPathOfWrong : ChangeSpec := { name := "fnExactPathOf", vars := ["loop.example/g01297/impl.errNoPoint", "loop.example/g01297/impl.errNoFraction"], fn := fun _ => fun
  | [d, g1, g2] => { results := [.lit (.bool false)], args := [d], vars := [g1, g2] }
  | _ => none }
def FnExactPathOfWrongFalsely : Prop := fnExactPathOfRow.holds Tryd.pinned (OpenSpec.ofChange fnExactPathOfWrong)

/-- 'laws.FnExactFractionOfPath': WHATEVER THE INPUT: true; the input reads as it did. -/
def fnExactFractionOfPathSpec : ChangeSpec := { name := "fnExactFractionOfPath", fn := fun _ => fun
  | [d] => { results := [.lit (.bool true)], args := [d] }
  | _ => none }
def fnExactFractionOfPathRow : OpenClaim := { program := "ytcaleapedomfmaadoor", sum := "d62919eec1fedb85c0c493a2dc4a77c5bd1bee555ed23003ad4bb290e8b99f51", func := "loop.example/g01297/laws.FnExactFractionOfPath", spec := "fnExactFractionOfPath", inPlace := ["internal/bytealg.IndexByteString", "internal/bytealg.IndexString"], unfollowed := true, recurses := true, named := ["unicode/utf8.first", "unicode/utf8.acceptRanges", "internal/bytealg.MaxLen"], plainKeys := false, apart := false, laid := [("unicode/utf8.acceptRanges", laid_unicode_utf8_acceptRanges), ("unicode/utf8.first", laid_unicode_utf8_first)] }
def FnExactFractionOfPathSaid : Prop := fnExactFractionOfPathRow.holds Tryd.pinned (OpenSpec.ofChange fnExactFractionOfPathSpec)

/-- ITS FALSE NEIGHBOUR: 'it returns false'. Refute it at one input. -/
def fnExactFractionOfPathWrong : ChangeSpec := { name := "fnExactFractionOfPath", fn := fun _ => fun
  | [d] => { results := [.lit (.bool false)], args := [d] }
  | _ => none }
def FnExactFractionOfPathWrongFalsely : Prop := fnExactFractionOfPathRow.holds Tryd.pinned (OpenSpec.ofChange fnExactFractionOfPathWrong)

/-- 'laws.FnExactFareyDistance': WHATEVER THE INPUT: true; the input reads as it did. -/
def fnExactFareyDistanceSpec : ChangeSpec := { name := "fnExactFareyDistance", vars := ["loop.example/g01297/impl.errNoPoint", "loop.example/g01297/impl.errNoFraction"], fn := fun _ => fun
  | [d1, d2, g1, g2] => { results := [.lit (.bool true)], args := [d1, d2], vars := [g1, g2] }
  | _ => none }
def fnExactFareyDistanceRow : OpenClaim := { program := "ytcaleapedomfmaadoor", sum := "d62919eec1fedb85c0c493a2dc4a77c5bd1bee555ed23003ad4bb290e8b99f51", func := "loop.example/g01297/laws.FnExactFareyDistance", spec := "fnExactFareyDistance", inPlace := ["internal/reflectlite.TypeOf"], unfollowed := true, recurses := true, named := ["loop.example/g01297/impl.errNoPoint", "loop.example/g01297/impl.errNoFraction"], ifaces := true, plainKeys := false, apart := false, laid := [("loop.example/g01297/impl.errNoPoint", laid_loop_example_g01297_impl_errNoPoint), ("loop.example/g01297/impl.errNoFraction", laid_loop_example_g01297_impl_errNoFraction)] }
def FnExactFareyDistanceSaid : Prop := fnExactFareyDistanceRow.holds Tryd.pinned (OpenSpec.ofChange fnExactFareyDistanceSpec)

/-- ITS FALSE NEIGHBOUR: 'it returns false'. Refute it at one input. -/
def fnExactFareyDistanceWrong : ChangeSpec := { name := "fnExactFareyDistance", vars := ["loop.example/g01297/impl.errNoPoint", "loop.example/g01297/impl.errNoFraction"], fn := fun _ => fun
  | [d1, d2, g1, g2] => { results := [.lit (.bool false)], args := [d1, d2], vars := [g1, g2] }
  | _ => none }
def FnExactFareyDistanceWrongFalsely : Prop := fnExactFareyDistanceRow.holds Tryd.pinned (OpenSpec.ofChange fnExactFareyDistanceWrong)

/-- 'laws.FnExactGeodesicOf': WHATEVER THE INPUT: true; the input reads as it did. -/
def fnExactGeodesicOfSpec : ChangeSpec := { name := "fnExactGeodesicOf", vars := ["loop.example/g01297/impl.errNoPoint", "loop.example/g01297/impl.errNoFraction"], fn := fun _ => fun
  | [d1, d2, g1, g2] => { results := [.lit (.bool true)], args := [d1, d2], vars := [g1, g2] }
  | _ => none }
def fnExactGeodesicOfRow : OpenClaim := { program := "ytcaleapedomfmaadoor", sum := "d62919eec1fedb85c0c493a2dc4a77c5bd1bee555ed23003ad4bb290e8b99f51", func := "loop.example/g01297/laws.FnExactGeodesicOf", spec := "fnExactGeodesicOf", inPlace := ["internal/reflectlite.TypeOf"], unfollowed := true, recurses := true, named := ["loop.example/g01297/impl.errNoPoint", "loop.example/g01297/impl.errNoFraction"], ifaces := true, plainKeys := false, apart := false, laid := [("loop.example/g01297/impl.errNoPoint", laid_loop_example_g01297_impl_errNoPoint), ("loop.example/g01297/impl.errNoFraction", laid_loop_example_g01297_impl_errNoFraction)] }
def FnExactGeodesicOfSaid : Prop := fnExactGeodesicOfRow.holds Tryd.pinned (OpenSpec.ofChange fnExactGeodesicOfSpec)

/-- ITS FALSE NEIGHBOUR: 'it returns false'. Refute it at one input. -/
def fnExactGeodesicOfWrong : ChangeSpec := { name := "fnExactGeodesicOf", vars := ["loop.example/g01297/impl.errNoPoint", "loop.example/g01297/impl.errNoFraction"], fn := fun _ => fun
  | [d1, d2, g1, g2] => { results := [.lit (.bool false)], args := [d1, d2], vars := [g1, g2] }
  | _ => none }
def FnExactGeodesicOfWrongFalsely : Prop := fnExactGeodesicOfRow.holds Tryd.pinned (OpenSpec.ofChange fnExactGeodesicOfWrong)

/-- 'laws.FnExactApplyToFraction': WHATEVER THE INPUT: true; the input reads as it did. -/
def fnExactApplyToFractionSpec : ChangeSpec := { name := "fnExactApplyToFraction", vars := ["loop.example/g01297/impl.errNoPoint", "loop.example/g01297/impl.errNoFraction"], fn := fun _ => fun
  | [d1, d2, g1, g2] => { results := [.lit (.bool true)], args := [d1, d2], vars := [g1, g2] }
  | _ => none }
def fnExactApplyToFractionRow : OpenClaim := { program := "ytcaleapedomfmaadoor", sum := "d62919eec1fedb85c0c493a2dc4a77c5bd1bee555ed23003ad4bb290e8b99f51", func := "loop.example/g01297/laws.FnExactApplyToFraction", spec := "fnExactApplyToFraction", inPlace := ["internal/reflectlite.TypeOf"], unfollowed := true, recurses := true, named := ["loop.example/g01297/impl.errNoPoint", "loop.example/g01297/impl.errNoFraction"], ifaces := true, plainKeys := false, apart := false, laid := [("loop.example/g01297/impl.errNoPoint", laid_loop_example_g01297_impl_errNoPoint), ("loop.example/g01297/impl.errNoFraction", laid_loop_example_g01297_impl_errNoFraction)] }
def FnExactApplyToFractionSaid : Prop := fnExactApplyToFractionRow.holds Tryd.pinned (OpenSpec.ofChange fnExactApplyToFractionSpec)

/-- ITS FALSE NEIGHBOUR: 'it returns false'. Refute it at one input. -/
def fnExactApplyToFractionWrong : ChangeSpec := { name := "fnExactApplyToFraction", vars := ["loop.example/g01297/impl.errNoPoint", "loop.example/g01297/impl.errNoFraction"], fn := fun _ => fun
  | [d1, d2, g1, g2] => { results := [.lit (.bool false)], args := [d1, d2], vars := [g1, g2] }
  | _ => none }
def FnExactApplyToFractionWrongFalsely : Prop := fnExactApplyToFractionRow.holds Tryd.pinned (OpenSpec.ofChange fnExactApplyToFractionWrong)

/- THE SECOND FORM. 'bulk': how many values and letters a reading holds, each counted each time it is reached (what is shared counts as often as it is met; a slice's spare places count too). A statement '..UptoSaid' is the law's where the arguments, and the package variables that the reading takes, are together of bulk at most 1048576: NARROWER than '..Said'. Prove '..Said' where nothing that the law and all that it calls make is longer than what came in: it says more and counts as full. Else prove '..UptoSaid'. A law counts once. -/
mutual
def uptoBulk {H : Type} : DataW H → Nat
  | .lit (.string bytes) => bytes.length + 1
  | .lit _ => 1
  | .nil => 1
  | .ptr d => uptoBulk d + 1
  | .slice elems spare => uptoBulkAll elems + uptoBulkAll spare + 1
  | .agg parts => uptoBulkAll parts + 1
  | .iface _ d => uptoBulk d + 1
  | .map entries => uptoBulkEntries entries + 1
  | .held _ => 1
def uptoBulkAll {H : Type} : List (DataW H) → Nat
  | [] => 0
  | d :: r => uptoBulk d + uptoBulkAll r
def uptoBulkEntries {H : Type} : List (Lit × DataW H) → Nat
  | [] => 0
  | x :: r => uptoBulkEntry x + uptoBulkEntries r
def uptoBulkEntry {H : Type} : Lit × DataW H → Nat
  | (.string bytes, d) => bytes.length + uptoBulk d + 1
  | (_, d) => uptoBulk d + 1
 end
def uptoSmall : (H : Type) → List (DataW H) → Bool := fun _ ds => decide (uptoBulkAll ds ≤ 1048576)
def OpenSpec.upto (s : _root_.Go.ChangeSpec) : _root_.Go.OpenSpec := { _root_.Go.OpenSpec.ofChange s with cond := some uptoSmall }

/-- 'laws.FnExactAreNeighbours', WHERE WHAT IT READS IS OF BULK AT MOST 1048576: true; the input reads as it did. -/
def fnExactAreNeighboursUptoRow : OpenClaim := { program := "ytcaleapedomfmaadoor", sum := "d62919eec1fedb85c0c493a2dc4a77c5bd1bee555ed23003ad4bb290e8b99f51", func := "loop.example/g01297/laws.FnExactAreNeighbours", spec := "fnExactAreNeighbours", inPlace := ["internal/reflectlite.TypeOf"], unfollowed := true, recurses := true, named := ["loop.example/g01297/impl.errNoPoint", "loop.example/g01297/impl.errNoFraction"], ifaces := true, plainKeys := false, apart := false, laid := [("loop.example/g01297/impl.errNoPoint", laid_loop_example_g01297_impl_errNoPoint), ("loop.example/g01297/impl.errNoFraction", laid_loop_example_g01297_impl_errNoFraction)], narrowed := true }
def FnExactAreNeighboursUptoSaid : Prop := fnExactAreNeighboursUptoRow.holds Tryd.pinned (OpenSpec.upto fnExactAreNeighboursSpec)

/-- 'laws.FnExactSumOfNeighbours', WHERE WHAT IT READS IS OF BULK AT MOST 1048576: true; the input reads as it did. -/
def fnExactSumOfNeighboursUptoRow : OpenClaim := { program := "ytcaleapedomfmaadoor", sum := "d62919eec1fedb85c0c493a2dc4a77c5bd1bee555ed23003ad4bb290e8b99f51", func := "loop.example/g01297/laws.FnExactSumOfNeighbours", spec := "fnExactSumOfNeighbours", inPlace := ["internal/reflectlite.TypeOf"], unfollowed := true, recurses := true, named := ["loop.example/g01297/impl.errNoPoint", "loop.example/g01297/impl.errNoFraction"], ifaces := true, plainKeys := false, apart := false, laid := [("loop.example/g01297/impl.errNoPoint", laid_loop_example_g01297_impl_errNoPoint), ("loop.example/g01297/impl.errNoFraction", laid_loop_example_g01297_impl_errNoFraction)], narrowed := true }
def FnExactSumOfNeighboursUptoSaid : Prop := fnExactSumOfNeighboursUptoRow.holds Tryd.pinned (OpenSpec.upto fnExactSumOfNeighboursSpec)

/-- 'laws.FnExactDifferenceOfNeighbours', WHERE WHAT IT READS IS OF BULK AT MOST 1048576: true; the input reads as it did. -/
def fnExactDifferenceOfNeighboursUptoRow : OpenClaim := { program := "ytcaleapedomfmaadoor", sum := "d62919eec1fedb85c0c493a2dc4a77c5bd1bee555ed23003ad4bb290e8b99f51", func := "loop.example/g01297/laws.FnExactDifferenceOfNeighbours", spec := "fnExactDifferenceOfNeighbours", inPlace := ["internal/reflectlite.TypeOf"], unfollowed := true, recurses := true, named := ["loop.example/g01297/impl.errNoPoint", "loop.example/g01297/impl.errNoFraction"], ifaces := true, plainKeys := false, apart := false, laid := [("loop.example/g01297/impl.errNoPoint", laid_loop_example_g01297_impl_errNoPoint), ("loop.example/g01297/impl.errNoFraction", laid_loop_example_g01297_impl_errNoFraction)], narrowed := true }
def FnExactDifferenceOfNeighboursUptoSaid : Prop := fnExactDifferenceOfNeighboursUptoRow.holds Tryd.pinned (OpenSpec.upto fnExactDifferenceOfNeighboursSpec)

/-- 'laws.FnExactReflectFraction', WHERE WHAT IT READS IS OF BULK AT MOST 1048576: true; the input reads as it did. -/
def fnExactReflectFractionUptoRow : OpenClaim := { program := "ytcaleapedomfmaadoor", sum := "d62919eec1fedb85c0c493a2dc4a77c5bd1bee555ed23003ad4bb290e8b99f51", func := "loop.example/g01297/laws.FnExactReflectFraction", spec := "fnExactReflectFraction", inPlace := ["internal/reflectlite.TypeOf"], unfollowed := true, recurses := true, named := ["loop.example/g01297/impl.errNoPoint", "loop.example/g01297/impl.errNoFraction"], ifaces := true, plainKeys := false, apart := false, laid := [("loop.example/g01297/impl.errNoPoint", laid_loop_example_g01297_impl_errNoPoint), ("loop.example/g01297/impl.errNoFraction", laid_loop_example_g01297_impl_errNoFraction)], narrowed := true }
def FnExactReflectFractionUptoSaid : Prop := fnExactReflectFractionUptoRow.holds Tryd.pinned (OpenSpec.upto fnExactReflectFractionSpec)

/-- 'laws.FnExactParentsOf', WHERE WHAT IT READS IS OF BULK AT MOST 1048576: true; the input reads as it did. -/
def fnExactParentsOfUptoRow : OpenClaim := { program := "ytcaleapedomfmaadoor", sum := "d62919eec1fedb85c0c493a2dc4a77c5bd1bee555ed23003ad4bb290e8b99f51", func := "loop.example/g01297/laws.FnExactParentsOf", spec := "fnExactParentsOf", inPlace := ["internal/reflectlite.TypeOf"], unfollowed := true, recurses := true, named := ["loop.example/g01297/impl.errNoPoint", "loop.example/g01297/impl.errNoFraction"], ifaces := true, plainKeys := false, apart := false, laid := [("loop.example/g01297/impl.errNoPoint", laid_loop_example_g01297_impl_errNoPoint), ("loop.example/g01297/impl.errNoFraction", laid_loop_example_g01297_impl_errNoFraction)], narrowed := true }
def FnExactParentsOfUptoSaid : Prop := fnExactParentsOfUptoRow.holds Tryd.pinned (OpenSpec.upto fnExactParentsOfSpec)

/-- 'laws.FnExactPathOf', WHERE WHAT IT READS IS OF BULK AT MOST 1048576: true; the input reads as it did. -/
def fnExactPathOfUptoRow : OpenClaim := { program := "ytcaleapedomfmaadoor", sum := "d62919eec1fedb85c0c493a2dc4a77c5bd1bee555ed23003ad4bb290e8b99f51", func := "loop.example/g01297/laws.FnExactPathOf", spec := "fnExactPathOf", inPlace := ["internal/reflectlite.TypeOf"], unfollowed := true, recurses := true, named := ["loop.example/g01297/impl.errNoPoint", "loop.example/g01297/impl.errNoFraction"], ifaces := true, plainKeys := false, apart := false, laid := [("loop.example/g01297/impl.errNoPoint", laid_loop_example_g01297_impl_errNoPoint), ("loop.example/g01297/impl.errNoFraction", laid_loop_example_g01297_impl_errNoFraction)], narrowed := true }
def FnExactPathOfUptoSaid : Prop := fnExactPathOfUptoRow.holds Tryd.pinned (OpenSpec.upto fnExactPathOfSpec)

/-- 'laws.FnExactFractionOfPath', WHERE WHAT IT READS IS OF BULK AT MOST 1048576: true; the input reads as it did. -/
def fnExactFractionOfPathUptoRow : OpenClaim := { program := "ytcaleapedomfmaadoor", sum := "d62919eec1fedb85c0c493a2dc4a77c5bd1bee555ed23003ad4bb290e8b99f51", func := "loop.example/g01297/laws.FnExactFractionOfPath", spec := "fnExactFractionOfPath", inPlace := ["internal/bytealg.IndexByteString", "internal/bytealg.IndexString"], unfollowed := true, recurses := true, named := ["unicode/utf8.first", "unicode/utf8.acceptRanges", "internal/bytealg.MaxLen"], plainKeys := false, apart := false, laid := [("unicode/utf8.acceptRanges", laid_unicode_utf8_acceptRanges), ("unicode/utf8.first", laid_unicode_utf8_first)], narrowed := true }
def FnExactFractionOfPathUptoSaid : Prop := fnExactFractionOfPathUptoRow.holds Tryd.pinned (OpenSpec.upto fnExactFractionOfPathSpec)

/-- 'laws.FnExactFareyDistance', WHERE WHAT IT READS IS OF BULK AT MOST 1048576: true; the input reads as it did. -/
def fnExactFareyDistanceUptoRow : OpenClaim := { program := "ytcaleapedomfmaadoor", sum := "d62919eec1fedb85c0c493a2dc4a77c5bd1bee555ed23003ad4bb290e8b99f51", func := "loop.example/g01297/laws.FnExactFareyDistance", spec := "fnExactFareyDistance", inPlace := ["internal/reflectlite.TypeOf"], unfollowed := true, recurses := true, named := ["loop.example/g01297/impl.errNoPoint", "loop.example/g01297/impl.errNoFraction"], ifaces := true, plainKeys := false, apart := false, laid := [("loop.example/g01297/impl.errNoPoint", laid_loop_example_g01297_impl_errNoPoint), ("loop.example/g01297/impl.errNoFraction", laid_loop_example_g01297_impl_errNoFraction)], narrowed := true }
def FnExactFareyDistanceUptoSaid : Prop := fnExactFareyDistanceUptoRow.holds Tryd.pinned (OpenSpec.upto fnExactFareyDistanceSpec)

/-- 'laws.FnExactGeodesicOf', WHERE WHAT IT READS IS OF BULK AT MOST 1048576: true; the input reads as it did. -/
def fnExactGeodesicOfUptoRow : OpenClaim := { program := "ytcaleapedomfmaadoor", sum := "d62919eec1fedb85c0c493a2dc4a77c5bd1bee555ed23003ad4bb290e8b99f51", func := "loop.example/g01297/laws.FnExactGeodesicOf", spec := "fnExactGeodesicOf", inPlace := ["internal/reflectlite.TypeOf"], unfollowed := true, recurses := true, named := ["loop.example/g01297/impl.errNoPoint", "loop.example/g01297/impl.errNoFraction"], ifaces := true, plainKeys := false, apart := false, laid := [("loop.example/g01297/impl.errNoPoint", laid_loop_example_g01297_impl_errNoPoint), ("loop.example/g01297/impl.errNoFraction", laid_loop_example_g01297_impl_errNoFraction)], narrowed := true }
def FnExactGeodesicOfUptoSaid : Prop := fnExactGeodesicOfUptoRow.holds Tryd.pinned (OpenSpec.upto fnExactGeodesicOfSpec)

/-- 'laws.FnExactApplyToFraction', WHERE WHAT IT READS IS OF BULK AT MOST 1048576: true; the input reads as it did. -/
def fnExactApplyToFractionUptoRow : OpenClaim := { program := "ytcaleapedomfmaadoor", sum := "d62919eec1fedb85c0c493a2dc4a77c5bd1bee555ed23003ad4bb290e8b99f51", func := "loop.example/g01297/laws.FnExactApplyToFraction", spec := "fnExactApplyToFraction", inPlace := ["internal/reflectlite.TypeOf"], unfollowed := true, recurses := true, named := ["loop.example/g01297/impl.errNoPoint", "loop.example/g01297/impl.errNoFraction"], ifaces := true, plainKeys := false, apart := false, laid := [("loop.example/g01297/impl.errNoPoint", laid_loop_example_g01297_impl_errNoPoint), ("loop.example/g01297/impl.errNoFraction", laid_loop_example_g01297_impl_errNoFraction)], narrowed := true }
def FnExactApplyToFractionUptoSaid : Prop := fnExactApplyToFractionUptoRow.holds Tryd.pinned (OpenSpec.upto fnExactApplyToFractionSpec)

end Rows
end Go.Proofs.YtcaleapedomfmaaDoor
