/-
  No cell of these rows narrows 'for every input' (looked for: loops, veiled, ifaces, maps, wideKeys, modest, calm, conditions, laid).
  DERIVED. THE GIVEN ROWS OF THIS SEAT. 14 by the template 'for every input the law returns true; each argument reads behind the call as it read before'; 0 by the template 'total and deterministic' (their statements: YtkfoelkkllpmdaaTotals.lean).
  GIVEN WITH THE SEED: the statements are not yours to turn. If you find one false, say at which input.
  Laid BY PROGRAM, IN A SANDBOX (cutbox-rows.mjs): the forced cells as the released guide's own fill.sh prints them over the translation cdab0740489b2f2c… (all of the seat's roots in one cut). By AI agents, Wed Nov 11 2026. No macro, syntax, notation, axiom, sorry.
-/
import Derived.Test.YtkfoelkkllpmdaaChecked
import GoSem.Claim
import GoSem.ClaimJoined
import GoSem.ClaimMapViews
import Derived.JoinedTies
import Derived.KernelRfl
namespace Go.Proofs.Ytkfoelkkllpmdaa
/- THE CELL 'sum', in the pinned program and in every row, IS THE sha256 OF THE DUMP (.gsa) THAT YtkfoelkkllpmdaaProg.lean LOADS. Nothing in Lean hashes anything: it is a label: what it is worth is what the hold of that sum in a sandbox is worth. -/
noncomputable def Try.pinned : Pinned := { name := "ytkfoelkkllpmdaa", sum := "cdab0740489b2f2cef23d7899388c94339f87ff9821268373435d5482a41578b", checked := Try.checked }
namespace Rows
def none {H : Type} : Left H := { results := [], args := [] }

/-- 'laws.FnExactIsPolygon': WHATEVER THE INPUT: true; the input reads as it did. -/
def fnExactIsPolygonSpec : ChangeSpec := { name := "fnExactIsPolygon", fn := fun _ => fun
  | [d] => { results := [.lit (.bool true)], args := [d] }
  | _ => none }
def fnExactIsPolygonRow : OpenClaim := { program := "ytkfoelkkllpmdaa", sum := "cdab0740489b2f2cef23d7899388c94339f87ff9821268373435d5482a41578b", func := "loop.example/g01297/laws.FnExactIsPolygon", spec := "fnExactIsPolygon", unfollowed := true, recurses := true, plainKeys := false, leaving := true, apart := false }
def FnExactIsPolygonSaid : Prop := fnExactIsPolygonRow.holds Try.pinned (OpenSpec.ofChange fnExactIsPolygonSpec)

/-- ITS FALSE NEIGHBOUR: 'it returns false'. Refute it at one input. -/
def fnExactIsPolygonWrong : ChangeSpec := { name := "fnExactIsPolygon", fn := fun _ => fun
  | [d] => { results := [.lit (.bool false)], args := [d] }
  | _ => none }
def FnExactIsPolygonWrongFalsely : Prop := fnExactIsPolygonRow.holds Try.pinned (OpenSpec.ofChange fnExactIsPolygonWrong)

/-- 'laws.FnExactHullOf': WHATEVER THE INPUT: true; the input reads as it did. -/
def fnExactHullOfSpec : ChangeSpec := { name := "fnExactHullOf", fn := fun _ => fun
  | [d] => { results := [.lit (.bool true)], args := [d] }
  | _ => none }
def fnExactHullOfRow : OpenClaim := { program := "ytkfoelkkllpmdaa", sum := "cdab0740489b2f2cef23d7899388c94339f87ff9821268373435d5482a41578b", func := "loop.example/g01297/laws.FnExactHullOf", spec := "fnExactHullOf", unfollowed := true, recurses := true, plainKeys := false, leaving := true, apart := false }
def FnExactHullOfSaid : Prop := fnExactHullOfRow.holds Try.pinned (OpenSpec.ofChange fnExactHullOfSpec)

/-- ITS FALSE NEIGHBOUR: 'it returns false'. Refute it at one input. -/
def fnExactHullOfWrong : ChangeSpec := { name := "fnExactHullOf", fn := fun _ => fun
  | [d] => { results := [.lit (.bool false)], args := [d] }
  | _ => none }
def FnExactHullOfWrongFalsely : Prop := fnExactHullOfRow.holds Try.pinned (OpenSpec.ofChange fnExactHullOfWrong)

/-- 'laws.FnExactOrderPolygon': WHATEVER THE INPUT: true; the input reads as it did. -/
def fnExactOrderPolygonSpec : ChangeSpec := { name := "fnExactOrderPolygon", fn := fun _ => fun
  | [d] => { results := [.lit (.bool true)], args := [d] }
  | _ => none }
def fnExactOrderPolygonRow : OpenClaim := { program := "ytkfoelkkllpmdaa", sum := "cdab0740489b2f2cef23d7899388c94339f87ff9821268373435d5482a41578b", func := "loop.example/g01297/laws.FnExactOrderPolygon", spec := "fnExactOrderPolygon", unfollowed := true, recurses := true, plainKeys := false, leaving := true, apart := false }
def FnExactOrderPolygonSaid : Prop := fnExactOrderPolygonRow.holds Try.pinned (OpenSpec.ofChange fnExactOrderPolygonSpec)

/-- ITS FALSE NEIGHBOUR: 'it returns false'. Refute it at one input. -/
def fnExactOrderPolygonWrong : ChangeSpec := { name := "fnExactOrderPolygon", fn := fun _ => fun
  | [d] => { results := [.lit (.bool false)], args := [d] }
  | _ => none }
def FnExactOrderPolygonWrongFalsely : Prop := fnExactOrderPolygonRow.holds Try.pinned (OpenSpec.ofChange fnExactOrderPolygonWrong)

/-- 'laws.FnExactAreaOfPolygon': WHATEVER THE INPUT: true; the input reads as it did. -/
def fnExactAreaOfPolygonSpec : ChangeSpec := { name := "fnExactAreaOfPolygon", fn := fun _ => fun
  | [d] => { results := [.lit (.bool true)], args := [d] }
  | _ => none }
def fnExactAreaOfPolygonRow : OpenClaim := { program := "ytkfoelkkllpmdaa", sum := "cdab0740489b2f2cef23d7899388c94339f87ff9821268373435d5482a41578b", func := "loop.example/g01297/laws.FnExactAreaOfPolygon", spec := "fnExactAreaOfPolygon", unfollowed := true, recurses := true, plainKeys := false, leaving := true, apart := false }
def FnExactAreaOfPolygonSaid : Prop := fnExactAreaOfPolygonRow.holds Try.pinned (OpenSpec.ofChange fnExactAreaOfPolygonSpec)

/-- ITS FALSE NEIGHBOUR: 'it returns false'. Refute it at one input. -/
def fnExactAreaOfPolygonWrong : ChangeSpec := { name := "fnExactAreaOfPolygon", fn := fun _ => fun
  | [d] => { results := [.lit (.bool false)], args := [d] }
  | _ => none }
def FnExactAreaOfPolygonWrongFalsely : Prop := fnExactAreaOfPolygonRow.holds Try.pinned (OpenSpec.ofChange fnExactAreaOfPolygonWrong)

/-- 'laws.FnExactBorderNumber': WHATEVER THE INPUT: true; the input reads as it did. -/
def fnExactBorderNumberSpec : ChangeSpec := { name := "fnExactBorderNumber", fn := fun _ => fun
  | [d] => { results := [.lit (.bool true)], args := [d] }
  | _ => none }
def fnExactBorderNumberRow : OpenClaim := { program := "ytkfoelkkllpmdaa", sum := "cdab0740489b2f2cef23d7899388c94339f87ff9821268373435d5482a41578b", func := "loop.example/g01297/laws.FnExactBorderNumber", spec := "fnExactBorderNumber", unfollowed := true, recurses := true, plainKeys := false, leaving := true, apart := false }
def FnExactBorderNumberSaid : Prop := fnExactBorderNumberRow.holds Try.pinned (OpenSpec.ofChange fnExactBorderNumberSpec)

/-- ITS FALSE NEIGHBOUR: 'it returns false'. Refute it at one input. -/
def fnExactBorderNumberWrong : ChangeSpec := { name := "fnExactBorderNumber", fn := fun _ => fun
  | [d] => { results := [.lit (.bool false)], args := [d] }
  | _ => none }
def FnExactBorderNumberWrongFalsely : Prop := fnExactBorderNumberRow.holds Try.pinned (OpenSpec.ofChange fnExactBorderNumberWrong)

/-- 'laws.FnExactInnerNumber': WHATEVER THE INPUT: true; the input reads as it did. -/
def fnExactInnerNumberSpec : ChangeSpec := { name := "fnExactInnerNumber", fn := fun _ => fun
  | [d] => { results := [.lit (.bool true)], args := [d] }
  | _ => none }
def fnExactInnerNumberRow : OpenClaim := { program := "ytkfoelkkllpmdaa", sum := "cdab0740489b2f2cef23d7899388c94339f87ff9821268373435d5482a41578b", func := "loop.example/g01297/laws.FnExactInnerNumber", spec := "fnExactInnerNumber", unfollowed := true, recurses := true, plainKeys := false, leaving := true, apart := false }
def FnExactInnerNumberSaid : Prop := fnExactInnerNumberRow.holds Try.pinned (OpenSpec.ofChange fnExactInnerNumberSpec)

/-- ITS FALSE NEIGHBOUR: 'it returns false'. Refute it at one input. -/
def fnExactInnerNumberWrong : ChangeSpec := { name := "fnExactInnerNumber", fn := fun _ => fun
  | [d] => { results := [.lit (.bool false)], args := [d] }
  | _ => none }
def FnExactInnerNumberWrongFalsely : Prop := fnExactInnerNumberRow.holds Try.pinned (OpenSpec.ofChange fnExactInnerNumberWrong)

/-- 'laws.FnExactCountOfMultiple': WHATEVER THE INPUT: true; the input reads as it did. -/
def fnExactCountOfMultipleSpec : ChangeSpec := { name := "fnExactCountOfMultiple", fn := fun _ => fun
  | [d1, d2] => { results := [.lit (.bool true)], args := [d1, d2] }
  | _ => none }
def fnExactCountOfMultipleRow : OpenClaim := { program := "ytkfoelkkllpmdaa", sum := "cdab0740489b2f2cef23d7899388c94339f87ff9821268373435d5482a41578b", func := "loop.example/g01297/laws.FnExactCountOfMultiple", spec := "fnExactCountOfMultiple", unfollowed := true, recurses := true, plainKeys := false, leaving := true, apart := false }
def FnExactCountOfMultipleSaid : Prop := fnExactCountOfMultipleRow.holds Try.pinned (OpenSpec.ofChange fnExactCountOfMultipleSpec)

/-- ITS FALSE NEIGHBOUR: 'it returns false'. Refute it at one input. -/
def fnExactCountOfMultipleWrong : ChangeSpec := { name := "fnExactCountOfMultiple", fn := fun _ => fun
  | [d1, d2] => { results := [.lit (.bool false)], args := [d1, d2] }
  | _ => none }
def FnExactCountOfMultipleWrongFalsely : Prop := fnExactCountOfMultipleRow.holds Try.pinned (OpenSpec.ofChange fnExactCountOfMultipleWrong)

/-- 'laws.FnExactWhereInPolygon': WHATEVER THE INPUT: true; the input reads as it did. -/
def fnExactWhereInPolygonSpec : ChangeSpec := { name := "fnExactWhereInPolygon", fn := fun _ => fun
  | [d1, d2] => { results := [.lit (.bool true)], args := [d1, d2] }
  | _ => none }
def fnExactWhereInPolygonRow : OpenClaim := { program := "ytkfoelkkllpmdaa", sum := "cdab0740489b2f2cef23d7899388c94339f87ff9821268373435d5482a41578b", func := "loop.example/g01297/laws.FnExactWhereInPolygon", spec := "fnExactWhereInPolygon", unfollowed := true, recurses := true, plainKeys := false, leaving := true, apart := false }
def FnExactWhereInPolygonSaid : Prop := fnExactWhereInPolygonRow.holds Try.pinned (OpenSpec.ofChange fnExactWhereInPolygonSpec)

/-- ITS FALSE NEIGHBOUR: 'it returns false'. Refute it at one input. -/
def fnExactWhereInPolygonWrong : ChangeSpec := { name := "fnExactWhereInPolygon", fn := fun _ => fun
  | [d1, d2] => { results := [.lit (.bool false)], args := [d1, d2] }
  | _ => none }
def FnExactWhereInPolygonWrongFalsely : Prop := fnExactWhereInPolygonRow.holds Try.pinned (OpenSpec.ofChange fnExactWhereInPolygonWrong)

/-- 'laws.FnExactNormalPolygon': WHATEVER THE INPUT: true; the input reads as it did. -/
def fnExactNormalPolygonSpec : ChangeSpec := { name := "fnExactNormalPolygon", fn := fun _ => fun
  | [d] => { results := [.lit (.bool true)], args := [d] }
  | _ => none }
def fnExactNormalPolygonRow : OpenClaim := { program := "ytkfoelkkllpmdaa", sum := "cdab0740489b2f2cef23d7899388c94339f87ff9821268373435d5482a41578b", func := "loop.example/g01297/laws.FnExactNormalPolygon", spec := "fnExactNormalPolygon", inPlace := ["(*sync.WaitGroup).Add", "internal/race.ReleaseMerge", "internal/race.Disable", "internal/race.Enable", "internal/synctest.IsInBubble", "internal/synctest.Associate[sync.WaitGroup]", "sync.fatal", "sync/atomic.OrUint64", "sync/atomic.AddUint64", "internal/race.Read", "sync/atomic.LoadUint64", "sync/atomic.StoreUint64", "internal/synctest.Disassociate[sync.WaitGroup]", "sync.runtime_Semrelease", "(*sync.WaitGroup).Done", "(*sync.WaitGroup).Wait", "internal/race.Acquire", "internal/synctest.IsAssociated[sync.WaitGroup]", "sync/atomic.CompareAndSwapUint64", "internal/race.Write", "sync.runtime_SemacquireWaitGroup"], unfollowed := true, recurses := true, plainKeys := false, leaving := true, apart := false }
def FnExactNormalPolygonSaid : Prop := fnExactNormalPolygonRow.holds Try.pinned (OpenSpec.ofChange fnExactNormalPolygonSpec)

/-- ITS FALSE NEIGHBOUR: 'it returns false'. Refute it at one input. -/
def fnExactNormalPolygonWrong : ChangeSpec := { name := "fnExactNormalPolygon", fn := fun _ => fun
  | [d] => { results := [.lit (.bool false)], args := [d] }
  | _ => none }
def FnExactNormalPolygonWrongFalsely : Prop := fnExactNormalPolygonRow.holds Try.pinned (OpenSpec.ofChange fnExactNormalPolygonWrong)

/-- 'laws.FnExactAreLikePolygons': WHATEVER THE INPUT: true; the input reads as it did. -/
def fnExactAreLikePolygonsSpec : ChangeSpec := { name := "fnExactAreLikePolygons", fn := fun _ => fun
  | [d1, d2] => { results := [.lit (.bool true)], args := [d1, d2] }
  | _ => none }
def fnExactAreLikePolygonsRow : OpenClaim := { program := "ytkfoelkkllpmdaa", sum := "cdab0740489b2f2cef23d7899388c94339f87ff9821268373435d5482a41578b", func := "loop.example/g01297/laws.FnExactAreLikePolygons", spec := "fnExactAreLikePolygons", inPlace := ["(*sync.WaitGroup).Add", "internal/race.ReleaseMerge", "internal/race.Disable", "internal/race.Enable", "internal/synctest.IsInBubble", "internal/synctest.Associate[sync.WaitGroup]", "sync.fatal", "sync/atomic.OrUint64", "sync/atomic.AddUint64", "internal/race.Read", "sync/atomic.LoadUint64", "sync/atomic.StoreUint64", "internal/synctest.Disassociate[sync.WaitGroup]", "sync.runtime_Semrelease", "(*sync.WaitGroup).Done", "(*sync.WaitGroup).Wait", "internal/race.Acquire", "internal/synctest.IsAssociated[sync.WaitGroup]", "sync/atomic.CompareAndSwapUint64", "internal/race.Write", "sync.runtime_SemacquireWaitGroup"], unfollowed := true, recurses := true, plainKeys := false, leaving := true, apart := false }
def FnExactAreLikePolygonsSaid : Prop := fnExactAreLikePolygonsRow.holds Try.pinned (OpenSpec.ofChange fnExactAreLikePolygonsSpec)

/-- ITS FALSE NEIGHBOUR: 'it returns false'. Refute it at one input. -/
def fnExactAreLikePolygonsWrong : ChangeSpec := { name := "fnExactAreLikePolygons", fn := fun _ => fun
  | [d1, d2] => { results := [.lit (.bool false)], args := [d1, d2] }
  | _ => none }
def FnExactAreLikePolygonsWrongFalsely : Prop := fnExactAreLikePolygonsRow.holds Try.pinned (OpenSpec.ofChange fnExactAreLikePolygonsWrong)

/-- 'laws.FnExactDualPolygon': WHATEVER THE INPUT: true; the input reads as it did. -/
def fnExactDualPolygonSpec : ChangeSpec := { name := "fnExactDualPolygon", fn := fun _ => fun
  | [d] => { results := [.lit (.bool true)], args := [d] }
  | _ => none }
def fnExactDualPolygonRow : OpenClaim := { program := "ytkfoelkkllpmdaa", sum := "cdab0740489b2f2cef23d7899388c94339f87ff9821268373435d5482a41578b", func := "loop.example/g01297/laws.FnExactDualPolygon", spec := "fnExactDualPolygon", unfollowed := true, recurses := true, plainKeys := false, leaving := true, apart := false }
def FnExactDualPolygonSaid : Prop := fnExactDualPolygonRow.holds Try.pinned (OpenSpec.ofChange fnExactDualPolygonSpec)

/-- ITS FALSE NEIGHBOUR: 'it returns false'. Refute it at one input. -/
def fnExactDualPolygonWrong : ChangeSpec := { name := "fnExactDualPolygon", fn := fun _ => fun
  | [d] => { results := [.lit (.bool false)], args := [d] }
  | _ => none }
def FnExactDualPolygonWrongFalsely : Prop := fnExactDualPolygonRow.holds Try.pinned (OpenSpec.ofChange fnExactDualPolygonWrong)

/-- 'laws.FnExactAddPolygons': WHATEVER THE INPUT: true; the input reads as it did. -/
def fnExactAddPolygonsSpec : ChangeSpec := { name := "fnExactAddPolygons", fn := fun _ => fun
  | [d1, d2] => { results := [.lit (.bool true)], args := [d1, d2] }
  | _ => none }
def fnExactAddPolygonsRow : OpenClaim := { program := "ytkfoelkkllpmdaa", sum := "cdab0740489b2f2cef23d7899388c94339f87ff9821268373435d5482a41578b", func := "loop.example/g01297/laws.FnExactAddPolygons", spec := "fnExactAddPolygons", unfollowed := true, recurses := true, plainKeys := false, leaving := true, apart := false }
def FnExactAddPolygonsSaid : Prop := fnExactAddPolygonsRow.holds Try.pinned (OpenSpec.ofChange fnExactAddPolygonsSpec)

/-- ITS FALSE NEIGHBOUR: 'it returns false'. Refute it at one input. -/
def fnExactAddPolygonsWrong : ChangeSpec := { name := "fnExactAddPolygons", fn := fun _ => fun
  | [d1, d2] => { results := [.lit (.bool false)], args := [d1, d2] }
  | _ => none }
def FnExactAddPolygonsWrongFalsely : Prop := fnExactAddPolygonsRow.holds Try.pinned (OpenSpec.ofChange fnExactAddPolygonsWrong)

/-- 'laws.FnExactMapPolygon': WHATEVER THE INPUT: true; the input reads as it did. -/
def fnExactMapPolygonSpec : ChangeSpec := { name := "fnExactMapPolygon", fn := fun _ => fun
  | [d1, d2, d3] => { results := [.lit (.bool true)], args := [d1, d2, d3] }
  | _ => none }
def fnExactMapPolygonRow : OpenClaim := { program := "ytkfoelkkllpmdaa", sum := "cdab0740489b2f2cef23d7899388c94339f87ff9821268373435d5482a41578b", func := "loop.example/g01297/laws.FnExactMapPolygon", spec := "fnExactMapPolygon", unfollowed := true, recurses := true, plainKeys := false, leaving := true, apart := false }
def FnExactMapPolygonSaid : Prop := fnExactMapPolygonRow.holds Try.pinned (OpenSpec.ofChange fnExactMapPolygonSpec)

/-- ITS FALSE NEIGHBOUR: 'it returns false'. Refute it at one input. -/
def fnExactMapPolygonWrong : ChangeSpec := { name := "fnExactMapPolygon", fn := fun _ => fun
  | [d1, d2, d3] => { results := [.lit (.bool false)], args := [d1, d2, d3] }
  | _ => none }
def FnExactMapPolygonWrongFalsely : Prop := fnExactMapPolygonRow.holds Try.pinned (OpenSpec.ofChange fnExactMapPolygonWrong)

/-- 'laws.FnExactWidthFor': WHATEVER THE INPUT: true; the input reads as it did. -/
def fnExactWidthForSpec : ChangeSpec := { name := "fnExactWidthFor", fn := fun _ => fun
  | [d1, d2] => { results := [.lit (.bool true)], args := [d1, d2] }
  | _ => none }
def fnExactWidthForRow : OpenClaim := { program := "ytkfoelkkllpmdaa", sum := "cdab0740489b2f2cef23d7899388c94339f87ff9821268373435d5482a41578b", func := "loop.example/g01297/laws.FnExactWidthFor", spec := "fnExactWidthFor", unfollowed := true, recurses := true, plainKeys := false, leaving := true, apart := false }
def FnExactWidthForSaid : Prop := fnExactWidthForRow.holds Try.pinned (OpenSpec.ofChange fnExactWidthForSpec)

/-- ITS FALSE NEIGHBOUR: 'it returns false'. Refute it at one input. -/
def fnExactWidthForWrong : ChangeSpec := { name := "fnExactWidthFor", fn := fun _ => fun
  | [d1, d2] => { results := [.lit (.bool false)], args := [d1, d2] }
  | _ => none }
def FnExactWidthForWrongFalsely : Prop := fnExactWidthForRow.holds Try.pinned (OpenSpec.ofChange fnExactWidthForWrong)

/- THE SECOND FORM. 'bulk': how many values and letters a reading holds, each counted each time it is reached (what is shared counts as often as it is met; a slice's spare places count too). A statement '..UptoSaid' is the law's where the arguments, and the package variables that the reading takes, are together of bulk at most 1048576: NARROWER than '..Said'. Prove '..Said' where nothing that the law and all that it calls make is longer than what came in: it says more and counts as full. Else prove '..UptoSaid'. A law counts once. -/
mutual
def uptoBulk {H : Type} : DataW H → Nat
  | .lit (.string bytes) => bytes.length + 1
  | .lit _ => 1
  | .nil => 1
  | .ptr d => uptoBulk d + 1
  | .slice elems spare => uptoBulkAll elems + uptoBulkAll spare + 1
  | .agg parts => uptoBulkAll parts + 1
  | .iface _ d => uptoBulk d + 1
  | .map entries => uptoBulkEntries entries + 1
  | .held _ => 1
def uptoBulkAll {H : Type} : List (DataW H) → Nat
  | [] => 0
  | d :: r => uptoBulk d + uptoBulkAll r
def uptoBulkEntries {H : Type} : List (Lit × DataW H) → Nat
  | [] => 0
  | x :: r => uptoBulkEntry x + uptoBulkEntries r
def uptoBulkEntry {H : Type} : Lit × DataW H → Nat
  | (.string bytes, d) => bytes.length + uptoBulk d + 1
  | (_, d) => uptoBulk d + 1
 end
def uptoSmall : (H : Type) → List (DataW H) → Bool := fun _ ds => decide (uptoBulkAll ds ≤ 1048576)
def OpenSpec.upto (s : _root_.Go.ChangeSpec) : _root_.Go.OpenSpec := { _root_.Go.OpenSpec.ofChange s with cond := some uptoSmall }

/-- 'laws.FnExactIsPolygon', WHERE WHAT IT READS IS OF BULK AT MOST 1048576: true; the input reads as it did. -/
def fnExactIsPolygonUptoRow : OpenClaim := { program := "ytkfoelkkllpmdaa", sum := "cdab0740489b2f2cef23d7899388c94339f87ff9821268373435d5482a41578b", func := "loop.example/g01297/laws.FnExactIsPolygon", spec := "fnExactIsPolygon", unfollowed := true, recurses := true, plainKeys := false, leaving := true, apart := false, narrowed := true }
def FnExactIsPolygonUptoSaid : Prop := fnExactIsPolygonUptoRow.holds Try.pinned (OpenSpec.upto fnExactIsPolygonSpec)

/-- 'laws.FnExactHullOf', WHERE WHAT IT READS IS OF BULK AT MOST 1048576: true; the input reads as it did. -/
def fnExactHullOfUptoRow : OpenClaim := { program := "ytkfoelkkllpmdaa", sum := "cdab0740489b2f2cef23d7899388c94339f87ff9821268373435d5482a41578b", func := "loop.example/g01297/laws.FnExactHullOf", spec := "fnExactHullOf", unfollowed := true, recurses := true, plainKeys := false, leaving := true, apart := false, narrowed := true }
def FnExactHullOfUptoSaid : Prop := fnExactHullOfUptoRow.holds Try.pinned (OpenSpec.upto fnExactHullOfSpec)

/-- 'laws.FnExactOrderPolygon', WHERE WHAT IT READS IS OF BULK AT MOST 1048576: true; the input reads as it did. -/
def fnExactOrderPolygonUptoRow : OpenClaim := { program := "ytkfoelkkllpmdaa", sum := "cdab0740489b2f2cef23d7899388c94339f87ff9821268373435d5482a41578b", func := "loop.example/g01297/laws.FnExactOrderPolygon", spec := "fnExactOrderPolygon", unfollowed := true, recurses := true, plainKeys := false, leaving := true, apart := false, narrowed := true }
def FnExactOrderPolygonUptoSaid : Prop := fnExactOrderPolygonUptoRow.holds Try.pinned (OpenSpec.upto fnExactOrderPolygonSpec)

/-- 'laws.FnExactAreaOfPolygon', WHERE WHAT IT READS IS OF BULK AT MOST 1048576: true; the input reads as it did. -/
def fnExactAreaOfPolygonUptoRow : OpenClaim := { program := "ytkfoelkkllpmdaa", sum := "cdab0740489b2f2cef23d7899388c94339f87ff9821268373435d5482a41578b", func := "loop.example/g01297/laws.FnExactAreaOfPolygon", spec := "fnExactAreaOfPolygon", unfollowed := true, recurses := true, plainKeys := false, leaving := true, apart := false, narrowed := true }
def FnExactAreaOfPolygonUptoSaid : Prop := fnExactAreaOfPolygonUptoRow.holds Try.pinned (OpenSpec.upto fnExactAreaOfPolygonSpec)

/-- 'laws.FnExactBorderNumber', WHERE WHAT IT READS IS OF BULK AT MOST 1048576: true; the input reads as it did. -/
def fnExactBorderNumberUptoRow : OpenClaim := { program := "ytkfoelkkllpmdaa", sum := "cdab0740489b2f2cef23d7899388c94339f87ff9821268373435d5482a41578b", func := "loop.example/g01297/laws.FnExactBorderNumber", spec := "fnExactBorderNumber", unfollowed := true, recurses := true, plainKeys := false, leaving := true, apart := false, narrowed := true }
def FnExactBorderNumberUptoSaid : Prop := fnExactBorderNumberUptoRow.holds Try.pinned (OpenSpec.upto fnExactBorderNumberSpec)

/-- 'laws.FnExactInnerNumber', WHERE WHAT IT READS IS OF BULK AT MOST 1048576: true; the input reads as it did. -/
def fnExactInnerNumberUptoRow : OpenClaim := { program := "ytkfoelkkllpmdaa", sum := "cdab0740489b2f2cef23d7899388c94339f87ff9821268373435d5482a41578b", func := "loop.example/g01297/laws.FnExactInnerNumber", spec := "fnExactInnerNumber", unfollowed := true, recurses := true, plainKeys := false, leaving := true, apart := false, narrowed := true }
def FnExactInnerNumberUptoSaid : Prop := fnExactInnerNumberUptoRow.holds Try.pinned (OpenSpec.upto fnExactInnerNumberSpec)

/-- 'laws.FnExactCountOfMultiple', WHERE WHAT IT READS IS OF BULK AT MOST 1048576: true; the input reads as it did. -/
def fnExactCountOfMultipleUptoRow : OpenClaim := { program := "ytkfoelkkllpmdaa", sum := "cdab0740489b2f2cef23d7899388c94339f87ff9821268373435d5482a41578b", func := "loop.example/g01297/laws.FnExactCountOfMultiple", spec := "fnExactCountOfMultiple", unfollowed := true, recurses := true, plainKeys := false, leaving := true, apart := false, narrowed := true }
def FnExactCountOfMultipleUptoSaid : Prop := fnExactCountOfMultipleUptoRow.holds Try.pinned (OpenSpec.upto fnExactCountOfMultipleSpec)

/-- 'laws.FnExactWhereInPolygon', WHERE WHAT IT READS IS OF BULK AT MOST 1048576: true; the input reads as it did. -/
def fnExactWhereInPolygonUptoRow : OpenClaim := { program := "ytkfoelkkllpmdaa", sum := "cdab0740489b2f2cef23d7899388c94339f87ff9821268373435d5482a41578b", func := "loop.example/g01297/laws.FnExactWhereInPolygon", spec := "fnExactWhereInPolygon", unfollowed := true, recurses := true, plainKeys := false, leaving := true, apart := false, narrowed := true }
def FnExactWhereInPolygonUptoSaid : Prop := fnExactWhereInPolygonUptoRow.holds Try.pinned (OpenSpec.upto fnExactWhereInPolygonSpec)

/-- 'laws.FnExactNormalPolygon', WHERE WHAT IT READS IS OF BULK AT MOST 1048576: true; the input reads as it did. -/
def fnExactNormalPolygonUptoRow : OpenClaim := { program := "ytkfoelkkllpmdaa", sum := "cdab0740489b2f2cef23d7899388c94339f87ff9821268373435d5482a41578b", func := "loop.example/g01297/laws.FnExactNormalPolygon", spec := "fnExactNormalPolygon", inPlace := ["(*sync.WaitGroup).Add", "internal/race.ReleaseMerge", "internal/race.Disable", "internal/race.Enable", "internal/synctest.IsInBubble", "internal/synctest.Associate[sync.WaitGroup]", "sync.fatal", "sync/atomic.OrUint64", "sync/atomic.AddUint64", "internal/race.Read", "sync/atomic.LoadUint64", "sync/atomic.StoreUint64", "internal/synctest.Disassociate[sync.WaitGroup]", "sync.runtime_Semrelease", "(*sync.WaitGroup).Done", "(*sync.WaitGroup).Wait", "internal/race.Acquire", "internal/synctest.IsAssociated[sync.WaitGroup]", "sync/atomic.CompareAndSwapUint64", "internal/race.Write", "sync.runtime_SemacquireWaitGroup"], unfollowed := true, recurses := true, plainKeys := false, leaving := true, apart := false, narrowed := true }
def FnExactNormalPolygonUptoSaid : Prop := fnExactNormalPolygonUptoRow.holds Try.pinned (OpenSpec.upto fnExactNormalPolygonSpec)

/-- 'laws.FnExactAreLikePolygons', WHERE WHAT IT READS IS OF BULK AT MOST 1048576: true; the input reads as it did. -/
def fnExactAreLikePolygonsUptoRow : OpenClaim := { program := "ytkfoelkkllpmdaa", sum := "cdab0740489b2f2cef23d7899388c94339f87ff9821268373435d5482a41578b", func := "loop.example/g01297/laws.FnExactAreLikePolygons", spec := "fnExactAreLikePolygons", inPlace := ["(*sync.WaitGroup).Add", "internal/race.ReleaseMerge", "internal/race.Disable", "internal/race.Enable", "internal/synctest.IsInBubble", "internal/synctest.Associate[sync.WaitGroup]", "sync.fatal", "sync/atomic.OrUint64", "sync/atomic.AddUint64", "internal/race.Read", "sync/atomic.LoadUint64", "sync/atomic.StoreUint64", "internal/synctest.Disassociate[sync.WaitGroup]", "sync.runtime_Semrelease", "(*sync.WaitGroup).Done", "(*sync.WaitGroup).Wait", "internal/race.Acquire", "internal/synctest.IsAssociated[sync.WaitGroup]", "sync/atomic.CompareAndSwapUint64", "internal/race.Write", "sync.runtime_SemacquireWaitGroup"], unfollowed := true, recurses := true, plainKeys := false, leaving := true, apart := false, narrowed := true }
def FnExactAreLikePolygonsUptoSaid : Prop := fnExactAreLikePolygonsUptoRow.holds Try.pinned (OpenSpec.upto fnExactAreLikePolygonsSpec)

/-- 'laws.FnExactDualPolygon', WHERE WHAT IT READS IS OF BULK AT MOST 1048576: true; the input reads as it did. -/
def fnExactDualPolygonUptoRow : OpenClaim := { program := "ytkfoelkkllpmdaa", sum := "cdab0740489b2f2cef23d7899388c94339f87ff9821268373435d5482a41578b", func := "loop.example/g01297/laws.FnExactDualPolygon", spec := "fnExactDualPolygon", unfollowed := true, recurses := true, plainKeys := false, leaving := true, apart := false, narrowed := true }
def FnExactDualPolygonUptoSaid : Prop := fnExactDualPolygonUptoRow.holds Try.pinned (OpenSpec.upto fnExactDualPolygonSpec)

/-- 'laws.FnExactAddPolygons', WHERE WHAT IT READS IS OF BULK AT MOST 1048576: true; the input reads as it did. -/
def fnExactAddPolygonsUptoRow : OpenClaim := { program := "ytkfoelkkllpmdaa", sum := "cdab0740489b2f2cef23d7899388c94339f87ff9821268373435d5482a41578b", func := "loop.example/g01297/laws.FnExactAddPolygons", spec := "fnExactAddPolygons", unfollowed := true, recurses := true, plainKeys := false, leaving := true, apart := false, narrowed := true }
def FnExactAddPolygonsUptoSaid : Prop := fnExactAddPolygonsUptoRow.holds Try.pinned (OpenSpec.upto fnExactAddPolygonsSpec)

/-- 'laws.FnExactMapPolygon', WHERE WHAT IT READS IS OF BULK AT MOST 1048576: true; the input reads as it did. -/
def fnExactMapPolygonUptoRow : OpenClaim := { program := "ytkfoelkkllpmdaa", sum := "cdab0740489b2f2cef23d7899388c94339f87ff9821268373435d5482a41578b", func := "loop.example/g01297/laws.FnExactMapPolygon", spec := "fnExactMapPolygon", unfollowed := true, recurses := true, plainKeys := false, leaving := true, apart := false, narrowed := true }
def FnExactMapPolygonUptoSaid : Prop := fnExactMapPolygonUptoRow.holds Try.pinned (OpenSpec.upto fnExactMapPolygonSpec)

/-- 'laws.FnExactWidthFor', WHERE WHAT IT READS IS OF BULK AT MOST 1048576: true; the input reads as it did. -/
def fnExactWidthForUptoRow : OpenClaim := { program := "ytkfoelkkllpmdaa", sum := "cdab0740489b2f2cef23d7899388c94339f87ff9821268373435d5482a41578b", func := "loop.example/g01297/laws.FnExactWidthFor", spec := "fnExactWidthFor", unfollowed := true, recurses := true, plainKeys := false, leaving := true, apart := false, narrowed := true }
def FnExactWidthForUptoSaid : Prop := fnExactWidthForUptoRow.holds Try.pinned (OpenSpec.upto fnExactWidthForSpec)

end Rows
end Go.Proofs.Ytkfoelkkllpmdaa
