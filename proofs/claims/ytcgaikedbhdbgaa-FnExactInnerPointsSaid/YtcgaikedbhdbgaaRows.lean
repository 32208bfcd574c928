/-
  No cell of these rows narrows 'for every input' (looked for: loops, veiled, ifaces, maps, wideKeys, modest, calm, conditions, laid).
  DERIVED. THE GIVEN ROWS OF THIS SEAT. 14 by the template 'for every input the law returns true; each argument reads behind the call as it read before'; 0 by the template 'total and deterministic' (their statements: YtcgaikedbhdbgaaTotals.lean).
  GIVEN WITH THE SEED: the statements are not yours to turn. If you find one false, say at which input.
  Laid BY PROGRAM, IN A SANDBOX (cutbox-rows.mjs): the forced cells as the released guide's own fill.sh prints them over the translation 3cc1827ef8f6ffb9… (all of the seat's roots in one cut). By AI agents, Wed Nov 11 2026. No macro, syntax, notation, axiom, sorry.
-/
import Derived.Test.YtcgaikedbhdbgaaChecked
import GoSem.Claim
import GoSem.ClaimJoined
import GoSem.ClaimMapViews
import Derived.JoinedTies
import Derived.KernelRfl
namespace Go.Proofs.Ytcgaikedbhdbgaa
/- THE CELL 'sum', in the pinned program and in every row, IS THE sha256 OF THE DUMP (.gsa) THAT YtcgaikedbhdbgaaProg.lean LOADS. Nothing in Lean hashes anything: it is a label: what it is worth is what the hold of that sum in a sandbox is worth. -/
noncomputable def Try.pinned : Pinned := { name := "ytcgaikedbhdbgaa", sum := "3cc1827ef8f6ffb9595dae42bf8a0dc82953ed1f26774b2291ccf7c6015f793b", checked := Try.checked }
namespace Rows
def none {H : Type} : Left H := { results := [], args := [] }

/-- 'laws.FnExactIsTriangle': WHATEVER THE INPUT: true; the input reads as it did. -/
def fnExactIsTriangleSpec : ChangeSpec := { name := "fnExactIsTriangle", fn := fun _ => fun
  | [d] => { results := [.lit (.bool true)], args := [d] }
  | _ => none }
def fnExactIsTriangleRow : OpenClaim := { program := "ytcgaikedbhdbgaa", sum := "3cc1827ef8f6ffb9595dae42bf8a0dc82953ed1f26774b2291ccf7c6015f793b", func := "loop.example/g01297/laws.FnExactIsTriangle", spec := "fnExactIsTriangle", plainKeys := false, apart := false }
def FnExactIsTriangleSaid : Prop := fnExactIsTriangleRow.holds Try.pinned (OpenSpec.ofChange fnExactIsTriangleSpec)

/-- ITS FALSE NEIGHBOUR: 'it returns false'. Refute it at one input. -/
def fnExactIsTriangleWrong : ChangeSpec := { name := "fnExactIsTriangle", fn := fun _ => fun
  | [d] => { results := [.lit (.bool false)], args := [d] }
  | _ => none }
def FnExactIsTriangleWrongFalsely : Prop := fnExactIsTriangleRow.holds Try.pinned (OpenSpec.ofChange fnExactIsTriangleWrong)

/-- 'laws.FnExactAreaOfTriangle': WHATEVER THE INPUT: true; the input reads as it did. -/
def fnExactAreaOfTriangleSpec : ChangeSpec := { name := "fnExactAreaOfTriangle", fn := fun _ => fun
  | [d] => { results := [.lit (.bool true)], args := [d] }
  | _ => none }
def fnExactAreaOfTriangleRow : OpenClaim := { program := "ytcgaikedbhdbgaa", sum := "3cc1827ef8f6ffb9595dae42bf8a0dc82953ed1f26774b2291ccf7c6015f793b", func := "loop.example/g01297/laws.FnExactAreaOfTriangle", spec := "fnExactAreaOfTriangle", plainKeys := false, apart := false }
def FnExactAreaOfTriangleSaid : Prop := fnExactAreaOfTriangleRow.holds Try.pinned (OpenSpec.ofChange fnExactAreaOfTriangleSpec)

/-- ITS FALSE NEIGHBOUR: 'it returns false'. Refute it at one input. -/
def fnExactAreaOfTriangleWrong : ChangeSpec := { name := "fnExactAreaOfTriangle", fn := fun _ => fun
  | [d] => { results := [.lit (.bool false)], args := [d] }
  | _ => none }
def FnExactAreaOfTriangleWrongFalsely : Prop := fnExactAreaOfTriangleRow.holds Try.pinned (OpenSpec.ofChange fnExactAreaOfTriangleWrong)

/-- 'laws.FnExactBoundaryOf': WHATEVER THE INPUT: true; the input reads as it did. -/
def fnExactBoundaryOfSpec : ChangeSpec := { name := "fnExactBoundaryOf", fn := fun _ => fun
  | [d] => { results := [.lit (.bool true)], args := [d] }
  | _ => none }
def fnExactBoundaryOfRow : OpenClaim := { program := "ytcgaikedbhdbgaa", sum := "3cc1827ef8f6ffb9595dae42bf8a0dc82953ed1f26774b2291ccf7c6015f793b", func := "loop.example/g01297/laws.FnExactBoundaryOf", spec := "fnExactBoundaryOf", plainKeys := false, apart := false }
def FnExactBoundaryOfSaid : Prop := fnExactBoundaryOfRow.holds Try.pinned (OpenSpec.ofChange fnExactBoundaryOfSpec)

/-- ITS FALSE NEIGHBOUR: 'it returns false'. Refute it at one input. -/
def fnExactBoundaryOfWrong : ChangeSpec := { name := "fnExactBoundaryOf", fn := fun _ => fun
  | [d] => { results := [.lit (.bool false)], args := [d] }
  | _ => none }
def FnExactBoundaryOfWrongFalsely : Prop := fnExactBoundaryOfRow.holds Try.pinned (OpenSpec.ofChange fnExactBoundaryOfWrong)

/-- 'laws.FnExactCountInner': WHATEVER THE INPUT: true; the input reads as it did. -/
def fnExactCountInnerSpec : ChangeSpec := { name := "fnExactCountInner", fn := fun _ => fun
  | [d] => { results := [.lit (.bool true)], args := [d] }
  | _ => none }
def fnExactCountInnerRow : OpenClaim := { program := "ytcgaikedbhdbgaa", sum := "3cc1827ef8f6ffb9595dae42bf8a0dc82953ed1f26774b2291ccf7c6015f793b", func := "loop.example/g01297/laws.FnExactCountInner", spec := "fnExactCountInner", plainKeys := false, apart := false }
def FnExactCountInnerSaid : Prop := fnExactCountInnerRow.holds Try.pinned (OpenSpec.ofChange fnExactCountInnerSpec)

/-- ITS FALSE NEIGHBOUR: 'it returns false'. Refute it at one input. -/
def fnExactCountInnerWrong : ChangeSpec := { name := "fnExactCountInner", fn := fun _ => fun
  | [d] => { results := [.lit (.bool false)], args := [d] }
  | _ => none }
def FnExactCountInnerWrongFalsely : Prop := fnExactCountInnerRow.holds Try.pinned (OpenSpec.ofChange fnExactCountInnerWrong)

/-- 'laws.FnExactInnerPoints': WHATEVER THE INPUT: true; the input reads as it did. -/
def fnExactInnerPointsSpec : ChangeSpec := { name := "fnExactInnerPoints", fn := fun _ => fun
  | [d] => { results := [.lit (.bool true)], args := [d] }
  | _ => none }
def fnExactInnerPointsRow : OpenClaim := { program := "ytcgaikedbhdbgaa", sum := "3cc1827ef8f6ffb9595dae42bf8a0dc82953ed1f26774b2291ccf7c6015f793b", func := "loop.example/g01297/laws.FnExactInnerPoints", spec := "fnExactInnerPoints", plainKeys := false, apart := false }
def FnExactInnerPointsSaid : Prop := fnExactInnerPointsRow.holds Try.pinned (OpenSpec.ofChange fnExactInnerPointsSpec)

/-- ITS FALSE NEIGHBOUR: 'it returns false'. Refute it at one input. -/
def fnExactInnerPointsWrong : ChangeSpec := { name := "fnExactInnerPoints", fn := fun _ => fun
  | [d] => { results := [.lit (.bool false)], args := [d] }
  | _ => none }
def FnExactInnerPointsWrongFalsely : Prop := fnExactInnerPointsRow.holds Try.pinned (OpenSpec.ofChange fnExactInnerPointsWrong)

/-- 'laws.FnExactCornerAt': WHATEVER THE INPUT: true; the input reads as it did. -/
def fnExactCornerAtSpec : ChangeSpec := { name := "fnExactCornerAt", fn := fun _ => fun
  | [d1, d2] => { results := [.lit (.bool true)], args := [d1, d2] }
  | _ => none }
def fnExactCornerAtRow : OpenClaim := { program := "ytcgaikedbhdbgaa", sum := "3cc1827ef8f6ffb9595dae42bf8a0dc82953ed1f26774b2291ccf7c6015f793b", func := "loop.example/g01297/laws.FnExactCornerAt", spec := "fnExactCornerAt", plainKeys := false, apart := false }
def FnExactCornerAtSaid : Prop := fnExactCornerAtRow.holds Try.pinned (OpenSpec.ofChange fnExactCornerAtSpec)

/-- ITS FALSE NEIGHBOUR: 'it returns false'. Refute it at one input. -/
def fnExactCornerAtWrong : ChangeSpec := { name := "fnExactCornerAt", fn := fun _ => fun
  | [d1, d2] => { results := [.lit (.bool false)], args := [d1, d2] }
  | _ => none }
def FnExactCornerAtWrongFalsely : Prop := fnExactCornerAtRow.holds Try.pinned (OpenSpec.ofChange fnExactCornerAtWrong)

/-- 'laws.FnExactSinesOf': WHATEVER THE INPUT: true; the input reads as it did. -/
def fnExactSinesOfSpec : ChangeSpec := { name := "fnExactSinesOf", fn := fun _ => fun
  | [d] => { results := [.lit (.bool true)], args := [d] }
  | _ => none }
def fnExactSinesOfRow : OpenClaim := { program := "ytcgaikedbhdbgaa", sum := "3cc1827ef8f6ffb9595dae42bf8a0dc82953ed1f26774b2291ccf7c6015f793b", func := "loop.example/g01297/laws.FnExactSinesOf", spec := "fnExactSinesOf", plainKeys := false, apart := false }
def FnExactSinesOfSaid : Prop := fnExactSinesOfRow.holds Try.pinned (OpenSpec.ofChange fnExactSinesOfSpec)

/-- ITS FALSE NEIGHBOUR: 'it returns false'. Refute it at one input. -/
def fnExactSinesOfWrong : ChangeSpec := { name := "fnExactSinesOf", fn := fun _ => fun
  | [d] => { results := [.lit (.bool false)], args := [d] }
  | _ => none }
def FnExactSinesOfWrongFalsely : Prop := fnExactSinesOfRow.holds Try.pinned (OpenSpec.ofChange fnExactSinesOfWrong)

/-- 'laws.FnExactShapeOf': WHATEVER THE INPUT: true; the input reads as it did. -/
def fnExactShapeOfSpec : ChangeSpec := { name := "fnExactShapeOf", fn := fun _ => fun
  | [d1, d2, d3] => { results := [.lit (.bool true)], args := [d1, d2, d3] }
  | _ => none }
def fnExactShapeOfRow : OpenClaim := { program := "ytcgaikedbhdbgaa", sum := "3cc1827ef8f6ffb9595dae42bf8a0dc82953ed1f26774b2291ccf7c6015f793b", func := "loop.example/g01297/laws.FnExactShapeOf", spec := "fnExactShapeOf", plainKeys := false, apart := false }
def FnExactShapeOfSaid : Prop := fnExactShapeOfRow.holds Try.pinned (OpenSpec.ofChange fnExactShapeOfSpec)

/-- ITS FALSE NEIGHBOUR: 'it returns false'. Refute it at one input. -/
def fnExactShapeOfWrong : ChangeSpec := { name := "fnExactShapeOf", fn := fun _ => fun
  | [d1, d2, d3] => { results := [.lit (.bool false)], args := [d1, d2, d3] }
  | _ => none }
def FnExactShapeOfWrongFalsely : Prop := fnExactShapeOfRow.holds Try.pinned (OpenSpec.ofChange fnExactShapeOfWrong)

/-- 'laws.FnExactNormalShape': WHATEVER THE INPUT: true; the input reads as it did. -/
def fnExactNormalShapeSpec : ChangeSpec := { name := "fnExactNormalShape", fn := fun _ => fun
  | [d] => { results := [.lit (.bool true)], args := [d] }
  | _ => none }
def fnExactNormalShapeRow : OpenClaim := { program := "ytcgaikedbhdbgaa", sum := "3cc1827ef8f6ffb9595dae42bf8a0dc82953ed1f26774b2291ccf7c6015f793b", func := "loop.example/g01297/laws.FnExactNormalShape", spec := "fnExactNormalShape", unfollowed := true, recurses := true, plainKeys := false, apart := false }
def FnExactNormalShapeSaid : Prop := fnExactNormalShapeRow.holds Try.pinned (OpenSpec.ofChange fnExactNormalShapeSpec)

/-- ITS FALSE NEIGHBOUR: 'it returns false'. Refute it at one input. -/
def fnExactNormalShapeWrong : ChangeSpec := { name := "fnExactNormalShape", fn := fun _ => fun
  | [d] => { results := [.lit (.bool false)], args := [d] }
  | _ => none }
def FnExactNormalShapeWrongFalsely : Prop := fnExactNormalShapeRow.holds Try.pinned (OpenSpec.ofChange fnExactNormalShapeWrong)

/-- 'laws.FnExactTriangleOf': WHATEVER THE INPUT: true; the input reads as it did. -/
def fnExactTriangleOfSpec : ChangeSpec := { name := "fnExactTriangleOf", fn := fun _ => fun
  | [d] => { results := [.lit (.bool true)], args := [d] }
  | _ => none }
def fnExactTriangleOfRow : OpenClaim := { program := "ytcgaikedbhdbgaa", sum := "3cc1827ef8f6ffb9595dae42bf8a0dc82953ed1f26774b2291ccf7c6015f793b", func := "loop.example/g01297/laws.FnExactTriangleOf", spec := "fnExactTriangleOf", plainKeys := false, apart := false }
def FnExactTriangleOfSaid : Prop := fnExactTriangleOfRow.holds Try.pinned (OpenSpec.ofChange fnExactTriangleOfSpec)

/-- ITS FALSE NEIGHBOUR: 'it returns false'. Refute it at one input. -/
def fnExactTriangleOfWrong : ChangeSpec := { name := "fnExactTriangleOf", fn := fun _ => fun
  | [d] => { results := [.lit (.bool false)], args := [d] }
  | _ => none }
def FnExactTriangleOfWrongFalsely : Prop := fnExactTriangleOfRow.holds Try.pinned (OpenSpec.ofChange fnExactTriangleOfWrong)

/-- 'laws.FnExactAreEqualTriangles': WHATEVER THE INPUT: true; the input reads as it did. -/
def fnExactAreEqualTrianglesSpec : ChangeSpec := { name := "fnExactAreEqualTriangles", fn := fun _ => fun
  | [d1, d2] => { results := [.lit (.bool true)], args := [d1, d2] }
  | _ => none }
def fnExactAreEqualTrianglesRow : OpenClaim := { program := "ytcgaikedbhdbgaa", sum := "3cc1827ef8f6ffb9595dae42bf8a0dc82953ed1f26774b2291ccf7c6015f793b", func := "loop.example/g01297/laws.FnExactAreEqualTriangles", spec := "fnExactAreEqualTriangles", unfollowed := true, recurses := true, plainKeys := false, apart := false }
def FnExactAreEqualTrianglesSaid : Prop := fnExactAreEqualTrianglesRow.holds Try.pinned (OpenSpec.ofChange fnExactAreEqualTrianglesSpec)

/-- ITS FALSE NEIGHBOUR: 'it returns false'. Refute it at one input. -/
def fnExactAreEqualTrianglesWrong : ChangeSpec := { name := "fnExactAreEqualTriangles", fn := fun _ => fun
  | [d1, d2] => { results := [.lit (.bool false)], args := [d1, d2] }
  | _ => none }
def FnExactAreEqualTrianglesWrongFalsely : Prop := fnExactAreEqualTrianglesRow.holds Try.pinned (OpenSpec.ofChange fnExactAreEqualTrianglesWrong)

/-- 'laws.FnExactTrianglesOfArea': WHATEVER THE INPUT: true; the input reads as it did. -/
def fnExactTrianglesOfAreaSpec : ChangeSpec := { name := "fnExactTrianglesOfArea", fn := fun _ => fun
  | [d] => { results := [.lit (.bool true)], args := [d] }
  | _ => none }
def fnExactTrianglesOfAreaRow : OpenClaim := { program := "ytcgaikedbhdbgaa", sum := "3cc1827ef8f6ffb9595dae42bf8a0dc82953ed1f26774b2291ccf7c6015f793b", func := "loop.example/g01297/laws.FnExactTrianglesOfArea", spec := "fnExactTrianglesOfArea", unfollowed := true, recurses := true, plainKeys := false, apart := false }
def FnExactTrianglesOfAreaSaid : Prop := fnExactTrianglesOfAreaRow.holds Try.pinned (OpenSpec.ofChange fnExactTrianglesOfAreaSpec)

/-- ITS FALSE NEIGHBOUR: 'it returns false'. Refute it at one input. -/
def fnExactTrianglesOfAreaWrong : ChangeSpec := { name := "fnExactTrianglesOfArea", fn := fun _ => fun
  | [d] => { results := [.lit (.bool false)], args := [d] }
  | _ => none }
def FnExactTrianglesOfAreaWrongFalsely : Prop := fnExactTrianglesOfAreaRow.holds Try.pinned (OpenSpec.ofChange fnExactTrianglesOfAreaWrong)

/-- 'laws.FnExactMultipleOf': WHATEVER THE INPUT: true; the input reads as it did. -/
def fnExactMultipleOfSpec : ChangeSpec := { name := "fnExactMultipleOf", fn := fun _ => fun
  | [d1, d2] => { results := [.lit (.bool true)], args := [d1, d2] }
  | _ => none }
def fnExactMultipleOfRow : OpenClaim := { program := "ytcgaikedbhdbgaa", sum := "3cc1827ef8f6ffb9595dae42bf8a0dc82953ed1f26774b2291ccf7c6015f793b", func := "loop.example/g01297/laws.FnExactMultipleOf", spec := "fnExactMultipleOf", plainKeys := false, apart := false }
def FnExactMultipleOfSaid : Prop := fnExactMultipleOfRow.holds Try.pinned (OpenSpec.ofChange fnExactMultipleOfSpec)

/-- ITS FALSE NEIGHBOUR: 'it returns false'. Refute it at one input. -/
def fnExactMultipleOfWrong : ChangeSpec := { name := "fnExactMultipleOf", fn := fun _ => fun
  | [d1, d2] => { results := [.lit (.bool false)], args := [d1, d2] }
  | _ => none }
def FnExactMultipleOfWrongFalsely : Prop := fnExactMultipleOfRow.holds Try.pinned (OpenSpec.ofChange fnExactMultipleOfWrong)

/-- 'laws.FnExactSplitTriangle': WHATEVER THE INPUT: true; the input reads as it did. -/
def fnExactSplitTriangleSpec : ChangeSpec := { name := "fnExactSplitTriangle", fn := fun _ => fun
  | [d1, d2] => { results := [.lit (.bool true)], args := [d1, d2] }
  | _ => none }
def fnExactSplitTriangleRow : OpenClaim := { program := "ytcgaikedbhdbgaa", sum := "3cc1827ef8f6ffb9595dae42bf8a0dc82953ed1f26774b2291ccf7c6015f793b", func := "loop.example/g01297/laws.FnExactSplitTriangle", spec := "fnExactSplitTriangle", plainKeys := false, apart := false }
def FnExactSplitTriangleSaid : Prop := fnExactSplitTriangleRow.holds Try.pinned (OpenSpec.ofChange fnExactSplitTriangleSpec)

/-- ITS FALSE NEIGHBOUR: 'it returns false'. Refute it at one input. -/
def fnExactSplitTriangleWrong : ChangeSpec := { name := "fnExactSplitTriangle", fn := fun _ => fun
  | [d1, d2] => { results := [.lit (.bool false)], args := [d1, d2] }
  | _ => none }
def FnExactSplitTriangleWrongFalsely : Prop := fnExactSplitTriangleRow.holds Try.pinned (OpenSpec.ofChange fnExactSplitTriangleWrong)

/- THE SECOND FORM. 'bulk': how many values and letters a reading holds, each counted each time it is reached (what is shared counts as often as it is met; a slice's spare places count too). A statement '..UptoSaid' is the law's where the arguments, and the package variables that the reading takes, are together of bulk at most 1048576: NARROWER than '..Said'. Prove '..Said' where nothing that the law and all that it calls make is longer than what came in: it says more and counts as full. Else prove '..UptoSaid'. A law counts once. -/
mutual
def uptoBulk {H : Type} : DataW H → Nat
  | .lit (.string bytes) => bytes.length + 1
  | .lit _ => 1
  | .nil => 1
  | .ptr d => uptoBulk d + 1
  | .slice elems spare => uptoBulkAll elems + uptoBulkAll spare + 1
  | .agg parts => uptoBulkAll parts + 1
  | .iface _ d => uptoBulk d + 1
  | .map entries => uptoBulkEntries entries + 1
  | .held _ => 1
def uptoBulkAll {H : Type} : List (DataW H) → Nat
  | [] => 0
  | d :: r => uptoBulk d + uptoBulkAll r
def uptoBulkEntries {H : Type} : List (Lit × DataW H) → Nat
  | [] => 0
  | x :: r => uptoBulkEntry x + uptoBulkEntries r
def uptoBulkEntry {H : Type} : Lit × DataW H → Nat
  | (.string bytes, d) => bytes.length + uptoBulk d + 1
  | (_, d) => uptoBulk d + 1
 end
def uptoSmall : (H : Type) → List (DataW H) → Bool := fun _ ds => decide (uptoBulkAll ds ≤ 1048576)
def OpenSpec.upto (s : _root_.Go.ChangeSpec) : _root_.Go.OpenSpec := { _root_.Go.OpenSpec.ofChange s with cond := some uptoSmall }

/-- 'laws.FnExactIsTriangle', WHERE WHAT IT READS IS OF BULK AT MOST 1048576: true; the input reads as it did. -/
def fnExactIsTriangleUptoRow : OpenClaim := { program := "ytcgaikedbhdbgaa", sum := "3cc1827ef8f6ffb9595dae42bf8a0dc82953ed1f26774b2291ccf7c6015f793b", func := "loop.example/g01297/laws.FnExactIsTriangle", spec := "fnExactIsTriangle", plainKeys := false, apart := false, narrowed := true }
def FnExactIsTriangleUptoSaid : Prop := fnExactIsTriangleUptoRow.holds Try.pinned (OpenSpec.upto fnExactIsTriangleSpec)

/-- 'laws.FnExactAreaOfTriangle', WHERE WHAT IT READS IS OF BULK AT MOST 1048576: true; the input reads as it did. -/
def fnExactAreaOfTriangleUptoRow : OpenClaim := { program := "ytcgaikedbhdbgaa", sum := "3cc1827ef8f6ffb9595dae42bf8a0dc82953ed1f26774b2291ccf7c6015f793b", func := "loop.example/g01297/laws.FnExactAreaOfTriangle", spec := "fnExactAreaOfTriangle", plainKeys := false, apart := false, narrowed := true }
def FnExactAreaOfTriangleUptoSaid : Prop := fnExactAreaOfTriangleUptoRow.holds Try.pinned (OpenSpec.upto fnExactAreaOfTriangleSpec)

/-- 'laws.FnExactBoundaryOf', WHERE WHAT IT READS IS OF BULK AT MOST 1048576: true; the input reads as it did. -/
def fnExactBoundaryOfUptoRow : OpenClaim := { program := "ytcgaikedbhdbgaa", sum := "3cc1827ef8f6ffb9595dae42bf8a0dc82953ed1f26774b2291ccf7c6015f793b", func := "loop.example/g01297/laws.FnExactBoundaryOf", spec := "fnExactBoundaryOf", plainKeys := false, apart := false, narrowed := true }
def FnExactBoundaryOfUptoSaid : Prop := fnExactBoundaryOfUptoRow.holds Try.pinned (OpenSpec.upto fnExactBoundaryOfSpec)

/-- 'laws.FnExactCountInner', WHERE WHAT IT READS IS OF BULK AT MOST 1048576: true; the input reads as it did. -/
def fnExactCountInnerUptoRow : OpenClaim := { program := "ytcgaikedbhdbgaa", sum := "3cc1827ef8f6ffb9595dae42bf8a0dc82953ed1f26774b2291ccf7c6015f793b", func := "loop.example/g01297/laws.FnExactCountInner", spec := "fnExactCountInner", plainKeys := false, apart := false, narrowed := true }
def FnExactCountInnerUptoSaid : Prop := fnExactCountInnerUptoRow.holds Try.pinned (OpenSpec.upto fnExactCountInnerSpec)

/-- 'laws.FnExactInnerPoints', WHERE WHAT IT READS IS OF BULK AT MOST 1048576: true; the input reads as it did. -/
def fnExactInnerPointsUptoRow : OpenClaim := { program := "ytcgaikedbhdbgaa", sum := "3cc1827ef8f6ffb9595dae42bf8a0dc82953ed1f26774b2291ccf7c6015f793b", func := "loop.example/g01297/laws.FnExactInnerPoints", spec := "fnExactInnerPoints", plainKeys := false, apart := false, narrowed := true }
def FnExactInnerPointsUptoSaid : Prop := fnExactInnerPointsUptoRow.holds Try.pinned (OpenSpec.upto fnExactInnerPointsSpec)

/-- 'laws.FnExactCornerAt', WHERE WHAT IT READS IS OF BULK AT MOST 1048576: true; the input reads as it did. -/
def fnExactCornerAtUptoRow : OpenClaim := { program := "ytcgaikedbhdbgaa", sum := "3cc1827ef8f6ffb9595dae42bf8a0dc82953ed1f26774b2291ccf7c6015f793b", func := "loop.example/g01297/laws.FnExactCornerAt", spec := "fnExactCornerAt", plainKeys := false, apart := false, narrowed := true }
def FnExactCornerAtUptoSaid : Prop := fnExactCornerAtUptoRow.holds Try.pinned (OpenSpec.upto fnExactCornerAtSpec)

/-- 'laws.FnExactSinesOf', WHERE WHAT IT READS IS OF BULK AT MOST 1048576: true; the input reads as it did. -/
def fnExactSinesOfUptoRow : OpenClaim := { program := "ytcgaikedbhdbgaa", sum := "3cc1827ef8f6ffb9595dae42bf8a0dc82953ed1f26774b2291ccf7c6015f793b", func := "loop.example/g01297/laws.FnExactSinesOf", spec := "fnExactSinesOf", plainKeys := false, apart := false, narrowed := true }
def FnExactSinesOfUptoSaid : Prop := fnExactSinesOfUptoRow.holds Try.pinned (OpenSpec.upto fnExactSinesOfSpec)

/-- 'laws.FnExactShapeOf', WHERE WHAT IT READS IS OF BULK AT MOST 1048576: true; the input reads as it did. -/
def fnExactShapeOfUptoRow : OpenClaim := { program := "ytcgaikedbhdbgaa", sum := "3cc1827ef8f6ffb9595dae42bf8a0dc82953ed1f26774b2291ccf7c6015f793b", func := "loop.example/g01297/laws.FnExactShapeOf", spec := "fnExactShapeOf", plainKeys := false, apart := false, narrowed := true }
def FnExactShapeOfUptoSaid : Prop := fnExactShapeOfUptoRow.holds Try.pinned (OpenSpec.upto fnExactShapeOfSpec)

/-- 'laws.FnExactNormalShape', WHERE WHAT IT READS IS OF BULK AT MOST 1048576: true; the input reads as it did. -/
def fnExactNormalShapeUptoRow : OpenClaim := { program := "ytcgaikedbhdbgaa", sum := "3cc1827ef8f6ffb9595dae42bf8a0dc82953ed1f26774b2291ccf7c6015f793b", func := "loop.example/g01297/laws.FnExactNormalShape", spec := "fnExactNormalShape", unfollowed := true, recurses := true, plainKeys := false, apart := false, narrowed := true }
def FnExactNormalShapeUptoSaid : Prop := fnExactNormalShapeUptoRow.holds Try.pinned (OpenSpec.upto fnExactNormalShapeSpec)

/-- 'laws.FnExactTriangleOf', WHERE WHAT IT READS IS OF BULK AT MOST 1048576: true; the input reads as it did. -/
def fnExactTriangleOfUptoRow : OpenClaim := { program := "ytcgaikedbhdbgaa", sum := "3cc1827ef8f6ffb9595dae42bf8a0dc82953ed1f26774b2291ccf7c6015f793b", func := "loop.example/g01297/laws.FnExactTriangleOf", spec := "fnExactTriangleOf", plainKeys := false, apart := false, narrowed := true }
def FnExactTriangleOfUptoSaid : Prop := fnExactTriangleOfUptoRow.holds Try.pinned (OpenSpec.upto fnExactTriangleOfSpec)

/-- 'laws.FnExactAreEqualTriangles', WHERE WHAT IT READS IS OF BULK AT MOST 1048576: true; the input reads as it did. -/
def fnExactAreEqualTrianglesUptoRow : OpenClaim := { program := "ytcgaikedbhdbgaa", sum := "3cc1827ef8f6ffb9595dae42bf8a0dc82953ed1f26774b2291ccf7c6015f793b", func := "loop.example/g01297/laws.FnExactAreEqualTriangles", spec := "fnExactAreEqualTriangles", unfollowed := true, recurses := true, plainKeys := false, apart := false, narrowed := true }
def FnExactAreEqualTrianglesUptoSaid : Prop := fnExactAreEqualTrianglesUptoRow.holds Try.pinned (OpenSpec.upto fnExactAreEqualTrianglesSpec)

/-- 'laws.FnExactTrianglesOfArea', WHERE WHAT IT READS IS OF BULK AT MOST 1048576: true; the input reads as it did. -/
def fnExactTrianglesOfAreaUptoRow : OpenClaim := { program := "ytcgaikedbhdbgaa", sum := "3cc1827ef8f6ffb9595dae42bf8a0dc82953ed1f26774b2291ccf7c6015f793b", func := "loop.example/g01297/laws.FnExactTrianglesOfArea", spec := "fnExactTrianglesOfArea", unfollowed := true, recurses := true, plainKeys := false, apart := false, narrowed := true }
def FnExactTrianglesOfAreaUptoSaid : Prop := fnExactTrianglesOfAreaUptoRow.holds Try.pinned (OpenSpec.upto fnExactTrianglesOfAreaSpec)

/-- 'laws.FnExactMultipleOf', WHERE WHAT IT READS IS OF BULK AT MOST 1048576: true; the input reads as it did. -/
def fnExactMultipleOfUptoRow : OpenClaim := { program := "ytcgaikedbhdbgaa", sum := "3cc1827ef8f6ffb9595dae42bf8a0dc82953ed1f26774b2291ccf7c6015f793b", func := "loop.example/g01297/laws.FnExactMultipleOf", spec := "fnExactMultipleOf", plainKeys := false, apart := false, narrowed := true }
def FnExactMultipleOfUptoSaid : Prop := fnExactMultipleOfUptoRow.holds Try.pinned (OpenSpec.upto fnExactMultipleOfSpec)

/-- 'laws.FnExactSplitTriangle', WHERE WHAT IT READS IS OF BULK AT MOST 1048576: true; the input reads as it did. -/
def fnExactSplitTriangleUptoRow : OpenClaim := { program := "ytcgaikedbhdbgaa", sum := "3cc1827ef8f6ffb9595dae42bf8a0dc82953ed1f26774b2291ccf7c6015f793b", func := "loop.example/g01297/laws.FnExactSplitTriangle", spec := "fnExactSplitTriangle", plainKeys := false, apart := false, narrowed := true }
def FnExactSplitTriangleUptoSaid : Prop := fnExactSplitTriangleUptoRow.holds Try.pinned (OpenSpec.upto fnExactSplitTriangleSpec)

end Rows
end Go.Proofs.Ytcgaikedbhdbgaa
