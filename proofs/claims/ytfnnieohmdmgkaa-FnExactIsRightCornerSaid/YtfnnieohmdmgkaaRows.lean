/-
  No cell of these rows narrows 'for every input' (looked for: loops, veiled, ifaces, maps, wideKeys, modest, calm, conditions, laid).
  DERIVED. THE GIVEN ROWS OF THIS SEAT. 12 by the template 'for every input the law returns true; each argument reads behind the call as it read before'; 0 by the template 'total and deterministic' (their statements: YtfnnieohmdmgkaaTotals.lean).
  GIVEN WITH THE SEED: the statements are not yours to turn. If you find one false, say at which input.
  Laid BY PROGRAM, IN A SANDBOX (cutbox-rows.mjs): the forced cells as the released guide's own fill.sh prints them over the translation 328b9e518e1e733c… (all of the seat's roots in one cut). By AI agents, Wed Nov 11 2026. No macro, syntax, notation, axiom, sorry.
-/
import Derived.Test.YtfnnieohmdmgkaaChecked
import GoSem.Claim
import GoSem.ClaimJoined
import GoSem.ClaimMapViews
import Derived.JoinedTies
import Derived.KernelRfl
namespace Go.Proofs.Ytfnnieohmdmgkaa
/- THE CELL 'sum', in the pinned program and in every row, IS THE sha256 OF THE DUMP (.gsa) THAT YtfnnieohmdmgkaaProg.lean LOADS. Nothing in Lean hashes anything: it is a label: what it is worth is what the hold of that sum in a sandbox is worth. -/
noncomputable def Try.pinned : Pinned := { name := "ytfnnieohmdmgkaa", sum := "328b9e518e1e733c6259cf3a8b43f18e518d75dfdc8037fea47ceaac0c93fee9", checked := Try.checked }
namespace Rows
def none {H : Type} : Left H := { results := [], args := [] }

/-- 'laws.FnExactFractionOf': WHATEVER THE INPUT: true; the input reads as it did. -/
def fnExactFractionOfSpec : ChangeSpec := { name := "fnExactFractionOf", fn := fun _ => fun
  | [d] => { results := [.lit (.bool true)], args := [d] }
  | _ => none }
def fnExactFractionOfRow : OpenClaim := { program := "ytfnnieohmdmgkaa", sum := "328b9e518e1e733c6259cf3a8b43f18e518d75dfdc8037fea47ceaac0c93fee9", func := "loop.example/g01297/laws.FnExactFractionOf", spec := "fnExactFractionOf", unfollowed := true, recurses := true, plainKeys := false, apart := false }
def FnExactFractionOfSaid : Prop := fnExactFractionOfRow.holds Try.pinned (OpenSpec.ofChange fnExactFractionOfSpec)

/-- ITS FALSE NEIGHBOUR: 'it returns false'. Refute it at one input. -/
def fnExactFractionOfWrong : ChangeSpec := { name := "fnExactFractionOf", fn := fun _ => fun
  | [d] => { results := [.lit (.bool false)], args := [d] }
  | _ => none }
def FnExactFractionOfWrongFalsely : Prop := fnExactFractionOfRow.holds Try.pinned (OpenSpec.ofChange fnExactFractionOfWrong)

/-- 'laws.FnExactIsCorner': WHATEVER THE INPUT: true; the input reads as it did. -/
def fnExactIsCornerSpec : ChangeSpec := { name := "fnExactIsCorner", fn := fun _ => fun
  | [d] => { results := [.lit (.bool true)], args := [d] }
  | _ => none }
def fnExactIsCornerRow : OpenClaim := { program := "ytfnnieohmdmgkaa", sum := "328b9e518e1e733c6259cf3a8b43f18e518d75dfdc8037fea47ceaac0c93fee9", func := "loop.example/g01297/laws.FnExactIsCorner", spec := "fnExactIsCorner", plainKeys := false, apart := false }
def FnExactIsCornerSaid : Prop := fnExactIsCornerRow.holds Try.pinned (OpenSpec.ofChange fnExactIsCornerSpec)

/-- ITS FALSE NEIGHBOUR: 'it returns false'. Refute it at one input. -/
def fnExactIsCornerWrong : ChangeSpec := { name := "fnExactIsCorner", fn := fun _ => fun
  | [d] => { results := [.lit (.bool false)], args := [d] }
  | _ => none }
def FnExactIsCornerWrongFalsely : Prop := fnExactIsCornerRow.holds Try.pinned (OpenSpec.ofChange fnExactIsCornerWrong)

/-- 'laws.FnExactSineOf': WHATEVER THE INPUT: true; the input reads as it did. -/
def fnExactSineOfSpec : ChangeSpec := { name := "fnExactSineOf", fn := fun _ => fun
  | [d] => { results := [.lit (.bool true)], args := [d] }
  | _ => none }
def fnExactSineOfRow : OpenClaim := { program := "ytfnnieohmdmgkaa", sum := "328b9e518e1e733c6259cf3a8b43f18e518d75dfdc8037fea47ceaac0c93fee9", func := "loop.example/g01297/laws.FnExactSineOf", spec := "fnExactSineOf", plainKeys := false, apart := false }
def FnExactSineOfSaid : Prop := fnExactSineOfRow.holds Try.pinned (OpenSpec.ofChange fnExactSineOfSpec)

/-- ITS FALSE NEIGHBOUR: 'it returns false'. Refute it at one input. -/
def fnExactSineOfWrong : ChangeSpec := { name := "fnExactSineOf", fn := fun _ => fun
  | [d] => { results := [.lit (.bool false)], args := [d] }
  | _ => none }
def FnExactSineOfWrongFalsely : Prop := fnExactSineOfRow.holds Try.pinned (OpenSpec.ofChange fnExactSineOfWrong)

/-- 'laws.FnExactCosineOf': WHATEVER THE INPUT: true; the input reads as it did. -/
def fnExactCosineOfSpec : ChangeSpec := { name := "fnExactCosineOf", fn := fun _ => fun
  | [d] => { results := [.lit (.bool true)], args := [d] }
  | _ => none }
def fnExactCosineOfRow : OpenClaim := { program := "ytfnnieohmdmgkaa", sum := "328b9e518e1e733c6259cf3a8b43f18e518d75dfdc8037fea47ceaac0c93fee9", func := "loop.example/g01297/laws.FnExactCosineOf", spec := "fnExactCosineOf", plainKeys := false, apart := false }
def FnExactCosineOfSaid : Prop := fnExactCosineOfRow.holds Try.pinned (OpenSpec.ofChange fnExactCosineOfSpec)

/-- ITS FALSE NEIGHBOUR: 'it returns false'. Refute it at one input. -/
def fnExactCosineOfWrong : ChangeSpec := { name := "fnExactCosineOf", fn := fun _ => fun
  | [d] => { results := [.lit (.bool false)], args := [d] }
  | _ => none }
def FnExactCosineOfWrongFalsely : Prop := fnExactCosineOfRow.holds Try.pinned (OpenSpec.ofChange fnExactCosineOfWrong)

/-- 'laws.FnExactAreEqualCorners': WHATEVER THE INPUT: true; the input reads as it did. -/
def fnExactAreEqualCornersSpec : ChangeSpec := { name := "fnExactAreEqualCorners", fn := fun _ => fun
  | [d1, d2] => { results := [.lit (.bool true)], args := [d1, d2] }
  | _ => none }
def fnExactAreEqualCornersRow : OpenClaim := { program := "ytfnnieohmdmgkaa", sum := "328b9e518e1e733c6259cf3a8b43f18e518d75dfdc8037fea47ceaac0c93fee9", func := "loop.example/g01297/laws.FnExactAreEqualCorners", spec := "fnExactAreEqualCorners", plainKeys := false, apart := false }
def FnExactAreEqualCornersSaid : Prop := fnExactAreEqualCornersRow.holds Try.pinned (OpenSpec.ofChange fnExactAreEqualCornersSpec)

/-- ITS FALSE NEIGHBOUR: 'it returns false'. Refute it at one input. -/
def fnExactAreEqualCornersWrong : ChangeSpec := { name := "fnExactAreEqualCorners", fn := fun _ => fun
  | [d1, d2] => { results := [.lit (.bool false)], args := [d1, d2] }
  | _ => none }
def FnExactAreEqualCornersWrongFalsely : Prop := fnExactAreEqualCornersRow.holds Try.pinned (OpenSpec.ofChange fnExactAreEqualCornersWrong)

/-- 'laws.FnExactNormalCorner': WHATEVER THE INPUT: true; the input reads as it did. -/
def fnExactNormalCornerSpec : ChangeSpec := { name := "fnExactNormalCorner", fn := fun _ => fun
  | [d] => { results := [.lit (.bool true)], args := [d] }
  | _ => none }
def fnExactNormalCornerRow : OpenClaim := { program := "ytfnnieohmdmgkaa", sum := "328b9e518e1e733c6259cf3a8b43f18e518d75dfdc8037fea47ceaac0c93fee9", func := "loop.example/g01297/laws.FnExactNormalCorner", spec := "fnExactNormalCorner", plainKeys := false, apart := false }
def FnExactNormalCornerSaid : Prop := fnExactNormalCornerRow.holds Try.pinned (OpenSpec.ofChange fnExactNormalCornerSpec)

/-- ITS FALSE NEIGHBOUR: 'it returns false'. Refute it at one input. -/
def fnExactNormalCornerWrong : ChangeSpec := { name := "fnExactNormalCorner", fn := fun _ => fun
  | [d] => { results := [.lit (.bool false)], args := [d] }
  | _ => none }
def FnExactNormalCornerWrongFalsely : Prop := fnExactNormalCornerRow.holds Try.pinned (OpenSpec.ofChange fnExactNormalCornerWrong)

/-- 'laws.FnExactTransposeCorner': WHATEVER THE INPUT: true; the input reads as it did. -/
def fnExactTransposeCornerSpec : ChangeSpec := { name := "fnExactTransposeCorner", fn := fun _ => fun
  | [d] => { results := [.lit (.bool true)], args := [d] }
  | _ => none }
def fnExactTransposeCornerRow : OpenClaim := { program := "ytfnnieohmdmgkaa", sum := "328b9e518e1e733c6259cf3a8b43f18e518d75dfdc8037fea47ceaac0c93fee9", func := "loop.example/g01297/laws.FnExactTransposeCorner", spec := "fnExactTransposeCorner", plainKeys := false, apart := false }
def FnExactTransposeCornerSaid : Prop := fnExactTransposeCornerRow.holds Try.pinned (OpenSpec.ofChange fnExactTransposeCornerSpec)

/-- ITS FALSE NEIGHBOUR: 'it returns false'. Refute it at one input. -/
def fnExactTransposeCornerWrong : ChangeSpec := { name := "fnExactTransposeCorner", fn := fun _ => fun
  | [d] => { results := [.lit (.bool false)], args := [d] }
  | _ => none }
def FnExactTransposeCornerWrongFalsely : Prop := fnExactTransposeCornerRow.holds Try.pinned (OpenSpec.ofChange fnExactTransposeCornerWrong)

/-- 'laws.FnExactAdjacentCorner': WHATEVER THE INPUT: true; the input reads as it did. -/
def fnExactAdjacentCornerSpec : ChangeSpec := { name := "fnExactAdjacentCorner", fn := fun _ => fun
  | [d] => { results := [.lit (.bool true)], args := [d] }
  | _ => none }
def fnExactAdjacentCornerRow : OpenClaim := { program := "ytfnnieohmdmgkaa", sum := "328b9e518e1e733c6259cf3a8b43f18e518d75dfdc8037fea47ceaac0c93fee9", func := "loop.example/g01297/laws.FnExactAdjacentCorner", spec := "fnExactAdjacentCorner", plainKeys := false, apart := false }
def FnExactAdjacentCornerSaid : Prop := fnExactAdjacentCornerRow.holds Try.pinned (OpenSpec.ofChange fnExactAdjacentCornerSpec)

/-- ITS FALSE NEIGHBOUR: 'it returns false'. Refute it at one input. -/
def fnExactAdjacentCornerWrong : ChangeSpec := { name := "fnExactAdjacentCorner", fn := fun _ => fun
  | [d] => { results := [.lit (.bool false)], args := [d] }
  | _ => none }
def FnExactAdjacentCornerWrongFalsely : Prop := fnExactAdjacentCornerRow.holds Try.pinned (OpenSpec.ofChange fnExactAdjacentCornerWrong)

/-- 'laws.FnExactCornerOfTangent': WHATEVER THE INPUT: true; the input reads as it did. -/
def fnExactCornerOfTangentSpec : ChangeSpec := { name := "fnExactCornerOfTangent", fn := fun _ => fun
  | [d1, d2] => { results := [.lit (.bool true)], args := [d1, d2] }
  | _ => none }
def fnExactCornerOfTangentRow : OpenClaim := { program := "ytfnnieohmdmgkaa", sum := "328b9e518e1e733c6259cf3a8b43f18e518d75dfdc8037fea47ceaac0c93fee9", func := "loop.example/g01297/laws.FnExactCornerOfTangent", spec := "fnExactCornerOfTangent", plainKeys := false, apart := false }
def FnExactCornerOfTangentSaid : Prop := fnExactCornerOfTangentRow.holds Try.pinned (OpenSpec.ofChange fnExactCornerOfTangentSpec)

/-- ITS FALSE NEIGHBOUR: 'it returns false'. Refute it at one input. -/
def fnExactCornerOfTangentWrong : ChangeSpec := { name := "fnExactCornerOfTangent", fn := fun _ => fun
  | [d1, d2] => { results := [.lit (.bool false)], args := [d1, d2] }
  | _ => none }
def FnExactCornerOfTangentWrongFalsely : Prop := fnExactCornerOfTangentRow.holds Try.pinned (OpenSpec.ofChange fnExactCornerOfTangentWrong)

/-- 'laws.FnExactCornerOfExpansion': WHATEVER THE INPUT: true; the input reads as it did. -/
def fnExactCornerOfExpansionSpec : ChangeSpec := { name := "fnExactCornerOfExpansion", fn := fun _ => fun
  | [d] => { results := [.lit (.bool true)], args := [d] }
  | _ => none }
def fnExactCornerOfExpansionRow : OpenClaim := { program := "ytfnnieohmdmgkaa", sum := "328b9e518e1e733c6259cf3a8b43f18e518d75dfdc8037fea47ceaac0c93fee9", func := "loop.example/g01297/laws.FnExactCornerOfExpansion", spec := "fnExactCornerOfExpansion", unfollowed := true, recurses := true, plainKeys := false, apart := false }
def FnExactCornerOfExpansionSaid : Prop := fnExactCornerOfExpansionRow.holds Try.pinned (OpenSpec.ofChange fnExactCornerOfExpansionSpec)

/-- ITS FALSE NEIGHBOUR: 'it returns false'. Refute it at one input. -/
def fnExactCornerOfExpansionWrong : ChangeSpec := { name := "fnExactCornerOfExpansion", fn := fun _ => fun
  | [d] => { results := [.lit (.bool false)], args := [d] }
  | _ => none }
def FnExactCornerOfExpansionWrongFalsely : Prop := fnExactCornerOfExpansionRow.holds Try.pinned (OpenSpec.ofChange fnExactCornerOfExpansionWrong)

/-- 'laws.FnExactMoveCorner': WHATEVER THE INPUT: true; the input reads as it did. -/
def fnExactMoveCornerSpec : ChangeSpec := { name := "fnExactMoveCorner", fn := fun _ => fun
  | [d1, d2] => { results := [.lit (.bool true)], args := [d1, d2] }
  | _ => none }
def fnExactMoveCornerRow : OpenClaim := { program := "ytfnnieohmdmgkaa", sum := "328b9e518e1e733c6259cf3a8b43f18e518d75dfdc8037fea47ceaac0c93fee9", func := "loop.example/g01297/laws.FnExactMoveCorner", spec := "fnExactMoveCorner", plainKeys := false, apart := false }
def FnExactMoveCornerSaid : Prop := fnExactMoveCornerRow.holds Try.pinned (OpenSpec.ofChange fnExactMoveCornerSpec)

/-- ITS FALSE NEIGHBOUR: 'it returns false'. Refute it at one input. -/
def fnExactMoveCornerWrong : ChangeSpec := { name := "fnExactMoveCorner", fn := fun _ => fun
  | [d1, d2] => { results := [.lit (.bool false)], args := [d1, d2] }
  | _ => none }
def FnExactMoveCornerWrongFalsely : Prop := fnExactMoveCornerRow.holds Try.pinned (OpenSpec.ofChange fnExactMoveCornerWrong)

/-- 'laws.FnExactIsRightCorner': WHATEVER THE INPUT: true; the input reads as it did. -/
def fnExactIsRightCornerSpec : ChangeSpec := { name := "fnExactIsRightCorner", fn := fun _ => fun
  | [d] => { results := [.lit (.bool true)], args := [d] }
  | _ => none }
def fnExactIsRightCornerRow : OpenClaim := { program := "ytfnnieohmdmgkaa", sum := "328b9e518e1e733c6259cf3a8b43f18e518d75dfdc8037fea47ceaac0c93fee9", func := "loop.example/g01297/laws.FnExactIsRightCorner", spec := "fnExactIsRightCorner", plainKeys := false, apart := false }
def FnExactIsRightCornerSaid : Prop := fnExactIsRightCornerRow.holds Try.pinned (OpenSpec.ofChange fnExactIsRightCornerSpec)

/-- ITS FALSE NEIGHBOUR: 'it returns false'. Refute it at one input. -/
def fnExactIsRightCornerWrong : ChangeSpec := { name := "fnExactIsRightCorner", fn := fun _ => fun
  | [d] => { results := [.lit (.bool false)], args := [d] }
  | _ => none }
def FnExactIsRightCornerWrongFalsely : Prop := fnExactIsRightCornerRow.holds Try.pinned (OpenSpec.ofChange fnExactIsRightCornerWrong)

/- THE SECOND FORM. 'bulk': how many values and letters a reading holds, each counted each time it is reached (what is shared counts as often as it is met; a slice's spare places count too). A statement '..UptoSaid' is the law's where the arguments, and the package variables that the reading takes, are together of bulk at most 1048576: NARROWER than '..Said'. Prove '..Said' where nothing that the law and all that it calls make is longer than what came in: it says more and counts as full. Else prove '..UptoSaid'. A law counts once. -/
mutual
def uptoBulk {H : Type} : DataW H → Nat
  | .lit (.string bytes) => bytes.length + 1
  | .lit _ => 1
  | .nil => 1
  | .ptr d => uptoBulk d + 1
  | .slice elems spare => uptoBulkAll elems + uptoBulkAll spare + 1
  | .agg parts => uptoBulkAll parts + 1
  | .iface _ d => uptoBulk d + 1
  | .map entries => uptoBulkEntries entries + 1
  | .held _ => 1
def uptoBulkAll {H : Type} : List (DataW H) → Nat
  | [] => 0
  | d :: r => uptoBulk d + uptoBulkAll r
def uptoBulkEntries {H : Type} : List (Lit × DataW H) → Nat
  | [] => 0
  | x :: r => uptoBulkEntry x + uptoBulkEntries r
def uptoBulkEntry {H : Type} : Lit × DataW H → Nat
  | (.string bytes, d) => bytes.length + uptoBulk d + 1
  | (_, d) => uptoBulk d + 1
 end
def uptoSmall : (H : Type) → List (DataW H) → Bool := fun _ ds => decide (uptoBulkAll ds ≤ 1048576)
def OpenSpec.upto (s : _root_.Go.ChangeSpec) : _root_.Go.OpenSpec := { _root_.Go.OpenSpec.ofChange s with cond := some uptoSmall }

/-- 'laws.FnExactFractionOf', WHERE WHAT IT READS IS OF BULK AT MOST 1048576: true; the input reads as it did. -/
def fnExactFractionOfUptoRow : OpenClaim := { program := "ytfnnieohmdmgkaa", sum := "328b9e518e1e733c6259cf3a8b43f18e518d75dfdc8037fea47ceaac0c93fee9", func := "loop.example/g01297/laws.FnExactFractionOf", spec := "fnExactFractionOf", unfollowed := true, recurses := true, plainKeys := false, apart := false, narrowed := true }
def FnExactFractionOfUptoSaid : Prop := fnExactFractionOfUptoRow.holds Try.pinned (OpenSpec.upto fnExactFractionOfSpec)

/-- 'laws.FnExactIsCorner', WHERE WHAT IT READS IS OF BULK AT MOST 1048576: true; the input reads as it did. -/
def fnExactIsCornerUptoRow : OpenClaim := { program := "ytfnnieohmdmgkaa", sum := "328b9e518e1e733c6259cf3a8b43f18e518d75dfdc8037fea47ceaac0c93fee9", func := "loop.example/g01297/laws.FnExactIsCorner", spec := "fnExactIsCorner", plainKeys := false, apart := false, narrowed := true }
def FnExactIsCornerUptoSaid : Prop := fnExactIsCornerUptoRow.holds Try.pinned (OpenSpec.upto fnExactIsCornerSpec)

/-- 'laws.FnExactSineOf', WHERE WHAT IT READS IS OF BULK AT MOST 1048576: true; the input reads as it did. -/
def fnExactSineOfUptoRow : OpenClaim := { program := "ytfnnieohmdmgkaa", sum := "328b9e518e1e733c6259cf3a8b43f18e518d75dfdc8037fea47ceaac0c93fee9", func := "loop.example/g01297/laws.FnExactSineOf", spec := "fnExactSineOf", plainKeys := false, apart := false, narrowed := true }
def FnExactSineOfUptoSaid : Prop := fnExactSineOfUptoRow.holds Try.pinned (OpenSpec.upto fnExactSineOfSpec)

/-- 'laws.FnExactCosineOf', WHERE WHAT IT READS IS OF BULK AT MOST 1048576: true; the input reads as it did. -/
def fnExactCosineOfUptoRow : OpenClaim := { program := "ytfnnieohmdmgkaa", sum := "328b9e518e1e733c6259cf3a8b43f18e518d75dfdc8037fea47ceaac0c93fee9", func := "loop.example/g01297/laws.FnExactCosineOf", spec := "fnExactCosineOf", plainKeys := false, apart := false, narrowed := true }
def FnExactCosineOfUptoSaid : Prop := fnExactCosineOfUptoRow.holds Try.pinned (OpenSpec.upto fnExactCosineOfSpec)

/-- 'laws.FnExactAreEqualCorners', WHERE WHAT IT READS IS OF BULK AT MOST 1048576: true; the input reads as it did. -/
def fnExactAreEqualCornersUptoRow : OpenClaim := { program := "ytfnnieohmdmgkaa", sum := "328b9e518e1e733c6259cf3a8b43f18e518d75dfdc8037fea47ceaac0c93fee9", func := "loop.example/g01297/laws.FnExactAreEqualCorners", spec := "fnExactAreEqualCorners", plainKeys := false, apart := false, narrowed := true }
def FnExactAreEqualCornersUptoSaid : Prop := fnExactAreEqualCornersUptoRow.holds Try.pinned (OpenSpec.upto fnExactAreEqualCornersSpec)

/-- 'laws.FnExactNormalCorner', WHERE WHAT IT READS IS OF BULK AT MOST 1048576: true; the input reads as it did. -/
def fnExactNormalCornerUptoRow : OpenClaim := { program := "ytfnnieohmdmgkaa", sum := "328b9e518e1e733c6259cf3a8b43f18e518d75dfdc8037fea47ceaac0c93fee9", func := "loop.example/g01297/laws.FnExactNormalCorner", spec := "fnExactNormalCorner", plainKeys := false, apart := false, narrowed := true }
def FnExactNormalCornerUptoSaid : Prop := fnExactNormalCornerUptoRow.holds Try.pinned (OpenSpec.upto fnExactNormalCornerSpec)

/-- 'laws.FnExactTransposeCorner', WHERE WHAT IT READS IS OF BULK AT MOST 1048576: true; the input reads as it did. -/
def fnExactTransposeCornerUptoRow : OpenClaim := { program := "ytfnnieohmdmgkaa", sum := "328b9e518e1e733c6259cf3a8b43f18e518d75dfdc8037fea47ceaac0c93fee9", func := "loop.example/g01297/laws.FnExactTransposeCorner", spec := "fnExactTransposeCorner", plainKeys := false, apart := false, narrowed := true }
def FnExactTransposeCornerUptoSaid : Prop := fnExactTransposeCornerUptoRow.holds Try.pinned (OpenSpec.upto fnExactTransposeCornerSpec)

/-- 'laws.FnExactAdjacentCorner', WHERE WHAT IT READS IS OF BULK AT MOST 1048576: true; the input reads as it did. -/
def fnExactAdjacentCornerUptoRow : OpenClaim := { program := "ytfnnieohmdmgkaa", sum := "328b9e518e1e733c6259cf3a8b43f18e518d75dfdc8037fea47ceaac0c93fee9", func := "loop.example/g01297/laws.FnExactAdjacentCorner", spec := "fnExactAdjacentCorner", plainKeys := false, apart := false, narrowed := true }
def FnExactAdjacentCornerUptoSaid : Prop := fnExactAdjacentCornerUptoRow.holds Try.pinned (OpenSpec.upto fnExactAdjacentCornerSpec)

/-- 'laws.FnExactCornerOfTangent', WHERE WHAT IT READS IS OF BULK AT MOST 1048576: true; the input reads as it did. -/
def fnExactCornerOfTangentUptoRow : OpenClaim := { program := "ytfnnieohmdmgkaa", sum := "328b9e518e1e733c6259cf3a8b43f18e518d75dfdc8037fea47ceaac0c93fee9", func := "loop.example/g01297/laws.FnExactCornerOfTangent", spec := "fnExactCornerOfTangent", plainKeys := false, apart := false, narrowed := true }
def FnExactCornerOfTangentUptoSaid : Prop := fnExactCornerOfTangentUptoRow.holds Try.pinned (OpenSpec.upto fnExactCornerOfTangentSpec)

/-- 'laws.FnExactCornerOfExpansion', WHERE WHAT IT READS IS OF BULK AT MOST 1048576: true; the input reads as it did. -/
def fnExactCornerOfExpansionUptoRow : OpenClaim := { program := "ytfnnieohmdmgkaa", sum := "328b9e518e1e733c6259cf3a8b43f18e518d75dfdc8037fea47ceaac0c93fee9", func := "loop.example/g01297/laws.FnExactCornerOfExpansion", spec := "fnExactCornerOfExpansion", unfollowed := true, recurses := true, plainKeys := false, apart := false, narrowed := true }
def FnExactCornerOfExpansionUptoSaid : Prop := fnExactCornerOfExpansionUptoRow.holds Try.pinned (OpenSpec.upto fnExactCornerOfExpansionSpec)

/-- 'laws.FnExactMoveCorner', WHERE WHAT IT READS IS OF BULK AT MOST 1048576: true; the input reads as it did. -/
def fnExactMoveCornerUptoRow : OpenClaim := { program := "ytfnnieohmdmgkaa", sum := "328b9e518e1e733c6259cf3a8b43f18e518d75dfdc8037fea47ceaac0c93fee9", func := "loop.example/g01297/laws.FnExactMoveCorner", spec := "fnExactMoveCorner", plainKeys := false, apart := false, narrowed := true }
def FnExactMoveCornerUptoSaid : Prop := fnExactMoveCornerUptoRow.holds Try.pinned (OpenSpec.upto fnExactMoveCornerSpec)

/-- 'laws.FnExactIsRightCorner', WHERE WHAT IT READS IS OF BULK AT MOST 1048576: true; the input reads as it did. -/
def fnExactIsRightCornerUptoRow : OpenClaim := { program := "ytfnnieohmdmgkaa", sum := "328b9e518e1e733c6259cf3a8b43f18e518d75dfdc8037fea47ceaac0c93fee9", func := "loop.example/g01297/laws.FnExactIsRightCorner", spec := "fnExactIsRightCorner", plainKeys := false, apart := false, narrowed := true }
def FnExactIsRightCornerUptoSaid : Prop := fnExactIsRightCornerUptoRow.holds Try.pinned (OpenSpec.upto fnExactIsRightCornerSpec)

end Rows
end Go.Proofs.Ytfnnieohmdmgkaa
