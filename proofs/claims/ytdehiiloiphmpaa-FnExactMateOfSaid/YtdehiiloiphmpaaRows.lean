/-
  No cell of these rows narrows 'for every input' (looked for: loops, veiled, ifaces, maps, wideKeys, modest, calm, conditions, laid).
  DERIVED. THE GIVEN ROWS OF THIS SEAT. 11 by the template 'for every input the law returns true; each argument reads behind the call as it read before'; 0 by the template 'total and deterministic' (their statements: YtdehiiloiphmpaaTotals.lean).
  GIVEN WITH THE SEED: the statements are not yours to turn. If you find one false, say at which input.
  Laid BY PROGRAM, IN A SANDBOX (cutbox-rows.mjs): the forced cells as the released guide's own fill.sh prints them over the translation 4b6e29a7f9e875ea… (all of the seat's roots in one cut). By AI agents, Wed Nov 11 2026. No macro, syntax, notation, axiom, sorry.
-/
import Derived.Test.YtdehiiloiphmpaaChecked
import GoSem.Claim
import GoSem.ClaimJoined
import GoSem.ClaimMapViews
import Derived.JoinedTies
import Derived.KernelRfl
namespace Go.Proofs.Ytdehiiloiphmpaa
/- THE CELL 'sum', in the pinned program and in every row, IS THE sha256 OF THE DUMP (.gsa) THAT YtdehiiloiphmpaaProg.lean LOADS. Nothing in Lean hashes anything: it is a label: what it is worth is what the hold of that sum in a sandbox is worth. -/
noncomputable def Try.pinned : Pinned := { name := "ytdehiiloiphmpaa", sum := "4b6e29a7f9e875ea47d57cc83af6e590c75a290afb28dd1c026b0f8e58db7940", checked := Try.checked }
namespace Rows
def none {H : Type} : Left H := { results := [], args := [] }

/-- 'laws.FnPointMaps': WHATEVER THE INPUT: true; the input reads as it did. -/
def fnPointMapsSpec : ChangeSpec := { name := "fnPointMaps", fn := fun _ => fun
  | [d] => { results := [.lit (.bool true)], args := [d] }
  | _ => none }
def fnPointMapsRow : OpenClaim := { program := "ytdehiiloiphmpaa", sum := "4b6e29a7f9e875ea47d57cc83af6e590c75a290afb28dd1c026b0f8e58db7940", func := "loop.example/g01297/laws.FnPointMaps", spec := "fnPointMaps", plainKeys := false, apart := false }
def FnPointMapsSaid : Prop := fnPointMapsRow.holds Try.pinned (OpenSpec.ofChange fnPointMapsSpec)

/-- ITS FALSE NEIGHBOUR: 'it returns false'. Refute it at one input. -/
def fnPointMapsWrong : ChangeSpec := { name := "fnPointMaps", fn := fun _ => fun
  | [d] => { results := [.lit (.bool false)], args := [d] }
  | _ => none }
def FnPointMapsWrongFalsely : Prop := fnPointMapsRow.holds Try.pinned (OpenSpec.ofChange fnPointMapsWrong)

/-- 'laws.FnExactIsPoint': WHATEVER THE INPUT: true; the input reads as it did. -/
def fnExactIsPointSpec : ChangeSpec := { name := "fnExactIsPoint", fn := fun _ => fun
  | [d] => { results := [.lit (.bool true)], args := [d] }
  | _ => none }
def fnExactIsPointRow : OpenClaim := { program := "ytdehiiloiphmpaa", sum := "4b6e29a7f9e875ea47d57cc83af6e590c75a290afb28dd1c026b0f8e58db7940", func := "loop.example/g01297/laws.FnExactIsPoint", spec := "fnExactIsPoint", plainKeys := false, apart := false }
def FnExactIsPointSaid : Prop := fnExactIsPointRow.holds Try.pinned (OpenSpec.ofChange fnExactIsPointSpec)

/-- ITS FALSE NEIGHBOUR: 'it returns false'. Refute it at one input. -/
def fnExactIsPointWrong : ChangeSpec := { name := "fnExactIsPoint", fn := fun _ => fun
  | [d] => { results := [.lit (.bool false)], args := [d] }
  | _ => none }
def FnExactIsPointWrongFalsely : Prop := fnExactIsPointRow.holds Try.pinned (OpenSpec.ofChange fnExactIsPointWrong)

/-- 'laws.FnExactAddPoints': WHATEVER THE INPUT: true; the input reads as it did. -/
def fnExactAddPointsSpec : ChangeSpec := { name := "fnExactAddPoints", fn := fun _ => fun
  | [d1, d2, d3] => { results := [.lit (.bool true)], args := [d1, d2, d3] }
  | _ => none }
def fnExactAddPointsRow : OpenClaim := { program := "ytdehiiloiphmpaa", sum := "4b6e29a7f9e875ea47d57cc83af6e590c75a290afb28dd1c026b0f8e58db7940", func := "loop.example/g01297/laws.FnExactAddPoints", spec := "fnExactAddPoints", plainKeys := false, apart := false }
def FnExactAddPointsSaid : Prop := fnExactAddPointsRow.holds Try.pinned (OpenSpec.ofChange fnExactAddPointsSpec)

/-- ITS FALSE NEIGHBOUR: 'it returns false'. Refute it at one input. -/
def fnExactAddPointsWrong : ChangeSpec := { name := "fnExactAddPoints", fn := fun _ => fun
  | [d1, d2, d3] => { results := [.lit (.bool false)], args := [d1, d2, d3] }
  | _ => none }
def FnExactAddPointsWrongFalsely : Prop := fnExactAddPointsRow.holds Try.pinned (OpenSpec.ofChange fnExactAddPointsWrong)

/-- 'laws.FnExactDeterminantOf': WHATEVER THE INPUT: true; the input reads as it did. -/
def fnExactDeterminantOfSpec : ChangeSpec := { name := "fnExactDeterminantOf", fn := fun _ => fun
  | [d1, d2] => { results := [.lit (.bool true)], args := [d1, d2] }
  | _ => none }
def fnExactDeterminantOfRow : OpenClaim := { program := "ytdehiiloiphmpaa", sum := "4b6e29a7f9e875ea47d57cc83af6e590c75a290afb28dd1c026b0f8e58db7940", func := "loop.example/g01297/laws.FnExactDeterminantOf", spec := "fnExactDeterminantOf", plainKeys := false, apart := false }
def FnExactDeterminantOfSaid : Prop := fnExactDeterminantOfRow.holds Try.pinned (OpenSpec.ofChange fnExactDeterminantOfSpec)

/-- ITS FALSE NEIGHBOUR: 'it returns false'. Refute it at one input. -/
def fnExactDeterminantOfWrong : ChangeSpec := { name := "fnExactDeterminantOf", fn := fun _ => fun
  | [d1, d2] => { results := [.lit (.bool false)], args := [d1, d2] }
  | _ => none }
def FnExactDeterminantOfWrongFalsely : Prop := fnExactDeterminantOfRow.holds Try.pinned (OpenSpec.ofChange fnExactDeterminantOfWrong)

/-- 'laws.FnExactLengthOf': WHATEVER THE INPUT: true; the input reads as it did. -/
def fnExactLengthOfSpec : ChangeSpec := { name := "fnExactLengthOf", fn := fun _ => fun
  | [d1, d2] => { results := [.lit (.bool true)], args := [d1, d2] }
  | _ => none }
def fnExactLengthOfRow : OpenClaim := { program := "ytdehiiloiphmpaa", sum := "4b6e29a7f9e875ea47d57cc83af6e590c75a290afb28dd1c026b0f8e58db7940", func := "loop.example/g01297/laws.FnExactLengthOf", spec := "fnExactLengthOf", plainKeys := false, apart := false }
def FnExactLengthOfSaid : Prop := fnExactLengthOfRow.holds Try.pinned (OpenSpec.ofChange fnExactLengthOfSpec)

/-- ITS FALSE NEIGHBOUR: 'it returns false'. Refute it at one input. -/
def fnExactLengthOfWrong : ChangeSpec := { name := "fnExactLengthOf", fn := fun _ => fun
  | [d1, d2] => { results := [.lit (.bool false)], args := [d1, d2] }
  | _ => none }
def FnExactLengthOfWrongFalsely : Prop := fnExactLengthOfRow.holds Try.pinned (OpenSpec.ofChange fnExactLengthOfWrong)

/-- 'laws.FnExactPrimitiveOf': WHATEVER THE INPUT: true; the input reads as it did. -/
def fnExactPrimitiveOfSpec : ChangeSpec := { name := "fnExactPrimitiveOf", fn := fun _ => fun
  | [d] => { results := [.lit (.bool true)], args := [d] }
  | _ => none }
def fnExactPrimitiveOfRow : OpenClaim := { program := "ytdehiiloiphmpaa", sum := "4b6e29a7f9e875ea47d57cc83af6e590c75a290afb28dd1c026b0f8e58db7940", func := "loop.example/g01297/laws.FnExactPrimitiveOf", spec := "fnExactPrimitiveOf", plainKeys := false, apart := false }
def FnExactPrimitiveOfSaid : Prop := fnExactPrimitiveOfRow.holds Try.pinned (OpenSpec.ofChange fnExactPrimitiveOfSpec)

/-- ITS FALSE NEIGHBOUR: 'it returns false'. Refute it at one input. -/
def fnExactPrimitiveOfWrong : ChangeSpec := { name := "fnExactPrimitiveOf", fn := fun _ => fun
  | [d] => { results := [.lit (.bool false)], args := [d] }
  | _ => none }
def FnExactPrimitiveOfWrongFalsely : Prop := fnExactPrimitiveOfRow.holds Try.pinned (OpenSpec.ofChange fnExactPrimitiveOfWrong)

/-- 'laws.FnExactAreaOf': WHATEVER THE INPUT: true; the input reads as it did. -/
def fnExactAreaOfSpec : ChangeSpec := { name := "fnExactAreaOf", fn := fun _ => fun
  | [d1, d2, d3] => { results := [.lit (.bool true)], args := [d1, d2, d3] }
  | _ => none }
def fnExactAreaOfRow : OpenClaim := { program := "ytdehiiloiphmpaa", sum := "4b6e29a7f9e875ea47d57cc83af6e590c75a290afb28dd1c026b0f8e58db7940", func := "loop.example/g01297/laws.FnExactAreaOf", spec := "fnExactAreaOf", plainKeys := false, apart := false }
def FnExactAreaOfSaid : Prop := fnExactAreaOfRow.holds Try.pinned (OpenSpec.ofChange fnExactAreaOfSpec)

/-- ITS FALSE NEIGHBOUR: 'it returns false'. Refute it at one input. -/
def fnExactAreaOfWrong : ChangeSpec := { name := "fnExactAreaOf", fn := fun _ => fun
  | [d1, d2, d3] => { results := [.lit (.bool false)], args := [d1, d2, d3] }
  | _ => none }
def FnExactAreaOfWrongFalsely : Prop := fnExactAreaOfRow.holds Try.pinned (OpenSpec.ofChange fnExactAreaOfWrong)

/-- 'laws.FnExactDistanceOf': WHATEVER THE INPUT: true; the input reads as it did. -/
def fnExactDistanceOfSpec : ChangeSpec := { name := "fnExactDistanceOf", fn := fun _ => fun
  | [d1, d2, d3] => { results := [.lit (.bool true)], args := [d1, d2, d3] }
  | _ => none }
def fnExactDistanceOfRow : OpenClaim := { program := "ytdehiiloiphmpaa", sum := "4b6e29a7f9e875ea47d57cc83af6e590c75a290afb28dd1c026b0f8e58db7940", func := "loop.example/g01297/laws.FnExactDistanceOf", spec := "fnExactDistanceOf", plainKeys := false, apart := false }
def FnExactDistanceOfSaid : Prop := fnExactDistanceOfRow.holds Try.pinned (OpenSpec.ofChange fnExactDistanceOfSpec)

/-- ITS FALSE NEIGHBOUR: 'it returns false'. Refute it at one input. -/
def fnExactDistanceOfWrong : ChangeSpec := { name := "fnExactDistanceOf", fn := fun _ => fun
  | [d1, d2, d3] => { results := [.lit (.bool false)], args := [d1, d2, d3] }
  | _ => none }
def FnExactDistanceOfWrongFalsely : Prop := fnExactDistanceOfRow.holds Try.pinned (OpenSpec.ofChange fnExactDistanceOfWrong)

/-- 'laws.FnExactMateOf': WHATEVER THE INPUT: true; the input reads as it did. -/
def fnExactMateOfSpec : ChangeSpec := { name := "fnExactMateOf", fn := fun _ => fun
  | [d] => { results := [.lit (.bool true)], args := [d] }
  | _ => none }
def fnExactMateOfRow : OpenClaim := { program := "ytdehiiloiphmpaa", sum := "4b6e29a7f9e875ea47d57cc83af6e590c75a290afb28dd1c026b0f8e58db7940", func := "loop.example/g01297/laws.FnExactMateOf", spec := "fnExactMateOf", plainKeys := false, apart := false }
def FnExactMateOfSaid : Prop := fnExactMateOfRow.holds Try.pinned (OpenSpec.ofChange fnExactMateOfSpec)

/-- ITS FALSE NEIGHBOUR: 'it returns false'. Refute it at one input. -/
def fnExactMateOfWrong : ChangeSpec := { name := "fnExactMateOf", fn := fun _ => fun
  | [d] => { results := [.lit (.bool false)], args := [d] }
  | _ => none }
def FnExactMateOfWrongFalsely : Prop := fnExactMateOfRow.holds Try.pinned (OpenSpec.ofChange fnExactMateOfWrong)

/-- 'laws.FnExactIsMatrix': WHATEVER THE INPUT: true; the input reads as it did. -/
def fnExactIsMatrixSpec : ChangeSpec := { name := "fnExactIsMatrix", fn := fun _ => fun
  | [d] => { results := [.lit (.bool true)], args := [d] }
  | _ => none }
def fnExactIsMatrixRow : OpenClaim := { program := "ytdehiiloiphmpaa", sum := "4b6e29a7f9e875ea47d57cc83af6e590c75a290afb28dd1c026b0f8e58db7940", func := "loop.example/g01297/laws.FnExactIsMatrix", spec := "fnExactIsMatrix", plainKeys := false, apart := false }
def FnExactIsMatrixSaid : Prop := fnExactIsMatrixRow.holds Try.pinned (OpenSpec.ofChange fnExactIsMatrixSpec)

/-- ITS FALSE NEIGHBOUR: 'it returns false'. Refute it at one input. -/
def fnExactIsMatrixWrong : ChangeSpec := { name := "fnExactIsMatrix", fn := fun _ => fun
  | [d] => { results := [.lit (.bool false)], args := [d] }
  | _ => none }
def FnExactIsMatrixWrongFalsely : Prop := fnExactIsMatrixRow.holds Try.pinned (OpenSpec.ofChange fnExactIsMatrixWrong)

/-- 'laws.FnExactDeterminantOfMatrix': WHATEVER THE INPUT: true; the input reads as it did. -/
def fnExactDeterminantOfMatrixSpec : ChangeSpec := { name := "fnExactDeterminantOfMatrix", fn := fun _ => fun
  | [d] => { results := [.lit (.bool true)], args := [d] }
  | _ => none }
def fnExactDeterminantOfMatrixRow : OpenClaim := { program := "ytdehiiloiphmpaa", sum := "4b6e29a7f9e875ea47d57cc83af6e590c75a290afb28dd1c026b0f8e58db7940", func := "loop.example/g01297/laws.FnExactDeterminantOfMatrix", spec := "fnExactDeterminantOfMatrix", plainKeys := false, apart := false }
def FnExactDeterminantOfMatrixSaid : Prop := fnExactDeterminantOfMatrixRow.holds Try.pinned (OpenSpec.ofChange fnExactDeterminantOfMatrixSpec)

/-- ITS FALSE NEIGHBOUR: 'it returns false'. Refute it at one input. -/
def fnExactDeterminantOfMatrixWrong : ChangeSpec := { name := "fnExactDeterminantOfMatrix", fn := fun _ => fun
  | [d] => { results := [.lit (.bool false)], args := [d] }
  | _ => none }
def FnExactDeterminantOfMatrixWrongFalsely : Prop := fnExactDeterminantOfMatrixRow.holds Try.pinned (OpenSpec.ofChange fnExactDeterminantOfMatrixWrong)

/- THE SECOND FORM. 'bulk': how many values and letters a reading holds, each counted each time it is reached (what is shared counts as often as it is met; a slice's spare places count too). A statement '..UptoSaid' is the law's where the arguments, and the package variables that the reading takes, are together of bulk at most 1048576: NARROWER than '..Said'. Prove '..Said' where nothing that the law and all that it calls make is longer than what came in: it says more and counts as full. Else prove '..UptoSaid'. A law counts once. -/
mutual
def uptoBulk {H : Type} : DataW H → Nat
  | .lit (.string bytes) => bytes.length + 1
  | .lit _ => 1
  | .nil => 1
  | .ptr d => uptoBulk d + 1
  | .slice elems spare => uptoBulkAll elems + uptoBulkAll spare + 1
  | .agg parts => uptoBulkAll parts + 1
  | .iface _ d => uptoBulk d + 1
  | .map entries => uptoBulkEntries entries + 1
  | .held _ => 1
def uptoBulkAll {H : Type} : List (DataW H) → Nat
  | [] => 0
  | d :: r => uptoBulk d + uptoBulkAll r
def uptoBulkEntries {H : Type} : List (Lit × DataW H) → Nat
  | [] => 0
  | x :: r => uptoBulkEntry x + uptoBulkEntries r
def uptoBulkEntry {H : Type} : Lit × DataW H → Nat
  | (.string bytes, d) => bytes.length + uptoBulk d + 1
  | (_, d) => uptoBulk d + 1
 end
def uptoSmall : (H : Type) → List (DataW H) → Bool := fun _ ds => decide (uptoBulkAll ds ≤ 1048576)
def OpenSpec.upto (s : _root_.Go.ChangeSpec) : _root_.Go.OpenSpec := { _root_.Go.OpenSpec.ofChange s with cond := some uptoSmall }

/-- 'laws.FnPointMaps', WHERE WHAT IT READS IS OF BULK AT MOST 1048576: true; the input reads as it did. -/
def fnPointMapsUptoRow : OpenClaim := { program := "ytdehiiloiphmpaa", sum := "4b6e29a7f9e875ea47d57cc83af6e590c75a290afb28dd1c026b0f8e58db7940", func := "loop.example/g01297/laws.FnPointMaps", spec := "fnPointMaps", plainKeys := false, apart := false, narrowed := true }
def FnPointMapsUptoSaid : Prop := fnPointMapsUptoRow.holds Try.pinned (OpenSpec.upto fnPointMapsSpec)

/-- 'laws.FnExactIsPoint', WHERE WHAT IT READS IS OF BULK AT MOST 1048576: true; the input reads as it did. -/
def fnExactIsPointUptoRow : OpenClaim := { program := "ytdehiiloiphmpaa", sum := "4b6e29a7f9e875ea47d57cc83af6e590c75a290afb28dd1c026b0f8e58db7940", func := "loop.example/g01297/laws.FnExactIsPoint", spec := "fnExactIsPoint", plainKeys := false, apart := false, narrowed := true }
def FnExactIsPointUptoSaid : Prop := fnExactIsPointUptoRow.holds Try.pinned (OpenSpec.upto fnExactIsPointSpec)

/-- 'laws.FnExactAddPoints', WHERE WHAT IT READS IS OF BULK AT MOST 1048576: true; the input reads as it did. -/
def fnExactAddPointsUptoRow : OpenClaim := { program := "ytdehiiloiphmpaa", sum := "4b6e29a7f9e875ea47d57cc83af6e590c75a290afb28dd1c026b0f8e58db7940", func := "loop.example/g01297/laws.FnExactAddPoints", spec := "fnExactAddPoints", plainKeys := false, apart := false, narrowed := true }
def FnExactAddPointsUptoSaid : Prop := fnExactAddPointsUptoRow.holds Try.pinned (OpenSpec.upto fnExactAddPointsSpec)

/-- 'laws.FnExactDeterminantOf', WHERE WHAT IT READS IS OF BULK AT MOST 1048576: true; the input reads as it did. -/
def fnExactDeterminantOfUptoRow : OpenClaim := { program := "ytdehiiloiphmpaa", sum := "4b6e29a7f9e875ea47d57cc83af6e590c75a290afb28dd1c026b0f8e58db7940", func := "loop.example/g01297/laws.FnExactDeterminantOf", spec := "fnExactDeterminantOf", plainKeys := false, apart := false, narrowed := true }
def FnExactDeterminantOfUptoSaid : Prop := fnExactDeterminantOfUptoRow.holds Try.pinned (OpenSpec.upto fnExactDeterminantOfSpec)

/-- 'laws.FnExactLengthOf', WHERE WHAT IT READS IS OF BULK AT MOST 1048576: true; the input reads as it did. -/
def fnExactLengthOfUptoRow : OpenClaim := { program := "ytdehiiloiphmpaa", sum := "4b6e29a7f9e875ea47d57cc83af6e590c75a290afb28dd1c026b0f8e58db7940", func := "loop.example/g01297/laws.FnExactLengthOf", spec := "fnExactLengthOf", plainKeys := false, apart := false, narrowed := true }
def FnExactLengthOfUptoSaid : Prop := fnExactLengthOfUptoRow.holds Try.pinned (OpenSpec.upto fnExactLengthOfSpec)

/-- 'laws.FnExactPrimitiveOf', WHERE WHAT IT READS IS OF BULK AT MOST 1048576: true; the input reads as it did. -/
def fnExactPrimitiveOfUptoRow : OpenClaim := { program := "ytdehiiloiphmpaa", sum := "4b6e29a7f9e875ea47d57cc83af6e590c75a290afb28dd1c026b0f8e58db7940", func := "loop.example/g01297/laws.FnExactPrimitiveOf", spec := "fnExactPrimitiveOf", plainKeys := false, apart := false, narrowed := true }
def FnExactPrimitiveOfUptoSaid : Prop := fnExactPrimitiveOfUptoRow.holds Try.pinned (OpenSpec.upto fnExactPrimitiveOfSpec)

/-- 'laws.FnExactAreaOf', WHERE WHAT IT READS IS OF BULK AT MOST 1048576: true; the input reads as it did. -/
def fnExactAreaOfUptoRow : OpenClaim := { program := "ytdehiiloiphmpaa", sum := "4b6e29a7f9e875ea47d57cc83af6e590c75a290afb28dd1c026b0f8e58db7940", func := "loop.example/g01297/laws.FnExactAreaOf", spec := "fnExactAreaOf", plainKeys := false, apart := false, narrowed := true }
def FnExactAreaOfUptoSaid : Prop := fnExactAreaOfUptoRow.holds Try.pinned (OpenSpec.upto fnExactAreaOfSpec)

/-- 'laws.FnExactDistanceOf', WHERE WHAT IT READS IS OF BULK AT MOST 1048576: true; the input reads as it did. -/
def fnExactDistanceOfUptoRow : OpenClaim := { program := "ytdehiiloiphmpaa", sum := "4b6e29a7f9e875ea47d57cc83af6e590c75a290afb28dd1c026b0f8e58db7940", func := "loop.example/g01297/laws.FnExactDistanceOf", spec := "fnExactDistanceOf", plainKeys := false, apart := false, narrowed := true }
def FnExactDistanceOfUptoSaid : Prop := fnExactDistanceOfUptoRow.holds Try.pinned (OpenSpec.upto fnExactDistanceOfSpec)

/-- 'laws.FnExactMateOf', WHERE WHAT IT READS IS OF BULK AT MOST 1048576: true; the input reads as it did. -/
def fnExactMateOfUptoRow : OpenClaim := { program := "ytdehiiloiphmpaa", sum := "4b6e29a7f9e875ea47d57cc83af6e590c75a290afb28dd1c026b0f8e58db7940", func := "loop.example/g01297/laws.FnExactMateOf", spec := "fnExactMateOf", plainKeys := false, apart := false, narrowed := true }
def FnExactMateOfUptoSaid : Prop := fnExactMateOfUptoRow.holds Try.pinned (OpenSpec.upto fnExactMateOfSpec)

/-- 'laws.FnExactIsMatrix', WHERE WHAT IT READS IS OF BULK AT MOST 1048576: true; the input reads as it did. -/
def fnExactIsMatrixUptoRow : OpenClaim := { program := "ytdehiiloiphmpaa", sum := "4b6e29a7f9e875ea47d57cc83af6e590c75a290afb28dd1c026b0f8e58db7940", func := "loop.example/g01297/laws.FnExactIsMatrix", spec := "fnExactIsMatrix", plainKeys := false, apart := false, narrowed := true }
def FnExactIsMatrixUptoSaid : Prop := fnExactIsMatrixUptoRow.holds Try.pinned (OpenSpec.upto fnExactIsMatrixSpec)

/-- 'laws.FnExactDeterminantOfMatrix', WHERE WHAT IT READS IS OF BULK AT MOST 1048576: true; the input reads as it did. -/
def fnExactDeterminantOfMatrixUptoRow : OpenClaim := { program := "ytdehiiloiphmpaa", sum := "4b6e29a7f9e875ea47d57cc83af6e590c75a290afb28dd1c026b0f8e58db7940", func := "loop.example/g01297/laws.FnExactDeterminantOfMatrix", spec := "fnExactDeterminantOfMatrix", plainKeys := false, apart := false, narrowed := true }
def FnExactDeterminantOfMatrixUptoSaid : Prop := fnExactDeterminantOfMatrixUptoRow.holds Try.pinned (OpenSpec.upto fnExactDeterminantOfMatrixSpec)

end Rows
end Go.Proofs.Ytdehiiloiphmpaa
