/-
  No cell of these rows narrows 'for every input' (looked for: loops, veiled, ifaces, maps, wideKeys, modest, calm, conditions, laid).
  DERIVED. THE GIVEN ROWS OF THIS SEAT. 3 by the template 'for every input the law returns true; each argument reads behind the call as it read before'; 0 by the template 'total and deterministic' (their statements: YtoenlpkphekbnaaTotals.lean).
  GIVEN WITH THE SEED: the statements are not yours to turn. If you find one false, say at which input.
  Laid BY PROGRAM, IN A SANDBOX (cutbox-rows.mjs): the forced cells as the released guide's own fill.sh prints them over the translation 3135fa03e799c5c1… (all of the seat's roots in one cut). By AI agents, Wed Nov 11 2026. No macro, syntax, notation, axiom, sorry.
-/
import Derived.Test.YtoenlpkphekbnaaChecked
import GoSem.Claim
import GoSem.ClaimJoined
import GoSem.ClaimMapViews
import Derived.JoinedTies
import Derived.KernelRfl
namespace Go.Proofs.Ytoenlpkphekbnaa
/- THE CELL 'sum', in the pinned program and in every row, IS THE sha256 OF THE DUMP (.gsa) THAT YtoenlpkphekbnaaProg.lean LOADS. Nothing in Lean hashes anything: it is a label: what it is worth is what the hold of that sum in a sandbox is worth. -/
noncomputable def Try.pinned : Pinned := { name := "ytoenlpkphekbnaa", sum := "3135fa03e799c5c1c209c9a1b04c37ff463c5975e8d784f9390fb9bf8384dc36", checked := Try.checked }
namespace Rows
def none {H : Type} : Left H := { results := [], args := [] }

/-- 'laws.FnPointMaps': WHATEVER THE INPUT: true; the input reads as it did. -/
def fnPointMapsSpec : ChangeSpec := { name := "fnPointMaps", fn := fun _ => fun
  | [d] => { results := [.lit (.bool true)], args := [d] }
  | _ => none }
def fnPointMapsRow : OpenClaim := { program := "ytoenlpkphekbnaa", sum := "3135fa03e799c5c1c209c9a1b04c37ff463c5975e8d784f9390fb9bf8384dc36", func := "loop.example/g01297/laws.FnPointMaps", spec := "fnPointMaps", plainKeys := false, apart := false }
def FnPointMapsSaid : Prop := fnPointMapsRow.holds Try.pinned (OpenSpec.ofChange fnPointMapsSpec)

/-- ITS FALSE NEIGHBOUR: 'it returns false'. Refute it at one input. -/
def fnPointMapsWrong : ChangeSpec := { name := "fnPointMaps", fn := fun _ => fun
  | [d] => { results := [.lit (.bool false)], args := [d] }
  | _ => none }
def FnPointMapsWrongFalsely : Prop := fnPointMapsRow.holds Try.pinned (OpenSpec.ofChange fnPointMapsWrong)

/-- 'laws.FnCorners': WHATEVER THE INPUT: true; the input reads as it did. -/
def fnCornersSpec : ChangeSpec := { name := "fnCorners", fn := fun _ => fun
  | [d] => { results := [.lit (.bool true)], args := [d] }
  | _ => none }
def fnCornersRow : OpenClaim := { program := "ytoenlpkphekbnaa", sum := "3135fa03e799c5c1c209c9a1b04c37ff463c5975e8d784f9390fb9bf8384dc36", func := "loop.example/g01297/laws.FnCorners", spec := "fnCorners", plainKeys := false, apart := false }
def FnCornersSaid : Prop := fnCornersRow.holds Try.pinned (OpenSpec.ofChange fnCornersSpec)

/-- ITS FALSE NEIGHBOUR: 'it returns false'. Refute it at one input. -/
def fnCornersWrong : ChangeSpec := { name := "fnCorners", fn := fun _ => fun
  | [d] => { results := [.lit (.bool false)], args := [d] }
  | _ => none }
def FnCornersWrongFalsely : Prop := fnCornersRow.holds Try.pinned (OpenSpec.ofChange fnCornersWrong)

/-- 'laws.FnCornerLists': WHATEVER THE INPUT: true; the input reads as it did. -/
def fnCornerListsSpec : ChangeSpec := { name := "fnCornerLists", fn := fun _ => fun
  | [d] => { results := [.lit (.bool true)], args := [d] }
  | _ => none }
def fnCornerListsRow : OpenClaim := { program := "ytoenlpkphekbnaa", sum := "3135fa03e799c5c1c209c9a1b04c37ff463c5975e8d784f9390fb9bf8384dc36", func := "loop.example/g01297/laws.FnCornerLists", spec := "fnCornerLists", unfollowed := true, recurses := true, plainKeys := false, apart := false }
def FnCornerListsSaid : Prop := fnCornerListsRow.holds Try.pinned (OpenSpec.ofChange fnCornerListsSpec)

/-- ITS FALSE NEIGHBOUR: 'it returns false'. Refute it at one input. -/
def fnCornerListsWrong : ChangeSpec := { name := "fnCornerLists", fn := fun _ => fun
  | [d] => { results := [.lit (.bool false)], args := [d] }
  | _ => none }
def FnCornerListsWrongFalsely : Prop := fnCornerListsRow.holds Try.pinned (OpenSpec.ofChange fnCornerListsWrong)

/- THE SECOND FORM. 'bulk': how many values and letters a reading holds, each counted each time it is reached (what is shared counts as often as it is met; a slice's spare places count too). A statement '..UptoSaid' is the law's where the arguments, and the package variables that the reading takes, are together of bulk at most 1048576: NARROWER than '..Said'. Prove '..Said' where nothing that the law and all that it calls make is longer than what came in: it says more and counts as full. Else prove '..UptoSaid'. A law counts once. -/
mutual
def uptoBulk {H : Type} : DataW H → Nat
  | .lit (.string bytes) => bytes.length + 1
  | .lit _ => 1
  | .nil => 1
  | .ptr d => uptoBulk d + 1
  | .slice elems spare => uptoBulkAll elems + uptoBulkAll spare + 1
  | .agg parts => uptoBulkAll parts + 1
  | .iface _ d => uptoBulk d + 1
  | .map entries => uptoBulkEntries entries + 1
  | .held _ => 1
def uptoBulkAll {H : Type} : List (DataW H) → Nat
  | [] => 0
  | d :: r => uptoBulk d + uptoBulkAll r
def uptoBulkEntries {H : Type} : List (Lit × DataW H) → Nat
  | [] => 0
  | x :: r => uptoBulkEntry x + uptoBulkEntries r
def uptoBulkEntry {H : Type} : Lit × DataW H → Nat
  | (.string bytes, d) => bytes.length + uptoBulk d + 1
  | (_, d) => uptoBulk d + 1
 end
def uptoSmall : (H : Type) → List (DataW H) → Bool := fun _ ds => decide (uptoBulkAll ds ≤ 1048576)
def OpenSpec.upto (s : _root_.Go.ChangeSpec) : _root_.Go.OpenSpec := { _root_.Go.OpenSpec.ofChange s with cond := some uptoSmall }

/-- 'laws.FnPointMaps', WHERE WHAT IT READS IS OF BULK AT MOST 1048576: true; the input reads as it did. -/
def fnPointMapsUptoRow : OpenClaim := { program := "ytoenlpkphekbnaa", sum := "3135fa03e799c5c1c209c9a1b04c37ff463c5975e8d784f9390fb9bf8384dc36", func := "loop.example/g01297/laws.FnPointMaps", spec := "fnPointMaps", plainKeys := false, apart := false, narrowed := true }
def FnPointMapsUptoSaid : Prop := fnPointMapsUptoRow.holds Try.pinned (OpenSpec.upto fnPointMapsSpec)

/-- 'laws.FnCorners', WHERE WHAT IT READS IS OF BULK AT MOST 1048576: true; the input reads as it did. -/
def fnCornersUptoRow : OpenClaim := { program := "ytoenlpkphekbnaa", sum := "3135fa03e799c5c1c209c9a1b04c37ff463c5975e8d784f9390fb9bf8384dc36", func := "loop.example/g01297/laws.FnCorners", spec := "fnCorners", plainKeys := false, apart := false, narrowed := true }
def FnCornersUptoSaid : Prop := fnCornersUptoRow.holds Try.pinned (OpenSpec.upto fnCornersSpec)

/-- 'laws.FnCornerLists', WHERE WHAT IT READS IS OF BULK AT MOST 1048576: true; the input reads as it did. -/
def fnCornerListsUptoRow : OpenClaim := { program := "ytoenlpkphekbnaa", sum := "3135fa03e799c5c1c209c9a1b04c37ff463c5975e8d784f9390fb9bf8384dc36", func := "loop.example/g01297/laws.FnCornerLists", spec := "fnCornerLists", unfollowed := true, recurses := true, plainKeys := false, apart := false, narrowed := true }
def FnCornerListsUptoSaid : Prop := fnCornerListsUptoRow.holds Try.pinned (OpenSpec.upto fnCornerListsSpec)

end Rows
end Go.Proofs.Ytoenlpkphekbnaa
