/-
  No cell of these rows narrows 'for every input' (looked for: loops, veiled, ifaces, maps, wideKeys, modest, calm, conditions, laid).
  DERIVED. THE GIVEN ROWS OF THIS SEAT. 14 by the template 'for every input the law returns true; each argument reads behind the call as it read before'; 0 by the template 'total and deterministic' (their statements: YtmjhejmkmdgikaaTotals.lean).
  GIVEN WITH THE SEED: the statements are not yours to turn. If you find one false, say at which input.
  Laid BY PROGRAM, IN A SANDBOX (cutbox-rows.mjs): the forced cells as the released guide's own fill.sh prints them over the translation d7a374fa36134aa6… (all of the seat's roots in one cut). By AI agents, Wed Nov 11 2026. No macro, syntax, notation, axiom, sorry.
-/
import Derived.Test.YtmjhejmkmdgikaaChecked
import GoSem.Claim
import GoSem.ClaimJoined
import GoSem.ClaimMapViews
import Derived.JoinedTies
import Derived.KernelRfl
namespace Go.Proofs.Ytmjhejmkmdgikaa
/- THE CELL 'sum', in the pinned program and in every row, IS THE sha256 OF THE DUMP (.gsa) THAT YtmjhejmkmdgikaaProg.lean LOADS. Nothing in Lean hashes anything: it is a label: what it is worth is what the hold of that sum in a sandbox is worth. -/
noncomputable def Try.pinned : Pinned := { name := "ytmjhejmkmdgikaa", sum := "d7a374fa36134aa6c1bb36eaa867124569675e3117143499b43b21a2e99b4bf9", checked := Try.checked }
namespace Rows
def none {H : Type} : Left H := { results := [], args := [] }

/-- 'laws.FnExactCompareRatios': WHATEVER THE INPUT: true; the input reads as it did. -/
def fnExactCompareRatiosSpec : ChangeSpec := { name := "fnExactCompareRatios", fn := fun _ => fun
  | [d1, d2, d3, d4] => { results := [.lit (.bool true)], args := [d1, d2, d3, d4] }
  | _ => none }
def fnExactCompareRatiosRow : OpenClaim := { program := "ytmjhejmkmdgikaa", sum := "d7a374fa36134aa6c1bb36eaa867124569675e3117143499b43b21a2e99b4bf9", func := "loop.example/g01297/laws.FnExactCompareRatios", spec := "fnExactCompareRatios", apart := false }
def FnExactCompareRatiosSaid : Prop := fnExactCompareRatiosRow.holds Try.pinned (OpenSpec.ofChange fnExactCompareRatiosSpec)

/-- ITS FALSE NEIGHBOUR: 'it returns false'. Refute it at one input. -/
def fnExactCompareRatiosWrong : ChangeSpec := { name := "fnExactCompareRatios", fn := fun _ => fun
  | [d1, d2, d3, d4] => { results := [.lit (.bool false)], args := [d1, d2, d3, d4] }
  | _ => none }
def FnExactCompareRatiosWrongFalsely : Prop := fnExactCompareRatiosRow.holds Try.pinned (OpenSpec.ofChange fnExactCompareRatiosWrong)

/-- 'laws.FnExactBestOfSecond': WHATEVER THE INPUT: true; the input reads as it did. -/
def fnExactBestOfSecondSpec : ChangeSpec := { name := "fnExactBestOfSecond", fn := fun _ => fun
  | [d1, d2, d3] => { results := [.lit (.bool true)], args := [d1, d2, d3] }
  | _ => none }
def fnExactBestOfSecondRow : OpenClaim := { program := "ytmjhejmkmdgikaa", sum := "d7a374fa36134aa6c1bb36eaa867124569675e3117143499b43b21a2e99b4bf9", func := "loop.example/g01297/laws.FnExactBestOfSecond", spec := "fnExactBestOfSecond", unfollowed := true, recurses := true, apart := false }
def FnExactBestOfSecondSaid : Prop := fnExactBestOfSecondRow.holds Try.pinned (OpenSpec.ofChange fnExactBestOfSecondSpec)

/-- ITS FALSE NEIGHBOUR: 'it returns false'. Refute it at one input. -/
def fnExactBestOfSecondWrong : ChangeSpec := { name := "fnExactBestOfSecond", fn := fun _ => fun
  | [d1, d2, d3] => { results := [.lit (.bool false)], args := [d1, d2, d3] }
  | _ => none }
def FnExactBestOfSecondWrongFalsely : Prop := fnExactBestOfSecondRow.holds Try.pinned (OpenSpec.ofChange fnExactBestOfSecondWrong)

/-- 'laws.FnExactBestOfFirst': WHATEVER THE INPUT: true; the input reads as it did. -/
def fnExactBestOfFirstSpec : ChangeSpec := { name := "fnExactBestOfFirst", fn := fun _ => fun
  | [d1, d2, d3] => { results := [.lit (.bool true)], args := [d1, d2, d3] }
  | _ => none }
def fnExactBestOfFirstRow : OpenClaim := { program := "ytmjhejmkmdgikaa", sum := "d7a374fa36134aa6c1bb36eaa867124569675e3117143499b43b21a2e99b4bf9", func := "loop.example/g01297/laws.FnExactBestOfFirst", spec := "fnExactBestOfFirst", unfollowed := true, recurses := true, apart := false }
def FnExactBestOfFirstSaid : Prop := fnExactBestOfFirstRow.holds Try.pinned (OpenSpec.ofChange fnExactBestOfFirstSpec)

/-- ITS FALSE NEIGHBOUR: 'it returns false'. Refute it at one input. -/
def fnExactBestOfFirstWrong : ChangeSpec := { name := "fnExactBestOfFirst", fn := fun _ => fun
  | [d1, d2, d3] => { results := [.lit (.bool false)], args := [d1, d2, d3] }
  | _ => none }
def FnExactBestOfFirstWrongFalsely : Prop := fnExactBestOfFirstRow.holds Try.pinned (OpenSpec.ofChange fnExactBestOfFirstWrong)

/-- 'laws.FnExactNearestFraction': WHATEVER THE INPUT: true; the input reads as it did. -/
def fnExactNearestFractionSpec : ChangeSpec := { name := "fnExactNearestFraction", fn := fun _ => fun
  | [d1, d2, d3] => { results := [.lit (.bool true)], args := [d1, d2, d3] }
  | _ => none }
def fnExactNearestFractionRow : OpenClaim := { program := "ytmjhejmkmdgikaa", sum := "d7a374fa36134aa6c1bb36eaa867124569675e3117143499b43b21a2e99b4bf9", func := "loop.example/g01297/laws.FnExactNearestFraction", spec := "fnExactNearestFraction", unfollowed := true, recurses := true, apart := false }
def FnExactNearestFractionSaid : Prop := fnExactNearestFractionRow.holds Try.pinned (OpenSpec.ofChange fnExactNearestFractionSpec)

/-- ITS FALSE NEIGHBOUR: 'it returns false'. Refute it at one input. -/
def fnExactNearestFractionWrong : ChangeSpec := { name := "fnExactNearestFraction", fn := fun _ => fun
  | [d1, d2, d3] => { results := [.lit (.bool false)], args := [d1, d2, d3] }
  | _ => none }
def FnExactNearestFractionWrongFalsely : Prop := fnExactNearestFractionRow.holds Try.pinned (OpenSpec.ofChange fnExactNearestFractionWrong)

/-- 'laws.FnExactIsConvergent': WHATEVER THE INPUT: true; the input reads as it did. -/
def fnExactIsConvergentSpec : ChangeSpec := { name := "fnExactIsConvergent", fn := fun _ => fun
  | [d1, d2, d3, d4] => { results := [.lit (.bool true)], args := [d1, d2, d3, d4] }
  | _ => none }
def fnExactIsConvergentRow : OpenClaim := { program := "ytmjhejmkmdgikaa", sum := "d7a374fa36134aa6c1bb36eaa867124569675e3117143499b43b21a2e99b4bf9", func := "loop.example/g01297/laws.FnExactIsConvergent", spec := "fnExactIsConvergent", apart := false }
def FnExactIsConvergentSaid : Prop := fnExactIsConvergentRow.holds Try.pinned (OpenSpec.ofChange fnExactIsConvergentSpec)

/-- ITS FALSE NEIGHBOUR: 'it returns false'. Refute it at one input. -/
def fnExactIsConvergentWrong : ChangeSpec := { name := "fnExactIsConvergent", fn := fun _ => fun
  | [d1, d2, d3, d4] => { results := [.lit (.bool false)], args := [d1, d2, d3, d4] }
  | _ => none }
def FnExactIsConvergentWrongFalsely : Prop := fnExactIsConvergentRow.holds Try.pinned (OpenSpec.ofChange fnExactIsConvergentWrong)

/-- 'laws.FnExactPlaceOf': WHATEVER THE INPUT: true; the input reads as it did. -/
def fnExactPlaceOfSpec : ChangeSpec := { name := "fnExactPlaceOf", fn := fun _ => fun
  | [d1, d2, d3] => { results := [.lit (.bool true)], args := [d1, d2, d3] }
  | _ => none }
def fnExactPlaceOfRow : OpenClaim := { program := "ytmjhejmkmdgikaa", sum := "d7a374fa36134aa6c1bb36eaa867124569675e3117143499b43b21a2e99b4bf9", func := "loop.example/g01297/laws.FnExactPlaceOf", spec := "fnExactPlaceOf", apart := false }
def FnExactPlaceOfSaid : Prop := fnExactPlaceOfRow.holds Try.pinned (OpenSpec.ofChange fnExactPlaceOfSpec)

/-- ITS FALSE NEIGHBOUR: 'it returns false'. Refute it at one input. -/
def fnExactPlaceOfWrong : ChangeSpec := { name := "fnExactPlaceOf", fn := fun _ => fun
  | [d1, d2, d3] => { results := [.lit (.bool false)], args := [d1, d2, d3] }
  | _ => none }
def FnExactPlaceOfWrongFalsely : Prop := fnExactPlaceOfRow.holds Try.pinned (OpenSpec.ofChange fnExactPlaceOfWrong)

/-- 'laws.FnExactOrderOfMultiples': WHATEVER THE INPUT: true; the input reads as it did. -/
def fnExactOrderOfMultiplesSpec : ChangeSpec := { name := "fnExactOrderOfMultiples", fn := fun _ => fun
  | [d1, d2, d3] => { results := [.lit (.bool true)], args := [d1, d2, d3] }
  | _ => none }
def fnExactOrderOfMultiplesRow : OpenClaim := { program := "ytmjhejmkmdgikaa", sum := "d7a374fa36134aa6c1bb36eaa867124569675e3117143499b43b21a2e99b4bf9", func := "loop.example/g01297/laws.FnExactOrderOfMultiples", spec := "fnExactOrderOfMultiples", unfollowed := true, recurses := true, apart := false }
def FnExactOrderOfMultiplesSaid : Prop := fnExactOrderOfMultiplesRow.holds Try.pinned (OpenSpec.ofChange fnExactOrderOfMultiplesSpec)

/-- ITS FALSE NEIGHBOUR: 'it returns false'. Refute it at one input. -/
def fnExactOrderOfMultiplesWrong : ChangeSpec := { name := "fnExactOrderOfMultiples", fn := fun _ => fun
  | [d1, d2, d3] => { results := [.lit (.bool false)], args := [d1, d2, d3] }
  | _ => none }
def FnExactOrderOfMultiplesWrongFalsely : Prop := fnExactOrderOfMultiplesRow.holds Try.pinned (OpenSpec.ofChange fnExactOrderOfMultiplesWrong)

/-- 'laws.FnExactGapsOf': WHATEVER THE INPUT: true; the input reads as it did. -/
def fnExactGapsOfSpec : ChangeSpec := { name := "fnExactGapsOf", fn := fun _ => fun
  | [d1, d2, d3] => { results := [.lit (.bool true)], args := [d1, d2, d3] }
  | _ => none }
def fnExactGapsOfRow : OpenClaim := { program := "ytmjhejmkmdgikaa", sum := "d7a374fa36134aa6c1bb36eaa867124569675e3117143499b43b21a2e99b4bf9", func := "loop.example/g01297/laws.FnExactGapsOf", spec := "fnExactGapsOf", unfollowed := true, recurses := true, apart := false }
def FnExactGapsOfSaid : Prop := fnExactGapsOfRow.holds Try.pinned (OpenSpec.ofChange fnExactGapsOfSpec)

/-- ITS FALSE NEIGHBOUR: 'it returns false'. Refute it at one input. -/
def fnExactGapsOfWrong : ChangeSpec := { name := "fnExactGapsOf", fn := fun _ => fun
  | [d1, d2, d3] => { results := [.lit (.bool false)], args := [d1, d2, d3] }
  | _ => none }
def FnExactGapsOfWrongFalsely : Prop := fnExactGapsOfRow.holds Try.pinned (OpenSpec.ofChange fnExactGapsOfWrong)

/-- 'laws.FnExactNormOf': WHATEVER THE INPUT: true; the input reads as it did. -/
def fnExactNormOfSpec : ChangeSpec := { name := "fnExactNormOf", fn := fun _ => fun
  | [d] => { results := [.lit (.bool true)], args := [d] }
  | _ => none }
def fnExactNormOfRow : OpenClaim := { program := "ytmjhejmkmdgikaa", sum := "d7a374fa36134aa6c1bb36eaa867124569675e3117143499b43b21a2e99b4bf9", func := "loop.example/g01297/laws.FnExactNormOf", spec := "fnExactNormOf", apart := false }
def FnExactNormOfSaid : Prop := fnExactNormOfRow.holds Try.pinned (OpenSpec.ofChange fnExactNormOfSpec)

/-- ITS FALSE NEIGHBOUR: 'it returns false'. Refute it at one input. -/
def fnExactNormOfWrong : ChangeSpec := { name := "fnExactNormOf", fn := fun _ => fun
  | [d] => { results := [.lit (.bool false)], args := [d] }
  | _ => none }
def FnExactNormOfWrongFalsely : Prop := fnExactNormOfRow.holds Try.pinned (OpenSpec.ofChange fnExactNormOfWrong)

/-- 'laws.FnExactIsReducedPair': WHATEVER THE INPUT: true; the input reads as it did. -/
def fnExactIsReducedPairSpec : ChangeSpec := { name := "fnExactIsReducedPair", fn := fun _ => fun
  | [d1, d2] => { results := [.lit (.bool true)], args := [d1, d2] }
  | _ => none }
def fnExactIsReducedPairRow : OpenClaim := { program := "ytmjhejmkmdgikaa", sum := "d7a374fa36134aa6c1bb36eaa867124569675e3117143499b43b21a2e99b4bf9", func := "loop.example/g01297/laws.FnExactIsReducedPair", spec := "fnExactIsReducedPair", apart := false }
def FnExactIsReducedPairSaid : Prop := fnExactIsReducedPairRow.holds Try.pinned (OpenSpec.ofChange fnExactIsReducedPairSpec)

/-- ITS FALSE NEIGHBOUR: 'it returns false'. Refute it at one input. -/
def fnExactIsReducedPairWrong : ChangeSpec := { name := "fnExactIsReducedPair", fn := fun _ => fun
  | [d1, d2] => { results := [.lit (.bool false)], args := [d1, d2] }
  | _ => none }
def FnExactIsReducedPairWrongFalsely : Prop := fnExactIsReducedPairRow.holds Try.pinned (OpenSpec.ofChange fnExactIsReducedPairWrong)

/-- 'laws.FnExactReducePair': WHATEVER THE INPUT: true; the input reads as it did. -/
def fnExactReducePairSpec : ChangeSpec := { name := "fnExactReducePair", fn := fun _ => fun
  | [d1, d2] => { results := [.lit (.bool true)], args := [d1, d2] }
  | _ => none }
def fnExactReducePairRow : OpenClaim := { program := "ytmjhejmkmdgikaa", sum := "d7a374fa36134aa6c1bb36eaa867124569675e3117143499b43b21a2e99b4bf9", func := "loop.example/g01297/laws.FnExactReducePair", spec := "fnExactReducePair", apart := false }
def FnExactReducePairSaid : Prop := fnExactReducePairRow.holds Try.pinned (OpenSpec.ofChange fnExactReducePairSpec)

/-- ITS FALSE NEIGHBOUR: 'it returns false'. Refute it at one input. -/
def fnExactReducePairWrong : ChangeSpec := { name := "fnExactReducePair", fn := fun _ => fun
  | [d1, d2] => { results := [.lit (.bool false)], args := [d1, d2] }
  | _ => none }
def FnExactReducePairWrongFalsely : Prop := fnExactReducePairRow.holds Try.pinned (OpenSpec.ofChange fnExactReducePairWrong)

/-- 'laws.FnExactShortestNorm': WHATEVER THE INPUT: true; the input reads as it did. -/
def fnExactShortestNormSpec : ChangeSpec := { name := "fnExactShortestNorm", fn := fun _ => fun
  | [d1, d2] => { results := [.lit (.bool true)], args := [d1, d2] }
  | _ => none }
def fnExactShortestNormRow : OpenClaim := { program := "ytmjhejmkmdgikaa", sum := "d7a374fa36134aa6c1bb36eaa867124569675e3117143499b43b21a2e99b4bf9", func := "loop.example/g01297/laws.FnExactShortestNorm", spec := "fnExactShortestNorm", apart := false }
def FnExactShortestNormSaid : Prop := fnExactShortestNormRow.holds Try.pinned (OpenSpec.ofChange fnExactShortestNormSpec)

/-- ITS FALSE NEIGHBOUR: 'it returns false'. Refute it at one input. -/
def fnExactShortestNormWrong : ChangeSpec := { name := "fnExactShortestNorm", fn := fun _ => fun
  | [d1, d2] => { results := [.lit (.bool false)], args := [d1, d2] }
  | _ => none }
def FnExactShortestNormWrongFalsely : Prop := fnExactShortestNormRow.holds Try.pinned (OpenSpec.ofChange fnExactShortestNormWrong)

/-- 'laws.FnExactCommonRecords': WHATEVER THE INPUT: true; the input reads as it did. -/
def fnExactCommonRecordsSpec : ChangeSpec := { name := "fnExactCommonRecords", fn := fun _ => fun
  | [d1, d2, d3, d4] => { results := [.lit (.bool true)], args := [d1, d2, d3, d4] }
  | _ => none }
def fnExactCommonRecordsRow : OpenClaim := { program := "ytmjhejmkmdgikaa", sum := "d7a374fa36134aa6c1bb36eaa867124569675e3117143499b43b21a2e99b4bf9", func := "loop.example/g01297/laws.FnExactCommonRecords", spec := "fnExactCommonRecords", unfollowed := true, recurses := true, apart := false }
def FnExactCommonRecordsSaid : Prop := fnExactCommonRecordsRow.holds Try.pinned (OpenSpec.ofChange fnExactCommonRecordsSpec)

/-- ITS FALSE NEIGHBOUR: 'it returns false'. Refute it at one input. -/
def fnExactCommonRecordsWrong : ChangeSpec := { name := "fnExactCommonRecords", fn := fun _ => fun
  | [d1, d2, d3, d4] => { results := [.lit (.bool false)], args := [d1, d2, d3, d4] }
  | _ => none }
def FnExactCommonRecordsWrongFalsely : Prop := fnExactCommonRecordsRow.holds Try.pinned (OpenSpec.ofChange fnExactCommonRecordsWrong)

/-- 'laws.FnExactMapPolygon': WHATEVER THE INPUT: true; the input reads as it did. -/
def fnExactMapPolygonSpec : ChangeSpec := { name := "fnExactMapPolygon", fn := fun _ => fun
  | [d1, d2, d3] => { results := [.lit (.bool true)], args := [d1, d2, d3] }
  | _ => none }
def fnExactMapPolygonRow : OpenClaim := { program := "ytmjhejmkmdgikaa", sum := "d7a374fa36134aa6c1bb36eaa867124569675e3117143499b43b21a2e99b4bf9", func := "loop.example/g01297/laws.FnExactMapPolygon", spec := "fnExactMapPolygon", unfollowed := true, recurses := true, apart := false }
def FnExactMapPolygonSaid : Prop := fnExactMapPolygonRow.holds Try.pinned (OpenSpec.ofChange fnExactMapPolygonSpec)

/-- ITS FALSE NEIGHBOUR: 'it returns false'. Refute it at one input. -/
def fnExactMapPolygonWrong : ChangeSpec := { name := "fnExactMapPolygon", fn := fun _ => fun
  | [d1, d2, d3] => { results := [.lit (.bool false)], args := [d1, d2, d3] }
  | _ => none }
def FnExactMapPolygonWrongFalsely : Prop := fnExactMapPolygonRow.holds Try.pinned (OpenSpec.ofChange fnExactMapPolygonWrong)

/- THE SECOND FORM. 'bulk': how many values and letters a reading holds, each counted each time it is reached (what is shared counts as often as it is met; a slice's spare places count too). A statement '..UptoSaid' is the law's where the arguments, and the package variables that the reading takes, are together of bulk at most 1048576: NARROWER than '..Said'. Prove '..Said' where nothing that the law and all that it calls make is longer than what came in: it says more and counts as full. Else prove '..UptoSaid'. A law counts once. -/
mutual
def uptoBulk {H : Type} : DataW H → Nat
  | .lit (.string bytes) => bytes.length + 1
  | .lit _ => 1
  | .nil => 1
  | .ptr d => uptoBulk d + 1
  | .slice elems spare => uptoBulkAll elems + uptoBulkAll spare + 1
  | .agg parts => uptoBulkAll parts + 1
  | .iface _ d => uptoBulk d + 1
  | .map entries => uptoBulkEntries entries + 1
  | .held _ => 1
def uptoBulkAll {H : Type} : List (DataW H) → Nat
  | [] => 0
  | d :: r => uptoBulk d + uptoBulkAll r
def uptoBulkEntries {H : Type} : List (Lit × DataW H) → Nat
  | [] => 0
  | x :: r => uptoBulkEntry x + uptoBulkEntries r
def uptoBulkEntry {H : Type} : Lit × DataW H → Nat
  | (.string bytes, d) => bytes.length + uptoBulk d + 1
  | (_, d) => uptoBulk d + 1
 end
def uptoSmall : (H : Type) → List (DataW H) → Bool := fun _ ds => decide (uptoBulkAll ds ≤ 1048576)
def OpenSpec.upto (s : _root_.Go.ChangeSpec) : _root_.Go.OpenSpec := { _root_.Go.OpenSpec.ofChange s with cond := some uptoSmall }

/-- 'laws.FnExactCompareRatios', WHERE WHAT IT READS IS OF BULK AT MOST 1048576: true; the input reads as it did. -/
def fnExactCompareRatiosUptoRow : OpenClaim := { program := "ytmjhejmkmdgikaa", sum := "d7a374fa36134aa6c1bb36eaa867124569675e3117143499b43b21a2e99b4bf9", func := "loop.example/g01297/laws.FnExactCompareRatios", spec := "fnExactCompareRatios", apart := false, narrowed := true }
def FnExactCompareRatiosUptoSaid : Prop := fnExactCompareRatiosUptoRow.holds Try.pinned (OpenSpec.upto fnExactCompareRatiosSpec)

/-- 'laws.FnExactBestOfSecond', WHERE WHAT IT READS IS OF BULK AT MOST 1048576: true; the input reads as it did. -/
def fnExactBestOfSecondUptoRow : OpenClaim := { program := "ytmjhejmkmdgikaa", sum := "d7a374fa36134aa6c1bb36eaa867124569675e3117143499b43b21a2e99b4bf9", func := "loop.example/g01297/laws.FnExactBestOfSecond", spec := "fnExactBestOfSecond", unfollowed := true, recurses := true, apart := false, narrowed := true }
def FnExactBestOfSecondUptoSaid : Prop := fnExactBestOfSecondUptoRow.holds Try.pinned (OpenSpec.upto fnExactBestOfSecondSpec)

/-- 'laws.FnExactBestOfFirst', WHERE WHAT IT READS IS OF BULK AT MOST 1048576: true; the input reads as it did. -/
def fnExactBestOfFirstUptoRow : OpenClaim := { program := "ytmjhejmkmdgikaa", sum := "d7a374fa36134aa6c1bb36eaa867124569675e3117143499b43b21a2e99b4bf9", func := "loop.example/g01297/laws.FnExactBestOfFirst", spec := "fnExactBestOfFirst", unfollowed := true, recurses := true, apart := false, narrowed := true }
def FnExactBestOfFirstUptoSaid : Prop := fnExactBestOfFirstUptoRow.holds Try.pinned (OpenSpec.upto fnExactBestOfFirstSpec)

/-- 'laws.FnExactNearestFraction', WHERE WHAT IT READS IS OF BULK AT MOST 1048576: true; the input reads as it did. -/
def fnExactNearestFractionUptoRow : OpenClaim := { program := "ytmjhejmkmdgikaa", sum := "d7a374fa36134aa6c1bb36eaa867124569675e3117143499b43b21a2e99b4bf9", func := "loop.example/g01297/laws.FnExactNearestFraction", spec := "fnExactNearestFraction", unfollowed := true, recurses := true, apart := false, narrowed := true }
def FnExactNearestFractionUptoSaid : Prop := fnExactNearestFractionUptoRow.holds Try.pinned (OpenSpec.upto fnExactNearestFractionSpec)

/-- 'laws.FnExactIsConvergent', WHERE WHAT IT READS IS OF BULK AT MOST 1048576: true; the input reads as it did. -/
def fnExactIsConvergentUptoRow : OpenClaim := { program := "ytmjhejmkmdgikaa", sum := "d7a374fa36134aa6c1bb36eaa867124569675e3117143499b43b21a2e99b4bf9", func := "loop.example/g01297/laws.FnExactIsConvergent", spec := "fnExactIsConvergent", apart := false, narrowed := true }
def FnExactIsConvergentUptoSaid : Prop := fnExactIsConvergentUptoRow.holds Try.pinned (OpenSpec.upto fnExactIsConvergentSpec)

/-- 'laws.FnExactPlaceOf', WHERE WHAT IT READS IS OF BULK AT MOST 1048576: true; the input reads as it did. -/
def fnExactPlaceOfUptoRow : OpenClaim := { program := "ytmjhejmkmdgikaa", sum := "d7a374fa36134aa6c1bb36eaa867124569675e3117143499b43b21a2e99b4bf9", func := "loop.example/g01297/laws.FnExactPlaceOf", spec := "fnExactPlaceOf", apart := false, narrowed := true }
def FnExactPlaceOfUptoSaid : Prop := fnExactPlaceOfUptoRow.holds Try.pinned (OpenSpec.upto fnExactPlaceOfSpec)

/-- 'laws.FnExactOrderOfMultiples', WHERE WHAT IT READS IS OF BULK AT MOST 1048576: true; the input reads as it did. -/
def fnExactOrderOfMultiplesUptoRow : OpenClaim := { program := "ytmjhejmkmdgikaa", sum := "d7a374fa36134aa6c1bb36eaa867124569675e3117143499b43b21a2e99b4bf9", func := "loop.example/g01297/laws.FnExactOrderOfMultiples", spec := "fnExactOrderOfMultiples", unfollowed := true, recurses := true, apart := false, narrowed := true }
def FnExactOrderOfMultiplesUptoSaid : Prop := fnExactOrderOfMultiplesUptoRow.holds Try.pinned (OpenSpec.upto fnExactOrderOfMultiplesSpec)

/-- 'laws.FnExactGapsOf', WHERE WHAT IT READS IS OF BULK AT MOST 1048576: true; the input reads as it did. -/
def fnExactGapsOfUptoRow : OpenClaim := { program := "ytmjhejmkmdgikaa", sum := "d7a374fa36134aa6c1bb36eaa867124569675e3117143499b43b21a2e99b4bf9", func := "loop.example/g01297/laws.FnExactGapsOf", spec := "fnExactGapsOf", unfollowed := true, recurses := true, apart := false, narrowed := true }
def FnExactGapsOfUptoSaid : Prop := fnExactGapsOfUptoRow.holds Try.pinned (OpenSpec.upto fnExactGapsOfSpec)

/-- 'laws.FnExactNormOf', WHERE WHAT IT READS IS OF BULK AT MOST 1048576: true; the input reads as it did. -/
def fnExactNormOfUptoRow : OpenClaim := { program := "ytmjhejmkmdgikaa", sum := "d7a374fa36134aa6c1bb36eaa867124569675e3117143499b43b21a2e99b4bf9", func := "loop.example/g01297/laws.FnExactNormOf", spec := "fnExactNormOf", apart := false, narrowed := true }
def FnExactNormOfUptoSaid : Prop := fnExactNormOfUptoRow.holds Try.pinned (OpenSpec.upto fnExactNormOfSpec)

/-- 'laws.FnExactIsReducedPair', WHERE WHAT IT READS IS OF BULK AT MOST 1048576: true; the input reads as it did. -/
def fnExactIsReducedPairUptoRow : OpenClaim := { program := "ytmjhejmkmdgikaa", sum := "d7a374fa36134aa6c1bb36eaa867124569675e3117143499b43b21a2e99b4bf9", func := "loop.example/g01297/laws.FnExactIsReducedPair", spec := "fnExactIsReducedPair", apart := false, narrowed := true }
def FnExactIsReducedPairUptoSaid : Prop := fnExactIsReducedPairUptoRow.holds Try.pinned (OpenSpec.upto fnExactIsReducedPairSpec)

/-- 'laws.FnExactReducePair', WHERE WHAT IT READS IS OF BULK AT MOST 1048576: true; the input reads as it did. -/
def fnExactReducePairUptoRow : OpenClaim := { program := "ytmjhejmkmdgikaa", sum := "d7a374fa36134aa6c1bb36eaa867124569675e3117143499b43b21a2e99b4bf9", func := "loop.example/g01297/laws.FnExactReducePair", spec := "fnExactReducePair", apart := false, narrowed := true }
def FnExactReducePairUptoSaid : Prop := fnExactReducePairUptoRow.holds Try.pinned (OpenSpec.upto fnExactReducePairSpec)

/-- 'laws.FnExactShortestNorm', WHERE WHAT IT READS IS OF BULK AT MOST 1048576: true; the input reads as it did. -/
def fnExactShortestNormUptoRow : OpenClaim := { program := "ytmjhejmkmdgikaa", sum := "d7a374fa36134aa6c1bb36eaa867124569675e3117143499b43b21a2e99b4bf9", func := "loop.example/g01297/laws.FnExactShortestNorm", spec := "fnExactShortestNorm", apart := false, narrowed := true }
def FnExactShortestNormUptoSaid : Prop := fnExactShortestNormUptoRow.holds Try.pinned (OpenSpec.upto fnExactShortestNormSpec)

/-- 'laws.FnExactCommonRecords', WHERE WHAT IT READS IS OF BULK AT MOST 1048576: true; the input reads as it did. -/
def fnExactCommonRecordsUptoRow : OpenClaim := { program := "ytmjhejmkmdgikaa", sum := "d7a374fa36134aa6c1bb36eaa867124569675e3117143499b43b21a2e99b4bf9", func := "loop.example/g01297/laws.FnExactCommonRecords", spec := "fnExactCommonRecords", unfollowed := true, recurses := true, apart := false, narrowed := true }
def FnExactCommonRecordsUptoSaid : Prop := fnExactCommonRecordsUptoRow.holds Try.pinned (OpenSpec.upto fnExactCommonRecordsSpec)

/-- 'laws.FnExactMapPolygon', WHERE WHAT IT READS IS OF BULK AT MOST 1048576: true; the input reads as it did. -/
def fnExactMapPolygonUptoRow : OpenClaim := { program := "ytmjhejmkmdgikaa", sum := "d7a374fa36134aa6c1bb36eaa867124569675e3117143499b43b21a2e99b4bf9", func := "loop.example/g01297/laws.FnExactMapPolygon", spec := "fnExactMapPolygon", unfollowed := true, recurses := true, apart := false, narrowed := true }
def FnExactMapPolygonUptoSaid : Prop := fnExactMapPolygonUptoRow.holds Try.pinned (OpenSpec.upto fnExactMapPolygonSpec)

end Rows
end Go.Proofs.Ytmjhejmkmdgikaa
