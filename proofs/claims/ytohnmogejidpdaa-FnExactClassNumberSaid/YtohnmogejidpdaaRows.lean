/-
  No cell of these rows narrows 'for every input' (looked for: loops, veiled, ifaces, maps, wideKeys, modest, calm, conditions, laid).
  DERIVED. THE GIVEN ROWS OF THIS SEAT. 13 by the template 'for every input the law returns true; each argument reads behind the call as it read before'; 0 by the template 'total and deterministic' (their statements: YtohnmogejidpdaaTotals.lean).
  GIVEN WITH THE SEED: the statements are not yours to turn. If you find one false, say at which input.
  Laid BY PROGRAM, IN A SANDBOX (cutbox-rows.mjs): the forced cells as the released guide's own fill.sh prints them over the translation 9801802e2fcaa3eb… (all of the seat's roots in one cut). By AI agents, Wed Nov 11 2026. No macro, syntax, notation, axiom, sorry.
-/
import Derived.Test.YtohnmogejidpdaaChecked
import GoSem.Claim
import GoSem.ClaimJoined
import GoSem.ClaimMapViews
import Derived.JoinedTies
import Derived.KernelRfl
namespace Go.Proofs.Ytohnmogejidpdaa
/- THE CELL 'sum', in the pinned program and in every row, IS THE sha256 OF THE DUMP (.gsa) THAT YtohnmogejidpdaaProg.lean LOADS. Nothing in Lean hashes anything: it is a label: what it is worth is what the hold of that sum in a sandbox is worth. -/
noncomputable def Try.pinned : Pinned := { name := "ytohnmogejidpdaa", sum := "9801802e2fcaa3eb414cbf693b297d70a0911036986bd312b92d3f9488f9817b", checked := Try.checked }
namespace Rows
def none {H : Type} : Left H := { results := [], args := [] }

/-- 'laws.FnExactTypeOfMatrix': WHATEVER THE INPUT: true; the input reads as it did. -/
def fnExactTypeOfMatrixSpec : ChangeSpec := { name := "fnExactTypeOfMatrix", fn := fun _ => fun
  | [d] => { results := [.lit (.bool true)], args := [d] }
  | _ => none }
def fnExactTypeOfMatrixRow : OpenClaim := { program := "ytohnmogejidpdaa", sum := "9801802e2fcaa3eb414cbf693b297d70a0911036986bd312b92d3f9488f9817b", func := "loop.example/g01297/laws.FnExactTypeOfMatrix", spec := "fnExactTypeOfMatrix", plainKeys := false, apart := false }
def FnExactTypeOfMatrixSaid : Prop := fnExactTypeOfMatrixRow.holds Try.pinned (OpenSpec.ofChange fnExactTypeOfMatrixSpec)

/-- ITS FALSE NEIGHBOUR: 'it returns false'. Refute it at one input. -/
def fnExactTypeOfMatrixWrong : ChangeSpec := { name := "fnExactTypeOfMatrix", fn := fun _ => fun
  | [d] => { results := [.lit (.bool false)], args := [d] }
  | _ => none }
def FnExactTypeOfMatrixWrongFalsely : Prop := fnExactTypeOfMatrixRow.holds Try.pinned (OpenSpec.ofChange fnExactTypeOfMatrixWrong)

/-- 'laws.FnExactWordOfMatrix': WHATEVER THE INPUT: true; the input reads as it did. -/
def fnExactWordOfMatrixSpec : ChangeSpec := { name := "fnExactWordOfMatrix", fn := fun _ => fun
  | [d] => { results := [.lit (.bool true)], args := [d] }
  | _ => none }
def fnExactWordOfMatrixRow : OpenClaim := { program := "ytohnmogejidpdaa", sum := "9801802e2fcaa3eb414cbf693b297d70a0911036986bd312b92d3f9488f9817b", func := "loop.example/g01297/laws.FnExactWordOfMatrix", spec := "fnExactWordOfMatrix", plainKeys := false, apart := false }
def FnExactWordOfMatrixSaid : Prop := fnExactWordOfMatrixRow.holds Try.pinned (OpenSpec.ofChange fnExactWordOfMatrixSpec)

/-- ITS FALSE NEIGHBOUR: 'it returns false'. Refute it at one input. -/
def fnExactWordOfMatrixWrong : ChangeSpec := { name := "fnExactWordOfMatrix", fn := fun _ => fun
  | [d] => { results := [.lit (.bool false)], args := [d] }
  | _ => none }
def FnExactWordOfMatrixWrongFalsely : Prop := fnExactWordOfMatrixRow.holds Try.pinned (OpenSpec.ofChange fnExactWordOfMatrixWrong)

/-- 'laws.FnExactWordOfPeriod': WHATEVER THE INPUT: true; the input reads as it did. -/
def fnExactWordOfPeriodSpec : ChangeSpec := { name := "fnExactWordOfPeriod", fn := fun _ => fun
  | [d] => { results := [.lit (.bool true)], args := [d] }
  | _ => none }
def fnExactWordOfPeriodRow : OpenClaim := { program := "ytohnmogejidpdaa", sum := "9801802e2fcaa3eb414cbf693b297d70a0911036986bd312b92d3f9488f9817b", func := "loop.example/g01297/laws.FnExactWordOfPeriod", spec := "fnExactWordOfPeriod", inPlace := ["internal/abi.NoEscape", "internal/bytealg.MakeNoZero"], unfollowed := true, recurses := true, plainKeys := false, apart := false }
def FnExactWordOfPeriodSaid : Prop := fnExactWordOfPeriodRow.holds Try.pinned (OpenSpec.ofChange fnExactWordOfPeriodSpec)

/-- ITS FALSE NEIGHBOUR: 'it returns false'. Refute it at one input. -/
def fnExactWordOfPeriodWrong : ChangeSpec := { name := "fnExactWordOfPeriod", fn := fun _ => fun
  | [d] => { results := [.lit (.bool false)], args := [d] }
  | _ => none }
def FnExactWordOfPeriodWrongFalsely : Prop := fnExactWordOfPeriodRow.holds Try.pinned (OpenSpec.ofChange fnExactWordOfPeriodWrong)

/-- 'laws.FnExactConjugateMatrix': WHATEVER THE INPUT: true; the input reads as it did. -/
def fnExactConjugateMatrixSpec : ChangeSpec := { name := "fnExactConjugateMatrix", fn := fun _ => fun
  | [d1, d2] => { results := [.lit (.bool true)], args := [d1, d2] }
  | _ => none }
def fnExactConjugateMatrixRow : OpenClaim := { program := "ytohnmogejidpdaa", sum := "9801802e2fcaa3eb414cbf693b297d70a0911036986bd312b92d3f9488f9817b", func := "loop.example/g01297/laws.FnExactConjugateMatrix", spec := "fnExactConjugateMatrix", plainKeys := false, apart := false }
def FnExactConjugateMatrixSaid : Prop := fnExactConjugateMatrixRow.holds Try.pinned (OpenSpec.ofChange fnExactConjugateMatrixSpec)

/-- ITS FALSE NEIGHBOUR: 'it returns false'. Refute it at one input. -/
def fnExactConjugateMatrixWrong : ChangeSpec := { name := "fnExactConjugateMatrix", fn := fun _ => fun
  | [d1, d2] => { results := [.lit (.bool false)], args := [d1, d2] }
  | _ => none }
def FnExactConjugateMatrixWrongFalsely : Prop := fnExactConjugateMatrixRow.holds Try.pinned (OpenSpec.ofChange fnExactConjugateMatrixWrong)

/-- 'laws.FnExactIsForm': WHATEVER THE INPUT: true; the input reads as it did. -/
def fnExactIsFormSpec : ChangeSpec := { name := "fnExactIsForm", fn := fun _ => fun
  | [d] => { results := [.lit (.bool true)], args := [d] }
  | _ => none }
def fnExactIsFormRow : OpenClaim := { program := "ytohnmogejidpdaa", sum := "9801802e2fcaa3eb414cbf693b297d70a0911036986bd312b92d3f9488f9817b", func := "loop.example/g01297/laws.FnExactIsForm", spec := "fnExactIsForm", plainKeys := false, apart := false }
def FnExactIsFormSaid : Prop := fnExactIsFormRow.holds Try.pinned (OpenSpec.ofChange fnExactIsFormSpec)

/-- ITS FALSE NEIGHBOUR: 'it returns false'. Refute it at one input. -/
def fnExactIsFormWrong : ChangeSpec := { name := "fnExactIsForm", fn := fun _ => fun
  | [d] => { results := [.lit (.bool false)], args := [d] }
  | _ => none }
def FnExactIsFormWrongFalsely : Prop := fnExactIsFormRow.holds Try.pinned (OpenSpec.ofChange fnExactIsFormWrong)

/-- 'laws.FnExactDiscriminantOf': WHATEVER THE INPUT: true; the input reads as it did. -/
def fnExactDiscriminantOfSpec : ChangeSpec := { name := "fnExactDiscriminantOf", fn := fun _ => fun
  | [d] => { results := [.lit (.bool true)], args := [d] }
  | _ => none }
def fnExactDiscriminantOfRow : OpenClaim := { program := "ytohnmogejidpdaa", sum := "9801802e2fcaa3eb414cbf693b297d70a0911036986bd312b92d3f9488f9817b", func := "loop.example/g01297/laws.FnExactDiscriminantOf", spec := "fnExactDiscriminantOf", plainKeys := false, apart := false }
def FnExactDiscriminantOfSaid : Prop := fnExactDiscriminantOfRow.holds Try.pinned (OpenSpec.ofChange fnExactDiscriminantOfSpec)

/-- ITS FALSE NEIGHBOUR: 'it returns false'. Refute it at one input. -/
def fnExactDiscriminantOfWrong : ChangeSpec := { name := "fnExactDiscriminantOf", fn := fun _ => fun
  | [d] => { results := [.lit (.bool false)], args := [d] }
  | _ => none }
def FnExactDiscriminantOfWrongFalsely : Prop := fnExactDiscriminantOfRow.holds Try.pinned (OpenSpec.ofChange fnExactDiscriminantOfWrong)

/-- 'laws.FnExactIsReducedForm': WHATEVER THE INPUT: true; the input reads as it did. -/
def fnExactIsReducedFormSpec : ChangeSpec := { name := "fnExactIsReducedForm", fn := fun _ => fun
  | [d] => { results := [.lit (.bool true)], args := [d] }
  | _ => none }
def fnExactIsReducedFormRow : OpenClaim := { program := "ytohnmogejidpdaa", sum := "9801802e2fcaa3eb414cbf693b297d70a0911036986bd312b92d3f9488f9817b", func := "loop.example/g01297/laws.FnExactIsReducedForm", spec := "fnExactIsReducedForm", plainKeys := false, apart := false }
def FnExactIsReducedFormSaid : Prop := fnExactIsReducedFormRow.holds Try.pinned (OpenSpec.ofChange fnExactIsReducedFormSpec)

/-- ITS FALSE NEIGHBOUR: 'it returns false'. Refute it at one input. -/
def fnExactIsReducedFormWrong : ChangeSpec := { name := "fnExactIsReducedForm", fn := fun _ => fun
  | [d] => { results := [.lit (.bool false)], args := [d] }
  | _ => none }
def FnExactIsReducedFormWrongFalsely : Prop := fnExactIsReducedFormRow.holds Try.pinned (OpenSpec.ofChange fnExactIsReducedFormWrong)

/-- 'laws.FnExactNextForm': WHATEVER THE INPUT: true; the input reads as it did. -/
def fnExactNextFormSpec : ChangeSpec := { name := "fnExactNextForm", fn := fun _ => fun
  | [d] => { results := [.lit (.bool true)], args := [d] }
  | _ => none }
def fnExactNextFormRow : OpenClaim := { program := "ytohnmogejidpdaa", sum := "9801802e2fcaa3eb414cbf693b297d70a0911036986bd312b92d3f9488f9817b", func := "loop.example/g01297/laws.FnExactNextForm", spec := "fnExactNextForm", plainKeys := false, apart := false }
def FnExactNextFormSaid : Prop := fnExactNextFormRow.holds Try.pinned (OpenSpec.ofChange fnExactNextFormSpec)

/-- ITS FALSE NEIGHBOUR: 'it returns false'. Refute it at one input. -/
def fnExactNextFormWrong : ChangeSpec := { name := "fnExactNextForm", fn := fun _ => fun
  | [d] => { results := [.lit (.bool false)], args := [d] }
  | _ => none }
def FnExactNextFormWrongFalsely : Prop := fnExactNextFormRow.holds Try.pinned (OpenSpec.ofChange fnExactNextFormWrong)

/-- 'laws.FnExactCycleOfForm': WHATEVER THE INPUT: true; the input reads as it did. -/
def fnExactCycleOfFormSpec : ChangeSpec := { name := "fnExactCycleOfForm", fn := fun _ => fun
  | [d] => { results := [.lit (.bool true)], args := [d] }
  | _ => none }
def fnExactCycleOfFormRow : OpenClaim := { program := "ytohnmogejidpdaa", sum := "9801802e2fcaa3eb414cbf693b297d70a0911036986bd312b92d3f9488f9817b", func := "loop.example/g01297/laws.FnExactCycleOfForm", spec := "fnExactCycleOfForm", plainKeys := false, apart := false }
def FnExactCycleOfFormSaid : Prop := fnExactCycleOfFormRow.holds Try.pinned (OpenSpec.ofChange fnExactCycleOfFormSpec)

/-- ITS FALSE NEIGHBOUR: 'it returns false'. Refute it at one input. -/
def fnExactCycleOfFormWrong : ChangeSpec := { name := "fnExactCycleOfForm", fn := fun _ => fun
  | [d] => { results := [.lit (.bool false)], args := [d] }
  | _ => none }
def FnExactCycleOfFormWrongFalsely : Prop := fnExactCycleOfFormRow.holds Try.pinned (OpenSpec.ofChange fnExactCycleOfFormWrong)

/-- 'laws.FnExactAreEquivalentForms': WHATEVER THE INPUT: true; the input reads as it did. -/
def fnExactAreEquivalentFormsSpec : ChangeSpec := { name := "fnExactAreEquivalentForms", fn := fun _ => fun
  | [d1, d2] => { results := [.lit (.bool true)], args := [d1, d2] }
  | _ => none }
def fnExactAreEquivalentFormsRow : OpenClaim := { program := "ytohnmogejidpdaa", sum := "9801802e2fcaa3eb414cbf693b297d70a0911036986bd312b92d3f9488f9817b", func := "loop.example/g01297/laws.FnExactAreEquivalentForms", spec := "fnExactAreEquivalentForms", plainKeys := false, apart := false }
def FnExactAreEquivalentFormsSaid : Prop := fnExactAreEquivalentFormsRow.holds Try.pinned (OpenSpec.ofChange fnExactAreEquivalentFormsSpec)

/-- ITS FALSE NEIGHBOUR: 'it returns false'. Refute it at one input. -/
def fnExactAreEquivalentFormsWrong : ChangeSpec := { name := "fnExactAreEquivalentForms", fn := fun _ => fun
  | [d1, d2] => { results := [.lit (.bool false)], args := [d1, d2] }
  | _ => none }
def FnExactAreEquivalentFormsWrongFalsely : Prop := fnExactAreEquivalentFormsRow.holds Try.pinned (OpenSpec.ofChange fnExactAreEquivalentFormsWrong)

/-- 'laws.FnExactReducedForms': WHATEVER THE INPUT: true; the input reads as it did. -/
def fnExactReducedFormsSpec : ChangeSpec := { name := "fnExactReducedForms", fn := fun _ => fun
  | [d] => { results := [.lit (.bool true)], args := [d] }
  | _ => none }
def fnExactReducedFormsRow : OpenClaim := { program := "ytohnmogejidpdaa", sum := "9801802e2fcaa3eb414cbf693b297d70a0911036986bd312b92d3f9488f9817b", func := "loop.example/g01297/laws.FnExactReducedForms", spec := "fnExactReducedForms", plainKeys := false, apart := false }
def FnExactReducedFormsSaid : Prop := fnExactReducedFormsRow.holds Try.pinned (OpenSpec.ofChange fnExactReducedFormsSpec)

/-- ITS FALSE NEIGHBOUR: 'it returns false'. Refute it at one input. -/
def fnExactReducedFormsWrong : ChangeSpec := { name := "fnExactReducedForms", fn := fun _ => fun
  | [d] => { results := [.lit (.bool false)], args := [d] }
  | _ => none }
def FnExactReducedFormsWrongFalsely : Prop := fnExactReducedFormsRow.holds Try.pinned (OpenSpec.ofChange fnExactReducedFormsWrong)

/-- 'laws.FnExactClassNumber': WHATEVER THE INPUT: true; the input reads as it did. -/
def fnExactClassNumberSpec : ChangeSpec := { name := "fnExactClassNumber", fn := fun _ => fun
  | [d] => { results := [.lit (.bool true)], args := [d] }
  | _ => none }
def fnExactClassNumberRow : OpenClaim := { program := "ytohnmogejidpdaa", sum := "9801802e2fcaa3eb414cbf693b297d70a0911036986bd312b92d3f9488f9817b", func := "loop.example/g01297/laws.FnExactClassNumber", spec := "fnExactClassNumber", plainKeys := false, apart := false }
def FnExactClassNumberSaid : Prop := fnExactClassNumberRow.holds Try.pinned (OpenSpec.ofChange fnExactClassNumberSpec)

/-- ITS FALSE NEIGHBOUR: 'it returns false'. Refute it at one input. -/
def fnExactClassNumberWrong : ChangeSpec := { name := "fnExactClassNumber", fn := fun _ => fun
  | [d] => { results := [.lit (.bool false)], args := [d] }
  | _ => none }
def FnExactClassNumberWrongFalsely : Prop := fnExactClassNumberRow.holds Try.pinned (OpenSpec.ofChange fnExactClassNumberWrong)

/-- 'laws.FnExactFormOfMatrix': WHATEVER THE INPUT: true; the input reads as it did. -/
def fnExactFormOfMatrixSpec : ChangeSpec := { name := "fnExactFormOfMatrix", fn := fun _ => fun
  | [d] => { results := [.lit (.bool true)], args := [d] }
  | _ => none }
def fnExactFormOfMatrixRow : OpenClaim := { program := "ytohnmogejidpdaa", sum := "9801802e2fcaa3eb414cbf693b297d70a0911036986bd312b92d3f9488f9817b", func := "loop.example/g01297/laws.FnExactFormOfMatrix", spec := "fnExactFormOfMatrix", plainKeys := false, apart := false }
def FnExactFormOfMatrixSaid : Prop := fnExactFormOfMatrixRow.holds Try.pinned (OpenSpec.ofChange fnExactFormOfMatrixSpec)

/-- ITS FALSE NEIGHBOUR: 'it returns false'. Refute it at one input. -/
def fnExactFormOfMatrixWrong : ChangeSpec := { name := "fnExactFormOfMatrix", fn := fun _ => fun
  | [d] => { results := [.lit (.bool false)], args := [d] }
  | _ => none }
def FnExactFormOfMatrixWrongFalsely : Prop := fnExactFormOfMatrixRow.holds Try.pinned (OpenSpec.ofChange fnExactFormOfMatrixWrong)

/- THE SECOND FORM. 'bulk': how many values and letters a reading holds, each counted each time it is reached (what is shared counts as often as it is met; a slice's spare places count too). A statement '..UptoSaid' is the law's where the arguments, and the package variables that the reading takes, are together of bulk at most 1048576: NARROWER than '..Said'. Prove '..Said' where nothing that the law and all that it calls make is longer than what came in: it says more and counts as full. Else prove '..UptoSaid'. A law counts once. -/
mutual
def uptoBulk {H : Type} : DataW H → Nat
  | .lit (.string bytes) => bytes.length + 1
  | .lit _ => 1
  | .nil => 1
  | .ptr d => uptoBulk d + 1
  | .slice elems spare => uptoBulkAll elems + uptoBulkAll spare + 1
  | .agg parts => uptoBulkAll parts + 1
  | .iface _ d => uptoBulk d + 1
  | .map entries => uptoBulkEntries entries + 1
  | .held _ => 1
def uptoBulkAll {H : Type} : List (DataW H) → Nat
  | [] => 0
  | d :: r => uptoBulk d + uptoBulkAll r
def uptoBulkEntries {H : Type} : List (Lit × DataW H) → Nat
  | [] => 0
  | x :: r => uptoBulkEntry x + uptoBulkEntries r
def uptoBulkEntry {H : Type} : Lit × DataW H → Nat
  | (.string bytes, d) => bytes.length + uptoBulk d + 1
  | (_, d) => uptoBulk d + 1
 end
def uptoSmall : (H : Type) → List (DataW H) → Bool := fun _ ds => decide (uptoBulkAll ds ≤ 1048576)
def OpenSpec.upto (s : _root_.Go.ChangeSpec) : _root_.Go.OpenSpec := { _root_.Go.OpenSpec.ofChange s with cond := some uptoSmall }

/-- 'laws.FnExactTypeOfMatrix', WHERE WHAT IT READS IS OF BULK AT MOST 1048576: true; the input reads as it did. -/
def fnExactTypeOfMatrixUptoRow : OpenClaim := { program := "ytohnmogejidpdaa", sum := "9801802e2fcaa3eb414cbf693b297d70a0911036986bd312b92d3f9488f9817b", func := "loop.example/g01297/laws.FnExactTypeOfMatrix", spec := "fnExactTypeOfMatrix", plainKeys := false, apart := false, narrowed := true }
def FnExactTypeOfMatrixUptoSaid : Prop := fnExactTypeOfMatrixUptoRow.holds Try.pinned (OpenSpec.upto fnExactTypeOfMatrixSpec)

/-- 'laws.FnExactWordOfMatrix', WHERE WHAT IT READS IS OF BULK AT MOST 1048576: true; the input reads as it did. -/
def fnExactWordOfMatrixUptoRow : OpenClaim := { program := "ytohnmogejidpdaa", sum := "9801802e2fcaa3eb414cbf693b297d70a0911036986bd312b92d3f9488f9817b", func := "loop.example/g01297/laws.FnExactWordOfMatrix", spec := "fnExactWordOfMatrix", plainKeys := false, apart := false, narrowed := true }
def FnExactWordOfMatrixUptoSaid : Prop := fnExactWordOfMatrixUptoRow.holds Try.pinned (OpenSpec.upto fnExactWordOfMatrixSpec)

/-- 'laws.FnExactWordOfPeriod', WHERE WHAT IT READS IS OF BULK AT MOST 1048576: true; the input reads as it did. -/
def fnExactWordOfPeriodUptoRow : OpenClaim := { program := "ytohnmogejidpdaa", sum := "9801802e2fcaa3eb414cbf693b297d70a0911036986bd312b92d3f9488f9817b", func := "loop.example/g01297/laws.FnExactWordOfPeriod", spec := "fnExactWordOfPeriod", inPlace := ["internal/abi.NoEscape", "internal/bytealg.MakeNoZero"], unfollowed := true, recurses := true, plainKeys := false, apart := false, narrowed := true }
def FnExactWordOfPeriodUptoSaid : Prop := fnExactWordOfPeriodUptoRow.holds Try.pinned (OpenSpec.upto fnExactWordOfPeriodSpec)

/-- 'laws.FnExactConjugateMatrix', WHERE WHAT IT READS IS OF BULK AT MOST 1048576: true; the input reads as it did. -/
def fnExactConjugateMatrixUptoRow : OpenClaim := { program := "ytohnmogejidpdaa", sum := "9801802e2fcaa3eb414cbf693b297d70a0911036986bd312b92d3f9488f9817b", func := "loop.example/g01297/laws.FnExactConjugateMatrix", spec := "fnExactConjugateMatrix", plainKeys := false, apart := false, narrowed := true }
def FnExactConjugateMatrixUptoSaid : Prop := fnExactConjugateMatrixUptoRow.holds Try.pinned (OpenSpec.upto fnExactConjugateMatrixSpec)

/-- 'laws.FnExactIsForm', WHERE WHAT IT READS IS OF BULK AT MOST 1048576: true; the input reads as it did. -/
def fnExactIsFormUptoRow : OpenClaim := { program := "ytohnmogejidpdaa", sum := "9801802e2fcaa3eb414cbf693b297d70a0911036986bd312b92d3f9488f9817b", func := "loop.example/g01297/laws.FnExactIsForm", spec := "fnExactIsForm", plainKeys := false, apart := false, narrowed := true }
def FnExactIsFormUptoSaid : Prop := fnExactIsFormUptoRow.holds Try.pinned (OpenSpec.upto fnExactIsFormSpec)

/-- 'laws.FnExactDiscriminantOf', WHERE WHAT IT READS IS OF BULK AT MOST 1048576: true; the input reads as it did. -/
def fnExactDiscriminantOfUptoRow : OpenClaim := { program := "ytohnmogejidpdaa", sum := "9801802e2fcaa3eb414cbf693b297d70a0911036986bd312b92d3f9488f9817b", func := "loop.example/g01297/laws.FnExactDiscriminantOf", spec := "fnExactDiscriminantOf", plainKeys := false, apart := false, narrowed := true }
def FnExactDiscriminantOfUptoSaid : Prop := fnExactDiscriminantOfUptoRow.holds Try.pinned (OpenSpec.upto fnExactDiscriminantOfSpec)

/-- 'laws.FnExactIsReducedForm', WHERE WHAT IT READS IS OF BULK AT MOST 1048576: true; the input reads as it did. -/
def fnExactIsReducedFormUptoRow : OpenClaim := { program := "ytohnmogejidpdaa", sum := "9801802e2fcaa3eb414cbf693b297d70a0911036986bd312b92d3f9488f9817b", func := "loop.example/g01297/laws.FnExactIsReducedForm", spec := "fnExactIsReducedForm", plainKeys := false, apart := false, narrowed := true }
def FnExactIsReducedFormUptoSaid : Prop := fnExactIsReducedFormUptoRow.holds Try.pinned (OpenSpec.upto fnExactIsReducedFormSpec)

/-- 'laws.FnExactNextForm', WHERE WHAT IT READS IS OF BULK AT MOST 1048576: true; the input reads as it did. -/
def fnExactNextFormUptoRow : OpenClaim := { program := "ytohnmogejidpdaa", sum := "9801802e2fcaa3eb414cbf693b297d70a0911036986bd312b92d3f9488f9817b", func := "loop.example/g01297/laws.FnExactNextForm", spec := "fnExactNextForm", plainKeys := false, apart := false, narrowed := true }
def FnExactNextFormUptoSaid : Prop := fnExactNextFormUptoRow.holds Try.pinned (OpenSpec.upto fnExactNextFormSpec)

/-- 'laws.FnExactCycleOfForm', WHERE WHAT IT READS IS OF BULK AT MOST 1048576: true; the input reads as it did. -/
def fnExactCycleOfFormUptoRow : OpenClaim := { program := "ytohnmogejidpdaa", sum := "9801802e2fcaa3eb414cbf693b297d70a0911036986bd312b92d3f9488f9817b", func := "loop.example/g01297/laws.FnExactCycleOfForm", spec := "fnExactCycleOfForm", plainKeys := false, apart := false, narrowed := true }
def FnExactCycleOfFormUptoSaid : Prop := fnExactCycleOfFormUptoRow.holds Try.pinned (OpenSpec.upto fnExactCycleOfFormSpec)

/-- 'laws.FnExactAreEquivalentForms', WHERE WHAT IT READS IS OF BULK AT MOST 1048576: true; the input reads as it did. -/
def fnExactAreEquivalentFormsUptoRow : OpenClaim := { program := "ytohnmogejidpdaa", sum := "9801802e2fcaa3eb414cbf693b297d70a0911036986bd312b92d3f9488f9817b", func := "loop.example/g01297/laws.FnExactAreEquivalentForms", spec := "fnExactAreEquivalentForms", plainKeys := false, apart := false, narrowed := true }
def FnExactAreEquivalentFormsUptoSaid : Prop := fnExactAreEquivalentFormsUptoRow.holds Try.pinned (OpenSpec.upto fnExactAreEquivalentFormsSpec)

/-- 'laws.FnExactReducedForms', WHERE WHAT IT READS IS OF BULK AT MOST 1048576: true; the input reads as it did. -/
def fnExactReducedFormsUptoRow : OpenClaim := { program := "ytohnmogejidpdaa", sum := "9801802e2fcaa3eb414cbf693b297d70a0911036986bd312b92d3f9488f9817b", func := "loop.example/g01297/laws.FnExactReducedForms", spec := "fnExactReducedForms", plainKeys := false, apart := false, narrowed := true }
def FnExactReducedFormsUptoSaid : Prop := fnExactReducedFormsUptoRow.holds Try.pinned (OpenSpec.upto fnExactReducedFormsSpec)

/-- 'laws.FnExactClassNumber', WHERE WHAT IT READS IS OF BULK AT MOST 1048576: true; the input reads as it did. -/
def fnExactClassNumberUptoRow : OpenClaim := { program := "ytohnmogejidpdaa", sum := "9801802e2fcaa3eb414cbf693b297d70a0911036986bd312b92d3f9488f9817b", func := "loop.example/g01297/laws.FnExactClassNumber", spec := "fnExactClassNumber", plainKeys := false, apart := false, narrowed := true }
def FnExactClassNumberUptoSaid : Prop := fnExactClassNumberUptoRow.holds Try.pinned (OpenSpec.upto fnExactClassNumberSpec)

/-- 'laws.FnExactFormOfMatrix', WHERE WHAT IT READS IS OF BULK AT MOST 1048576: true; the input reads as it did. -/
def fnExactFormOfMatrixUptoRow : OpenClaim := { program := "ytohnmogejidpdaa", sum := "9801802e2fcaa3eb414cbf693b297d70a0911036986bd312b92d3f9488f9817b", func := "loop.example/g01297/laws.FnExactFormOfMatrix", spec := "fnExactFormOfMatrix", plainKeys := false, apart := false, narrowed := true }
def FnExactFormOfMatrixUptoSaid : Prop := fnExactFormOfMatrixUptoRow.holds Try.pinned (OpenSpec.upto fnExactFormOfMatrixSpec)

end Rows
end Go.Proofs.Ytohnmogejidpdaa
