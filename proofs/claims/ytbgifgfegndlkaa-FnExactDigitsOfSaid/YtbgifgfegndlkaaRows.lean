/-
  No cell of these rows narrows 'for every input' (looked for: loops, veiled, ifaces, maps, wideKeys, modest, calm, conditions, laid).
  DERIVED. THE GIVEN ROWS OF THIS SEAT. 13 by the template 'for every input the law returns true; each argument reads behind the call as it read before'; 0 by the template 'total and deterministic' (their statements: YtbgifgfegndlkaaTotals.lean).
  GIVEN WITH THE SEED: the statements are not yours to turn. If you find one false, say at which input.
  Laid BY PROGRAM, IN A SANDBOX (cutbox-rows.mjs): the forced cells as the released guide's own fill.sh prints them over the translation 5752b91bafa494b1… (all of the seat's roots in one cut). By AI agents, Wed Nov 11 2026. No macro, syntax, notation, axiom, sorry.
-/
import Derived.Test.YtbgifgfegndlkaaChecked
import GoSem.Claim
import GoSem.ClaimJoined
import GoSem.ClaimMapViews
import Derived.JoinedTies
import Derived.KernelRfl
namespace Go.Proofs.Ytbgifgfegndlkaa
/- THE CELL 'sum', in the pinned program and in every row, IS THE sha256 OF THE DUMP (.gsa) THAT YtbgifgfegndlkaaProg.lean LOADS. Nothing in Lean hashes anything: it is a label: what it is worth is what the hold of that sum in a sandbox is worth. -/
noncomputable def Try.pinned : Pinned := { name := "ytbgifgfegndlkaa", sum := "5752b91bafa494b11d9d4ab4ec5cc109ad085c65cba70cb88df2475ef6083710", checked := Try.checked }
namespace Rows
def none {H : Type} : Left H := { results := [], args := [] }

/-- 'laws.FnExactIsTriple': WHATEVER THE INPUT: true; the input reads as it did. -/
def fnExactIsTripleSpec : ChangeSpec := { name := "fnExactIsTriple", fn := fun _ => fun
  | [d] => { results := [.lit (.bool true)], args := [d] }
  | _ => none }
def fnExactIsTripleRow : OpenClaim := { program := "ytbgifgfegndlkaa", sum := "5752b91bafa494b11d9d4ab4ec5cc109ad085c65cba70cb88df2475ef6083710", func := "loop.example/g01297/laws.FnExactIsTriple", spec := "fnExactIsTriple", apart := false }
def FnExactIsTripleSaid : Prop := fnExactIsTripleRow.holds Try.pinned (OpenSpec.ofChange fnExactIsTripleSpec)

/-- ITS FALSE NEIGHBOUR: 'it returns false'. Refute it at one input. -/
def fnExactIsTripleWrong : ChangeSpec := { name := "fnExactIsTriple", fn := fun _ => fun
  | [d] => { results := [.lit (.bool false)], args := [d] }
  | _ => none }
def FnExactIsTripleWrongFalsely : Prop := fnExactIsTripleRow.holds Try.pinned (OpenSpec.ofChange fnExactIsTripleWrong)

/-- 'laws.FnExactSortTriple': WHATEVER THE INPUT: true; the input reads as it did. -/
def fnExactSortTripleSpec : ChangeSpec := { name := "fnExactSortTriple", fn := fun _ => fun
  | [d] => { results := [.lit (.bool true)], args := [d] }
  | _ => none }
def fnExactSortTripleRow : OpenClaim := { program := "ytbgifgfegndlkaa", sum := "5752b91bafa494b11d9d4ab4ec5cc109ad085c65cba70cb88df2475ef6083710", func := "loop.example/g01297/laws.FnExactSortTriple", spec := "fnExactSortTriple", unfollowed := true, recurses := true, apart := false }
def FnExactSortTripleSaid : Prop := fnExactSortTripleRow.holds Try.pinned (OpenSpec.ofChange fnExactSortTripleSpec)

/-- ITS FALSE NEIGHBOUR: 'it returns false'. Refute it at one input. -/
def fnExactSortTripleWrong : ChangeSpec := { name := "fnExactSortTriple", fn := fun _ => fun
  | [d] => { results := [.lit (.bool false)], args := [d] }
  | _ => none }
def FnExactSortTripleWrongFalsely : Prop := fnExactSortTripleRow.holds Try.pinned (OpenSpec.ofChange fnExactSortTripleWrong)

/-- 'laws.FnExactStepTriple': WHATEVER THE INPUT: true; the input reads as it did. -/
def fnExactStepTripleSpec : ChangeSpec := { name := "fnExactStepTriple", fn := fun _ => fun
  | [d1, d2] => { results := [.lit (.bool true)], args := [d1, d2] }
  | _ => none }
def fnExactStepTripleRow : OpenClaim := { program := "ytbgifgfegndlkaa", sum := "5752b91bafa494b11d9d4ab4ec5cc109ad085c65cba70cb88df2475ef6083710", func := "loop.example/g01297/laws.FnExactStepTriple", spec := "fnExactStepTriple", unfollowed := true, recurses := true, apart := false }
def FnExactStepTripleSaid : Prop := fnExactStepTripleRow.holds Try.pinned (OpenSpec.ofChange fnExactStepTripleSpec)

/-- ITS FALSE NEIGHBOUR: 'it returns false'. Refute it at one input. -/
def fnExactStepTripleWrong : ChangeSpec := { name := "fnExactStepTriple", fn := fun _ => fun
  | [d1, d2] => { results := [.lit (.bool false)], args := [d1, d2] }
  | _ => none }
def FnExactStepTripleWrongFalsely : Prop := fnExactStepTripleRow.holds Try.pinned (OpenSpec.ofChange fnExactStepTripleWrong)

/-- 'laws.FnExactHasEnded': WHATEVER THE INPUT: true; the input reads as it did. -/
def fnExactHasEndedSpec : ChangeSpec := { name := "fnExactHasEnded", fn := fun _ => fun
  | [d1, d2] => { results := [.lit (.bool true)], args := [d1, d2] }
  | _ => none }
def fnExactHasEndedRow : OpenClaim := { program := "ytbgifgfegndlkaa", sum := "5752b91bafa494b11d9d4ab4ec5cc109ad085c65cba70cb88df2475ef6083710", func := "loop.example/g01297/laws.FnExactHasEnded", spec := "fnExactHasEnded", unfollowed := true, recurses := true, apart := false }
def FnExactHasEndedSaid : Prop := fnExactHasEndedRow.holds Try.pinned (OpenSpec.ofChange fnExactHasEndedSpec)

/-- ITS FALSE NEIGHBOUR: 'it returns false'. Refute it at one input. -/
def fnExactHasEndedWrong : ChangeSpec := { name := "fnExactHasEnded", fn := fun _ => fun
  | [d1, d2] => { results := [.lit (.bool false)], args := [d1, d2] }
  | _ => none }
def FnExactHasEndedWrongFalsely : Prop := fnExactHasEndedRow.holds Try.pinned (OpenSpec.ofChange fnExactHasEndedWrong)

/-- 'laws.FnExactRunTriple': WHATEVER THE INPUT: true; the input reads as it did. -/
def fnExactRunTripleSpec : ChangeSpec := { name := "fnExactRunTriple", fn := fun _ => fun
  | [d1, d2, d3] => { results := [.lit (.bool true)], args := [d1, d2, d3] }
  | _ => none }
def fnExactRunTripleRow : OpenClaim := { program := "ytbgifgfegndlkaa", sum := "5752b91bafa494b11d9d4ab4ec5cc109ad085c65cba70cb88df2475ef6083710", func := "loop.example/g01297/laws.FnExactRunTriple", spec := "fnExactRunTriple", unfollowed := true, recurses := true, apart := false }
def FnExactRunTripleSaid : Prop := fnExactRunTripleRow.holds Try.pinned (OpenSpec.ofChange fnExactRunTripleSpec)

/-- ITS FALSE NEIGHBOUR: 'it returns false'. Refute it at one input. -/
def fnExactRunTripleWrong : ChangeSpec := { name := "fnExactRunTriple", fn := fun _ => fun
  | [d1, d2, d3] => { results := [.lit (.bool false)], args := [d1, d2, d3] }
  | _ => none }
def FnExactRunTripleWrongFalsely : Prop := fnExactRunTripleRow.holds Try.pinned (OpenSpec.ofChange fnExactRunTripleWrong)

/-- 'laws.FnExactLengthOfRun': WHATEVER THE INPUT: true; the input reads as it did. -/
def fnExactLengthOfRunSpec : ChangeSpec := { name := "fnExactLengthOfRun", fn := fun _ => fun
  | [d1, d2] => { results := [.lit (.bool true)], args := [d1, d2] }
  | _ => none }
def fnExactLengthOfRunRow : OpenClaim := { program := "ytbgifgfegndlkaa", sum := "5752b91bafa494b11d9d4ab4ec5cc109ad085c65cba70cb88df2475ef6083710", func := "loop.example/g01297/laws.FnExactLengthOfRun", spec := "fnExactLengthOfRun", unfollowed := true, recurses := true, apart := false }
def FnExactLengthOfRunSaid : Prop := fnExactLengthOfRunRow.holds Try.pinned (OpenSpec.ofChange fnExactLengthOfRunSpec)

/-- ITS FALSE NEIGHBOUR: 'it returns false'. Refute it at one input. -/
def fnExactLengthOfRunWrong : ChangeSpec := { name := "fnExactLengthOfRun", fn := fun _ => fun
  | [d1, d2] => { results := [.lit (.bool false)], args := [d1, d2] }
  | _ => none }
def FnExactLengthOfRunWrongFalsely : Prop := fnExactLengthOfRunRow.holds Try.pinned (OpenSpec.ofChange fnExactLengthOfRunWrong)

/-- 'laws.FnExactEndOfRun': WHATEVER THE INPUT: true; the input reads as it did. -/
def fnExactEndOfRunSpec : ChangeSpec := { name := "fnExactEndOfRun", fn := fun _ => fun
  | [d1, d2] => { results := [.lit (.bool true)], args := [d1, d2] }
  | _ => none }
def fnExactEndOfRunRow : OpenClaim := { program := "ytbgifgfegndlkaa", sum := "5752b91bafa494b11d9d4ab4ec5cc109ad085c65cba70cb88df2475ef6083710", func := "loop.example/g01297/laws.FnExactEndOfRun", spec := "fnExactEndOfRun", unfollowed := true, recurses := true, apart := false }
def FnExactEndOfRunSaid : Prop := fnExactEndOfRunRow.holds Try.pinned (OpenSpec.ofChange fnExactEndOfRunSpec)

/-- ITS FALSE NEIGHBOUR: 'it returns false'. Refute it at one input. -/
def fnExactEndOfRunWrong : ChangeSpec := { name := "fnExactEndOfRun", fn := fun _ => fun
  | [d1, d2] => { results := [.lit (.bool false)], args := [d1, d2] }
  | _ => none }
def FnExactEndOfRunWrongFalsely : Prop := fnExactEndOfRunRow.holds Try.pinned (OpenSpec.ofChange fnExactEndOfRunWrong)

/-- 'laws.FnExactMatrixOfRun': WHATEVER THE INPUT: true; the input reads as it did. -/
def fnExactMatrixOfRunSpec : ChangeSpec := { name := "fnExactMatrixOfRun", fn := fun _ => fun
  | [d1, d2, d3] => { results := [.lit (.bool true)], args := [d1, d2, d3] }
  | _ => none }
def fnExactMatrixOfRunRow : OpenClaim := { program := "ytbgifgfegndlkaa", sum := "5752b91bafa494b11d9d4ab4ec5cc109ad085c65cba70cb88df2475ef6083710", func := "loop.example/g01297/laws.FnExactMatrixOfRun", spec := "fnExactMatrixOfRun", unfollowed := true, recurses := true, apart := false }
def FnExactMatrixOfRunSaid : Prop := fnExactMatrixOfRunRow.holds Try.pinned (OpenSpec.ofChange fnExactMatrixOfRunSpec)

/-- ITS FALSE NEIGHBOUR: 'it returns false'. Refute it at one input. -/
def fnExactMatrixOfRunWrong : ChangeSpec := { name := "fnExactMatrixOfRun", fn := fun _ => fun
  | [d1, d2, d3] => { results := [.lit (.bool false)], args := [d1, d2, d3] }
  | _ => none }
def FnExactMatrixOfRunWrongFalsely : Prop := fnExactMatrixOfRunRow.holds Try.pinned (OpenSpec.ofChange fnExactMatrixOfRunWrong)

/-- 'laws.FnExactApplySquare': WHATEVER THE INPUT: true; the input reads as it did. -/
def fnExactApplySquareSpec : ChangeSpec := { name := "fnExactApplySquare", fn := fun _ => fun
  | [d1, d2] => { results := [.lit (.bool true)], args := [d1, d2] }
  | _ => none }
def fnExactApplySquareRow : OpenClaim := { program := "ytbgifgfegndlkaa", sum := "5752b91bafa494b11d9d4ab4ec5cc109ad085c65cba70cb88df2475ef6083710", func := "loop.example/g01297/laws.FnExactApplySquare", spec := "fnExactApplySquare", apart := false }
def FnExactApplySquareSaid : Prop := fnExactApplySquareRow.holds Try.pinned (OpenSpec.ofChange fnExactApplySquareSpec)

/-- ITS FALSE NEIGHBOUR: 'it returns false'. Refute it at one input. -/
def fnExactApplySquareWrong : ChangeSpec := { name := "fnExactApplySquare", fn := fun _ => fun
  | [d1, d2] => { results := [.lit (.bool false)], args := [d1, d2] }
  | _ => none }
def FnExactApplySquareWrongFalsely : Prop := fnExactApplySquareRow.holds Try.pinned (OpenSpec.ofChange fnExactApplySquareWrong)

/-- 'laws.FnExactDigitsOf': WHATEVER THE INPUT: true; the input reads as it did. -/
def fnExactDigitsOfSpec : ChangeSpec := { name := "fnExactDigitsOf", fn := fun _ => fun
  | [d] => { results := [.lit (.bool true)], args := [d] }
  | _ => none }
def fnExactDigitsOfRow : OpenClaim := { program := "ytbgifgfegndlkaa", sum := "5752b91bafa494b11d9d4ab4ec5cc109ad085c65cba70cb88df2475ef6083710", func := "loop.example/g01297/laws.FnExactDigitsOf", spec := "fnExactDigitsOf", apart := false }
def FnExactDigitsOfSaid : Prop := fnExactDigitsOfRow.holds Try.pinned (OpenSpec.ofChange fnExactDigitsOfSpec)

/-- ITS FALSE NEIGHBOUR: 'it returns false'. Refute it at one input. -/
def fnExactDigitsOfWrong : ChangeSpec := { name := "fnExactDigitsOf", fn := fun _ => fun
  | [d] => { results := [.lit (.bool false)], args := [d] }
  | _ => none }
def FnExactDigitsOfWrongFalsely : Prop := fnExactDigitsOfRow.holds Try.pinned (OpenSpec.ofChange fnExactDigitsOfWrong)

/-- 'laws.FnExactTripleOfDigits': WHATEVER THE INPUT: true; the input reads as it did. -/
def fnExactTripleOfDigitsSpec : ChangeSpec := { name := "fnExactTripleOfDigits", fn := fun _ => fun
  | [d1, d2] => { results := [.lit (.bool true)], args := [d1, d2] }
  | _ => none }
def fnExactTripleOfDigitsRow : OpenClaim := { program := "ytbgifgfegndlkaa", sum := "5752b91bafa494b11d9d4ab4ec5cc109ad085c65cba70cb88df2475ef6083710", func := "loop.example/g01297/laws.FnExactTripleOfDigits", spec := "fnExactTripleOfDigits", unfollowed := true, recurses := true, apart := false }
def FnExactTripleOfDigitsSaid : Prop := fnExactTripleOfDigitsRow.holds Try.pinned (OpenSpec.ofChange fnExactTripleOfDigitsSpec)

/-- ITS FALSE NEIGHBOUR: 'it returns false'. Refute it at one input. -/
def fnExactTripleOfDigitsWrong : ChangeSpec := { name := "fnExactTripleOfDigits", fn := fun _ => fun
  | [d1, d2] => { results := [.lit (.bool false)], args := [d1, d2] }
  | _ => none }
def FnExactTripleOfDigitsWrongFalsely : Prop := fnExactTripleOfDigitsRow.holds Try.pinned (OpenSpec.ofChange fnExactTripleOfDigitsWrong)

/-- 'laws.FnExactGcdOfTriple': WHATEVER THE INPUT: true; the input reads as it did. -/
def fnExactGcdOfTripleSpec : ChangeSpec := { name := "fnExactGcdOfTriple", fn := fun _ => fun
  | [d] => { results := [.lit (.bool true)], args := [d] }
  | _ => none }
def fnExactGcdOfTripleRow : OpenClaim := { program := "ytbgifgfegndlkaa", sum := "5752b91bafa494b11d9d4ab4ec5cc109ad085c65cba70cb88df2475ef6083710", func := "loop.example/g01297/laws.FnExactGcdOfTriple", spec := "fnExactGcdOfTriple", apart := false }
def FnExactGcdOfTripleSaid : Prop := fnExactGcdOfTripleRow.holds Try.pinned (OpenSpec.ofChange fnExactGcdOfTripleSpec)

/-- ITS FALSE NEIGHBOUR: 'it returns false'. Refute it at one input. -/
def fnExactGcdOfTripleWrong : ChangeSpec := { name := "fnExactGcdOfTriple", fn := fun _ => fun
  | [d] => { results := [.lit (.bool false)], args := [d] }
  | _ => none }
def FnExactGcdOfTripleWrongFalsely : Prop := fnExactGcdOfTripleRow.holds Try.pinned (OpenSpec.ofChange fnExactGcdOfTripleWrong)

/-- 'laws.FnExactShortestRule': WHATEVER THE INPUT: true; the input reads as it did. -/
def fnExactShortestRuleSpec : ChangeSpec := { name := "fnExactShortestRule", fn := fun _ => fun
  | [d] => { results := [.lit (.bool true)], args := [d] }
  | _ => none }
def fnExactShortestRuleRow : OpenClaim := { program := "ytbgifgfegndlkaa", sum := "5752b91bafa494b11d9d4ab4ec5cc109ad085c65cba70cb88df2475ef6083710", func := "loop.example/g01297/laws.FnExactShortestRule", spec := "fnExactShortestRule", unfollowed := true, recurses := true, apart := false }
def FnExactShortestRuleSaid : Prop := fnExactShortestRuleRow.holds Try.pinned (OpenSpec.ofChange fnExactShortestRuleSpec)

/-- ITS FALSE NEIGHBOUR: 'it returns false'. Refute it at one input. -/
def fnExactShortestRuleWrong : ChangeSpec := { name := "fnExactShortestRule", fn := fun _ => fun
  | [d] => { results := [.lit (.bool false)], args := [d] }
  | _ => none }
def FnExactShortestRuleWrongFalsely : Prop := fnExactShortestRuleRow.holds Try.pinned (OpenSpec.ofChange fnExactShortestRuleWrong)

/- THE SECOND FORM. 'bulk': how many values and letters a reading holds, each counted each time it is reached (what is shared counts as often as it is met; a slice's spare places count too). A statement '..UptoSaid' is the law's where the arguments, and the package variables that the reading takes, are together of bulk at most 1048576: NARROWER than '..Said'. Prove '..Said' where nothing that the law and all that it calls make is longer than what came in: it says more and counts as full. Else prove '..UptoSaid'. A law counts once. -/
mutual
def uptoBulk {H : Type} : DataW H → Nat
  | .lit (.string bytes) => bytes.length + 1
  | .lit _ => 1
  | .nil => 1
  | .ptr d => uptoBulk d + 1
  | .slice elems spare => uptoBulkAll elems + uptoBulkAll spare + 1
  | .agg parts => uptoBulkAll parts + 1
  | .iface _ d => uptoBulk d + 1
  | .map entries => uptoBulkEntries entries + 1
  | .held _ => 1
def uptoBulkAll {H : Type} : List (DataW H) → Nat
  | [] => 0
  | d :: r => uptoBulk d + uptoBulkAll r
def uptoBulkEntries {H : Type} : List (Lit × DataW H) → Nat
  | [] => 0
  | x :: r => uptoBulkEntry x + uptoBulkEntries r
def uptoBulkEntry {H : Type} : Lit × DataW H → Nat
  | (.string bytes, d) => bytes.length + uptoBulk d + 1
  | (_, d) => uptoBulk d + 1
 end
def uptoSmall : (H : Type) → List (DataW H) → Bool := fun _ ds => decide (uptoBulkAll ds ≤ 1048576)
def OpenSpec.upto (s : _root_.Go.ChangeSpec) : _root_.Go.OpenSpec := { _root_.Go.OpenSpec.ofChange s with cond := some uptoSmall }

/-- 'laws.FnExactIsTriple', WHERE WHAT IT READS IS OF BULK AT MOST 1048576: true; the input reads as it did. -/
def fnExactIsTripleUptoRow : OpenClaim := { program := "ytbgifgfegndlkaa", sum := "5752b91bafa494b11d9d4ab4ec5cc109ad085c65cba70cb88df2475ef6083710", func := "loop.example/g01297/laws.FnExactIsTriple", spec := "fnExactIsTriple", apart := false, narrowed := true }
def FnExactIsTripleUptoSaid : Prop := fnExactIsTripleUptoRow.holds Try.pinned (OpenSpec.upto fnExactIsTripleSpec)

/-- 'laws.FnExactSortTriple', WHERE WHAT IT READS IS OF BULK AT MOST 1048576: true; the input reads as it did. -/
def fnExactSortTripleUptoRow : OpenClaim := { program := "ytbgifgfegndlkaa", sum := "5752b91bafa494b11d9d4ab4ec5cc109ad085c65cba70cb88df2475ef6083710", func := "loop.example/g01297/laws.FnExactSortTriple", spec := "fnExactSortTriple", unfollowed := true, recurses := true, apart := false, narrowed := true }
def FnExactSortTripleUptoSaid : Prop := fnExactSortTripleUptoRow.holds Try.pinned (OpenSpec.upto fnExactSortTripleSpec)

/-- 'laws.FnExactStepTriple', WHERE WHAT IT READS IS OF BULK AT MOST 1048576: true; the input reads as it did. -/
def fnExactStepTripleUptoRow : OpenClaim := { program := "ytbgifgfegndlkaa", sum := "5752b91bafa494b11d9d4ab4ec5cc109ad085c65cba70cb88df2475ef6083710", func := "loop.example/g01297/laws.FnExactStepTriple", spec := "fnExactStepTriple", unfollowed := true, recurses := true, apart := false, narrowed := true }
def FnExactStepTripleUptoSaid : Prop := fnExactStepTripleUptoRow.holds Try.pinned (OpenSpec.upto fnExactStepTripleSpec)

/-- 'laws.FnExactHasEnded', WHERE WHAT IT READS IS OF BULK AT MOST 1048576: true; the input reads as it did. -/
def fnExactHasEndedUptoRow : OpenClaim := { program := "ytbgifgfegndlkaa", sum := "5752b91bafa494b11d9d4ab4ec5cc109ad085c65cba70cb88df2475ef6083710", func := "loop.example/g01297/laws.FnExactHasEnded", spec := "fnExactHasEnded", unfollowed := true, recurses := true, apart := false, narrowed := true }
def FnExactHasEndedUptoSaid : Prop := fnExactHasEndedUptoRow.holds Try.pinned (OpenSpec.upto fnExactHasEndedSpec)

/-- 'laws.FnExactRunTriple', WHERE WHAT IT READS IS OF BULK AT MOST 1048576: true; the input reads as it did. -/
def fnExactRunTripleUptoRow : OpenClaim := { program := "ytbgifgfegndlkaa", sum := "5752b91bafa494b11d9d4ab4ec5cc109ad085c65cba70cb88df2475ef6083710", func := "loop.example/g01297/laws.FnExactRunTriple", spec := "fnExactRunTriple", unfollowed := true, recurses := true, apart := false, narrowed := true }
def FnExactRunTripleUptoSaid : Prop := fnExactRunTripleUptoRow.holds Try.pinned (OpenSpec.upto fnExactRunTripleSpec)

/-- 'laws.FnExactLengthOfRun', WHERE WHAT IT READS IS OF BULK AT MOST 1048576: true; the input reads as it did. -/
def fnExactLengthOfRunUptoRow : OpenClaim := { program := "ytbgifgfegndlkaa", sum := "5752b91bafa494b11d9d4ab4ec5cc109ad085c65cba70cb88df2475ef6083710", func := "loop.example/g01297/laws.FnExactLengthOfRun", spec := "fnExactLengthOfRun", unfollowed := true, recurses := true, apart := false, narrowed := true }
def FnExactLengthOfRunUptoSaid : Prop := fnExactLengthOfRunUptoRow.holds Try.pinned (OpenSpec.upto fnExactLengthOfRunSpec)

/-- 'laws.FnExactEndOfRun', WHERE WHAT IT READS IS OF BULK AT MOST 1048576: true; the input reads as it did. -/
def fnExactEndOfRunUptoRow : OpenClaim := { program := "ytbgifgfegndlkaa", sum := "5752b91bafa494b11d9d4ab4ec5cc109ad085c65cba70cb88df2475ef6083710", func := "loop.example/g01297/laws.FnExactEndOfRun", spec := "fnExactEndOfRun", unfollowed := true, recurses := true, apart := false, narrowed := true }
def FnExactEndOfRunUptoSaid : Prop := fnExactEndOfRunUptoRow.holds Try.pinned (OpenSpec.upto fnExactEndOfRunSpec)

/-- 'laws.FnExactMatrixOfRun', WHERE WHAT IT READS IS OF BULK AT MOST 1048576: true; the input reads as it did. -/
def fnExactMatrixOfRunUptoRow : OpenClaim := { program := "ytbgifgfegndlkaa", sum := "5752b91bafa494b11d9d4ab4ec5cc109ad085c65cba70cb88df2475ef6083710", func := "loop.example/g01297/laws.FnExactMatrixOfRun", spec := "fnExactMatrixOfRun", unfollowed := true, recurses := true, apart := false, narrowed := true }
def FnExactMatrixOfRunUptoSaid : Prop := fnExactMatrixOfRunUptoRow.holds Try.pinned (OpenSpec.upto fnExactMatrixOfRunSpec)

/-- 'laws.FnExactApplySquare', WHERE WHAT IT READS IS OF BULK AT MOST 1048576: true; the input reads as it did. -/
def fnExactApplySquareUptoRow : OpenClaim := { program := "ytbgifgfegndlkaa", sum := "5752b91bafa494b11d9d4ab4ec5cc109ad085c65cba70cb88df2475ef6083710", func := "loop.example/g01297/laws.FnExactApplySquare", spec := "fnExactApplySquare", apart := false, narrowed := true }
def FnExactApplySquareUptoSaid : Prop := fnExactApplySquareUptoRow.holds Try.pinned (OpenSpec.upto fnExactApplySquareSpec)

/-- 'laws.FnExactDigitsOf', WHERE WHAT IT READS IS OF BULK AT MOST 1048576: true; the input reads as it did. -/
def fnExactDigitsOfUptoRow : OpenClaim := { program := "ytbgifgfegndlkaa", sum := "5752b91bafa494b11d9d4ab4ec5cc109ad085c65cba70cb88df2475ef6083710", func := "loop.example/g01297/laws.FnExactDigitsOf", spec := "fnExactDigitsOf", apart := false, narrowed := true }
def FnExactDigitsOfUptoSaid : Prop := fnExactDigitsOfUptoRow.holds Try.pinned (OpenSpec.upto fnExactDigitsOfSpec)

/-- 'laws.FnExactTripleOfDigits', WHERE WHAT IT READS IS OF BULK AT MOST 1048576: true; the input reads as it did. -/
def fnExactTripleOfDigitsUptoRow : OpenClaim := { program := "ytbgifgfegndlkaa", sum := "5752b91bafa494b11d9d4ab4ec5cc109ad085c65cba70cb88df2475ef6083710", func := "loop.example/g01297/laws.FnExactTripleOfDigits", spec := "fnExactTripleOfDigits", unfollowed := true, recurses := true, apart := false, narrowed := true }
def FnExactTripleOfDigitsUptoSaid : Prop := fnExactTripleOfDigitsUptoRow.holds Try.pinned (OpenSpec.upto fnExactTripleOfDigitsSpec)

/-- 'laws.FnExactGcdOfTriple', WHERE WHAT IT READS IS OF BULK AT MOST 1048576: true; the input reads as it did. -/
def fnExactGcdOfTripleUptoRow : OpenClaim := { program := "ytbgifgfegndlkaa", sum := "5752b91bafa494b11d9d4ab4ec5cc109ad085c65cba70cb88df2475ef6083710", func := "loop.example/g01297/laws.FnExactGcdOfTriple", spec := "fnExactGcdOfTriple", apart := false, narrowed := true }
def FnExactGcdOfTripleUptoSaid : Prop := fnExactGcdOfTripleUptoRow.holds Try.pinned (OpenSpec.upto fnExactGcdOfTripleSpec)

/-- 'laws.FnExactShortestRule', WHERE WHAT IT READS IS OF BULK AT MOST 1048576: true; the input reads as it did. -/
def fnExactShortestRuleUptoRow : OpenClaim := { program := "ytbgifgfegndlkaa", sum := "5752b91bafa494b11d9d4ab4ec5cc109ad085c65cba70cb88df2475ef6083710", func := "loop.example/g01297/laws.FnExactShortestRule", spec := "fnExactShortestRule", unfollowed := true, recurses := true, apart := false, narrowed := true }
def FnExactShortestRuleUptoSaid : Prop := fnExactShortestRuleUptoRow.holds Try.pinned (OpenSpec.upto fnExactShortestRuleSpec)

end Rows
end Go.Proofs.Ytbgifgfegndlkaa
