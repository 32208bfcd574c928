/-
  NARROWER THAN 'FOR EVERY INPUT', by the rows' own cells (each row's printed sentence says how): FnExactFractionOfPath: laid · FnExactGeodesicOf: ifaces, laid.
  DERIVED. THE GIVEN ROWS OF THIS SEAT. 2 by the template 'for every input the law returns true; each argument reads behind the call as it read before'; 0 by the template 'total and deterministic' (their statements: YtohnmogejidpdabDoorTotals.lean).
  GIVEN WITH THE SEED: the statements are not yours to turn. If you find one false, say at which input.
  Laid BY PROGRAM, IN A SANDBOX (cutbox-rows.mjs): the forced cells as the released guide's own fill.sh prints them over the translation 9019bbb6a1bb576f… (all of the seat's roots in one cut). By AI agents, Wed Nov 11 2026. No macro, syntax, notation, axiom, sorry.
-/
import Derived.Test.YtohnmogejidpdabDoorChecked
import GoSem.PinnedTables
import GoSem.Claim
import GoSem.ClaimJoined
import GoSem.ClaimMapViews
import Derived.JoinedTies
import Derived.KernelRfl
namespace Go.Proofs.YtohnmogejidpdabDoor
/- THE CELL 'sum', in the pinned program and in every row, IS THE sha256 OF THE DUMP (.gsa) THAT YtohnmogejidpdabDoorProg.lean LOADS. Nothing in Lean hashes anything: it is a label: what it is worth is what the hold of that sum in a sandbox is worth. -/
noncomputable def Tryd.pinned : Pinned := { name := "ytohnmogejidpdabdoor", sum := "9019bbb6a1bb576f5a6d58342c05f81b2fefcabcd2f075fa5095aaf1afe596d3", checked := Tryd.checked }
namespace Rows
def none {H : Type} : Left H := { results := [], args := [] }

/- WHAT THE LISTED PACKAGE-LEVEL VARIABLES READ AS WHEN THE CALL BEGINS. Each datum BY PROGRAM (the guide's laid-datum.mjs) off the statement by which the dump's own 'gosem.cut.vars' lays the variable. In a bare row this is a premise. The card (YtohnmogejidpdabDoorCards.lean) ties it to the program's text. -/
def laid_unicode_utf8_acceptRanges {H : Type} : DataW H := .agg [.agg [.lit (.int .u8 128), .lit (.int .u8 191)], .agg [.lit (.int .u8 160), .lit (.int .u8 191)], .agg [.lit (.int .u8 128), .lit (.int .u8 159)], .agg [.lit (.int .u8 144), .lit (.int .u8 191)], .agg [.lit (.int .u8 128), .lit (.int .u8 143)], .agg [.lit (.int .u8 0), .lit (.int .u8 0)], .agg [.lit (.int .u8 0), .lit (.int .u8 0)], .agg [.lit (.int .u8 0), .lit (.int .u8 0)], .agg [.lit (.int .u8 0), .lit (.int .u8 0)], .agg [.lit (.int .u8 0), .lit (.int .u8 0)], .agg [.lit (.int .u8 0), .lit (.int .u8 0)], .agg [.lit (.int .u8 0), .lit (.int .u8 0)], .agg [.lit (.int .u8 0), .lit (.int .u8 0)], .agg [.lit (.int .u8 0), .lit (.int .u8 0)], .agg [.lit (.int .u8 0), .lit (.int .u8 0)], .agg [.lit (.int .u8 0), .lit (.int .u8 0)]]
/-- One of Go's own tables, pinned by name: the form's constant. -/
def laid_unicode_utf8_first : DataW Unit := Go.Pinned.utf8First
def laid_loop_example_g01297_impl_errNoPoint {H : Type} : DataW H := .iface "*errors.errorString" (.ptr (.agg [.lit (.string [110, 111, 116, 32, 97, 32, 112, 111, 105, 110, 116])]))
def laid_loop_example_g01297_impl_errNoFraction {H : Type} : DataW H := .iface "*errors.errorString" (.ptr (.agg [.lit (.string [110, 111, 116, 32, 97, 32, 102, 114, 97, 99, 116, 105, 111, 110])]))

/-- 'laws.FnExactFractionOfPath': WHATEVER THE INPUT: true; the input reads as it did. -/
def fnExactFractionOfPathSpec : ChangeSpec := { name := "fnExactFractionOfPath", fn := fun _ => fun
  | [d] => { results := [.lit (.bool true)], args := [d] }
  | _ => none }
def fnExactFractionOfPathRow : OpenClaim := { program := "ytohnmogejidpdabdoor", sum := "9019bbb6a1bb576f5a6d58342c05f81b2fefcabcd2f075fa5095aaf1afe596d3", func := "loop.example/g01297/laws.FnExactFractionOfPath", spec := "fnExactFractionOfPath", inPlace := ["internal/bytealg.IndexByteString", "internal/bytealg.IndexString"], unfollowed := true, recurses := true, named := ["unicode/utf8.first", "unicode/utf8.acceptRanges", "internal/bytealg.MaxLen"], plainKeys := false, apart := false, laid := [("unicode/utf8.acceptRanges", laid_unicode_utf8_acceptRanges), ("unicode/utf8.first", laid_unicode_utf8_first)] }
def FnExactFractionOfPathSaid : Prop := fnExactFractionOfPathRow.holds Tryd.pinned (OpenSpec.ofChange fnExactFractionOfPathSpec)

/-- ITS FALSE NEIGHBOUR: 'it returns false'. Refute it at one input. -/
def fnExactFractionOfPathWrong : ChangeSpec := { name := "fnExactFractionOfPath", fn := fun _ => fun
  | [d] => { results := [.lit (.bool false)], args := [d] }
  | _ => none }
def FnExactFractionOfPathWrongFalsely : Prop := fnExactFractionOfPathRow.holds Tryd.pinned (OpenSpec.ofChange fnExactFractionOfPathWrong)

/-- 'laws.FnExactGeodesicOf': WHATEVER THE INPUT: true; the input reads as it did. -/
def fnExactGeodesicOfSpec : ChangeSpec := { name := "fnExactGeodesicOf", vars := ["loop.example/g01297/impl.errNoPoint", "loop.example/g01297/impl.errNoFraction"], fn := fun _ => fun
  | [d1, d2, g1, g2] => { results := [.lit (.bool true)], args := [d1, d2], vars := [g1, g2] }
  | _ => none }
def fnExactGeodesicOfRow : OpenClaim := { program := "ytohnmogejidpdabdoor", sum := "9019bbb6a1bb576f5a6d58342c05f81b2fefcabcd2f075fa5095aaf1afe596d3", func := "loop.example/g01297/laws.FnExactGeodesicOf", spec := "fnExactGeodesicOf", inPlace := ["internal/reflectlite.TypeOf"], unfollowed := true, recurses := true, named := ["loop.example/g01297/impl.errNoPoint", "loop.example/g01297/impl.errNoFraction"], ifaces := true, plainKeys := false, apart := false, laid := [("loop.example/g01297/impl.errNoPoint", laid_loop_example_g01297_impl_errNoPoint), ("loop.example/g01297/impl.errNoFraction", laid_loop_example_g01297_impl_errNoFraction)] }
def FnExactGeodesicOfSaid : Prop := fnExactGeodesicOfRow.holds Tryd.pinned (OpenSpec.ofChange fnExactGeodesicOfSpec)

/-- ITS FALSE NEIGHBOUR: 'it returns false'. Refute it at one input. -/
def fnExactGeodesicOfWrong : ChangeSpec := { name := "fnExactGeodesicOf", vars := ["loop.example/g01297/impl.errNoPoint", "loop.example/g01297/impl.errNoFraction"], fn := fun _ => fun
  | [d1, d2, g1, g2] => { results := [.lit (.bool false)], args := [d1, d2], vars := [g1, g2] }
  | _ => none }
def FnExactGeodesicOfWrongFalsely : Prop := fnExactGeodesicOfRow.holds Tryd.pinned (OpenSpec.ofChange fnExactGeodesicOfWrong)

/- THE SECOND FORM. 'bulk': how many values and letters a reading holds, each counted each time it is reached (what is shared counts as often as it is met; a slice's spare places count too). A statement '..UptoSaid' is the law's where the arguments, and the package variables that the reading takes, are together of bulk at most 1048576: NARROWER than '..Said'. Prove '..Said' where nothing that the law and all that it calls make is longer than what came in: it says more and counts as full. Else prove '..UptoSaid'. A law counts once. -/
mutual
def uptoBulk {H : Type} : DataW H → Nat
  | .lit (.string bytes) => bytes.length + 1
  | .lit _ => 1
  | .nil => 1
  | .ptr d => uptoBulk d + 1
  | .slice elems spare => uptoBulkAll elems + uptoBulkAll spare + 1
  | .agg parts => uptoBulkAll parts + 1
  | .iface _ d => uptoBulk d + 1
  | .map entries => uptoBulkEntries entries + 1
  | .held _ => 1
def uptoBulkAll {H : Type} : List (DataW H) → Nat
  | [] => 0
  | d :: r => uptoBulk d + uptoBulkAll r
def uptoBulkEntries {H : Type} : List (Lit × DataW H) → Nat
  | [] => 0
  | x :: r => uptoBulkEntry x + uptoBulkEntries r
def uptoBulkEntry {H : Type} : Lit × DataW H → Nat
  | (.string bytes, d) => bytes.length + uptoBulk d + 1
  | (_, d) => uptoBulk d + 1
 end
def uptoSmall : (H : Type) → List (DataW H) → Bool := fun _ ds => decide (uptoBulkAll ds ≤ 1048576)
def OpenSpec.upto (s : _root_.Go.ChangeSpec) : _root_.Go.OpenSpec := { _root_.Go.OpenSpec.ofChange s with cond := some uptoSmall }

/-- 'laws.FnExactFractionOfPath', WHERE WHAT IT READS IS OF BULK AT MOST 1048576: true; the input reads as it did. -/
def fnExactFractionOfPathUptoRow : OpenClaim := { program := "ytohnmogejidpdabdoor", sum := "9019bbb6a1bb576f5a6d58342c05f81b2fefcabcd2f075fa5095aaf1afe596d3", func := "loop.example/g01297/laws.FnExactFractionOfPath", spec := "fnExactFractionOfPath", inPlace := ["internal/bytealg.IndexByteString", "internal/bytealg.IndexString"], unfollowed := true, recurses := true, named := ["unicode/utf8.first", "unicode/utf8.acceptRanges", "internal/bytealg.MaxLen"], plainKeys := false, apart := false, laid := [("unicode/utf8.acceptRanges", laid_unicode_utf8_acceptRanges), ("unicode/utf8.first", laid_unicode_utf8_first)], narrowed := true }
def FnExactFractionOfPathUptoSaid : Prop := fnExactFractionOfPathUptoRow.holds Tryd.pinned (OpenSpec.upto fnExactFractionOfPathSpec)

/-- 'laws.FnExactGeodesicOf', WHERE WHAT IT READS IS OF BULK AT MOST 1048576: true; the input reads as it did. -/
def fnExactGeodesicOfUptoRow : OpenClaim := { program := "ytohnmogejidpdabdoor", sum := "9019bbb6a1bb576f5a6d58342c05f81b2fefcabcd2f075fa5095aaf1afe596d3", func := "loop.example/g01297/laws.FnExactGeodesicOf", spec := "fnExactGeodesicOf", inPlace := ["internal/reflectlite.TypeOf"], unfollowed := true, recurses := true, named := ["loop.example/g01297/impl.errNoPoint", "loop.example/g01297/impl.errNoFraction"], ifaces := true, plainKeys := false, apart := false, laid := [("loop.example/g01297/impl.errNoPoint", laid_loop_example_g01297_impl_errNoPoint), ("loop.example/g01297/impl.errNoFraction", laid_loop_example_g01297_impl_errNoFraction)], narrowed := true }
def FnExactGeodesicOfUptoSaid : Prop := fnExactGeodesicOfUptoRow.holds Tryd.pinned (OpenSpec.upto fnExactGeodesicOfSpec)

end Rows
end Go.Proofs.YtohnmogejidpdabDoor
