/-
  The walk of laws.FnExactClassNumber: for every number it returns true and leaves memory as it was. No conditions (own work).
-/
import Derived.Test.YtohnmogejidpdaaCln
namespace Go.Proofs.Ytohnmogejidpdaa
open Go.ChangeShapes Go.WideShapes Go.ChangeAt Go.RowKit
set_option linter.unusedVariables false
set_option linter.unusedSimpArgs false
set_option maxRecDepth 100000

theorem walkFnExactClassNumber (k0 : Int) (wk0 : (Lit.int .i64 k0).wf = true) (w : World) :
    Calls Try.prog 14 #[.int .i64 k0] w fun e w' => e = .returned (.bool true) ∧ Below w.heap.size w w' := by
  clear wk0
  have HS := Lib.hid (fun w => spec_ClassNumber_any k0 w)
  have HI := Lib.hid (fun w => impl_ClassNumber_any k0 w)
  generalize cnV k0 = V at *
  generalize rfC k0 = C at *
  go_enter Try.func14, Try.ntmps14
  go_wp2_with fail
  go_at_call 47
  refine (HS.out _).mono ?_
  rintro e w1 ⟨rfl, hb⟩
  go_wp2_with fail
  go_at_call 48
  refine (HI.out _).mono ?_
  rintro e w2 ⟨rfl, hb2⟩
  go_wp2_with fail
  go_ret
  exact ⟨rfl, below_after hb2 hb⟩
end Go.Proofs.Ytohnmogejidpdaa
