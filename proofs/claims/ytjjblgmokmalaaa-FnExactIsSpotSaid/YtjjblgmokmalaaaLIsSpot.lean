/-
  laws.FnExactIsSpot, walked (own work).
-/
import Derived.Test.YtjjblgmokmalaaaSpP
import Derived.Test.YtjjblgmokmalaaaWIsSpot
namespace Go.Proofs.Ytjjblgmokmalaaa
open Go.ChangeShapes Go.WideShapes Go.ChangeAt Go.RowKit
set_option linter.unusedVariables false
set_option linter.unusedSimpArgs false
set_option maxRecDepth 100000

theorem walkFnExactIsSpot_at (x0 x1 x2 : Int)  (w : World)   :
    Calls Try.prog 3 #[.agg #[.int .i64 x0, .int .i64 x1, .int .i64 x2]] w fun e w' => e = .returned (.bool true) ∧ Below w.heap.size w w' :=
  walkFnExactIsSpot_any x0 x1 x2 (isSp x0 x1 x2) w (fun w => spec_IsSpot_any x0 x1 x2 w) (fun w => impl_IsSpot_any x0 x1 x2 w)
theorem walkFnExactIsSpot (x0 x1 x2 : Int) (wx0 : (Lit.int .i64 x0).wf = true) (wx1 : (Lit.int .i64 x1).wf = true) (wx2 : (Lit.int .i64 x2).wf = true) (w : World) :
    Calls Try.prog 3 #[.agg #[.int .i64 x0, .int .i64 x1, .int .i64 x2]] w fun e w' => e = .returned (.bool true) ∧ Below w.heap.size w w' := walkFnExactIsSpot_at x0 x1 x2 w
end Go.Proofs.Ytjjblgmokmalaaa
