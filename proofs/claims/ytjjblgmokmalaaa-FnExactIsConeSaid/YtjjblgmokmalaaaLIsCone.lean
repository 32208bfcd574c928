/-
  laws.FnExactIsCone, walked (own work).
-/
import Derived.Test.YtjjblgmokmalaaaSpP
import Derived.Test.YtjjblgmokmalaaaWIsCone
namespace Go.Proofs.Ytjjblgmokmalaaa
open Go.ChangeShapes Go.WideShapes Go.ChangeAt Go.RowKit
set_option linter.unusedVariables false
set_option linter.unusedSimpArgs false
set_option maxRecDepth 100000

theorem walkFnExactIsCone_at (x0 x1 x2 x3 x4 x5 x6 x7 x8 : Int)  (w : World)   :
    Calls Try.prog 4 #[.agg #[.int .i64 x0, .int .i64 x1, .int .i64 x2, .int .i64 x3, .int .i64 x4, .int .i64 x5, .int .i64 x6, .int .i64 x7, .int .i64 x8]] w fun e w' => e = .returned (.bool true) ∧ Below w.heap.size w w' :=
  walkFnExactIsCone_any x0 x1 x2 x3 x4 x5 x6 x7 x8 (isCo x0 x1 x2 x3 x4 x5 x6 x7 x8) w (fun w => spec_IsCone_any x0 x1 x2 x3 x4 x5 x6 x7 x8 w) (fun w => impl_IsCone_any x0 x1 x2 x3 x4 x5 x6 x7 x8 w)
theorem walkFnExactIsCone (x0 x1 x2 x3 x4 x5 x6 x7 x8 : Int) (wx0 : (Lit.int .i64 x0).wf = true) (wx1 : (Lit.int .i64 x1).wf = true) (wx2 : (Lit.int .i64 x2).wf = true) (wx3 : (Lit.int .i64 x3).wf = true) (wx4 : (Lit.int .i64 x4).wf = true) (wx5 : (Lit.int .i64 x5).wf = true) (wx6 : (Lit.int .i64 x6).wf = true) (wx7 : (Lit.int .i64 x7).wf = true) (wx8 : (Lit.int .i64 x8).wf = true) (w : World) :
    Calls Try.prog 4 #[.agg #[.int .i64 x0, .int .i64 x1, .int .i64 x2, .int .i64 x3, .int .i64 x4, .int .i64 x5, .int .i64 x6, .int .i64 x7, .int .i64 x8]] w fun e w' => e = .returned (.bool true) ∧ Below w.heap.size w w' := walkFnExactIsCone_at x0 x1 x2 x3 x4 x5 x6 x7 x8 w
end Go.Proofs.Ytjjblgmokmalaaa
