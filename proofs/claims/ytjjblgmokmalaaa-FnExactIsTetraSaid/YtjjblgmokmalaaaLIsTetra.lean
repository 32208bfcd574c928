/-
  laws.FnExactIsTetra, walked (own work).
-/
import Derived.Test.YtjjblgmokmalaaaSpP
import Derived.Test.YtjjblgmokmalaaaWIsTetra
namespace Go.Proofs.Ytjjblgmokmalaaa
open Go.ChangeShapes Go.WideShapes Go.ChangeAt Go.RowKit
set_option linter.unusedVariables false
set_option linter.unusedSimpArgs false
set_option maxRecDepth 100000

theorem walkFnExactIsTetra_at (x0 x1 x2 x3 x4 x5 x6 x7 x8 x9 x10 x11 : Int)  (w : World)   :
    Calls Try.prog 5 #[.agg #[.int .i64 x0, .int .i64 x1, .int .i64 x2, .int .i64 x3, .int .i64 x4, .int .i64 x5, .int .i64 x6, .int .i64 x7, .int .i64 x8, .int .i64 x9, .int .i64 x10, .int .i64 x11]] w fun e w' => e = .returned (.bool true) ∧ Below w.heap.size w w' :=
  walkFnExactIsTetra_any x0 x1 x2 x3 x4 x5 x6 x7 x8 x9 x10 x11 (isTe x0 x1 x2 x3 x4 x5 x6 x7 x8 x9 x10 x11) w (fun w => spec_IsTetra_any x0 x1 x2 x3 x4 x5 x6 x7 x8 x9 x10 x11 w) (fun w => impl_IsTetra_any x0 x1 x2 x3 x4 x5 x6 x7 x8 x9 x10 x11 w)
theorem walkFnExactIsTetra (x0 x1 x2 x3 x4 x5 x6 x7 x8 x9 x10 x11 : Int) (wx0 : (Lit.int .i64 x0).wf = true) (wx1 : (Lit.int .i64 x1).wf = true) (wx2 : (Lit.int .i64 x2).wf = true) (wx3 : (Lit.int .i64 x3).wf = true) (wx4 : (Lit.int .i64 x4).wf = true) (wx5 : (Lit.int .i64 x5).wf = true) (wx6 : (Lit.int .i64 x6).wf = true) (wx7 : (Lit.int .i64 x7).wf = true) (wx8 : (Lit.int .i64 x8).wf = true) (wx9 : (Lit.int .i64 x9).wf = true) (wx10 : (Lit.int .i64 x10).wf = true) (wx11 : (Lit.int .i64 x11).wf = true) (w : World) :
    Calls Try.prog 5 #[.agg #[.int .i64 x0, .int .i64 x1, .int .i64 x2, .int .i64 x3, .int .i64 x4, .int .i64 x5, .int .i64 x6, .int .i64 x7, .int .i64 x8, .int .i64 x9, .int .i64 x10, .int .i64 x11]] w fun e w' => e = .returned (.bool true) ∧ Below w.heap.size w w' := walkFnExactIsTetra_at x0 x1 x2 x3 x4 x5 x6 x7 x8 x9 x10 x11 w
end Go.Proofs.Ytjjblgmokmalaaa
