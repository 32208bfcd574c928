/-
  laws.FnExactIsRegularCone, walked (own work).
-/
import Derived.Test.YtjjblgmokmalaaaDoorSpL
import Derived.Test.YtjjblgmokmalaaaDoorWIsRegularCone
namespace Go.Proofs.YtjjblgmokmalaaaDoor
open Go.ChangeShapes Go.WideShapes Go.ChangeAt Go.RowKit
set_option linter.unusedVariables false
set_option maxRecDepth 100000
set_option linter.unusedSimpArgs false
set_option maxRecDepth 100000

theorem walkFnExactIsRegularCone_at (x0 x1 x2 x3 x4 x5 x6 x7 x8 : Int) (eF : Addr) (eC : Addr) (w : World) (hF : EA w 3 eF) (hC : EA w 1 eC) (nC : eC ≠ eF) :
    Calls Tryd.prog 8 #[.agg #[.int .i64 x0, .int .i64 x1, .int .i64 x2, .int .i64 x3, .int .i64 x4, .int .i64 x5, .int .i64 x6, .int .i64 x7, .int .i64 x8]] w fun e w' => e = .returned (.bool true) ∧ Below w.heap.size w w' :=
  walkFnExactIsRegularCone_any x0 x1 x2 x3 x4 x5 x6 x7 x8 (rcV x0 x1 x2 x3 x4 x5 x6 x7 x8) (bok (isCo x0 x1 x2 x3 x4 x5 x6 x7 x8)) eF eC w hF hC (fun w => spec_IsRegularCone_any x0 x1 x2 x3 x4 x5 x6 x7 x8 w) (fun w hF hC => impl_IsRegularCone_any x0 x1 x2 x3 x4 x5 x6 x7 x8 eF eC w hF hC nC)
end Go.Proofs.YtjjblgmokmalaaaDoor
