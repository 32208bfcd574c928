/-
  laws.FnExactDeterminantOfSpots, walked (own work).
-/
import Derived.Test.YtjjblgmokmalaaaDoorSpL
import Derived.Test.YtjjblgmokmalaaaDoorWDeterminantOfSpots
namespace Go.Proofs.YtjjblgmokmalaaaDoor
open Go.ChangeShapes Go.WideShapes Go.ChangeAt Go.RowKit
set_option linter.unusedVariables false
set_option maxRecDepth 100000
set_option linter.unusedSimpArgs false
set_option maxRecDepth 100000

theorem walkFnExactDeterminantOfSpots_at (x0 x1 x2 x3 x4 x5 x6 x7 x8 : Int) (eF : Addr) (eS : Addr) (w : World) (hF : EA w 3 eF) (hS : EA w 0 eS) (nS : eS ≠ eF) :
    Calls Tryd.prog 4 #[.agg #[.int .i64 x0, .int .i64 x1, .int .i64 x2], .agg #[.int .i64 x3, .int .i64 x4, .int .i64 x5], .agg #[.int .i64 x6, .int .i64 x7, .int .i64 x8]] w fun e w' => e = .returned (.bool true) ∧ Below w.heap.size w w' :=
  walkFnExactDeterminantOfSpots_any x0 x1 x2 x3 x4 x5 x6 x7 x8 (dsV x0 x1 x2 x3 x4 x5 x6 x7 x8) (dsK x0 x1 x2 x3 x4 x5 x6 x7 x8) eF eS w hF hS (fun w => spec_DeterminantOfSpots_any x0 x1 x2 x3 x4 x5 x6 x7 x8 w) (fun w hF hS => impl_DeterminantOfSpots_any x0 x1 x2 x3 x4 x5 x6 x7 x8 eF eS w hF hS nS)
end Go.Proofs.YtjjblgmokmalaaaDoor
