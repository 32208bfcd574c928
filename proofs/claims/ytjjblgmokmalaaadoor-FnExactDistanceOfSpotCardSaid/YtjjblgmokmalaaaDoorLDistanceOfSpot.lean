/-
  laws.FnExactDistanceOfSpot, walked (own work).
-/
import Derived.Test.YtjjblgmokmalaaaDoorSpL
import Derived.Test.YtjjblgmokmalaaaDoorWDistanceOfSpot
namespace Go.Proofs.YtjjblgmokmalaaaDoor
open Go.ChangeShapes Go.WideShapes Go.ChangeAt Go.RowKit
set_option linter.unusedVariables false
set_option maxRecDepth 100000
set_option linter.unusedSimpArgs false
set_option maxRecDepth 100000

theorem walkFnExactDistanceOfSpot_at (x0 x1 x2 x3 x4 x5 x6 x7 x8 x9 x10 x11 : Int) (eF : Addr) (eS : Addr) (w : World) (hF : EA w 3 eF) (hS : EA w 0 eS) (nS : eS ≠ eF) :
    Calls Tryd.prog 13 #[.agg #[.int .i64 x0, .int .i64 x1, .int .i64 x2], .agg #[.int .i64 x3, .int .i64 x4, .int .i64 x5], .agg #[.int .i64 x6, .int .i64 x7, .int .i64 x8], .agg #[.int .i64 x9, .int .i64 x10, .int .i64 x11]] w fun e w' => e = .returned (.bool true) ∧ Below w.heap.size w w' :=
  walkFnExactDistanceOfSpot_any x0 x1 x2 x3 x4 x5 x6 x7 x8 x9 x10 x11 (diV x0 x1 x2 x3 x4 x5 x6 x7 x8 x9 x10 x11) (diK x0 x1 x2 x3 x4 x5 x6 x7 x8 x9 x10 x11) eF eS w hF hS (fun w => spec_DistanceOfSpot_any x0 x1 x2 x3 x4 x5 x6 x7 x8 x9 x10 x11 w) (fun w hF hS => impl_DistanceOfSpot_any x0 x1 x2 x3 x4 x5 x6 x7 x8 x9 x10 x11 eF eS w hF hS nS)
end Go.Proofs.YtjjblgmokmalaaaDoor
