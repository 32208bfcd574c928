/-
  laws.FnExactApplyToFraction, walked (own work).
-/
import Derived.Test.YtcaleapedomfmaaDoorNbH
import Derived.Test.YtcaleapedomfmaaDoorWApplyToFraction
namespace Go.Proofs.YtcaleapedomfmaaDoor
open Go.ChangeShapes Go.WideShapes Go.ChangeAt Go.RowKit
theorem walkFnExactApplyToFraction_at (x0 x1 x2 x3 x4 x5 : Int) (a0 a1 : Addr) (w : World) (hs : Snt w a0 a1) :
    Calls Tryd.prog 12 #[.agg #[.int .i64 x0, .int .i64 x1, .int .i64 x2, .int .i64 x3], .agg #[.int .i64 x4, .int .i64 x5]] w fun e w' => e = .returned (.bool true) ∧ Below w.heap.size w w' :=
  walkFnExactApplyToFraction_any x0 x1 x2 x3 x4 x5 _ _ _ a0 a1 w hs (fun w => spec_ApplyToFraction_any x0 x1 x2 x3 x4 x5 _ _ w rfl rfl) (fun w h => impl_ApplyToFraction_any x0 x1 x2 x3 x4 x5 _ _ a0 a1 w h rfl rfl)
end Go.Proofs.YtcaleapedomfmaaDoor
