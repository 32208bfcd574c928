/-
  laws.FnExactPathOf, walked (own work).
-/
import Derived.Test.YtcaleapedomfmaaDoorPthF
import Derived.Test.YtcaleapedomfmaaDoorWPathOf
namespace Go.Proofs.YtcaleapedomfmaaDoor
open Go.ChangeShapes Go.WideShapes Go.ChangeAt Go.RowKit
theorem walkFnExactPathOf_at (x0 x1 : Int) (a0 a1 : Addr) (w : World) (hs : Snt w a0 a1) :
    Calls Tryd.prog 8 #[.agg #[.int .i64 x0, .int .i64 x1]] w fun e w' => e = .returned (.bool true) ∧ Below w.heap.size w w' :=
  walkFnExactPathOf_any x0 x1 _ _ a0 a1 w hs (fun w => spec_PathOf_any x0 x1 w) (fun w h => impl_PathOf_any x0 x1 a0 a1 w h)
end Go.Proofs.YtcaleapedomfmaaDoor
