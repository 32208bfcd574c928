/-
  laws.FnExactAreNeighbours, walked (own work).
-/
import Derived.Test.YtcaleapedomfmaaDoorNbA
import Derived.Test.YtcaleapedomfmaaDoorWAreNeighbours
namespace Go.Proofs.YtcaleapedomfmaaDoor
open Go.ChangeShapes Go.WideShapes Go.ChangeAt Go.RowKit
theorem walkFnExactAreNeighbours_at (x0 y0 x1 y1 : Int) (a0 a1 : Addr) (w : World) (hs : Snt w a0 a1) :
    Calls Tryd.prog 3 #[.agg #[.int .i64 x0, .int .i64 y0], .agg #[.int .i64 x1, .int .i64 y1]] w fun e w' => e = .returned (.bool true) ∧ Below w.heap.size w w' :=
  walkFnExactAreNeighbours_any x0 y0 x1 y1 (anV x0 y0 x1 y1) (frE [(x0, y0), (x1, y1)]) a0 a1 w hs (fun w => spec_AreNeighbours_any x0 y0 x1 y1 w) (fun w h => impl_AreNeighbours_any x0 y0 x1 y1 a0 a1 w h)
end Go.Proofs.YtcaleapedomfmaaDoor
