/-
  laws.FnExactFareyDistance, walked (own work).
-/
import Derived.Test.YtcaleapedomfmaaDoorFdI
import Derived.Test.YtcaleapedomfmaaDoorWFareyDistance
namespace Go.Proofs.YtcaleapedomfmaaDoor
open Go.ChangeShapes Go.WideShapes Go.ChangeAt Go.RowKit
theorem walkFnExactFareyDistance_at (x0 x1 x2 x3 : Int) (a0 a1 : Addr) (w : World) (hs : Snt w a0 a1) :
    Calls Tryd.prog 10 #[.agg #[.int .i64 x0, .int .i64 x1], .agg #[.int .i64 x2, .int .i64 x3]] w fun e w' => e = .returned (.bool true) ∧ Below w.heap.size w w' :=
  walkFnExactFareyDistance_any x0 x1 x2 x3 _ _ a0 a1 w hs (fun w => spec_FareyDistance_any x0 x1 x2 x3 w) (fun w h => impl_FareyDistance_any x0 x1 x2 x3 a0 a1 w h)
end Go.Proofs.YtcaleapedomfmaaDoor
