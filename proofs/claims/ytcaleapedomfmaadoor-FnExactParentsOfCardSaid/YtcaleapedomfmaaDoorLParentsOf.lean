/-
  laws.FnExactParentsOf, walked (own work).
-/
import Derived.Test.YtcaleapedomfmaaDoorNbP
import Derived.Test.YtcaleapedomfmaaDoorWParentsOf
namespace Go.Proofs.YtcaleapedomfmaaDoor
open Go.ChangeShapes Go.WideShapes Go.ChangeAt Go.RowKit
theorem walkFnExactParentsOf_at (x0 x1 : Int) (a0 a1 : Addr) (w : World) (hs : Snt w a0 a1) :
    Calls Tryd.prog 7 #[.agg #[.int .i64 x0, .int .i64 x1]] w fun e w' => e = .returned (.bool true) ∧ Below w.heap.size w w' :=
  walkFnExactParentsOf_any x0 x1 (pnK x0 x1) (pnN x0 x1) (pnZ x0 x1) a0 a1 w hs (pnN_len x0 x1) (fun w => spec_ParentsOf_any x0 x1 w) (fun w h => impl_ParentsOf_any x0 x1 a0 a1 w h)
end Go.Proofs.YtcaleapedomfmaaDoor
