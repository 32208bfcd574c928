/-
  laws.FnExactReflectFraction, walked (own work).
-/
import Derived.Test.YtcaleapedomfmaaDoorRfS
import Derived.Test.YtcaleapedomfmaaDoorRfI
import Derived.Test.YtcaleapedomfmaaDoorWReflectFraction
namespace Go.Proofs.YtcaleapedomfmaaDoor
open Go.ChangeShapes Go.WideShapes Go.ChangeAt Go.RowKit
theorem walkFnExactReflectFraction_at (x0 y0 x1 y1 x2 y2 : Int) (a0 a1 : Addr) (w : World) (hs : Snt w a0 a1) :
    Calls Tryd.prog 6 #[.agg #[.int .i64 x0, .int .i64 y0], .agg #[.int .i64 x1, .int .i64 y1], .agg #[.int .i64 x2, .int .i64 y2]] w fun e w' => e = .returned (.bool true) ∧ Below w.heap.size w w' := by
  obtain ⟨C, X, Y, hR⟩ := rf_ex x0 y0 x1 y1 x2 y2 (frX (x0 + x1) (y0 + y1)) (frY (x0 + x1) (y0 + y1)) (frX (x0 - x1) (y0 - y1)) (frY (x0 - x1) (y0 - y1))
  refine walkFnExactReflectFraction_any x0 y0 x1 y1 x2 y2 X Y C a0 a1 w hs (fun w => ?_) (fun w h => impl_ReflectFraction_any x0 y0 x1 y1 x2 y2 _ _ _ _ C X Y a0 a1 w h rfl rfl rfl rfl hR)
  cases h : allFr [(x0, y0), (x1, y1), (x2, y2)]
  · obtain ⟨rfl, rfl, rfl⟩ := hR.1 h
    exact spec_ReflectFraction_fail x0 y0 x1 y1 x2 y2 _ w h rfl
  · exact spec_ReflectFraction_ok x0 y0 x1 y1 x2 y2 _ _ _ _ C X Y w h rfl rfl rfl rfl hR
end Go.Proofs.YtcaleapedomfmaaDoor
