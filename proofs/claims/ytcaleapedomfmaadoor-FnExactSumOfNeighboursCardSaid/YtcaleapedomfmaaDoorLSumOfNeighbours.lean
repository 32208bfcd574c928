/-
  laws.FnExactSumOfNeighbours, walked (own work).
-/
import Derived.Test.YtcaleapedomfmaaDoorNbU
import Derived.Test.YtcaleapedomfmaaDoorWSumOfNeighbours
namespace Go.Proofs.YtcaleapedomfmaaDoor
open Go.ChangeShapes Go.WideShapes Go.ChangeAt Go.RowKit Go.Shelf
theorem walkFnExactSumOfNeighbours_at (x0 y0 x1 y1 : Int) (a0 a1 : Addr) (w : World) (hs : Snt w a0 a1) :
    Calls Tryd.prog 4 #[.agg #[.int .i64 x0, .int .i64 y0], .agg #[.int .i64 x1, .int .i64 y1]] w fun e w' => e = .returned (.bool true) ∧ Below w.heap.size w w' := by
  obtain ⟨e1, e2, e3⟩ := sbK_sum x0 y0 x1 y1
  refine walkFnExactSumOfNeighbours_any x0 y0 x1 y1 (onz (sbK x0 y0 x1 y1 (x0 + x1) (y0 + y1)) (x0 + x1)) (onz (sbK x0 y0 x1 y1 (x0 + x1) (y0 + y1)) (y0 + y1)) (sbK x0 y0 x1 y1 (x0 + x1) (y0 + y1)) a0 a1 w hs (fun w => ?_) (fun w h => ?_)
  · exact spec_SumOfNeighbours_any x0 y0 x1 y1 _ (frX (x0 + x1) (y0 + y1)) (frY (x0 + x1) (y0 + y1)) _ _ w (by rw [Int.one_mul, Int.one_mul]) (by rw [Int.one_mul, Int.one_mul]) e1 e2 e3
  · exact impl_SumOfNeighbours_of x0 y0 x1 y1 _ _ _ a0 a1 w h (fun w h => made_any x0 y0 x1 y1 (x0 + x1) (y0 + y1) _ _ _ rfl rfl rfl 47 a0 a1 w (enters_of Tryd.func47 (by kernel_rfl) rfl) h (fun hf w => by
      obtain ⟨f0, f1⟩ := frs2 hf
      have p0 := isFr_pt f0
      have p1 := isFr_pt f1
      exact sumOf_any x0 y0 x1 y1 w (isPt_bn1 p0) (isPt_bn2 p0) (isPt_bn1 p1) (isPt_bn2 p1)))
end Go.Proofs.YtcaleapedomfmaaDoor
