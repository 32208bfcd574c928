/-
  laws.FnExactDifferenceOfNeighbours, walked (own work).
-/
import Derived.Test.YtcaleapedomfmaaDoorNbU
import Derived.Test.YtcaleapedomfmaaDoorWDifferenceOfNeighbours
namespace Go.Proofs.YtcaleapedomfmaaDoor
open Go.ChangeShapes Go.WideShapes Go.ChangeAt Go.RowKit Go.Shelf
theorem walkFnExactDifferenceOfNeighbours_at (x0 y0 x1 y1 : Int) (a0 a1 : Addr) (w : World) (hs : Snt w a0 a1) :
    Calls Tryd.prog 5 #[.agg #[.int .i64 x0, .int .i64 y0], .agg #[.int .i64 x1, .int .i64 y1]] w fun e w' => e = .returned (.bool true) ∧ Below w.heap.size w w' := by
  obtain ⟨U, hU⟩ : ∃ U, frX (x0 - x1) (y0 - y1) = U := ⟨_, rfl⟩
  obtain ⟨V, hV⟩ : ∃ V, frY (x0 - x1) (y0 - y1) = V := ⟨_, rfl⟩
  have e1 : x0 + -1 * x1 = x0 - x1 := by omega
  have e2 : y0 + -1 * y1 = y0 - y1 := by omega
  refine walkFnExactDifferenceOfNeighbours_any x0 y0 x1 y1 (onz (sbK x0 y0 x1 y1 U V) U) (onz (sbK x0 y0 x1 y1 U V) V) (sbK x0 y0 x1 y1 U V) a0 a1 w hs (fun w => ?_) (fun w h => ?_)
  · exact spec_DifferenceOfNeighbours_any x0 y0 x1 y1 _ U V _ _ w (by rw [e1, e2]; exact hU) (by rw [e1, e2]; exact hV) rfl rfl rfl
  · exact impl_DifferenceOfNeighbours_of x0 y0 x1 y1 _ _ _ a0 a1 w h (fun w h => made_any x0 y0 x1 y1 U V _ _ _ rfl rfl rfl 48 a0 a1 w (enters_of Tryd.func48 (by kernel_rfl) rfl) h (fun hf w => by
      obtain ⟨f0, f1⟩ := frs2 hf
      have p0 := isFr_pt f0
      have p1 := isFr_pt f1
      have := differenceOf_any x0 y0 x1 y1 w (isPt_bn1 p0) (isPt_bn2 p0) (isPt_bn1 p1) (isPt_bn2 p1)
      rw [hU, hV] at this
      exact this))
end Go.Proofs.YtcaleapedomfmaaDoor
