/-
  The length of the list of an order (own work).
-/
import Derived.Test.YtcaleapedomfmaaFlS
namespace Go.Proofs.Ytcaleapedomfmaa
open Go.ChangeShapes Go.WideShapes Go.ChangeAt Go.RowKit
theorem flL_len (o : Int) : (flL o).length ≤ 8388608 := by
  unfold flL
  split
  · have := flT_16 (d := 16) (by decide) o 1 2 0 1 1 1
    simp only [List.length_append, List.length_cons, List.length_nil]
    omega
  · simp
end Go.Proofs.Ytcaleapedomfmaa
