/-
  What the laws of this seat take, opened: an array or struct of int64 cells, by value, is so many numbers, each within int64. No conditions.
-/
import Derived.Test.YtibmkmcdggokbaaRows
import Derived.WalkKit
import Derived.ProofKit
import Derived.OpenShut
namespace Go.Proofs.Ytibmkmcdggokbaa
open Go.ChangeShapes Go.WideShapes Go.ChangeAt Go.RowKit

theorem own : ownKnob Try.prog.godebug = none := by kernel_rfl
theorem laidOut : laidOutB Try.prog = true := by kernel_rfl

end Go.Proofs.Ytibmkmcdggokbaa
