/-
  A list of points (pairs of int64) that came in, its size and its copy (own work).
-/
import Derived.Test.YtoenlpkphekbnaaPtL
import Derived.Test.YtoenlpkphekbnaaOpen
namespace Go.Proofs.Ytoenlpkphekbnaa
open Go.ChangeShapes Go.WideShapes Go.ChangeAt Go.RowKit
set_option linter.unusedVariables false
set_option maxRecDepth 100000
set_option linter.unusedSimpArgs false
set_option maxRecDepth 100000

/-- A slice of pairs that came in: len points, where there is one, in plain cells. -/
def RowP (w : World) (a : Option Addr) (len : Nat) (ps : List (Int × Int)) : Prop :=
  ps.length = len ∧ (0 < len → ∃ b off, a = some ⟨b, off, none⟩ ∧ b < w.heap.size ∧ PtCells w b off ps)
theorem add_one' (x : Addr) (n : Nat) : (x.add n).add 1 = x.add (n + 1) := by
  unfold Addr.add
  by_cases hn : n = 0
  · simp [hn]
  · simp [hn, Nat.add_assoc]
end Go.Proofs.Ytoenlpkphekbnaa
