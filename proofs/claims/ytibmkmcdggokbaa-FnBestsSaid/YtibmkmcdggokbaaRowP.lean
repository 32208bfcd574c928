/-
  A list of points (pairs of int64) that came in, its size and its copy (own work).
-/
import Derived.Test.YtibmkmcdggokbaaPtL
import Derived.Test.YtibmkmcdggokbaaOpen
namespace Go.Proofs.Ytibmkmcdggokbaa
open Go.ChangeShapes Go.WideShapes Go.ChangeAt Go.RowKit
set_option linter.unusedVariables false
set_option linter.unusedSimpArgs false
set_option maxRecDepth 100000

/-- A slice of pairs that came in: len points, where there is one, in plain cells. -/
def RowP (w : World) (a : Option Addr) (len : Nat) (ps : List (Int × Int)) : Prop :=
  ps.length = len ∧ (0 < len → ∃ b off, a = some ⟨b, off, none⟩ ∧ b < w.heap.size ∧ PtCells w b off ps)
theorem add_one' (x : Addr) (n : Nat) : (x.add n).add 1 = x.add (n + 1) := by
  unfold Addr.add
  by_cases hn : n = 0
  · simp [hn]
  · simp [hn, Nat.add_assoc]
theorem flat_getD : ∀ (ps : List (Int × Int)) (k : Nat), (flat ps).getD (k * 2) 0 = (ps.getD k (0, 0)).1 ∧ (flat ps).getD (k * 2 + 1) 0 = (ps.getD k (0, 0)).2
  | [], k => by simp [flat]
  | p :: l, 0 => by simp [flat]
  | p :: l, k + 1 => by
    have e : flat (p :: l) = p.1 :: p.2 :: flat l := rfl
    have := flat_getD l k
    rw [e, show (k + 1) * 2 = k * 2 + 1 + 1 by omega, show k * 2 + 1 + 1 + 1 = (k * 2 + 1) + 1 + 1 by omega]
    simpa using this
def RetP (w : World) (n : Nat) (zs : List Int) (e : Ending) (w' : World) : Prop := ∃ v, e = .returned v ∧ OwnF w.heap.size w' v n zs ∧ Below w.heap.size w w'
end Go.Proofs.Ytibmkmcdggokbaa
