/-
  Contracts of chapter 1's sums, lengths, areas, distances and primitive points (own work).
-/
import Derived.Test.YtoikaclapccciaaGcd
namespace Go.Proofs.Ytoikaclapccciaa
open Go.ChangeShapes Go.WideShapes Go.ChangeAt Go.RowKit
set_option linter.unusedVariables false
set_option linter.unusedSimpArgs false

def lenP (a b : Int × Int) : Int := gcdI (b.1 - a.1) (b.2 - a.2)
def areaP (a b c : Int × Int) : Int := absI (detP (b.1 - a.1, b.2 - a.2) (c.1 - a.1, c.2 - a.2))
theorem ret_pt {k : IntKind} {a b c d : Int} (h : a = c) (h' : b = d) : Ending.returned (.agg #[.int k a, .int k b]) = .returned (.agg #[.int k c, .int k d]) := by rw [h, h']
theorem isPt_c1 {x y : Int} (h : isPt (x, y) = true) : -1000000 ≤ x ∧ x ≤ 1000000 := crd_iff.1 (by simp [isPt] at h; exact h.1)
theorem isPt_c2 {x y : Int} (h : isPt (x, y) = true) : -1000000 ≤ y ∧ y ≤ 1000000 := crd_iff.1 (by simp [isPt] at h; exact h.2)

theorem bn_sub {a b : Int} (h : -1000000 ≤ a ∧ a ≤ 1000000) (k : -1000000 ≤ b ∧ b ≤ 1000000) : Bn (a - b) := ⟨by omega, by omega⟩

end Go.Proofs.Ytoikaclapccciaa
