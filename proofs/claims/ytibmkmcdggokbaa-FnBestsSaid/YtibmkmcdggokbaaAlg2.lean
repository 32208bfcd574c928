/-
  Contracts of chapter 1's sums, lengths, areas, distances and primitive points (own work).
-/
import Derived.Test.YtibmkmcdggokbaaGcd
namespace Go.Proofs.Ytibmkmcdggokbaa
open Go.ChangeShapes Go.WideShapes Go.ChangeAt Go.RowKit
set_option linter.unusedVariables false
set_option linter.unusedSimpArgs false

def lenP (a b : Int × Int) : Int := gcdI (b.1 - a.1) (b.2 - a.2)
def areaP (a b c : Int × Int) : Int := absI (detP (b.1 - a.1, b.2 - a.2) (c.1 - a.1, c.2 - a.2))
theorem ret_pt {k : IntKind} {a b c d : Int} (h : a = c) (h' : b = d) : Ending.returned (.agg #[.int k a, .int k b]) = .returned (.agg #[.int k c, .int k d]) := by rw [h, h']
theorem isPt_c1 {x y : Int} (h : isPt (x, y) = true) : -1000000 ≤ x ∧ x ≤ 1000000 := crd_iff.1 (by simp [isPt] at h; exact h.1)
theorem isPt_c2 {x y : Int} (h : isPt (x, y) = true) : -1000000 ≤ y ∧ y ≤ 1000000 := crd_iff.1 (by simp [isPt] at h; exact h.2)

theorem bn_sub {a b : Int} (h : -1000000 ≤ a ∧ a ≤ 1000000) (k : -1000000 ≤ b ∧ b ≤ 1000000) : Bn (a - b) := ⟨by omega, by omega⟩

theorem plusTimes_any (x0 y0 x1 y1 k : Int) (w : World) (h0 : Bn x0) (h1 : Bn y0) (h2 : Bn x1) (h3 : Bn y1) (h4 : Bn k) :
    Calls Try.prog 46 #[.agg #[.int .i64 x0, .int .i64 y0], .agg #[.int .i64 x1, .int .i64 y1], .int .i64 k] w fun e w' => e = .returned (.agg #[.int .i64 (x0 + k * x1), .int .i64 (y0 + k * y1)]) ∧ Below w.heap.size w w' := by
  obtain ⟨p1, p2⟩ := mul_bn h4 h2
  obtain ⟨q1, q2⟩ := mul_bn h4 h3
  obtain ⟨a1, a2⟩ := h0
  obtain ⟨b1, b2⟩ := h1
  clear h2 h3 h4
  have hs20 : w.heap.size < w.heap.size + 1 + 1 := (by omega); have hs30 : w.heap.size < w.heap.size + 1 + 1 + 1 := (by omega); have hs31 : w.heap.size + 1 < w.heap.size + 1 + 1 + 1 := (by omega)
  go_enter Try.func46, Try.ntmps46
  go_wp2
  go_returns
  exact ⟨rfl, by (repeat' (first | (with_reducible exact Below.refl _ _) | (with_reducible refine Below.alloc ?_ ?_ _) | (with_reducible refine Below.setCell ?_ ?_ _) | (with_reducible refine Below.drew ?_) | (with_reducible refine below_drewN ?_ _) | (with_reducible assumption) | (with_reducible refine below_after (by with_reducible assumption) ?_) | go_size))⟩
theorem plusTimes_minus (x0 y0 x1 y1 : Int) (w : World) (h0 : Bn x0) (h1 : Bn y0) (h2 : Bn x1) (h3 : Bn y1) :
    Calls Try.prog 46 #[.agg #[.int .i64 x0, .int .i64 y0], .agg #[.int .i64 x1, .int .i64 y1], .int .i64 (-1)] w fun e w' => e = .returned (.agg #[.int .i64 (x0 - x1), .int .i64 (y0 - y1)]) ∧ Below w.heap.size w w' :=
  (plusTimes_any x0 y0 x1 y1 (-1) w h0 h1 h2 h3 ⟨by decide, by decide⟩).mono fun e w' ⟨he, hw⟩ => ⟨by rw [he]; exact ret_pt (by omega) (by omega), hw⟩
end Go.Proofs.Ytibmkmcdggokbaa
