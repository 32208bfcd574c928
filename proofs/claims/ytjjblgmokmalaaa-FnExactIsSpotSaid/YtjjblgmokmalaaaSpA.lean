/-
  Sums and products of spots (own work).
-/
import Derived.Test.YtjjblgmokmalaaaSpM
namespace Go.Proofs.Ytjjblgmokmalaaa
open Go.ChangeShapes Go.WideShapes Go.ChangeAt Go.RowKit
set_option linter.unusedVariables false
set_option linter.unusedSimpArgs false
set_option maxRecDepth 100000

def W3 (k a b c : Int) : Prop := Wi k a ∧ Wi k b ∧ Wi k c
theorem W3.up {j k a b c : Int} (h : W3 j a b c) (hk : j ≤ k) : W3 k a b c := ⟨h.1.up hk, h.2.1.up hk, h.2.2.up hk⟩
theorem isSp_W3 {a b c : Int} (h : isSp a b c = true) : W3 20 a b c := isSp_parts h
theorem W3.zero (k : Int) (hk : 0 ≤ k) : W3 k 0 0 0 := by unfold W3 Wi; omega
theorem W3.sub {j k a b c x y z : Int} (h : W3 j a b c) (g : W3 k x y z) : W3 (j + k) (a - x) (b - y) (c - z) := ⟨h.1.sub g.1, h.2.1.sub g.2.1, h.2.2.sub g.2.2⟩
theorem W3.cr {k a0 a1 a2 b0 b1 b2 : Int} (h : W3 k a0 a1 a2) (g : W3 k b0 b1 b2) : W3 (k * k + k * k) (crX a0 a1 a2 b0 b1 b2) (crY a0 a1 a2 b0 b1 b2) (crZ a0 a1 a2 b0 b1 b2) := cr_wi h.1 h.2.1 h.2.2 g.1 g.2.1 g.2.2
theorem W3.dot {j k a b c x y z : Int} (h : W3 j a b c) (g : W3 k x y z) : Wi (j * k + j * k + j * k) (dotV a b c x y z) := dot_wi h.1 h.2.1 h.2.2 g.1 g.2.1 g.2.2
theorem W3.det {k a0 a1 a2 b0 b1 b2 c0 c1 c2 : Int} (h : W3 k a0 a1 a2) (g : W3 k b0 b1 b2) (f : W3 k c0 c1 c2) : Wi (k * (k * k + k * k) + k * (k * k + k * k) + k * (k * k + k * k)) (detV a0 a1 a2 b0 b1 b2 c0 c1 c2) := h.dot (g.cr f)
/-- The side of a determinant. -/
def sgV (d : Int) : Int := if d < 0 then -1 else 1
theorem sg_cases (d : Int) : (sgV d = -1 ∧ d < 0) ∨ (sgV d = 1 ∧ ¬ d < 0) := by
  unfold sgV; by_cases h : d < 0 <;> simp [h]
theorem crossOf_any (a0 a1 a2 b0 b1 b2 : Int) (w : World) (h : W3 1000000 a0 a1 a2) (g : W3 1000000 b0 b1 b2) :
    Calls Try.prog 25 #[.agg #[.int .i64 a0, .int .i64 a1, .int .i64 a2], .agg #[.int .i64 b0, .int .i64 b1, .int .i64 b2]] w fun e w' => e = .returned (.agg #[.int .i64 (crX a0 a1 a2 b0 b1 b2), .int .i64 (crY a0 a1 a2 b0 b1 b2), .int .i64 (crZ a0 a1 a2 b0 b1 b2)]) ∧ Below w.heap.size w w' := by
  obtain ⟨p0, q0⟩ := h.2.1.mul g.2.2
  obtain ⟨p1, q1⟩ := h.2.2.mul g.2.1
  obtain ⟨p2, q2⟩ := h.2.2.mul g.1
  obtain ⟨p3, q3⟩ := h.1.mul g.2.2
  obtain ⟨p4, q4⟩ := h.1.mul g.2.1
  obtain ⟨p5, q5⟩ := h.2.1.mul g.1
  clear h g
  have hs20 : w.heap.size < w.heap.size + 1 + 1 := (by omega); have hs30 : w.heap.size < w.heap.size + 1 + 1 + 1 := (by omega); have hs31 : w.heap.size + 1 < w.heap.size + 1 + 1 + 1 := (by omega); have hs40 : w.heap.size < w.heap.size + 1 + 1 + 1 + 1 := (by omega); have hs41 : w.heap.size + 1 < w.heap.size + 1 + 1 + 1 + 1 := (by omega); have hs42 : w.heap.size + 1 + 1 < w.heap.size + 1 + 1 + 1 + 1 := (by omega)
  go_enter Try.func25, Try.ntmps25
  go_wp2
  refine bodyPost_ret (v := .agg #[.int .i64 (a1 * b2 - a2 * b1), .int .i64 (a2 * b0 - a0 * b2), .int .i64 (a0 * b1 - a1 * b0)]) (by simp (maxDischargeDepth := 8) [results, Try.results25, go_sem, *]) rfl ?_
  exact ⟨rfl, by (repeat' (first | (with_reducible exact Below.refl _ _) | (with_reducible refine Below.alloc ?_ ?_ _) | (with_reducible refine Below.setCell ?_ ?_ _) | (with_reducible refine Below.drew ?_) | (with_reducible refine below_drewN ?_ _) | (with_reducible assumption) | (with_reducible refine below_after (by with_reducible assumption) ?_) | go_size))⟩
theorem productOf_any (a0 a1 a2 b0 b1 b2 : Int) (w : World) (h : W3 1000000 a0 a1 a2) (g : W3 100000000000 b0 b1 b2) :
    Calls Try.prog 24 #[.agg #[.int .i64 a0, .int .i64 a1, .int .i64 a2], .agg #[.int .i64 b0, .int .i64 b1, .int .i64 b2]] w fun e w' => e = .returned (.int .i64 (dotV a0 a1 a2 b0 b1 b2)) ∧ Below w.heap.size w w' := by
  obtain ⟨p0, q0⟩ := h.1.mul g.1
  obtain ⟨p1, q1⟩ := h.2.1.mul g.2.1
  obtain ⟨p2, q2⟩ := h.2.2.mul g.2.2
  clear h g
  have hs20 : w.heap.size < w.heap.size + 1 + 1 := (by omega); have hs30 : w.heap.size < w.heap.size + 1 + 1 + 1 := (by omega); have hs31 : w.heap.size + 1 < w.heap.size + 1 + 1 + 1 := (by omega)
  go_enter Try.func24, Try.ntmps24
  go_wp2
  go_ret
  exact ⟨rfl, by (repeat' (first | (with_reducible exact Below.refl _ _) | (with_reducible refine Below.alloc ?_ ?_ _) | (with_reducible refine Below.setCell ?_ ?_ _) | (with_reducible refine Below.drew ?_) | (with_reducible refine below_drewN ?_ _) | (with_reducible assumption) | (with_reducible refine below_after (by with_reducible assumption) ?_) | go_size))⟩
theorem l08Dot_any (a0 a1 a2 b0 b1 b2 : Int) (w : World) (h : W3 1000000 a0 a1 a2) (g : W3 100000000000 b0 b1 b2) :
    Calls Try.prog 31 #[.agg #[.int .i64 a0, .int .i64 a1, .int .i64 a2], .agg #[.int .i64 b0, .int .i64 b1, .int .i64 b2]] w fun e w' => e = .returned (.int .i64 (dotV a0 a1 a2 b0 b1 b2)) ∧ Below w.heap.size w w' := by
  obtain ⟨p0, q0⟩ := h.1.mul g.1
  obtain ⟨p1, q1⟩ := h.2.1.mul g.2.1
  obtain ⟨p2, q2⟩ := h.2.2.mul g.2.2
  clear h g
  have hs20 : w.heap.size < w.heap.size + 1 + 1 := (by omega); have hs30 : w.heap.size < w.heap.size + 1 + 1 + 1 := (by omega); have hs31 : w.heap.size + 1 < w.heap.size + 1 + 1 + 1 := (by omega)
  go_enter Try.func31, Try.ntmps31
  go_wp2
  go_ret
  exact ⟨rfl, by (repeat' (first | (with_reducible exact Below.refl _ _) | (with_reducible refine Below.alloc ?_ ?_ _) | (with_reducible refine Below.setCell ?_ ?_ _) | (with_reducible refine Below.drew ?_) | (with_reducible refine below_drewN ?_ _) | (with_reducible assumption) | (with_reducible refine below_after (by with_reducible assumption) ?_) | go_size))⟩
theorem spotPlusTimes_any (a0 a1 a2 b0 b1 b2 k : Int) (w : World) (h : W3 100000000000 a0 a1 a2) (g : W3 100000000000 b0 b1 b2) (hk : Wi 100000 k) :
    Calls Try.prog 28 #[.agg #[.int .i64 a0, .int .i64 a1, .int .i64 a2], .agg #[.int .i64 b0, .int .i64 b1, .int .i64 b2], .int .i64 k] w fun e w' => e = .returned (.agg #[.int .i64 (a0 + k * b0), .int .i64 (a1 + k * b1), .int .i64 (a2 + k * b2)]) ∧ Below w.heap.size w w' := by
  obtain ⟨p0, q0⟩ := hk.mul g.1
  obtain ⟨r0, s0⟩ := h.1
  obtain ⟨p1, q1⟩ := hk.mul g.2.1
  obtain ⟨r1, s1⟩ := h.2.1
  obtain ⟨p2, q2⟩ := hk.mul g.2.2
  obtain ⟨r2, s2⟩ := h.2.2
  clear h g hk
  have hs20 : w.heap.size < w.heap.size + 1 + 1 := (by omega); have hs30 : w.heap.size < w.heap.size + 1 + 1 + 1 := (by omega); have hs31 : w.heap.size + 1 < w.heap.size + 1 + 1 + 1 := (by omega); have hs40 : w.heap.size < w.heap.size + 1 + 1 + 1 + 1 := (by omega); have hs41 : w.heap.size + 1 < w.heap.size + 1 + 1 + 1 + 1 := (by omega); have hs42 : w.heap.size + 1 + 1 < w.heap.size + 1 + 1 + 1 + 1 := (by omega)
  go_enter Try.func28, Try.ntmps28
  go_wp2
  refine bodyPost_ret (v := .agg #[.int .i64 (a0 + k * b0), .int .i64 (a1 + k * b1), .int .i64 (a2 + k * b2)]) (by simp (maxDischargeDepth := 8) [results, Try.results28, go_sem, *]) rfl ?_
  exact ⟨rfl, by (repeat' (first | (with_reducible exact Below.refl _ _) | (with_reducible refine Below.alloc ?_ ?_ _) | (with_reducible refine Below.setCell ?_ ?_ _) | (with_reducible refine Below.drew ?_) | (with_reducible refine below_drewN ?_ _) | (with_reducible assumption) | (with_reducible refine below_after (by with_reducible assumption) ?_) | go_size))⟩
theorem spotPlusTimes_minus (a0 a1 a2 b0 b1 b2 : Int) (w : World) (h : W3 100000000000 a0 a1 a2) (g : W3 100000000000 b0 b1 b2) :
    Calls Try.prog 28 #[.agg #[.int .i64 a0, .int .i64 a1, .int .i64 a2], .agg #[.int .i64 b0, .int .i64 b1, .int .i64 b2], .int .i64 (-1)] w fun e w' => e = .returned (.agg #[.int .i64 (a0 - b0), .int .i64 (a1 - b1), .int .i64 (a2 - b2)]) ∧ Below w.heap.size w w' := by
  have := spotPlusTimes_any a0 a1 a2 b0 b1 b2 (-1) w h g (by unfold Wi; omega)
  rwa [show a0 + -1 * b0 = a0 - b0 by omega, show a1 + -1 * b1 = a1 - b1 by omega, show a2 + -1 * b2 = a2 - b2 by omega] at this
theorem l08Plus_any (a0 a1 a2 b0 b1 b2 k : Int) (w : World) (h : W3 100000000000 a0 a1 a2) (g : W3 100000000000 b0 b1 b2) (hk : Wi 100000 k) :
    Calls Try.prog 30 #[.agg #[.int .i64 a0, .int .i64 a1, .int .i64 a2], .agg #[.int .i64 b0, .int .i64 b1, .int .i64 b2], .int .i64 k] w fun e w' => e = .returned (.agg #[.int .i64 (a0 + k * b0), .int .i64 (a1 + k * b1), .int .i64 (a2 + k * b2)]) ∧ Below w.heap.size w w' := by
  obtain ⟨p0, q0⟩ := hk.mul g.1
  obtain ⟨r0, s0⟩ := h.1
  obtain ⟨p1, q1⟩ := hk.mul g.2.1
  obtain ⟨r1, s1⟩ := h.2.1
  obtain ⟨p2, q2⟩ := hk.mul g.2.2
  obtain ⟨r2, s2⟩ := h.2.2
  clear h g hk
  have hs20 : w.heap.size < w.heap.size + 1 + 1 := (by omega); have hs30 : w.heap.size < w.heap.size + 1 + 1 + 1 := (by omega); have hs31 : w.heap.size + 1 < w.heap.size + 1 + 1 + 1 := (by omega); have hs40 : w.heap.size < w.heap.size + 1 + 1 + 1 + 1 := (by omega); have hs41 : w.heap.size + 1 < w.heap.size + 1 + 1 + 1 + 1 := (by omega); have hs42 : w.heap.size + 1 + 1 < w.heap.size + 1 + 1 + 1 + 1 := (by omega)
  go_enter Try.func30, Try.ntmps30
  go_wp2
  refine bodyPost_ret (v := .agg #[.int .i64 (a0 + k * b0), .int .i64 (a1 + k * b1), .int .i64 (a2 + k * b2)]) (by simp (maxDischargeDepth := 8) [results, Try.results30, go_sem, *]) rfl ?_
  exact ⟨rfl, by (repeat' (first | (with_reducible exact Below.refl _ _) | (with_reducible refine Below.alloc ?_ ?_ _) | (with_reducible refine Below.setCell ?_ ?_ _) | (with_reducible refine Below.drew ?_) | (with_reducible refine below_drewN ?_ _) | (with_reducible assumption) | (with_reducible refine below_after (by with_reducible assumption) ?_) | go_size))⟩
theorem l08Plus_minus (a0 a1 a2 b0 b1 b2 : Int) (w : World) (h : W3 100000000000 a0 a1 a2) (g : W3 100000000000 b0 b1 b2) :
    Calls Try.prog 30 #[.agg #[.int .i64 a0, .int .i64 a1, .int .i64 a2], .agg #[.int .i64 b0, .int .i64 b1, .int .i64 b2], .int .i64 (-1)] w fun e w' => e = .returned (.agg #[.int .i64 (a0 - b0), .int .i64 (a1 - b1), .int .i64 (a2 - b2)]) ∧ Below w.heap.size w w' := by
  have := l08Plus_any a0 a1 a2 b0 b1 b2 (-1) w h g (by unfold Wi; omega)
  rwa [show a0 + -1 * b0 = a0 - b0 by omega, show a1 + -1 * b1 = a1 - b1 by omega, show a2 + -1 * b2 = a2 - b2 by omega] at this
end Go.Proofs.Ytjjblgmokmalaaa
