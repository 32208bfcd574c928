/-
  Contracts of chapter 1's ApplyMatrix, in the model and in the program (own work).
-/
import Derived.Test.YtmjhejmkmdgikaaMat
import Derived.Test.YtmjhejmkmdgikaaAlg2
namespace Go.Proofs.Ytmjhejmkmdgikaa
open Go.ChangeShapes Go.WideShapes Go.ChangeAt Go.RowKit
set_option linter.unusedVariables false
set_option maxRecDepth 100000
set_option linter.unusedSimpArgs false

theorem isMx_pts {a b c d : Int} (h : isMx a b c d = true) : isPt (a, b) = true ∧ isPt (c, d) = true := by simpa [isMx] using h
/-- The point to which a matrix leads a point. -/
def img (a b c d x y : Int) : Int × Int := (a * x + b * y, c * x + d * y)
theorem imageOf_any (a b c d x y : Int) (w : World) (ha : Bn a) (hb : Bn b) (hc : Bn c) (hd : Bn d) (hx : Bn x) (hy : Bn y) :
    Calls Try.prog 106 #[.agg #[.int .i64 a, .int .i64 b, .int .i64 c, .int .i64 d], .agg #[.int .i64 x, .int .i64 y]] w fun e w' => e = .returned (.agg #[.int .i64 (img a b c d x y).1, .int .i64 (img a b c d x y).2]) ∧ Below w.heap.size w w' := by
  obtain ⟨p1, p2⟩ := mul_bn ha hx
  obtain ⟨q1, q2⟩ := mul_bn hb hy
  obtain ⟨r1, r2⟩ := mul_bn hc hx
  obtain ⟨s1, s2⟩ := mul_bn hd hy
  clear ha hb hc hd hx hy
  have hs20 : w.heap.size < w.heap.size + 1 + 1 := (by omega); have hs30 : w.heap.size < w.heap.size + 1 + 1 + 1 := (by omega); have hs31 : w.heap.size + 1 < w.heap.size + 1 + 1 + 1 := (by omega)
  go_enter Try.func106, Try.ntmps106
  go_wp2
  go_returns
  exact ⟨rfl, by (repeat' (first | (with_reducible exact Below.refl _ _) | (with_reducible refine Below.alloc ?_ ?_ _) | (with_reducible refine Below.setCell ?_ ?_ _) | (with_reducible refine Below.drew ?_) | (with_reducible refine below_drewN ?_ _) | (with_reducible assumption) | (with_reducible refine below_after (by with_reducible assumption) ?_) | go_size))⟩
theorem l01Apply_any (a b c d x y : Int) (w : World) (ha : Bn a) (hb : Bn b) (hc : Bn c) (hd : Bn d) (hx : Bn x) (hy : Bn y) :
    Calls Try.prog 98 #[.agg #[.int .i64 a, .int .i64 b, .int .i64 c, .int .i64 d], .agg #[.int .i64 x, .int .i64 y]] w fun e w' => e = .returned (.agg #[.int .i64 (img a b c d x y).1, .int .i64 (img a b c d x y).2]) ∧ Below w.heap.size w w' := by
  obtain ⟨p1, p2⟩ := mul_bn ha hx
  obtain ⟨q1, q2⟩ := mul_bn hb hy
  obtain ⟨r1, r2⟩ := mul_bn hc hx
  obtain ⟨s1, s2⟩ := mul_bn hd hy
  clear ha hb hc hd hx hy
  have hs20 : w.heap.size < w.heap.size + 1 + 1 := (by omega); have hs30 : w.heap.size < w.heap.size + 1 + 1 + 1 := (by omega); have hs31 : w.heap.size + 1 < w.heap.size + 1 + 1 + 1 := (by omega)
  go_enter Try.func98, Try.ntmps98
  go_wp2
  go_returns
  exact ⟨rfl, by (repeat' (first | (with_reducible exact Below.refl _ _) | (with_reducible refine Below.alloc ?_ ?_ _) | (with_reducible refine Below.setCell ?_ ?_ _) | (with_reducible refine Below.drew ?_) | (with_reducible refine below_drewN ?_ _) | (with_reducible assumption) | (with_reducible refine below_after (by with_reducible assumption) ?_) | go_size))⟩
end Go.Proofs.Ytmjhejmkmdgikaa
