/-
  Contracts of chapter 1's mates in the model (own work).
-/
import Derived.Test.YtoenlpkphekbnaaMate
import Derived.Test.YtoenlpkphekbnaaAlg2
namespace Go.Proofs.Ytoenlpkphekbnaa
open Go.ChangeShapes Go.WideShapes Go.ChangeAt Go.RowKit
set_option linter.unusedVariables false
set_option maxRecDepth 100000
set_option linter.unusedSimpArgs false

theorem l01Rest_eq (n x X : Int) (w : World) (hn1 : 1 ≤ n) (hn2 : n ≤ 1000000000000000) (hx1 : -1000000000000000 ≤ x) (hx2 : x ≤ 1000000000000000) (h : Hid (x % n = X)) :
    Calls Try.prog 135 #[.int .i64 n, .int .i64 x] w fun e w' => e = .returned (.int .i64 X) ∧ w = w' := by
  rw [← h.out]
  exact l01Rest_any n x w hn1 hn2 hx1 hx2
/-- The second number of the mate. -/
def mateY (x0 y0 X : Int) : Int := (1 + y0 * X).tdiv x0
theorem l01Base_zero (y0 : Int) (w : World) (k0 : isPt (0, y0) = true) :
    Calls Try.prog 97 #[.agg #[.int .i64 0, .int .i64 y0]] w fun e w' => e = .returned (.agg #[.int .i64 (-y0), .int .i64 0]) ∧ Below w.heap.size w w' := by
  have h2 := isPt_c2 k0
  obtain ⟨y1, y2⟩ := h2
  clear k0
  have hs20 : w.heap.size < w.heap.size + 1 + 1 := (by omega)
  go_enter Try.func97, Try.ntmps97
  go_wp2
  refine bodyPost_ret (v := .agg #[.int .i64 (-y0), .int .i64 0]) (by simp (maxDischargeDepth := 8) [results, Try.results97, go_sem, *]) rfl ?_
  exact ⟨rfl, by (repeat' (first | (with_reducible exact Below.refl _ _) | (with_reducible refine Below.alloc ?_ ?_ _) | (with_reducible refine Below.setCell ?_ ?_ _) | (with_reducible refine Below.drew ?_) | (with_reducible refine below_drewN ?_ _) | (with_reducible assumption) | (with_reducible refine below_after (by with_reducible assumption) ?_) | go_size))⟩
set_option maxHeartbeats 1600000 in
theorem l01Base_pos (x0 y0 X : Int) (w : World) (k0 : isPt (x0, y0) = true) (hs : 0 < x0) (hg : Int.gcd x0 y0 = 1) (hX : MateX x0 y0 X) :
    Calls Try.prog 97 #[.agg #[.int .i64 x0, .int .i64 y0]] w fun e w' => e = .returned (.agg #[.int .i64 X, .int .i64 (mateY x0 y0 X)]) ∧ Below w.heap.size w w' := by
  obtain ⟨x1, x2⟩ := isPt_c1 k0
  obtain ⟨y1, y2⟩ := isPt_c2 k0
  have HX := Lib.hid hX
  have HG := Lib.hid hg
  have hx0 : ¬ x0 = 0 := by omega
  have hn1 : 1 ≤ x0 := by omega
  have hn2 : x0 ≤ 1000000 := by omega
  have hlt : ¬ x0 < -x0 := by omega
  obtain ⟨hX0, hX1, _⟩ := hX
  obtain ⟨p1, p2⟩ := mul_bd (a := y0) (b := X) (A := 1000000) (B := 1000000) y1 y2 (by omega) (by omega)
  obtain ⟨tb1, tb2⟩ := tdiv_bd (a := 1 + y0 * X) (b := x0) 1000000000001 (by omega) (by omega)
  have HY := Lib.hid (show (1 + y0 * X).tdiv x0 = mateY x0 y0 X from rfl)
  clear k0 hg
  have hs20 : w.heap.size < w.heap.size + 1 + 1 := (by omega)
  go_enter Try.func97, Try.ntmps97
  go_wp2_with (first | (go_at_call 135; refine (l01Rest_any _ _ _ (by omega) (by omega) (by omega) (by omega)).mono ?_; rintro e wn ⟨rfl, rfl⟩))
  go_loop [4, 5, 6, 7] (fun x y l n => ∃ x' y' l' n' : Int, x = .int .i64 x' ∧ y = .int .i64 y' ∧ l = .int .i64 l' ∧ n = .int .i64 n' ∧ Euc x0 y0 l' n' x' y') (fun _ _ l n => (intOf l + 2 * intOf n).toNat)
  case atStart => exact ⟨1, 0, _, _, rfl, rfl, rfl, rfl, by have h := euc_first2 hn1 HG.out; first | exact h | (rw [Int.emod_neg] at h; exact h)⟩
  case round =>
    obtain ⟨x, y, l, n, rfl, rfl, rfl, rfl, he⟩ := hrel
    have HE := Lib.hid he
    obtain ⟨_, _, hgc, l0, l1, n0, n1, _, q1, q2, q3, q4⟩ := he
    by_cases hn : n = 0
    · subst hn
      have hl := euc_zero HE.out
      subst hl
      have HR : Hid ((-x) % x0 = X) := by
        show (-x) % x0 = X
        obtain ⟨⟨s, hs⟩, _⟩ := HE.out
        exact mateX_of HX.out (show x * y0 + s * x0 = 1 by omega)
      clear hgc
      go_wp2_with (first | (go_at_call 135; refine (l01Rest_eq _ _ X _ (by omega) (by omega) (by omega) (by omega) HR).mono ?_; rintro e wn ⟨rfl, rfl⟩))
      rw [← HY.out]
      refine bodyPost_ret (v := .agg #[.int .i64 X, .int .i64 ((1 + y0 * X).tdiv x0)]) (by simp (maxDischargeDepth := 8) [results, Try.results97, go_sem, *]) rfl ?_
      exact ⟨rfl, by (repeat' (first | (with_reducible exact Below.refl _ _) | (with_reducible refine Below.alloc ?_ ?_ _) | (with_reducible refine Below.setCell ?_ ?_ _) | (with_reducible refine Below.drew ?_) | (with_reducible refine below_drewN ?_ _) | (with_reducible assumption) | (with_reducible refine below_after (by with_reducible assumption) ?_) | go_size))⟩
    · obtain ⟨s1, s2, s3, s4, s5, s6, s7, s8, s9⟩ := euc_step HE.out (by omega)
      have HS := Lib.hid s1
      have hmm := mm_bd hn1 hn2
      clear s1 hgc
      go_wp2
      go_round
      case rel => exact ⟨y, x - l / n * y, n, l - l / n * n, rfl, rfl, rfl, rfl, HS.out⟩
      case measure => simp only [intOf]; omega
set_option maxHeartbeats 1600000 in
theorem l01Base_neg (x0 y0 X : Int) (w : World) (k0 : isPt (x0, y0) = true) (hs : x0 < 0) (hg : Int.gcd (-x0) y0 = 1) (hX : MateX (-x0) y0 X) :
    Calls Try.prog 97 #[.agg #[.int .i64 x0, .int .i64 y0]] w fun e w' => e = .returned (.agg #[.int .i64 X, .int .i64 (mateY x0 y0 X)]) ∧ Below w.heap.size w w' := by
  obtain ⟨x1, x2⟩ := isPt_c1 k0
  obtain ⟨y1, y2⟩ := isPt_c2 k0
  have HX := Lib.hid hX
  have HG := Lib.hid hg
  have hx0 : ¬ x0 = 0 := by omega
  have hn1 : 1 ≤ (-x0) := by omega
  have hn2 : (-x0) ≤ 1000000 := by omega
  have hlt : x0 < -x0 := by omega
  obtain ⟨hX0, hX1, _⟩ := hX
  obtain ⟨p1, p2⟩ := mul_bd (a := y0) (b := X) (A := 1000000) (B := 1000000) y1 y2 (by omega) (by omega)
  obtain ⟨tb1, tb2⟩ := tdiv_bd (a := 1 + y0 * X) (b := x0) 1000000000001 (by omega) (by omega)
  have HY := Lib.hid (show (1 + y0 * X).tdiv x0 = mateY x0 y0 X from rfl)
  clear k0 hg
  have hs20 : w.heap.size < w.heap.size + 1 + 1 := (by omega)
  go_enter Try.func97, Try.ntmps97
  go_wp2_with (first | (go_at_call 135; refine (l01Rest_any _ _ _ (by omega) (by omega) (by omega) (by omega)).mono ?_; rintro e wn ⟨rfl, rfl⟩))
  go_loop [4, 5, 6, 7] (fun x y l n => ∃ x' y' l' n' : Int, x = .int .i64 x' ∧ y = .int .i64 y' ∧ l = .int .i64 l' ∧ n = .int .i64 n' ∧ Euc (-x0) y0 l' n' x' y') (fun _ _ l n => (intOf l + 2 * intOf n).toNat)
  case atStart => exact ⟨1, 0, _, _, rfl, rfl, rfl, rfl, by have h := euc_first2 hn1 HG.out; first | exact h | (rw [Int.emod_neg] at h; exact h)⟩
  case round =>
    obtain ⟨x, y, l, n, rfl, rfl, rfl, rfl, he⟩ := hrel
    have HE := Lib.hid he
    obtain ⟨_, _, hgc, l0, l1, n0, n1, _, q1, q2, q3, q4⟩ := he
    by_cases hn : n = 0
    · subst hn
      have hl := euc_zero HE.out
      subst hl
      have HR : Hid ((-x) % (-x0) = X) := by
        show (-x) % (-x0) = X
        obtain ⟨⟨s, hs⟩, _⟩ := HE.out
        exact mateX_of HX.out (show x * y0 + s * (-x0) = 1 by omega)
      clear hgc
      go_wp2_with (first | (go_at_call 135; refine (l01Rest_eq _ _ X _ (by omega) (by omega) (by omega) (by omega) HR).mono ?_; rintro e wn ⟨rfl, rfl⟩))
      rw [← HY.out]
      refine bodyPost_ret (v := .agg #[.int .i64 X, .int .i64 ((1 + y0 * X).tdiv x0)]) (by simp (maxDischargeDepth := 8) [results, Try.results97, go_sem, *]) rfl ?_
      exact ⟨rfl, by (repeat' (first | (with_reducible exact Below.refl _ _) | (with_reducible refine Below.alloc ?_ ?_ _) | (with_reducible refine Below.setCell ?_ ?_ _) | (with_reducible refine Below.drew ?_) | (with_reducible refine below_drewN ?_ _) | (with_reducible assumption) | (with_reducible refine below_after (by with_reducible assumption) ?_) | go_size))⟩
    · obtain ⟨s1, s2, s3, s4, s5, s6, s7, s8, s9⟩ := euc_step HE.out (by omega)
      have HS := Lib.hid s1
      have hmm := mm_bd hn1 hn2
      clear s1 hgc
      go_wp2
      go_round
      case rel => exact ⟨y, x - l / n * y, n, l - l / n * n, rfl, rfl, rfl, rfl, HS.out⟩
      case measure => simp only [intOf]; omega
end Go.Proofs.Ytoenlpkphekbnaa
