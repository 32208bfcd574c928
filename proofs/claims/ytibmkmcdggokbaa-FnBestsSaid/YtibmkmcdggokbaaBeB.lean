/-
  CompareRatios and PlaceOf, in the program and in the model (own work).
-/
import Derived.Test.YtibmkmcdggokbaaBeA
namespace Go.Proofs.Ytibmkmcdggokbaa
open Go.ChangeShapes Go.WideShapes Go.ChangeAt Go.RowKit
set_option linter.unusedVariables false
set_option linter.unusedSimpArgs false
set_option maxRecDepth 100000

def cqV (p q r s : Int) : Int := if rtB p q 1 = true then (if rtB r s 1 = true then cmI (p * s) (r * q) else 0) else 0
def cqC (p q r s : Int) : Int := if rtB p q 1 = true then (if rtB r s 1 = true then 0 else 2) else 2
theorem rt_mul {p q r s : Int} (h : rtB p q 1 = true) (k : rtB r s 1 = true) : -1000000000000 ≤ p * s ∧ p * s ≤ 1000000000000 := by
  have h := rtB_iff.1 h
  have k := rtB_iff.1 k
  have := mul_bd (a := p) (b := s) (A := 1000000) (B := 1000000) (by omega) (by omega) (by omega) (by omega)
  omega
theorem cmI_bd (a b : Int) : -1 ≤ cmI a b ∧ cmI a b ≤ 1 := by
  unfold cmI
  repeat' split
  all_goals omega
theorem impl_CompareRatios_any (p q r s : Int) (w : World) : Calls Try.prog 19 #[.int .i64 p, .int .i64 q, .int .i64 r, .int .i64 s] w fun e w' => e = .returned (.tuple #[.int .i64 (cqV p q r s), .int .i64 (cqC p q r s)]) ∧ Below w.heap.size w w' := by
  unfold cqV cqC
  cases h1 : rtB p q 1
  · go_enter Try.func19, Try.ntmps19
    go_wp2_with (go_at_call 31; refine (isRatio_any _ _ _).mono ?_; rintro e wn ⟨rfl, rfl⟩)
    go_ret2
    exact ⟨rfl, by (repeat' (first | (with_reducible exact Below.refl _ _) | (with_reducible refine Below.alloc ?_ ?_ _) | (with_reducible refine Below.setCell ?_ ?_ _) | (with_reducible refine Below.drew ?_) | (with_reducible refine below_drewN ?_ _) | (with_reducible assumption) | (with_reducible refine below_after (by with_reducible assumption) ?_) | go_size))⟩
  · cases h2 : rtB r s 1
    · go_enter Try.func19, Try.ntmps19
      go_wp2_with (go_at_call 31; refine (isRatio_any _ _ _).mono ?_; rintro e wn ⟨rfl, rfl⟩)
      go_ret2
      exact ⟨rfl, by (repeat' (first | (with_reducible exact Below.refl _ _) | (with_reducible refine Below.alloc ?_ ?_ _) | (with_reducible refine Below.setCell ?_ ?_ _) | (with_reducible refine Below.drew ?_) | (with_reducible refine below_drewN ?_ _) | (with_reducible assumption) | (with_reducible refine below_after (by with_reducible assumption) ?_) | go_size))⟩
    · obtain ⟨a1, a2⟩ := rt_mul h1 h2
      obtain ⟨b1, b2⟩ := rt_mul h2 h1
      have HC : Hid (∀ w, Calls Try.prog 33 #[.int .i64 (p * s), .int .i64 (r * q)] w fun e w' => e = .returned (.int .i64 (cmI (p * s) (r * q))) ∧ w = w') := fun w => cmI_any _ _ w
      go_enter Try.func19, Try.ntmps19
      go_wp2_with (first | (go_at_call 31; refine (isRatio_any _ _ _).mono ?_; rintro e wn ⟨rfl, rfl⟩) | (go_at_call 33; refine (HC.out _).mono ?_; rintro e wn ⟨rfl, rfl⟩))
      go_ret2
      exact ⟨rfl, by (repeat' (first | (with_reducible exact Below.refl _ _) | (with_reducible refine Below.alloc ?_ ?_ _) | (with_reducible refine Below.setCell ?_ ?_ _) | (with_reducible refine Below.drew ?_) | (with_reducible refine below_drewN ?_ _) | (with_reducible assumption) | (with_reducible refine below_after (by with_reducible assumption) ?_) | go_size))⟩
theorem spec_CompareRatios_any (p q r s : Int) (w : World) : Calls Try.prog 20 #[.int .i64 p, .int .i64 q, .int .i64 r, .int .i64 s] w fun e w' => e = .returned (.tuple #[.int .i64 (cqV p q r s), .int .i64 (cqC p q r s)]) ∧ Below w.heap.size w w' := by
  unfold cqV cqC
  cases h1 : rtB p q 1
  · go_enter Try.func20, Try.ntmps20
    go_wp2_with (go_at_call 23; refine (l10Ratio_any _ _ _ _).mono ?_; rintro e wn ⟨rfl, rfl⟩)
    go_ret2
    exact ⟨rfl, by (repeat' (first | (with_reducible exact Below.refl _ _) | (with_reducible refine Below.alloc ?_ ?_ _) | (with_reducible refine Below.setCell ?_ ?_ _) | (with_reducible refine Below.drew ?_) | (with_reducible refine below_drewN ?_ _) | (with_reducible assumption) | (with_reducible refine below_after (by with_reducible assumption) ?_) | go_size))⟩
  · cases h2 : rtB r s 1
    · go_enter Try.func20, Try.ntmps20
      go_wp2_with (go_at_call 23; refine (l10Ratio_any _ _ _ _).mono ?_; rintro e wn ⟨rfl, rfl⟩)
      go_ret2
      exact ⟨rfl, by (repeat' (first | (with_reducible exact Below.refl _ _) | (with_reducible refine Below.alloc ?_ ?_ _) | (with_reducible refine Below.setCell ?_ ?_ _) | (with_reducible refine Below.drew ?_) | (with_reducible refine below_drewN ?_ _) | (with_reducible assumption) | (with_reducible refine below_after (by with_reducible assumption) ?_) | go_size))⟩
    · obtain ⟨a1, a2⟩ := rt_mul h1 h2
      obtain ⟨b1, b2⟩ := rt_mul h2 h1
      by_cases c1 : p * s < r * q
      · have HE := Lib.hid (show cmI (p * s) (r * q) = -1 from if_pos c1)
        go_enter Try.func20, Try.ntmps20
        go_wp2_with (go_at_call 23; refine (l10Ratio_any _ _ _ _).mono ?_; rintro e wn ⟨rfl, rfl⟩)
        go_ret2
        exact ⟨by rw [HE.out]; rfl, by (repeat' (first | (with_reducible exact Below.refl _ _) | (with_reducible refine Below.alloc ?_ ?_ _) | (with_reducible refine Below.setCell ?_ ?_ _) | (with_reducible refine Below.drew ?_) | (with_reducible refine below_drewN ?_ _) | (with_reducible assumption) | (with_reducible refine below_after (by with_reducible assumption) ?_) | go_size))⟩
      · by_cases c2 : r * q < p * s
        · have HE := Lib.hid (show cmI (p * s) (r * q) = 1 from (if_neg c1).trans (if_pos c2))
          go_enter Try.func20, Try.ntmps20
          go_wp2_with (go_at_call 23; refine (l10Ratio_any _ _ _ _).mono ?_; rintro e wn ⟨rfl, rfl⟩)
          go_ret2
          exact ⟨by rw [HE.out]; rfl, by (repeat' (first | (with_reducible exact Below.refl _ _) | (with_reducible refine Below.alloc ?_ ?_ _) | (with_reducible refine Below.setCell ?_ ?_ _) | (with_reducible refine Below.drew ?_) | (with_reducible refine below_drewN ?_ _) | (with_reducible assumption) | (with_reducible refine below_after (by with_reducible assumption) ?_) | go_size))⟩
        · have HE := Lib.hid (show cmI (p * s) (r * q) = 0 from (if_neg c1).trans (if_neg c2))
          go_enter Try.func20, Try.ntmps20
          go_wp2_with (go_at_call 23; refine (l10Ratio_any _ _ _ _).mono ?_; rintro e wn ⟨rfl, rfl⟩)
          go_ret2
          exact ⟨by rw [HE.out]; rfl, by (repeat' (first | (with_reducible exact Below.refl _ _) | (with_reducible refine Below.alloc ?_ ?_ _) | (with_reducible refine Below.setCell ?_ ?_ _) | (with_reducible refine Below.drew ?_) | (with_reducible refine below_drewN ?_ _) | (with_reducible assumption) | (with_reducible refine below_after (by with_reducible assumption) ?_) | go_size))⟩
def plV (p q k : Int) : Int := if rtB p q 2 = true then (if crd k = true then k * p % q else 0) else 0
def plC (p q k : Int) : Int := if rtB p q 2 = true then (if crd k = true then 0 else 2) else 2
theorem kp_bd {p q k l : Int} (h : rtB p q l = true) (k1 : -1000000 ≤ k) (k2 : k ≤ 1000000) : -1000000000000 ≤ k * p ∧ k * p ≤ 1000000000000 := by
  have h := rtB_iff.1 h
  have := mul_bd (a := k) (b := p) (A := 1000000) (B := 1000000) (by omega) (by omega) (by omega) (by omega)
  omega
end Go.Proofs.Ytibmkmcdggokbaa
