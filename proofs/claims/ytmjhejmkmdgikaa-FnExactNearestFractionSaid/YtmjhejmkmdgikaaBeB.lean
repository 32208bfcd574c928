/-
  CompareRatios and PlaceOf, in the program and in the model (own work).
-/
import Derived.Test.YtmjhejmkmdgikaaBeA
namespace Go.Proofs.Ytmjhejmkmdgikaa
open Go.ChangeShapes Go.WideShapes Go.ChangeAt Go.RowKit
set_option linter.unusedVariables false
set_option maxRecDepth 100000
set_option linter.unusedSimpArgs false
set_option maxRecDepth 100000

def cqV (p q r s : Int) : Int := if rtB p q 1 = true then (if rtB r s 1 = true then cmI (p * s) (r * q) else 0) else 0
def cqC (p q r s : Int) : Int := if rtB p q 1 = true then (if rtB r s 1 = true then 0 else 2) else 2
theorem rt_mul {p q r s : Int} (h : rtB p q 1 = true) (k : rtB r s 1 = true) : -1000000000000 ≤ p * s ∧ p * s ≤ 1000000000000 := by
  have h := rtB_iff.1 h
  have k := rtB_iff.1 k
  have := mul_bd (a := p) (b := s) (A := 1000000) (B := 1000000) (by omega) (by omega) (by omega) (by omega)
  omega
theorem cmI_bd (a b : Int) : -1 ≤ cmI a b ∧ cmI a b ≤ 1 := by
  unfold cmI
  repeat' split
  all_goals omega
theorem impl_CompareRatios_any (p q r s : Int) (w : World) : Calls Try.prog 18 #[.int .i64 p, .int .i64 q, .int .i64 r, .int .i64 s] w fun e w' => e = .returned (.tuple #[.int .i64 (cqV p q r s), .int .i64 (cqC p q r s)]) ∧ Below w.heap.size w w' := by
  unfold cqV cqC
  cases h1 : rtB p q 1
  · go_enter Try.func18, Try.ntmps18
    go_wp2_with (go_at_call 60; refine (isRatio_any _ _ _).mono ?_; rintro e wn ⟨rfl, rfl⟩)
    go_ret2
    exact ⟨rfl, by (repeat' (first | (with_reducible exact Below.refl _ _) | (with_reducible refine Below.alloc ?_ ?_ _) | (with_reducible refine Below.setCell ?_ ?_ _) | (with_reducible refine Below.drew ?_) | (with_reducible refine below_drewN ?_ _) | (with_reducible assumption) | (with_reducible refine below_after (by with_reducible assumption) ?_) | go_size))⟩
  · cases h2 : rtB r s 1
    · go_enter Try.func18, Try.ntmps18
      go_wp2_with (go_at_call 60; refine (isRatio_any _ _ _).mono ?_; rintro e wn ⟨rfl, rfl⟩)
      go_ret2
      exact ⟨rfl, by (repeat' (first | (with_reducible exact Below.refl _ _) | (with_reducible refine Below.alloc ?_ ?_ _) | (with_reducible refine Below.setCell ?_ ?_ _) | (with_reducible refine Below.drew ?_) | (with_reducible refine below_drewN ?_ _) | (with_reducible assumption) | (with_reducible refine below_after (by with_reducible assumption) ?_) | go_size))⟩
    · obtain ⟨a1, a2⟩ := rt_mul h1 h2
      obtain ⟨b1, b2⟩ := rt_mul h2 h1
      have HC : Hid (∀ w, Calls Try.prog 61 #[.int .i64 (p * s), .int .i64 (r * q)] w fun e w' => e = .returned (.int .i64 (cmI (p * s) (r * q))) ∧ w = w') := fun w => cmI_any _ _ w
      go_enter Try.func18, Try.ntmps18
      go_wp2_with (first | (go_at_call 60; refine (isRatio_any _ _ _).mono ?_; rintro e wn ⟨rfl, rfl⟩) | (go_at_call 61; refine (HC.out _).mono ?_; rintro e wn ⟨rfl, rfl⟩))
      go_ret2
      exact ⟨rfl, by (repeat' (first | (with_reducible exact Below.refl _ _) | (with_reducible refine Below.alloc ?_ ?_ _) | (with_reducible refine Below.setCell ?_ ?_ _) | (with_reducible refine Below.drew ?_) | (with_reducible refine below_drewN ?_ _) | (with_reducible assumption) | (with_reducible refine below_after (by with_reducible assumption) ?_) | go_size))⟩
theorem spec_CompareRatios_any (p q r s : Int) (w : World) : Calls Try.prog 17 #[.int .i64 p, .int .i64 q, .int .i64 r, .int .i64 s] w fun e w' => e = .returned (.tuple #[.int .i64 (cqV p q r s), .int .i64 (cqC p q r s)]) ∧ Below w.heap.size w w' := by
  unfold cqV cqC
  cases h1 : rtB p q 1
  · go_enter Try.func17, Try.ntmps17
    go_wp2_with (go_at_call 59; refine (l10Ratio_any _ _ _ _).mono ?_; rintro e wn ⟨rfl, rfl⟩)
    go_ret2
    exact ⟨rfl, by (repeat' (first | (with_reducible exact Below.refl _ _) | (with_reducible refine Below.alloc ?_ ?_ _) | (with_reducible refine Below.setCell ?_ ?_ _) | (with_reducible refine Below.drew ?_) | (with_reducible refine below_drewN ?_ _) | (with_reducible assumption) | (with_reducible refine below_after (by with_reducible assumption) ?_) | go_size))⟩
  · cases h2 : rtB r s 1
    · go_enter Try.func17, Try.ntmps17
      go_wp2_with (go_at_call 59; refine (l10Ratio_any _ _ _ _).mono ?_; rintro e wn ⟨rfl, rfl⟩)
      go_ret2
      exact ⟨rfl, by (repeat' (first | (with_reducible exact Below.refl _ _) | (with_reducible refine Below.alloc ?_ ?_ _) | (with_reducible refine Below.setCell ?_ ?_ _) | (with_reducible refine Below.drew ?_) | (with_reducible refine below_drewN ?_ _) | (with_reducible assumption) | (with_reducible refine below_after (by with_reducible assumption) ?_) | go_size))⟩
    · obtain ⟨a1, a2⟩ := rt_mul h1 h2
      obtain ⟨b1, b2⟩ := rt_mul h2 h1
      by_cases c1 : p * s < r * q
      · have HE := Lib.hid (show cmI (p * s) (r * q) = -1 from if_pos c1)
        go_enter Try.func17, Try.ntmps17
        go_wp2_with (go_at_call 59; refine (l10Ratio_any _ _ _ _).mono ?_; rintro e wn ⟨rfl, rfl⟩)
        go_ret2
        exact ⟨by rw [HE.out]; rfl, by (repeat' (first | (with_reducible exact Below.refl _ _) | (with_reducible refine Below.alloc ?_ ?_ _) | (with_reducible refine Below.setCell ?_ ?_ _) | (with_reducible refine Below.drew ?_) | (with_reducible refine below_drewN ?_ _) | (with_reducible assumption) | (with_reducible refine below_after (by with_reducible assumption) ?_) | go_size))⟩
      · by_cases c2 : r * q < p * s
        · have HE := Lib.hid (show cmI (p * s) (r * q) = 1 from (if_neg c1).trans (if_pos c2))
          go_enter Try.func17, Try.ntmps17
          go_wp2_with (go_at_call 59; refine (l10Ratio_any _ _ _ _).mono ?_; rintro e wn ⟨rfl, rfl⟩)
          go_ret2
          exact ⟨by rw [HE.out]; rfl, by (repeat' (first | (with_reducible exact Below.refl _ _) | (with_reducible refine Below.alloc ?_ ?_ _) | (with_reducible refine Below.setCell ?_ ?_ _) | (with_reducible refine Below.drew ?_) | (with_reducible refine below_drewN ?_ _) | (with_reducible assumption) | (with_reducible refine below_after (by with_reducible assumption) ?_) | go_size))⟩
        · have HE := Lib.hid (show cmI (p * s) (r * q) = 0 from (if_neg c1).trans (if_neg c2))
          go_enter Try.func17, Try.ntmps17
          go_wp2_with (go_at_call 59; refine (l10Ratio_any _ _ _ _).mono ?_; rintro e wn ⟨rfl, rfl⟩)
          go_ret2
          exact ⟨by rw [HE.out]; rfl, by (repeat' (first | (with_reducible exact Below.refl _ _) | (with_reducible refine Below.alloc ?_ ?_ _) | (with_reducible refine Below.setCell ?_ ?_ _) | (with_reducible refine Below.drew ?_) | (with_reducible refine below_drewN ?_ _) | (with_reducible assumption) | (with_reducible refine below_after (by with_reducible assumption) ?_) | go_size))⟩
def plV (p q k : Int) : Int := if rtB p q 2 = true then (if crd k = true then k * p % q else 0) else 0
def plC (p q k : Int) : Int := if rtB p q 2 = true then (if crd k = true then 0 else 2) else 2
theorem kp_bd {p q k l : Int} (h : rtB p q l = true) (k1 : -1000000 ≤ k) (k2 : k ≤ 1000000) : -1000000000000 ≤ k * p ∧ k * p ≤ 1000000000000 := by
  have h := rtB_iff.1 h
  have := mul_bd (a := k) (b := p) (A := 1000000) (B := 1000000) (by omega) (by omega) (by omega) (by omega)
  omega
theorem placeOf_any (p q k : Int) (w : World) (h : rtB p q 2 = true) (k1 : -1000000 ≤ k) (k2 : k ≤ 1000000) : Calls Try.prog 72 #[.int .i64 p, .int .i64 q, .int .i64 k] w fun e w' => e = .returned (.int .i64 (k * p % q)) ∧ Below w.heap.size w w' := by
  obtain ⟨a1, a2⟩ := kp_bd h k1 k2
  have h := rtB_iff.1 h
  have HD : Hid (∀ w, Calls Try.prog 118 #[.int .i64 (k * p), .int .i64 q] w fun e w' => e = .returned (.tuple #[.int .i64 (k * p / q), .int .i64 (k * p % q)]) ∧ Below w.heap.size w w') := fun w => divideDown_any _ _ w (by omega) (by omega) (by omega) (by omega)
  clear h
  go_enter Try.func72, Try.ntmps72
  go_wp2_with (first | (go_at_call 118; refine (HD.out _).mono ?_; rintro e wn ⟨rfl, hb⟩; first | (have h2 := after_call2 hb hcl hfr hlt (by ((repeat' (first | (with_reducible exact Below.refl _ _) | (with_reducible refine Below.alloc ?_ ?_ _) | (with_reducible refine Below.setCell ?_ ?_ _) | (with_reducible refine Below.drew ?_) | (with_reducible refine below_drewN ?_ _) | (with_reducible assumption) | (with_reducible refine below_after (by with_reducible assumption) ?_) | go_size)); done)); obtain ⟨hclx, hfrx, hltx, hsz⟩ := after_call hb; (try simp only [World.size_alloc, World.size_setCell, World.size_drew] at hclx hfrx hltx hsz); (try (have hszl := Nat.lt_of_succ_le hsz)); obtain ⟨hcl, hfr, hlt⟩ := h2) | (obtain ⟨hcl, hfr, hlt, hsz⟩ := after_call hb; (try simp only [World.size_alloc, World.size_setCell, World.size_drew] at hcl hfr hlt hsz))))
  go_ret
  exact ⟨rfl, by (repeat' (first | (with_reducible exact Below.refl _ _) | (with_reducible refine Below.alloc ?_ ?_ _) | (with_reducible refine Below.setCell ?_ ?_ _) | (with_reducible refine Below.drew ?_) | (with_reducible refine below_drewN ?_ _) | (with_reducible assumption) | (with_reducible refine below_after (by with_reducible assumption) ?_) | go_size))⟩
theorem impl_PlaceOf_any (p q k : Int) (w : World) : Calls Try.prog 32 #[.int .i64 p, .int .i64 q, .int .i64 k] w fun e w' => e = .returned (.tuple #[.int .i64 (plV p q k), .int .i64 (plC p q k)]) ∧ Below w.heap.size w w' := by
  unfold plV plC
  cases h1 : rtB p q 2
  · go_enter Try.func32, Try.ntmps32
    go_wp2_with (first | (go_at_call 70; refine (hasPlaces_any _ _ _).mono ?_; rintro e wn ⟨rfl, rfl⟩) | (go_at_call 71; refine (isCoord_any _ _).mono ?_; rintro e wn ⟨rfl, rfl⟩))
    go_ret2
    exact ⟨rfl, by (repeat' (first | (with_reducible exact Below.refl _ _) | (with_reducible refine Below.alloc ?_ ?_ _) | (with_reducible refine Below.setCell ?_ ?_ _) | (with_reducible refine Below.drew ?_) | (with_reducible refine below_drewN ?_ _) | (with_reducible assumption) | (with_reducible refine below_after (by with_reducible assumption) ?_) | go_size))⟩
  · cases h2 : crd k
    · go_enter Try.func32, Try.ntmps32
      go_wp2_with (first | (go_at_call 70; refine (hasPlaces_any _ _ _).mono ?_; rintro e wn ⟨rfl, rfl⟩) | (go_at_call 71; refine (isCoord_any _ _).mono ?_; rintro e wn ⟨rfl, rfl⟩))
      go_ret2
      exact ⟨rfl, by (repeat' (first | (with_reducible exact Below.refl _ _) | (with_reducible refine Below.alloc ?_ ?_ _) | (with_reducible refine Below.setCell ?_ ?_ _) | (with_reducible refine Below.drew ?_) | (with_reducible refine below_drewN ?_ _) | (with_reducible assumption) | (with_reducible refine below_after (by with_reducible assumption) ?_) | go_size))⟩
    · have HP : Hid (∀ w, Calls Try.prog 72 #[.int .i64 p, .int .i64 q, .int .i64 k] w fun e w' => e = .returned (.int .i64 (k * p % q)) ∧ Below w.heap.size w w') := fun w => placeOf_any p q k w h1 (crd_iff.1 h2).1 (crd_iff.1 h2).2
      go_enter Try.func32, Try.ntmps32
      go_wp2_with (first | (go_at_call 70; refine (hasPlaces_any _ _ _).mono ?_; rintro e wn ⟨rfl, rfl⟩) | (go_at_call 71; refine (isCoord_any _ _).mono ?_; rintro e wn ⟨rfl, rfl⟩) | (go_at_call 72; refine (HP.out _).mono ?_; rintro e wn ⟨rfl, hb⟩; first | (have h2 := after_call2 hb hcl hfr hlt (by ((repeat' (first | (with_reducible exact Below.refl _ _) | (with_reducible refine Below.alloc ?_ ?_ _) | (with_reducible refine Below.setCell ?_ ?_ _) | (with_reducible refine Below.drew ?_) | (with_reducible refine below_drewN ?_ _) | (with_reducible assumption) | (with_reducible refine below_after (by with_reducible assumption) ?_) | go_size)); done)); obtain ⟨hclx, hfrx, hltx, hsz⟩ := after_call hb; (try simp only [World.size_alloc, World.size_setCell, World.size_drew] at hclx hfrx hltx hsz); (try (have hszl := Nat.lt_of_succ_le hsz)); obtain ⟨hcl, hfr, hlt⟩ := h2) | (obtain ⟨hcl, hfr, hlt, hsz⟩ := after_call hb; (try simp only [World.size_alloc, World.size_setCell, World.size_drew] at hcl hfr hlt hsz))))
      go_ret2
      exact ⟨rfl, by (repeat' (first | (with_reducible exact Below.refl _ _) | (with_reducible refine Below.alloc ?_ ?_ _) | (with_reducible refine Below.setCell ?_ ?_ _) | (with_reducible refine Below.drew ?_) | (with_reducible refine below_drewN ?_ _) | (with_reducible assumption) | (with_reducible refine below_after (by with_reducible assumption) ?_) | go_size))⟩
theorem spec_PlaceOf_any (p q k : Int) (w : World) : Calls Try.prog 31 #[.int .i64 p, .int .i64 q, .int .i64 k] w fun e w' => e = .returned (.tuple #[.int .i64 (plV p q k), .int .i64 (plC p q k)]) ∧ Below w.heap.size w w' := by
  unfold plV plC
  cases h1 : rtB p q 2
  · go_enter Try.func31, Try.ntmps31
    go_wp2_with (first | (go_at_call 59; refine (l10Ratio_any _ _ _ _).mono ?_; rintro e wn ⟨rfl, rfl⟩) | (go_at_call 68; refine (fits_any _ _).mono ?_; rintro e wn ⟨rfl, rfl⟩))
    go_ret2
    exact ⟨rfl, by (repeat' (first | (with_reducible exact Below.refl _ _) | (with_reducible refine Below.alloc ?_ ?_ _) | (with_reducible refine Below.setCell ?_ ?_ _) | (with_reducible refine Below.drew ?_) | (with_reducible refine below_drewN ?_ _) | (with_reducible assumption) | (with_reducible refine below_after (by with_reducible assumption) ?_) | go_size))⟩
  · cases h2 : crd k
    · go_enter Try.func31, Try.ntmps31
      go_wp2_with (first | (go_at_call 59; refine (l10Ratio_any _ _ _ _).mono ?_; rintro e wn ⟨rfl, rfl⟩) | (go_at_call 68; refine (fits_any _ _).mono ?_; rintro e wn ⟨rfl, rfl⟩))
      go_ret2
      exact ⟨rfl, by (repeat' (first | (with_reducible exact Below.refl _ _) | (with_reducible refine Below.alloc ?_ ?_ _) | (with_reducible refine Below.setCell ?_ ?_ _) | (with_reducible refine Below.drew ?_) | (with_reducible refine below_drewN ?_ _) | (with_reducible assumption) | (with_reducible refine below_after (by with_reducible assumption) ?_) | go_size))⟩
    · have hk := crd_iff.1 h2
      obtain ⟨a1, a2⟩ := kp_bd h1 hk.1 hk.2
      have hr := rtB_iff.1 h1
      have HR : Hid (∀ w, Calls Try.prog 69 #[.int .i64 q, .int .i64 (k * p)] w fun e w' => e = .returned (.int .i64 (k * p % q)) ∧ w = w') := fun w => l01Rest_any q (k * p) w (by omega) (by omega) (by omega) (by omega)
      clear hr hk
      go_enter Try.func31, Try.ntmps31
      go_wp2_with (first | (go_at_call 59; refine (l10Ratio_any _ _ _ _).mono ?_; rintro e wn ⟨rfl, rfl⟩) | (go_at_call 68; refine (fits_any _ _).mono ?_; rintro e wn ⟨rfl, rfl⟩) | (go_at_call 69; refine (HR.out _).mono ?_; rintro e wn ⟨rfl, rfl⟩))
      go_ret2
      exact ⟨rfl, by (repeat' (first | (with_reducible exact Below.refl _ _) | (with_reducible refine Below.alloc ?_ ?_ _) | (with_reducible refine Below.setCell ?_ ?_ _) | (with_reducible refine Below.drew ?_) | (with_reducible refine below_drewN ?_ _) | (with_reducible assumption) | (with_reducible refine below_after (by with_reducible assumption) ?_) | go_size))⟩
end Go.Proofs.Ytmjhejmkmdgikaa
