/-
  Polygons. Sums: areas, borders, duals (own work; mathematics only).
-/
import Derived.Test.YtmjhejmkmdgikaaPoM
namespace Go.Proofs.Ytmjhejmkmdgikaa
set_option linter.unusedVariables false
set_option maxRecDepth 100000
set_option linter.unusedSectionVars false

/-- Sums over the first corners. -/
def sg (f : Nat → Int) : Nat → Int
  | 0 => 0
  | k + 1 => sg f k + f k
theorem sg_sub (f g : Nat → Int) : ∀ n, sg (fun k => f k - g k) n = sg f n - sg g n
  | 0 => rfl
  | n + 1 => by simp only [sg, sg_sub f g n]; omega
theorem sg_nonneg {f : Nat → Int} : ∀ n, (∀ k, k < n → 0 ≤ f k) → 0 ≤ sg f n
  | 0, _ => Int.le_refl _
  | n + 1, h => by
    have := sg_nonneg n (fun k hk => h k (by omega))
    have := h n (by omega)
    simp only [sg]; omega
theorem sg_ge {f : Nat → Int} : ∀ n, (∀ k, k < n → 0 ≤ f k) → ∀ k, k < n → f k ≤ sg f n
  | n + 1, h, k, hk => by
    have a := sg_nonneg n (fun k hk => h k (by omega))
    have b := h n (by omega)
    simp only [sg]
    by_cases hkn : k = n
    · subst hkn; omega
    · have := sg_ge n (fun k hk => h k (by omega)) k (by omega)
      omega
theorem sg_bd {f : Nat → Int} {A : Int} : ∀ n, (∀ k, k < n → -A ≤ f k ∧ f k ≤ A) → -(A * n) ≤ sg f n ∧ sg f n ≤ A * n
  | 0, _ => by simp [sg]
  | n + 1, h => by
    have a := sg_bd n (fun k hk => h k (by omega))
    have b := h n (by omega)
    have e : A * ((n + 1 : Nat) : Int) = A * n + A := by rw [Int.natCast_add]; grind
    simp only [sg]
    rw [e]
    omega
/-- The parity of a greatest common divisor. -/
theorem gcd_par (x y : Int) : ((Int.gcd x y : Int) - (x + y + x * y)) % 2 = 0 := by
  have hx : (x % 2 = 0) ↔ (2 : Int) ∣ x := ⟨fun h => Int.dvd_of_emod_eq_zero h, fun h => Int.emod_eq_zero_of_dvd h⟩
  have h1 : x % 2 = 0 ∨ x % 2 = 1 := by omega
  have h2 : y % 2 = 0 ∨ y % 2 = 1 := by omega
  have hg : (Int.gcd x y : Int) % 2 = 0 ↔ (x % 2 = 0 ∧ y % 2 = 0) := by
    constructor
    · intro h
      have hd : (2 : Int) ∣ (Int.gcd x y : Int) := Int.dvd_of_emod_eq_zero h
      exact ⟨Int.emod_eq_zero_of_dvd (Int.dvd_trans hd (Int.gcd_dvd_left ..)), Int.emod_eq_zero_of_dvd (Int.dvd_trans hd (Int.gcd_dvd_right ..))⟩
    · rintro ⟨a, b⟩
      have := Int.dvd_coe_gcd (Int.dvd_of_emod_eq_zero a) (Int.dvd_of_emod_eq_zero b)
      exact Int.emod_eq_zero_of_dvd this
  have hp : (x * y) % 2 = ((x % 2) * (y % 2)) % 2 := Int.mul_emod x y 2
  have hgn : (Int.gcd x y : Int) % 2 = 0 ∨ (Int.gcd x y : Int) % 2 = 1 := by omega
  rcases h1 with a | a <;> rcases h2 with b | b <;> rw [a, b] at hp <;> simp at hp <;> omega
/-- Area and border are even together. -/
theorem par_all {n : Nat} {P : Nat → Int × Int} (h : Rnd n P) : (sg (fun k => dv (P k) (P (k + 1))) n - sg (fun k => (Int.gcd (eg P k).1 (eg P k).2 : Int)) n) % 2 = 0 := by
  have key : ∀ m, ∃ q : Int, sg (fun k => dv (P k) (P (k + 1)) - (Int.gcd (eg P k).1 (eg P k).2 : Int)) m =
      ((P m).1 * (P m).2 + (P m).1 + (P m).2) - ((P 0).1 * (P 0).2 + (P 0).1 + (P 0).2) + 2 * q := by
    intro m
    induction m with
    | zero => exact ⟨0, by simp [sg]⟩
    | succ m ih =>
      obtain ⟨q, hq⟩ := ih
      obtain ⟨t, ht⟩ : ∃ t, (Int.gcd (eg P m).1 (eg P m).2 : Int) - ((eg P m).1 + (eg P m).2 + (eg P m).1 * (eg P m).2) = 2 * t := by
        have := gcd_par (eg P m).1 (eg P m).2
        exact ⟨_, (Int.mul_ediv_cancel' (Int.dvd_of_emod_eq_zero this)).symm⟩
      refine ⟨q - t + (P m).1 * (P (m + 1)).2 - (P (m + 1)).1 * (P (m + 1)).2 - (P (m + 1)).1 - (P (m + 1)).2 + (P m).1 + (P m).2, ?_⟩
      simp only [sg, hq]
      have hg : (Int.gcd (eg P m).1 (eg P m).2 : Int) = ((eg P m).1 + (eg P m).2 + (eg P m).1 * (eg P m).2) + 2 * t := by omega
      rw [hg]
      unfold dv eg sbv
      grind
  obtain ⟨q, hq⟩ := key n
  rw [sg_sub] at hq
  have e := h.per 0
  rw [show (0 + n) = n by omega] at e
  rw [e] at hq
  omega
/-- With 0 inside as the only one, each side's determinant is its length. -/
theorem dual_len {n : Nat} {P : Nat → Int × Int} (h : Rnd n P) (hp : ∀ k, k < n → 0 < dv (P k) (P (k + 1)))
    (hi : sg (fun k => dv (P k) (P (k + 1))) n - sg (fun k => (Int.gcd (eg P k).1 (eg P k).2 : Int)) n ≤ 1) :
    ∀ k, k < n → dv (P k) (P (k + 1)) = (Int.gcd (eg P k).1 (eg P k).2 : Int) := by
  have hd : ∀ k, k < n → 0 ≤ dv (P k) (P (k + 1)) - (Int.gcd (eg P k).1 (eg P k).2 : Int) := by
    intro k hk
    have e : dv (P k) (P (k + 1)) = (P k).1 * (eg P k).2 - (P k).2 * (eg P k).1 := by unfold dv eg sbv; grind
    have d : (Int.gcd (eg P k).1 (eg P k).2 : Int) ∣ dv (P k) (P (k + 1)) := by
      rw [e]
      exact Int.dvd_sub (Int.dvd_trans (Int.gcd_dvd_right ..) (Int.dvd_mul_left _ _)) (Int.dvd_trans (Int.gcd_dvd_left ..) (Int.dvd_mul_left _ _))
    have := Int.le_of_dvd (hp k hk) d
    omega
  have hs := sg_sub (fun k => dv (P k) (P (k + 1))) (fun k => (Int.gcd (eg P k).1 (eg P k).2 : Int)) n
  have hz := sg_nonneg n hd
  have hpar := par_all h
  have h0 : sg (fun k => dv (P k) (P (k + 1)) - (Int.gcd (eg P k).1 (eg P k).2 : Int)) n = 0 := by omega
  intro k hk
  have a := sg_ge n hd k hk
  have b := hd k hk
  rw [h0] at a
  omega

end Go.Proofs.Ytmjhejmkmdgikaa
