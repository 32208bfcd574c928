/-
  Contracts of chapter 1's division rounded down, and the expansion as a plain list (own work).
-/
import Derived.Test.YthckbobbnkhnpaaGcd
namespace Go.Proofs.Ythckbobbnkhnpaa
open Go.ChangeShapes Go.WideShapes Go.ChangeAt Go.RowKit
set_option linter.unusedVariables false
set_option linter.unusedSimpArgs false

theorem tdiv_down {p q : Int} (hq : 1 ≤ q) (hp : p < 0) : -q < p.tmod q ∧ p.tmod q ≤ 0 ∧ p ≤ p.tdiv q ∧ p.tdiv q ≤ 0 ∧ (p.tmod q = 0 → p / q = p.tdiv q ∧ p % q = 0) ∧ (p.tmod q ≠ 0 → p / q = p.tdiv q - 1 ∧ p % q = p.tmod q + q) := by
  have e := Int.tmod_add_mul_tdiv p q
  have l : (p.tmod q).natAbs < q.natAbs := tmod_lt p q (by omega)
  have s : p.tmod q ≤ 0 := by
    have := Int.neg_tmod (-p) q
    rw [Int.neg_neg] at this
    have h2 : 0 ≤ (-p).tmod q := Int.tmod_nonneg _ (by omega)
    omega
  have d : p.tdiv q ≤ 0 := by
    have := Int.neg_tdiv (-p) q
    rw [Int.neg_neg] at this
    have h2 : 0 ≤ (-p).tdiv q := Int.tdiv_nonneg (by omega) (by omega)
    omega
  have lo : p ≤ p.tdiv q := by
    have : 0 ≤ (q - 1) * (-(p.tdiv q)) := Int.mul_nonneg (by omega) (by omega)
    rw [Int.sub_mul, Int.mul_neg, Int.one_mul] at this
    omega
  refine ⟨by omega, s, lo, d, fun h => ?_, fun h => ?_⟩
  · have := (Int.ediv_emod_unique (a := p) (b := q) (r := 0) (q := p.tdiv q) (by omega)).2 ⟨by omega, by omega, by omega⟩
    exact this
  · have := (Int.ediv_emod_unique (a := p) (b := q) (r := p.tmod q + q) (q := p.tdiv q - 1) (by omega)).2 ⟨by rw [Int.mul_sub]; omega, by omega, by omega⟩
    exact this

theorem floor_up {p q : Int} (hq : 1 ≤ q) (hp : 0 ≤ p) : 0 ≤ p / q ∧ p / q ≤ p ∧ 0 ≤ p % q ∧ p % q < q :=
  ⟨Int.ediv_nonneg hp (by omega), Int.ediv_le_self _ hp, Int.emod_nonneg _ (by omega), Int.emod_lt_of_pos _ (by omega)⟩
theorem floor_bd {p q : Int} (hq : 1 ≤ q) (hl : -1000000 ≤ p) (hu : p ≤ 1000000) : -1000001 ≤ p / q ∧ p / q ≤ 1000000 ∧ 0 ≤ p % q ∧ p % q < q := by
  by_cases h : p < 0
  · obtain ⟨_, _, a, b, c, d⟩ := tdiv_down hq h
    by_cases hz : p.tmod q = 0
    · have := c hz; exact ⟨by omega, by omega, by omega, by omega⟩
    · have := d hz; exact ⟨by omega, by omega, by omega, by omega⟩
  · have := floor_up hq (by omega : 0 ≤ p); exact ⟨by omega, by omega, by omega, by omega⟩

def expN : Nat → Int → Int → List Int
  | 0, _, _ => []
  | f + 1, p, q => if q = 0 then [] else (p / q) :: expN f q (p % q)
/-- The expansion of p / q, for q of at least 0. -/
def expI (p q : Int) : List Int := expN (q.toNat + 1) p q
theorem expN_same : ∀ (f g : Nat) (p q : Int), 0 ≤ q → q.toNat < f → q.toNat < g → expN f p q = expN g p q
  | 0, _, _, _, _, h, _ => by omega
  | _, 0, _, _, _, _, h => by omega
  | f + 1, g + 1, p, q, h0, hf, hg => by
    unfold expN
    by_cases hz : q = 0
    · rw [if_pos hz, if_pos hz]
    · rw [if_neg hz, if_neg hz]
      have h1 := Int.emod_nonneg p hz
      have h2 := Int.emod_lt_of_pos p (by omega : 0 < q)
      rw [expN_same f g q (p % q) h1 (by omega) (by omega)]
theorem expI_zero (p : Int) : expI p 0 = [] := by simp [expI, expN]
theorem expI_step (p q : Int) (h : 1 ≤ q) : expI p q = (p / q) :: expI q (p % q) := by
  have h1 := Int.emod_nonneg p (by omega : q ≠ 0)
  have h2 := Int.emod_lt_of_pos p (by omega : 0 < q)
  show expN (q.toNat + 1) p q = _
  unfold expN
  rw [if_neg (by omega)]
  rw [expN_same q.toNat ((p % q).toNat + 1) q (p % q) h1 (by omega) (by omega)]
  rfl
theorem expN_len : ∀ (f : Nat) (p q : Int), (expN f p q).length ≤ f
  | 0, _, _ => by simp [expN]
  | f + 1, p, q => by
    unfold expN
    split
    · simp
    · simp only [List.length_cons]; have := expN_len f q (p % q); omega
theorem expI_len (p q : Int) : (expI p q).length ≤ q.toNat + 1 := expN_len _ _ _

end Go.Proofs.Ythckbobbnkhnpaa
