/-
  Bezout, the steps of Euclid with both factors, and the first number of a mate, as plain numbers (own work).
-/
import Derived.Test.YtoenlpkphekbnaaFloor
namespace Go.Proofs.Ytoenlpkphekbnaa
set_option linter.unusedVariables false
set_option maxRecDepth 100000
set_option linter.unusedSimpArgs false

/-- Bezout. -/
theorem bez_nat (m n : Nat) : ∃ s t : Int, s * (m : Int) + t * (n : Int) = (Nat.gcd m n : Int) := by
  induction m, n using Nat.gcd.induction with
  | H0 n => exact ⟨0, 1, by simp⟩
  | H1 m n hm ih =>
    obtain ⟨s, t, h⟩ := ih
    refine ⟨t - s * ((n / m : Nat) : Int), s, ?_⟩
    rw [Nat.gcd_rec, ← h]
    have e : (n : Int) = ((n % m : Nat) : Int) + (m : Int) * ((n / m : Nat) : Int) := by
      have := Nat.mod_add_div n m
      exact_mod_cast this.symm
    generalize ((n % m : Nat) : Int) = r at *
    generalize ((n / m : Nat) : Int) = q at *
    rw [e, Int.sub_mul, Int.mul_add, Int.mul_assoc, Int.mul_comm q]
    omega
theorem bez_int (a b : Int) : ∃ s t : Int, s * a + t * b = (Int.gcd a b : Int) := by
  obtain ⟨s, t, h⟩ := bez_nat a.natAbs b.natAbs
  have e : Int.gcd a b = Nat.gcd a.natAbs b.natAbs := rfl
  rw [e]
  rcases Int.natAbs_eq a with ha | ha <;> rcases Int.natAbs_eq b with hb | hb
  · exact ⟨s, t, by rw [← h]; generalize a.natAbs = x at *; generalize b.natAbs = y at *; subst ha hb; rfl⟩
  · exact ⟨s, -t, by rw [← h]; generalize a.natAbs = x at *; generalize b.natAbs = y at *; subst ha hb; rw [Int.neg_mul_neg]⟩
  · exact ⟨-s, t, by rw [← h]; generalize a.natAbs = x at *; generalize b.natAbs = y at *; subst ha hb; rw [Int.neg_mul_neg]⟩
  · exact ⟨-s, -t, by rw [← h]; generalize a.natAbs = x at *; generalize b.natAbs = y at *; subst ha hb; rw [Int.neg_mul_neg, Int.neg_mul_neg]⟩

/-- x is the first number of the mate, for m as the absolute value of the first number and a as the second one. -/
def MateX (m a x : Int) : Prop := 0 ≤ x ∧ x < m ∧ ∃ t, 1 + a * x = t * m
theorem mateX_ex {m a : Int} (hm : 1 ≤ m) (hg : Int.gcd m a = 1) : ∃ x, MateX m a x := by
  obtain ⟨s, t, h⟩ := bez_int m a
  rw [hg] at h
  refine ⟨(-t) % m, Int.emod_nonneg _ (by omega), Int.emod_lt_of_pos _ (by omega), ?_⟩
  have e := Int.emod_add_mul_ediv (-t) m
  refine ⟨s - a * ((-t) / m), ?_⟩
  generalize (-t) / m = q at *
  have e2 : (-t) % m = -t - m * q := by omega
  rw [e2, Int.mul_sub, Int.sub_mul, Int.mul_neg, Int.mul_comm a t, Int.mul_assoc a q m, Int.mul_comm q m]
  have : ((1 : Nat) : Int) = 1 := rfl
  omega
/-- Whatever is an inverse of a modulo m, less than 0, leads to it. -/
theorem mateX_of {m a x y t : Int} (hx : MateX m a x) (hy : y * a + t * m = 1) : (-y) % m = x := by
  obtain ⟨h0, h1, k, hk⟩ := hx
  -- x + y = x (y a + t m) + y = y (a x + 1) + x t m
  have e : -y = x + m * (-(y * k) - x * t) := by
    have e1 : x = x * (y * a + t * m) := by rw [hy, Int.mul_one]
    have e2 : y * (1 + a * x) = y * (t * 0 + k * m) := by rw [hk]; simp
    rw [Int.mul_add, Int.mul_one] at e2
    rw [Int.mul_add] at e1
    rw [Int.mul_sub, Int.mul_neg]
    have e3 : x * (y * a) = y * (a * x) := by rw [Int.mul_comm x, Int.mul_assoc]
    have e4 : x * (t * m) = m * (x * t) := by rw [← Int.mul_assoc, Int.mul_comm]
    have e5 : y * (t * 0 + k * m) = m * (y * k) := by rw [Int.mul_zero, Int.zero_add, ← Int.mul_assoc, Int.mul_comm]
    omega
  rw [e, Int.add_mul_emod_self_left]
  exact Int.emod_eq_of_lt h0 h1

/-- What the steps of Euclid keep: l and n are p and q times a, up to multiples of m; p and q have other signs, and are bounded. -/
def Euc (m a l n p q : Int) : Prop := (∃ s, l = p * a + s * m) ∧ (∃ t, n = q * a + t * m) ∧ Int.gcd l n = 1 ∧ 0 ≤ l ∧ l ≤ m ∧ 0 ≤ n ∧ n ≤ m ∧ ((p ≤ 0 ∧ 0 ≤ q ∧ -(p * n) + q * l = m) ∨ (0 ≤ p ∧ q ≤ 0 ∧ p * n + -(q * l) = m)) ∧ -m ≤ p ∧ p ≤ m ∧ -m ≤ q ∧ q ≤ m
theorem euc_step {m a l n p q : Int} (h : Euc m a l n p q) (hn : 1 ≤ n) : Euc m a n (l - l / n * n) q (p - l / n * q) ∧ 0 ≤ l / n ∧ l / n ≤ m ∧ 0 ≤ l - l / n * n ∧ l - l / n * n < n ∧ -(m * m) ≤ l / n * q ∧ l / n * q ≤ m * m ∧ 0 ≤ l / n * n ∧ l / n * n ≤ m := by
  obtain ⟨⟨s, hs⟩, ⟨t, ht⟩, hg, h1, h2, h3, h4, hb, p1, p2, q1, q2⟩ := h
  have e := Int.emod_add_mul_ediv l n
  have k0 : 0 ≤ l / n := Int.ediv_nonneg h1 h3
  have k1 : l / n ≤ l := Int.ediv_le_self _ h1
  have r0 := Int.emod_nonneg l (by omega : n ≠ 0)
  have r1 := Int.emod_lt_of_pos l (by omega : 0 < n)
  have er : l - l / n * n = l % n := by rw [Int.mul_comm (l / n) n]; omega
  have eg : Int.gcd n (l % n) = 1 := by
    have : Int.gcd n (l % n) = Int.gcd l n := by
      rw [Int.gcd_comm l n]
      have e3 : l = l % n + n * (l / n) := by omega
      conv => rhs; rw [e3]
      simp
    omega
  have hkn : 0 ≤ l / n * n := Int.mul_nonneg k0 h3
  generalize hk : l / n = k at *
  rw [er]
  generalize l % n = r at *
  have eqn : l = r + k * n := by rw [Int.mul_comm]; omega
  -- bounds of the new number
  have sgn : (q ≤ 0 ∧ 0 ≤ p - k * q ∧ -(q * r) + (p - k * q) * n = m) ∨ (0 ≤ q ∧ p - k * q ≤ 0 ∧ q * r + -((p - k * q) * n) = m) := by
    rcases hb with ⟨a1, a2, a3⟩ | ⟨a1, a2, a3⟩
    · right
      have : 0 ≤ k * q := Int.mul_nonneg k0 a2
      refine ⟨a2, by omega, ?_⟩
      rw [Int.sub_mul, ← a3, eqn, Int.mul_add, Int.mul_assoc, Int.mul_comm q (k * n), Int.mul_assoc, Int.mul_comm n q]
      omega
    · left
      have : 0 ≤ k * (-q) := Int.mul_nonneg k0 (by omega)
      rw [Int.mul_neg] at this
      refine ⟨a2, by omega, ?_⟩
      rw [Int.sub_mul, ← a3, eqn, Int.mul_add, Int.mul_assoc, Int.mul_comm q (k * n), Int.mul_assoc, Int.mul_comm n q]
      omega
  have bq : -m ≤ p - k * q ∧ p - k * q ≤ m := by
    rcases sgn with ⟨a1, a2, a3⟩ | ⟨a1, a2, a3⟩
    · have x1 : 0 ≤ (-q) * r := Int.mul_nonneg (by omega) r0
      have x2 : 0 ≤ (p - k * q) * (n - 1) := Int.mul_nonneg a2 (by omega)
      rw [Int.neg_mul] at x1
      rw [Int.mul_sub, Int.mul_one] at x2
      omega
    · have x1 : 0 ≤ q * r := Int.mul_nonneg a1 r0
      have x2 : 0 ≤ (-(p - k * q)) * (n - 1) := Int.mul_nonneg (by omega) (by omega)
      rw [Int.mul_sub, Int.mul_one, Int.neg_mul] at x2
      omega
  have bk : -(m * m) ≤ k * q ∧ k * q ≤ m * m := by
    have hm0 : 0 ≤ m := by omega
    have x1 : 0 ≤ (m - k) * (m - q) := Int.mul_nonneg (by omega) (by omega)
    have x2 : 0 ≤ (m - k) * (m + q) := Int.mul_nonneg (by omega) (by omega)
    have x3 : 0 ≤ k * (m - q) := Int.mul_nonneg k0 (by omega)
    have x4 : 0 ≤ k * (m + q) := Int.mul_nonneg k0 (by omega)
    rw [Int.sub_mul, Int.mul_sub, Int.mul_sub] at x1
    rw [Int.sub_mul, Int.mul_add, Int.mul_add] at x2
    rw [Int.mul_sub] at x3
    rw [Int.mul_add] at x4
    have x5 : 0 ≤ m * (m - q) := Int.mul_nonneg hm0 (by omega)
    have x6 : 0 ≤ m * (m + q) := Int.mul_nonneg hm0 (by omega)
    have x7 : 0 ≤ (m - k) * m := Int.mul_nonneg (by omega) hm0
    rw [Int.sub_mul] at x7
    omega
  refine ⟨⟨⟨t, ht⟩, ⟨s - k * t, ?_⟩, eg, h3, h4, r0, by omega, sgn, q1, q2, bq.1, bq.2⟩, k0, by omega, r0, r1, bk.1, bk.2, hkn, by omega⟩
  have er2 : r = l - k * n := by omega
  rw [er2]
  conv => lhs; rw [hs, ht]
  rw [Int.sub_mul, Int.sub_mul, Int.mul_add, Int.mul_assoc, Int.mul_assoc]
  omega
theorem euc_zero {m a l p q : Int} (h : Euc m a l 0 p q) : l = 1 := by
  obtain ⟨_, _, hg, h1, _⟩ := h
  simp at hg
  omega
/-- The program's beginning. -/
theorem euc_first {m a : Int} (hm : 1 ≤ m) (hg : Int.gcd m a = 1) : Euc m a m (a % m) 0 1 := by
  have r0 := Int.emod_nonneg a (by omega : m ≠ 0)
  have r1 := Int.emod_lt_of_pos a (by omega : 0 < m)
  have e := Int.emod_add_mul_ediv a m
  refine ⟨⟨1, by omega⟩, ⟨-(a / m), ?_⟩, ?_, by omega, by omega, r0, by omega, Or.inl ⟨by omega, by omega, by omega⟩, by omega, by omega, by omega, by omega⟩
  · rw [Int.neg_mul, Int.mul_comm (a / m) m]; omega
  · have e3 : a = a % m + m * (a / m) := by omega
    rw [e3] at hg
    simpa using hg
/-- The model's beginning. -/
theorem euc_first2 {m a : Int} (hm : 1 ≤ m) (hg : Int.gcd m a = 1) : Euc m a (a % m) m 1 0 := by
  have r0 := Int.emod_nonneg a (by omega : m ≠ 0)
  have r1 := Int.emod_lt_of_pos a (by omega : 0 < m)
  have e := Int.emod_add_mul_ediv a m
  refine ⟨⟨-(a / m), ?_⟩, ⟨1, by omega⟩, ?_, r0, by omega, by omega, by omega, Or.inr ⟨by omega, by omega, by omega⟩, by omega, by omega, by omega, by omega⟩
  · rw [Int.neg_mul, Int.mul_comm (a / m) m]; omega
  · have e3 : a = a % m + m * (a / m) := by omega
    rw [e3, Int.gcd_comm] at hg
    simpa using hg
/-- The model's rest. -/
theorem rest_emod {n x : Int} (hn : 1 ≤ n) : (x.tmod n + n).tmod n = x % n := by
  have l : (x.tmod n).natAbs < n.natAbs := by rw [Int.natAbs_tmod]; exact Nat.mod_lt _ (by omega)
  have h : 0 ≤ x.tmod n + n := by omega
  rw [Int.tmod_eq_emod_of_nonneg h, Int.add_emod_right]
  have e := Int.tmod_add_mul_tdiv x n
  have e2 : x = x.tmod n + n * x.tdiv n := by omega
  conv => rhs; rw [e2]
  rw [Int.add_mul_emod_self_left]
theorem rest_emod2 {n x : Int} (hn : 1 ≤ n) : (x.tmod n + n) % n = x % n := by
  have l : (x.tmod n).natAbs < n.natAbs := by rw [Int.natAbs_tmod]; exact Nat.mod_lt _ (by omega)
  have h := rest_emod (x := x) hn
  rw [Int.tmod_eq_emod_of_nonneg (by omega)] at h
  exact h
/-- The quotient is bounded. -/
theorem tdiv_bd {a b : Int} (B : Int) (h1 : -B ≤ a) (h2 : a ≤ B) : -B ≤ a.tdiv b ∧ a.tdiv b ≤ B := by
  have : (a.tdiv b).natAbs ≤ a.natAbs := by rw [Int.natAbs_tdiv]; exact Nat.div_le_self _ _
  omega
end Go.Proofs.Ytoenlpkphekbnaa
