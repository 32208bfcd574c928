/-
  The beginnings of expansions: their fractions fit, and follow from each other (own work, plain numbers).
-/
import Derived.Test.YtibmkmcdggokbaaFrac2
namespace Go.Proofs.Ytibmkmcdggokbaa
set_option linter.unusedVariables false
set_option linter.unusedSimpArgs false

theorem elsB_all {xs : List Int} : ∀ {n : Nat}, (∀ k, k < n → elB xs k = true) → elsB xs n = true
  | 0, _ => rfl
  | n + 1, h => by
    unfold elsB
    rw [elsB_all (fun k hk => h k (by omega)), h n (by omega)]; rfl
/-- The quotient and the rest, as plain facts. -/
theorem dm {p q : Int} (hq : 1 ≤ q) : p = p / q * q + p % q ∧ 0 ≤ p % q ∧ p % q < q := by
  refine ⟨?_, Int.emod_nonneg _ (by omega), Int.emod_lt_of_pos _ (by omega)⟩
  have := Int.emod_add_mul_ediv p q
  rw [Int.mul_comm]; omega
theorem quo_pos {p q : Int} (hq : 1 ≤ q) (h : q < p) : 1 ≤ p / q := by
  rw [Int.le_ediv_iff_mul_le (by omega)]; omega
theorem quo_neg {p q : Int} (hq : 1 ≤ q) (h : p < 0) : p / q ≤ -1 := by
  have : p / q < 0 := Int.ediv_neg_of_neg_of_pos h (by omega)
  omega
/-- A beginning of the expansion of p / q, p greater than q: its numbers are bounded by p and q. -/
theorem ff_beg : ∀ (n : Nat) (p q : Int), 0 ≤ q → q < p → 0 ≤ (ff ((expI p q).take n)).2 ∧ (ff ((expI p q).take n)).2 ≤ q ∧ 0 ≤ (ff ((expI p q).take n)).1 ∧ (ff ((expI p q).take n)).1 ≤ p ∧ (ff ((expI p q).take n)).1 - (ff ((expI p q).take n)).2 ≤ p - q
  | 0, p, q, h0, h1 => by
    rw [List.take_zero]
    unfold ff
    dsimp only
    omega
  | n + 1, p, q, h0, h1 => by
    by_cases hz : q = 0
    · subst hz
      rw [expI_zero, List.take_nil]
      unfold ff
      dsimp only
      omega
    · have hq : 1 ≤ q := by omega
      obtain ⟨d1, d2, d3⟩ := dm (p := p) hq
      have hk := quo_pos hq h1
      rw [expI_step p q hq, List.take_succ_cons]
      obtain ⟨i1, i2, i3, i4, i5⟩ := ff_beg n q (p % q) d2 d3
      unfold ff
      dsimp only
      generalize (ff ((expI q (p % q)).take n)).1 = X at *
      generalize (ff ((expI q (p % q)).take n)).2 = Y at *
      generalize p % q = r at *
      generalize p / q = k at *
      have m0 : 0 ≤ k * X := Int.mul_nonneg (by omega) i3
      have m1 : 0 ≤ k * (q - X) := Int.mul_nonneg (by omega) (by omega)
      have m2 : 0 ≤ (k - 1) * (q - X) := Int.mul_nonneg (by omega) (by omega)
      rw [Int.mul_sub] at m1 m2
      rw [Int.sub_mul, Int.sub_mul] at m2
      refine ⟨i3, i4, by omega, by omega, by omega⟩
/-- Each beginning of an expansion fits. -/
theorem ff_exp (n : Nat) (p q : Int) (hq : 1 ≤ q) (hq2 : q ≤ 1000000) (hp1 : -1000000 ≤ p) (hp2 : p ≤ 1000000) : isPt (ff ((expI p q).take n)) = true := by
  unfold isPt
  rw [Bool.and_eq_true, crd_iff, crd_iff]
  cases n with
  | zero =>
    rw [List.take_zero]
    unfold ff
    dsimp only
    omega
  | succ n =>
    obtain ⟨d1, d2, d3⟩ := dm (p := p) hq
    rw [expI_step p q hq, List.take_succ_cons]
    obtain ⟨i1, i2, i3, i4, i5⟩ := ff_beg n q (p % q) d2 d3
    unfold ff
    dsimp only
    generalize (ff ((expI q (p % q)).take n)).1 = X at *
    generalize (ff ((expI q (p % q)).take n)).2 = Y at *
    by_cases hn : p < 0
    · have hk := quo_neg hq hn
      generalize p % q = r at *
      generalize p / q = k at *
      have m0 : 0 ≤ (-k) * X := Int.mul_nonneg (by omega) i3
      have m2 : 0 ≤ (-k - 1) * (q - X) := Int.mul_nonneg (by omega) (by omega)
      rw [Int.neg_mul] at m0
      rw [Int.mul_sub, Int.sub_mul, Int.sub_mul, Int.neg_mul, Int.neg_mul] at m2
      omega
    · have hk : 0 ≤ p / q := Int.ediv_nonneg (by omega) (by omega)
      generalize p % q = r at *
      generalize p / q = k at *
      have m0 : 0 ≤ k * X := Int.mul_nonneg (by omega) i3
      have m1 : 0 ≤ k * (q - X) := Int.mul_nonneg (by omega) (by omega)
      rw [Int.mul_sub] at m1
      omega
theorem okF_exp : ∀ (n : Nat) (p q : Int), 0 ≤ q → q ≤ 1000000 → -1000000 ≤ p → p ≤ 1000000 → okF ((expI p q).take n) = true
  | 0, _, _, _, _, _, _ => by rw [List.take_zero]; rfl
  | n + 1, p, q, h0, hq2, hp1, hp2 => by
    by_cases hz : q = 0
    · subst hz
      rw [expI_zero, List.take_nil]; rfl
    · have hq : 1 ≤ q := by omega
      obtain ⟨d1, d2, d3⟩ := dm (p := p) hq
      have e := ff_exp (n + 1) p q hq hq2 hp1 hp2
      rw [expI_step p q hq, List.take_succ_cons] at e ⊢
      unfold okF
      rw [okF_exp n q (p % q) d2 (by omega) (by omega) hq2, e]; rfl
/-- The numbers of an expansion are as the fraction of a list asks. -/
theorem exp_el : ∀ (k : Nat) (p q : Int), 1 ≤ q → q ≤ 1000000 → -1000000 ≤ p → p ≤ 1000000 → k < (expI p q).length → -1000000 ≤ (expI p q).getD k 0 ∧ (expI p q).getD k 0 ≤ 1000000 ∧ ((0 < k ∨ q < p) → 1 ≤ (expI p q).getD k 0)
  | 0, p, q, hq, hq2, hp1, hp2, _ => by
    obtain ⟨d1, d2, d3⟩ := dm (p := p) hq
    rw [expI_step p q hq, List.getD_cons_zero]
    by_cases hn : p < 0
    · have hk := quo_neg hq hn
      have m2 : 0 ≤ (-(p / q) - 1) * (q - 1) := Int.mul_nonneg (by omega) (by omega)
      rw [Int.mul_sub, Int.sub_mul, Int.neg_mul] at m2
      exact ⟨by omega, by omega, fun h => by omega⟩
    · have hk : 0 ≤ p / q := Int.ediv_nonneg (by omega) (by omega)
      have := Int.ediv_le_self q (show 0 ≤ p by omega)
      exact ⟨by omega, by omega, fun h => quo_pos hq (by omega)⟩
  | k + 1, p, q, hq, hq2, hp1, hp2, hl => by
    obtain ⟨d1, d2, d3⟩ := dm (p := p) hq
    rw [expI_step p q hq] at hl ⊢
    rw [List.getD_cons_succ]
    rw [List.length_cons] at hl
    by_cases hz : p % q = 0
    · rw [hz, expI_zero] at hl
      simp at hl
    · obtain ⟨a, b, c⟩ := exp_el k q (p % q) (by omega) (by omega) (by omega) hq2 (by omega)
      exact ⟨a, b, fun _ => c (Or.inr d3)⟩
theorem elsB_exp (n : Nat) (p q : Int) (hq : 1 ≤ q) (hq2 : q ≤ 1000000) (hp1 : -1000000 ≤ p) (hp2 : p ≤ 1000000) : elsB ((expI p q).take n) ((expI p q).take n).length = true := by
  refine elsB_all fun k hk => ?_
  have hk2 : k < n ∧ k < (expI p q).length := by
    rw [List.length_take] at hk; omega
  have e : ((expI p q).take n).getD k 0 = (expI p q).getD k 0 := by
    simp [List.getD, List.getElem?_take, hk2.1]
  obtain ⟨a, b, c⟩ := exp_el k p q hq hq2 hp1 hp2 hk2.2
  unfold elB
  rw [e, crd_iff.2 ⟨a, b⟩]
  by_cases h0 : k = 0
  · simp [h0]
  · have h1 := c (Or.inl (by omega))
    rw [decide_eq_true h1]; simp
/-- The convergents, from the first number on. -/
def bf (l : List Int) : Int × Int := if l = [] then (0, 1) else ff l.dropLast
theorem ff_two (x y : Int) : ∀ l : List Int, ff (l ++ [x, y]) = ((ff l).1 + y * (ff (l ++ [x])).1, (ff l).2 + y * (ff (l ++ [x])).2)
  | [] => by
    simp only [List.nil_append, ff]
    refine Prod.ext ?_ ?_
    · dsimp only; rw [Int.mul_comm]; simp; omega
    · dsimp only; simp
  | z :: l => by
    simp only [List.cons_append]
    unfold ff
    rw [ff_two x y l]
    dsimp only
    refine Prod.ext ?_ rfl
    dsimp only
    rw [Int.mul_add, Int.mul_add, Int.mul_left_comm]
    omega
theorem ff_snoc (l : List Int) (y : Int) : ff (l ++ [y]) = ((bf l).1 + y * (ff l).1, (bf l).2 + y * (ff l).2) := by
  rcases List.eq_nil_or_concat l with rfl | ⟨m, x, rfl⟩
  · simp [bf, ff]
  · have e : m.concat x ++ [y] = m ++ [x, y] := by simp
    rw [e, ff_two]
    have e2 : bf (m.concat x) = ff m := by
      unfold bf
      rw [if_neg (by simp)]
      simp
    rw [e2, List.concat_eq_append]
theorem bf_snoc (l : List Int) (y : Int) : bf (l ++ [y]) = ff l := by
  unfold bf
  rw [if_neg (by simp)]
  simp
theorem take_snoc {xs : List Int} {k : Nat} (h : k < xs.length) : xs.take (k + 1) = xs.take k ++ [xs.getD k 0] := by
  rw [List.take_succ_eq_append_getElem h]
  simp [List.getD, h]
/-- The points of all beginnings. -/
def cvs (xs : List Int) (n : Nat) : List (Int × Int) := (List.range n).map (fun i => ff (xs.take (i + 1)))
theorem cvs_len (xs : List Int) (n : Nat) : (cvs xs n).length = n := by simp [cvs]
theorem cvs_succ (xs : List Int) (n : Nat) : cvs xs (n + 1) = cvs xs n ++ [ff (xs.take (n + 1))] := by simp [cvs, List.range_succ]
end Go.Proofs.Ytibmkmcdggokbaa
