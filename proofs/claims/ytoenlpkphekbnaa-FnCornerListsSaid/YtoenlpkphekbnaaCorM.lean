/-
  Chapter 2's corners as plain numbers: mates, sines, cosines (own work).
-/
import Derived.Test.YtoenlpkphekbnaaMtc
namespace Go.Proofs.Ytoenlpkphekbnaa
open Go.ChangeShapes Go.WideShapes Go.ChangeAt Go.RowKit
set_option linter.unusedVariables false
set_option maxRecDepth 100000
set_option linter.unusedSimpArgs false

/-- The first number of the mate of (a, b), for n as the absolute value of a. -/
def mateX (n b : Int) : Int := (-(euN ((b % n).toNat + 1) n (b % n) 0 1)) % n
def mateI (a b : Int) : Int × Int := if a = 0 then (-b, 0) else (mateX (absI a) b, mateY a b (mateX (absI a) b))
theorem mateX_ok {n b : Int} (hm1 : 1 ≤ n) (hg : Int.gcd n b = 1) : MateX n b (mateX n b) := by
  obtain ⟨X, hX⟩ := mateX_ex hm1 hg
  obtain ⟨h1, h2, t, ht⟩ := euN_ok ((b % n).toNat + 1) n (b % n) 0 1 (euc_first hm1 hg) (euc_zero1 hm1 hg) (by omega)
  have e : mateX n b = X := mateX_of hX ht
  rw [e]; exact hX
theorem absI_pos {a : Int} (h : a ≠ 0) : 1 ≤ absI a := by unfold absI; omega
theorem gcd_abs {a b : Int} (hg : gcdI a b = 1) : Int.gcd (absI a) b = 1 := by
  unfold gcdI at hg
  unfold absI
  have : Int.gcd a b = 1 := by omega
  simpa [Int.gcd] using this
/-- The mate's determinant is 1, and it is a point. -/
theorem mateI_ok {a b : Int} (k0 : isPt (a, b) = true) (hg : gcdI a b = 1) : a * (mateI a b).2 - b * (mateI a b).1 = 1 ∧ isPt (mateI a b) = true := by
  obtain ⟨x1, x2⟩ := isPt_c1 k0
  obtain ⟨y1, y2⟩ := isPt_c2 k0
  unfold mateI
  by_cases ha : a = 0
  · subst ha
    have hy : b = 1 ∨ b = -1 := by
      unfold gcdI at hg
      simp at hg
      omega
    rcases hy with rfl | rfl
    · exact ⟨rfl, rfl⟩
    · exact ⟨rfl, rfl⟩
  · rw [if_neg ha]
    have hn1 := absI_pos ha
    have hG := gcd_abs hg
    obtain ⟨m1, m2, t, ht⟩ := mateX_ok hn1 hG
    generalize hX : mateX (absI a) b = X at *
    have hn2 : absI a ≤ 1000000 := by unfold absI; omega
    -- the second number: a divides 1 + b X
    have hd : (1 + b * X).tmod a = 0 := by
      rw [ht]
      have : absI a = a ∨ absI a = -a := by unfold absI; omega
      rcases this with h | h
      · rw [h]; exact Int.mul_tmod_left t a
      · rw [h, Int.mul_neg]
        have e : -(t * a) = (-t) * a := by rw [Int.neg_mul]
        rw [e]; exact Int.mul_tmod_left (-t) a
    have e := Int.tmod_add_mul_tdiv (1 + b * X) a
    rw [hd] at e
    have hY : a * mateY a b X = 1 + b * X := by unfold mateY; omega
    refine ⟨by show a * mateY a b X - b * X = 1; omega, ?_⟩
    have bX : -(1000000 * (absI a - 1)) ≤ b * X ∧ b * X ≤ 1000000 * (absI a - 1) := mul_bd y1 y2 (by omega) (by omega)
    have hb : -1000000 ≤ mateY a b X ∧ mateY a b X ≤ 1000000 := by
      generalize mateY a b X = Y at *
      have k1 : a * Y ≤ 1000000 * absI a := by omega
      have k2 : -(1000000 * absI a) ≤ a * Y := by omega
      have : absI a = a ∨ absI a = -a := by unfold absI; omega
      constructor
      · apply Int.not_lt.1
        intro hlt
        rcases this with h | h
        · rw [h] at k2 hn1
          have : a * Y ≤ a * (-1000001) := Int.mul_le_mul_of_nonneg_left (by omega) (by omega)
          omega
        · rw [h] at k1 hn1
          have : (-a) * Y ≤ (-a) * (-1000001) := Int.mul_le_mul_of_nonneg_left (by omega) (by omega)
          rw [Int.neg_mul, Int.neg_mul] at this
          omega
      · apply Int.not_lt.1
        intro hlt
        rcases this with h | h
        · rw [h] at k1 hn1
          have : a * 1000001 ≤ a * Y := Int.mul_le_mul_of_nonneg_left (by omega) (by omega)
          omega
        · rw [h] at k2 hn1
          have : (-a) * 1000001 ≤ (-a) * Y := Int.mul_le_mul_of_nonneg_left (by omega) (by omega)
          rw [Int.neg_mul, Int.neg_mul] at this
          omega
    show isPt (X, mateY a b X) = true
    unfold isPt
    rw [Bool.and_eq_true]
    exact ⟨crd_iff.2 ⟨by omega, by omega⟩, crd_iff.2 hb⟩

theorem l01Base_mate (a b : Int) (w : World) (k0 : isPt (a, b) = true) (hg : gcdI a b = 1) :
    Calls Try.prog 97 #[.agg #[.int .i64 a, .int .i64 b]] w fun e w' => e = .returned (.agg #[.int .i64 (mateI a b).1, .int .i64 (mateI a b).2]) ∧ Below w.heap.size w w' := by
  unfold mateI
  by_cases ha : a = 0
  · subst ha
    exact l01Base_zero b w k0
  · rw [if_neg ha]
    have hG := gcd_abs hg
    have hX := mateX_ok (absI_pos ha) hG
    by_cases hp : 0 < a
    · have e : absI a = a := by unfold absI; omega
      rw [e] at hG hX ⊢
      exact l01Base_pos a b _ w k0 hp hG hX
    · have e : absI a = -a := by unfold absI; omega
      rw [e] at hG hX ⊢
      exact l01Base_neg a b _ w k0 (by omega) hG hX
theorem MateOf_mate (a b : Int) (w : World) (k0 : isPt (a, b) = true) (hg : gcdI a b = 1) :
    Calls Try.prog 19 #[.agg #[.int .i64 a, .int .i64 b]] w fun e w' => e = .returned (.tuple #[.agg #[.int .i64 (mateI a b).1, .int .i64 (mateI a b).2], .int .i64 0]) ∧ Below w.heap.size w w' := by
  unfold mateI
  by_cases ha : a = 0
  · subst ha
    have hy : b = 1 ∨ b = -1 := by
      unfold gcdI at hg
      simp at hg
      omega
    rcases hy with rfl | rfl
    · exact impl_MateOf_up _ _ w k0 hg rfl
    · exact impl_MateOf_down _ _ w k0 hg rfl rfl
  · rw [if_neg ha]
    exact impl_MateOf_nz a b _ _ w k0 hg ha rfl (mateX_ok (absI_pos ha) (gcd_abs hg))

/-- Corners. -/
def isPr (a b : Int) : Bool := isPt (a, b) && (gcdI a b == 1)
def isCr (a b c d : Int) : Bool := isPr a b && isPr c d && (detP (a, b) (c, d) != 0)
def sinI (a b c d : Int) : Int := absI (detP (a, b) (c, d))
def cosD (a b c d : Int) : Int := detP (c, d) (mateI a b)
def cosI (a b c d : Int) : Int := (cosD a b c d - 1) % sinI a b c d + 1

theorem det_tnC {a b c d : Int} (k0 : isPt (a, b) = true) (k1 : isPt (c, d) = true) : -2000000000000 ≤ detP (a, b) (c, d) ∧ detP (a, b) (c, d) ≤ 2000000000000 := by
  obtain ⟨x1, x2⟩ := isPt_c1 k0
  obtain ⟨y1, y2⟩ := isPt_c2 k0
  obtain ⟨z1, z2⟩ := isPt_c1 k1
  obtain ⟨u1, u2⟩ := isPt_c2 k1
  obtain ⟨p1, p2⟩ := mul_bd (a := a) (b := d) x1 x2 u1 u2
  obtain ⟨q1, q2⟩ := mul_bd (a := b) (b := c) y1 y2 z1 z2
  unfold detP
  simp only
  omega
theorem isCr_parts {a b c d : Int} (h : isCr a b c d = true) : isPt (a, b) = true ∧ isPt (c, d) = true ∧ gcdI a b = 1 ∧ gcdI c d = 1 ∧ detP (a, b) (c, d) ≠ 0 := by
  simp only [isCr, isPr, Bool.and_eq_true, beq_iff_eq, bne_iff_ne] at h
  exact ⟨h.1.1.1, h.1.2.1, h.1.1.2, h.1.2.2, h.2⟩
theorem sin_pos {a b c d : Int} (h : isCr a b c d = true) : 1 ≤ sinI a b c d ∧ sinI a b c d ≤ 2000000000000 := by
  obtain ⟨k0, k1, _, _, hd⟩ := isCr_parts h
  have := det_tnC k0 k1
  unfold sinI absI
  omega
theorem cosD_bd {a b c d : Int} (h : isCr a b c d = true) : -2000000000000 ≤ cosD a b c d ∧ cosD a b c d ≤ 2000000000000 := by
  obtain ⟨k0, k1, g0, _, _⟩ := isCr_parts h
  exact det_tnC (a := c) (b := d) (c := (mateI a b).1) (d := (mateI a b).2) k1 (mateI_ok k0 g0).2
theorem cos_bd {a b c d : Int} (h : isCr a b c d = true) : 1 ≤ cosI a b c d ∧ cosI a b c d ≤ sinI a b c d := by
  obtain ⟨s1, s2⟩ := sin_pos h
  have h1 := Int.emod_nonneg (cosD a b c d - 1) (by omega : sinI a b c d ≠ 0)
  have h2 := Int.emod_lt_of_pos (cosD a b c d - 1) (by omega : 0 < sinI a b c d)
  unfold cosI
  omega
/-- The model's cosine. -/
theorem pred_emod {t s : Int} (hs : 1 ≤ s) : (t - 1) % s + 1 = if t % s = 0 then s else t % s := by
  have e := Int.emod_add_mul_ediv t s
  have h1 := Int.emod_nonneg t (by omega : s ≠ 0)
  have h2 := Int.emod_lt_of_pos t (by omega : 0 < s)
  generalize t % s = r at *
  generalize t / s = q at *
  split
  · have := (Int.ediv_emod_unique (a := t - 1) (b := s) (r := s - 1) (q := q - 1) (by omega)).2 ⟨by rw [Int.mul_sub]; omega, by omega, by omega⟩
    omega
  · have := (Int.ediv_emod_unique (a := t - 1) (b := s) (r := r - 1) (q := q) (by omega)).2 ⟨by omega, by omega, by omega⟩
    omega
/-- Whether the corner's numbers fit. -/
def fitC (a b c d : Int) : Bool := decide (sinI a b c d ≤ 1000000)
/-- The code of corners whose sines must not be too great. -/
def crC (a b c d : Int) : Int := if isCr a b c d = true then (if fitC a b c d = true then 0 else 3) else 1
theorem crC_no {a b c d : Int} (h : isCr a b c d = false) : crC a b c d = 1 := by unfold crC; rw [h]; rfl
theorem crC_limit {a b c d : Int} (h : isCr a b c d = true) (k : fitC a b c d = false) : crC a b c d = 3 := by unfold crC; rw [h, k]; rfl
theorem crC_yes {a b c d : Int} (h : isCr a b c d = true) (k : fitC a b c d = true) : crC a b c d = 0 := by unfold crC; rw [h, k]; rfl
theorem fitC_iff {a b c d : Int} : fitC a b c d = true ↔ sinI a b c d ≤ 1000000 := by simp [fitC]
theorem fitC_not {a b c d : Int} : fitC a b c d = false ↔ 1000000 < sinI a b c d := by simp [fitC]
theorem norm_pt {a b c d : Int} (h : isCr a b c d = true) (k : fitC a b c d = true) : isPt (cosI a b c d, sinI a b c d) = true := by
  have := cos_bd h
  have := sin_pos h
  have := fitC_iff.1 k
  unfold isPt
  rw [Bool.and_eq_true]
  exact ⟨crd_iff.2 ⟨by omega, by omega⟩, crd_iff.2 ⟨by omega, by omega⟩⟩
theorem norm_npt {a b c d : Int} (h : isCr a b c d = true) (k : fitC a b c d = false) : isPt (cosI a b c d, sinI a b c d) = false := by
  have := fitC_not.1 k
  have hc : crd (sinI a b c d) = false := by
    cases hq : crd (sinI a b c d)
    · rfl
    · have := crd_iff.1 hq; omega
  simp [isPt, hc]
end Go.Proofs.Ytoenlpkphekbnaa
