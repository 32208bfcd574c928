/-
  Unimodular images of corners are corners (own work).
-/
import Derived.Test.YtoenlpkphekbnaaCoA
import Derived.Test.YtoenlpkphekbnaaMove2
import Derived.Test.YtoenlpkphekbnaaRight2
namespace Go.Proofs.Ytoenlpkphekbnaa
open Go.ChangeShapes Go.WideShapes Go.ChangeAt Go.RowKit
set_option linter.unusedVariables false
set_option maxRecDepth 100000
set_option linter.unusedSimpArgs false
set_option maxRecDepth 100000

theorem gcd_bez {x y u v : Int} (h : x * u - y * v = 1) : gcdI x y = 1 := by
  have d1 : gcdI x y ∣ x := by unfold gcdI; exact Int.gcd_dvd_left ..
  have d2 : gcdI x y ∣ y := by unfold gcdI; exact Int.gcd_dvd_right ..
  have d3 : gcdI x y ∣ 1 := by rw [← h]; exact Int.dvd_sub (Int.dvd_trans d1 (Int.dvd_mul_right x u)) (Int.dvd_trans d2 (Int.dvd_mul_right y v))
  have p : 0 ≤ gcdI x y := by unfold gcdI; omega
  exact Int.eq_one_of_dvd_one p d3
theorem unit_det {m n r s : Int} (h : unitB m n r s = true) : m * s - n * r = 1 ∨ m * s - n * r = -1 := by
  unfold unitB absI at h
  have e : detP (m, n) (r, s) = m * s - n * r := by unfold detP; rfl
  rw [e] at h
  have h := beq_iff_eq.1 h
  omega
theorem img_gcd {m n r s a b : Int} (hu : m * s - n * r = 1 ∨ m * s - n * r = -1) (k : isPt (a, b) = true) (g : gcdI a b = 1) : gcdI (m * a + n * b) (r * a + s * b) = 1 := by
  obtain ⟨m1, _⟩ := mateI_ok k g
  generalize (mateI a b).1 = P at *
  generalize (mateI a b).2 = Q at *
  rcases hu with h | h
  · exact gcd_bez (u := s * Q + r * P) (v := n * Q + m * P) (by grind)
  · exact gcd_bez (u := -(s * Q + r * P)) (v := -(n * Q + m * P)) (by grind)
theorem img_cr {m n r s a b c d : Int} (hu : unitB m n r s = true) (h : isCr a b c d = true) (hv : mvB m n r s a b c d = true) :
    isCr (img m n r s a b).1 (img m n r s a b).2 (img m n r s c d).1 (img m n r s c d).2 = true := by
  obtain ⟨k0, k1, g0, g1, hd⟩ := isCr_parts h
  have hd' := unit_det hu
  simp only [mvB, Bool.and_eq_true] at hv
  obtain ⟨v0, v1⟩ := hv
  refine isCr_mk v0 v1 (img_gcd hd' k0 g0) (img_gcd hd' k1 g1) ?_
  have e : detP (img m n r s a b) (img m n r s c d) = (m * s - n * r) * detP (a, b) (c, d) := by unfold detP img; dsimp only; grind
  show detP ((img m n r s a b).1, (img m n r s a b).2) ((img m n r s c d).1, (img m n r s c d).2) ≠ 0
  rw [show detP ((img m n r s a b).1, (img m n r s a b).2) ((img m n r s c d).1, (img m n r s c d).2) = detP (img m n r s a b) (img m n r s c d) from rfl, e]
  rcases hd' with h | h <;> rw [h] <;> omega
theorem mvC_ok {m n r s a b c d : Int} (h : mvC m n r s a b c d = 0) : isMx m n r s = true ∧ isCr a b c d = true ∧ unitB m n r s = true ∧ mvB m n r s a b c d = true := by
  unfold mvC at h
  split at h
  · rename_i h1
    simp only [Bool.and_eq_true] at h1
    split at h
    · rename_i h2
      split at h
      · rename_i h3; exact ⟨h1.1, h1.2, h2, h3⟩
      · exact absurd h (by decide)
    · exact absurd h (by decide)
  · exact absurd h (by decide)
theorem crC_ok {a b c d : Int} (h : crC a b c d = 0) : isCr a b c d = true ∧ fitC a b c d = true := by
  unfold crC at h
  split at h
  · rename_i h1
    split at h
    · rename_i h2; exact ⟨h1, h2⟩
    · exact absurd h (by decide)
  · exact absurd h (by decide)
/-- A corner and its unimodular image are equal. -/
theorem moved_eq {m n r s a b c d : Int} (h : mvC m n r s a b c d = 0) :
    eqV a b c d (img m n r s a b).1 (img m n r s a b).2 (img m n r s c d).1 (img m n r s c d).2 = true ∧ eqK a b c d (img m n r s a b).1 (img m n r s a b).2 (img m n r s c d).1 (img m n r s c d).2 = 0 := by
  obtain ⟨_, k, u, v⟩ := mvC_ok h
  have ki := img_cr u k v
  obtain ⟨e1, e2⟩ := move_same (unit_det u) k ki
  unfold eqV eqK eqC
  rw [k, ki]
  refine ⟨?_, rfl⟩
  show (true && true && ((cosI a b c d == cosI (m * a + n * b) (r * a + s * b) (m * c + n * d) (r * c + s * d)) && (sinI a b c d == sinI (m * a + n * b) (r * a + s * b) (m * c + n * d) (r * c + s * d)))) = true
  rw [e1, e2]
  simp
/-- What the law asks of a corner, the transposed one and the adjacent one. -/
theorem cos_law {a b c d : Int} (h : crC a b c d = 0) :
    crC c d a b = 0 ∧ crC c d (-a) (-b) = 0 ∧ cr1 a b c d = 0 ∧ (1 ≤ cosI a b c d ∧ cosI a b c d ≤ sinI a b c d ∧ sinI a b c d ≤ 1000000) ∧ (1 ≤ cosI c d a b ∧ cosI c d a b ≤ sinI a b c d) ∧ cosI a b c d * cosI c d a b % sinI a b c d = 1 % sinI a b c d ∧ sinI c d (-a) (-b) = sinI a b c d := by
  obtain ⟨k, f⟩ := crC_ok h
  have k' := isCr_swap k
  have k2 := isCr_adj k
  have f' : fitC c d a b = true := by rw [fitC_iff, sin_swap]; exact fitC_iff.1 f
  have f2 : fitC c d (-a) (-b) = true := by rw [fitC_iff, sin_adj]; exact fitC_iff.1 f
  have b1 := cos_bd k
  have b2 := cos_bd k'
  rw [sin_swap] at b2
  exact ⟨crC_yes k' f', crC_yes k2 f2, cr1_yes k, ⟨b1.1, b1.2, fitC_iff.1 f⟩, ⟨b2.1, b2.2⟩, cos_swap k k', sin_adj a b c d⟩
end Go.Proofs.Ytoenlpkphekbnaa
