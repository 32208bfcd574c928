/-
  Chapter 2's law of corners, its mathematics: the cosine by any mate, cosines of a corner and of the transposed one are inverse modulo the sine, and a unimodular matrix changes neither sine nor cosine (own work).
-/
import Derived.Test.YtoenlpkphekbnaaCorM
namespace Go.Proofs.Ytoenlpkphekbnaa
open Go.ChangeShapes Go.WideShapes Go.ChangeAt Go.RowKit
set_option linter.unusedVariables false
set_option maxRecDepth 100000
set_option linter.unusedSimpArgs false

theorem absI_dvd (D : Int) : ∃ s : Int, absI D = s * D ∧ (s = 1 ∨ s = -1) := by
  unfold absI
  by_cases h : D < 0
  · exact ⟨-1, by omega, .inr rfl⟩
  · exact ⟨1, by omega, .inl rfl⟩
theorem absI_neg (D : Int) : absI (-D) = absI D := by unfold absI; omega
/-- Numbers that differ by a multiple of D leave the same rest modulo the absolute value of D. -/
theorem emod_abs {x y D k : Int} (h : x = y + k * D) : x % absI D = y % absI D := by
  obtain ⟨s, hs, h1⟩ := absI_dvd D
  have : x = y + absI D * (k * s) := by
    rw [hs, h]
    rcases h1 with rfl | rfl <;> grind
  rw [this]
  exact Int.add_mul_emod_self_left y (absI D) (k * s)
/-- The cosine by any mate of the first arm. -/
theorem cos_of {a b c d p q : Int} (h : isCr a b c d = true) (hm : a * q - b * p = 1) : cosI a b c d = (c * q - d * p - 1) % sinI a b c d + 1 := by
  obtain ⟨k0, k1, g0, g1, hd⟩ := isCr_parts h
  obtain ⟨m1, _⟩ := mateI_ok k0 g0
  unfold cosI cosD sinI
  generalize hp : (mateI a b).1 = P at *
  generalize hq : (mateI a b).2 = Q at *
  have e : detP (c, d) (mateI a b) = c * Q - d * P := by unfold detP; rw [hp, hq]
  have e2 : detP (a, b) (c, d) = a * d - b * c := rfl
  rw [e, e2]
  congr 1
  refine emod_abs (k := p * Q - q * P) ?_
  have h1 : c * Q - d * P = (c * Q - d * P) * (a * q - b * p) := by rw [hm]; grind
  have h2 : c * q - d * p = (c * q - d * p) * (a * Q - b * P) := by rw [m1]; grind
  rw [h1, h2]
  grind
theorem sin_swap (a b c d : Int) : sinI c d a b = sinI a b c d := by
  unfold sinI
  have e : detP (c, d) (a, b) = -detP (a, b) (c, d) := by unfold detP; dsimp only; grind
  rw [e, absI_neg]
/-- The cosines of a corner and of the transposed one. -/
theorem cos_swap {a b c d : Int} (h : isCr a b c d = true) (h' : isCr c d a b = true) : cosI a b c d * cosI c d a b % sinI a b c d = 1 % sinI a b c d := by
  obtain ⟨k0, k1, g0, g1, hd⟩ := isCr_parts h
  obtain ⟨m1, _⟩ := mateI_ok k0 g0
  obtain ⟨n1, _⟩ := mateI_ok k1 g1
  have hs := (sin_pos h).1
  generalize hp : (mateI a b).1 = P at *
  generalize hq : (mateI a b).2 = Q at *
  generalize hp2 : (mateI c d).1 = P2 at *
  generalize hq2 : (mateI c d).2 = Q2 at *
  have c1 := cos_of h m1
  have c2 := cos_of h' n1
  rw [sin_swap] at c2
  have f1 : cosI a b c d = (c * Q - d * P) - sinI a b c d * ((c * Q - d * P - 1) / sinI a b c d) := by
    have := Int.emod_add_mul_ediv (c * Q - d * P - 1) (sinI a b c d)
    omega
  have f2 : cosI c d a b = (a * Q2 - b * P2) - sinI a b c d * ((a * Q2 - b * P2 - 1) / sinI a b c d) := by
    have := Int.emod_add_mul_ediv (a * Q2 - b * P2 - 1) (sinI a b c d)
    omega
  generalize (c * Q - d * P - 1) / sinI a b c d = u at f1
  generalize (a * Q2 - b * P2 - 1) / sinI a b c d = v at f2
  have e2 : detP (a, b) (c, d) = a * d - b * c := rfl
  have hS : sinI a b c d = absI (a * d - b * c) := by unfold sinI; rw [e2]
  obtain ⟨s, hs1, hs2⟩ := absI_dvd (a * d - b * c)
  rw [f1, f2]
  rw [hS] at hs ⊢
  -- the product of the two numbers is 1 and a multiple of the determinant
  have key : (c * Q - d * P) * (a * Q2 - b * P2) = 1 + (a * d - b * c) * (P2 * Q - Q2 * P) := by
    have t1 : (c * Q - d * P) * (a * Q2 - b * P2) = (a * Q - b * P) * (c * Q2 - d * P2) + (a * d - b * c) * (P2 * Q - Q2 * P) := by grind
    rw [t1, m1, n1]; grind
  have kD : a * d - b * c = absI (a * d - b * c) * s := by
    rw [hs1]; rcases hs2 with rfl | rfl <;> grind
  generalize absI (a * d - b * c) = S at *
  generalize c * Q - d * P = X at *
  generalize a * Q2 - b * P2 = Y at *
  have e : (X - S * u) * (Y - S * v) = 1 + S * (s * (P2 * Q - Q2 * P) - X * v - u * Y + S * u * v) := by
    rw [kD] at key
    grind
  rw [e]
  exact Int.add_mul_emod_self_left 1 S _
theorem sin_adj (a b c d : Int) : sinI c d (-a) (-b) = sinI a b c d := by
  unfold sinI
  have e : detP (c, d) (-a, -b) = detP (a, b) (c, d) := by unfold detP; dsimp only; grind
  rw [e]
/-- A unimodular matrix changes neither. -/
theorem move_same {m n r s a b c d : Int} (hu : m * s - n * r = 1 ∨ m * s - n * r = -1) (h : isCr a b c d = true) (h' : isCr (m * a + n * b) (r * a + s * b) (m * c + n * d) (r * c + s * d) = true) :
    sinI (m * a + n * b) (r * a + s * b) (m * c + n * d) (r * c + s * d) = sinI a b c d ∧ cosI (m * a + n * b) (r * a + s * b) (m * c + n * d) (r * c + s * d) = cosI a b c d := by
  obtain ⟨k0, k1, g0, g1, hd⟩ := isCr_parts h
  obtain ⟨m1, _⟩ := mateI_ok k0 g0
  generalize hp : (mateI a b).1 = P at *
  generalize hq : (mateI a b).2 = Q at *
  have e : detP (m * a + n * b, r * a + s * b) (m * c + n * d, r * c + s * d) = (m * s - n * r) * detP (a, b) (c, d) := by unfold detP; dsimp only; grind
  have hS : sinI (m * a + n * b) (r * a + s * b) (m * c + n * d) (r * c + s * d) = sinI a b c d := by
    unfold sinI
    rw [e]
    rcases hu with h1 | h1 <;> rw [h1]
    · rw [Int.one_mul]
    · rw [Int.neg_mul, Int.one_mul, absI_neg]
  refine ⟨hS, ?_⟩
  generalize hE : m * s - n * r = E at *
  have hEE : E * E = 1 := by rcases hu with rfl | rfl <;> rfl
  have hm : (m * a + n * b) * (E * (r * P + s * Q)) - (r * a + s * b) * (E * (m * P + n * Q)) = 1 := by
    have : (m * a + n * b) * (E * (r * P + s * Q)) - (r * a + s * b) * (E * (m * P + n * Q)) = E * ((m * s - n * r) * (a * Q - b * P)) := by grind
    rw [this, hE, m1, Int.mul_one, hEE]
  rw [cos_of h' hm, cos_of h m1, hS]
  have : (m * c + n * d) * (E * (r * P + s * Q)) - (r * c + s * d) * (E * (m * P + n * Q)) = c * Q - d * P := by
    have : (m * c + n * d) * (E * (r * P + s * Q)) - (r * c + s * d) * (E * (m * P + n * Q)) = E * ((m * s - n * r) * (c * Q - d * P)) := by grind
    rw [this, hE, ← Int.mul_assoc, hEE, Int.one_mul]
  rw [this]
end Go.Proofs.Ytoenlpkphekbnaa
