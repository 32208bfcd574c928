/-
  Paths of fractions as plain numbers and bytes (own work).
-/
import Derived.Test.YtohnmogejidpdabDoorFrM
namespace Go.Proofs.YtohnmogejidpdabDoor
open Go.ChangeShapes Go.WideShapes Go.ChangeAt Go.RowKit
set_option linter.unusedVariables false
set_option maxRecDepth 100000
set_option linter.unusedSimpArgs false

/-- The letters of the path of p / q, if they are at most n. -/
def ptN : Nat → Int → Int → Option (List UInt8)
  | 0, p, q => if p = q then some [] else none
  | n + 1, p, q => if p = q then some [] else if p < q then (ptN n p (q - p)).map (76 :: ·) else (ptN n (p - q) q).map (82 :: ·)
theorem ptN_end (n : Nat) (p : Int) : ptN n p p = some [] := by cases n <;> simp [ptN]
theorem ptN_none {p q : Int} (h : p ≠ q) : ptN 0 p q = none := by simp [ptN, h]
theorem ptN_L {n : Nat} {p q : Int} (h : p < q) : ptN (n + 1) p q = (ptN n p (q - p)).map (76 :: ·) := by rw [ptN, if_neg (by omega), if_pos h]
theorem ptN_R {n : Nat} {p q : Int} (h : q < p) : ptN (n + 1) p q = (ptN n (p - q) q).map (82 :: ·) := by rw [ptN, if_neg (by omega), if_neg (by omega)]
theorem ptN_len : ∀ (n : Nat) (p q : Int) (l : List UInt8), ptN n p q = some l → l.length ≤ n
  | 0, p, q, l, h => by
    unfold ptN at h
    split at h
    · cases h; simp
    · cases h
  | n + 1, p, q, l, h => by
    unfold ptN at h
    split at h
    · cases h; simp
    · split at h
      · obtain ⟨k, hk, rfl⟩ := Option.map_eq_some_iff.1 h
        have := ptN_len n _ _ k hk
        simp; omega
      · obtain ⟨k, hk, rfl⟩ := Option.map_eq_some_iff.1 h
        have := ptN_len n _ _ k hk
        simp; omega
theorem map_pre (pre : List UInt8) (b : UInt8) (o : Option (List UInt8)) : (o.map (b :: ·)).map (pre ++ ·) = o.map ((pre ++ [b]) ++ ·) := by cases o <;> simp
/-- Where the walk down the tree stands: (P, Q) is x times the fraction less and y times the one greater together. -/
def Sp (P Q l0 l1 r0 r1 x y : Int) : Prop := P = x * l0 + y * r0 ∧ Q = x * l1 + y * r1 ∧ l0 * r1 - l1 * r0 = -1 ∧ 1 ≤ x ∧ 1 ≤ y ∧ 0 ≤ l0 ∧ 0 ≤ l1 ∧ 0 ≤ r0 ∧ 0 ≤ r1
theorem sp_det {P Q l0 l1 r0 r1 x y : Int} (h : Sp P Q l0 l1 r0 r1 x y) : P * (l1 + r1) - Q * (l0 + r0) = y - x := by
  obtain ⟨h1, h2, h3, _⟩ := h
  have e : P * (l1 + r1) - Q * (l0 + r0) = (y - x) * -(l0 * r1 - l1 * r0) := by rw [h1, h2]; grind
  rw [e, h3]; omega
theorem sp_right {P Q l0 l1 r0 r1 x y : Int} (h : Sp P Q l0 l1 r0 r1 x y) (k : x < y) : Sp P Q (l0 + r0) (l1 + r1) r0 r1 x (y - x) := by
  obtain ⟨h1, h2, h3, h4, h5, h6, h7, h8, h9⟩ := h
  refine ⟨by rw [h1]; grind, by rw [h2]; grind, by rw [← h3]; grind, h4, by omega, by omega, by omega, h8, h9⟩
theorem sp_left {P Q l0 l1 r0 r1 x y : Int} (h : Sp P Q l0 l1 r0 r1 x y) (k : y < x) : Sp P Q l0 l1 (l0 + r0) (l1 + r1) (x - y) y := by
  obtain ⟨h1, h2, h3, h4, h5, h6, h7, h8, h9⟩ := h
  refine ⟨by rw [h1]; grind, by rw [h2]; grind, by rw [← h3]; grind, by omega, h5, h6, h7, by omega, by omega⟩
theorem le_mulp {x a : Int} (hx : 1 ≤ x) (ha : 0 ≤ a) : a ≤ x * a := by
  have := Int.mul_le_mul_of_nonneg_right hx ha
  omega
theorem sp_bd {P Q l0 l1 r0 r1 x y : Int} (h : Sp P Q l0 l1 r0 r1 x y) : l0 + r0 ≤ P ∧ l1 + r1 ≤ Q := by
  obtain ⟨h1, h2, h3, h4, h5, h6, h7, h8, h9⟩ := h
  have a1 := le_mulp h4 h6
  have a2 := le_mulp h5 h8
  have a3 := le_mulp h4 h7
  have a4 := le_mulp h5 h9
  omega
theorem sp_end {P Q l0 l1 r0 r1 x y : Int} (h : Sp P Q l0 l1 r0 r1 x y) (hg : Int.gcd P Q = 1) : (x = y) ↔ (l0 + r0 = P ∧ l1 + r1 = Q) := by
  obtain ⟨h1, h2, h3, h4, h5, h6, h7, h8, h9⟩ := h
  constructor
  · rintro rfl
    have e1 : P = x * (l0 + r0) := by rw [h1, Int.mul_add]
    have e2 : Q = x * (l1 + r1) := by rw [h2, Int.mul_add]
    have d : x ∣ (Int.gcd P Q : Int) := Int.dvd_coe_gcd ⟨_, e1⟩ ⟨_, e2⟩
    rw [hg] at d
    have hx : x = 1 := by
      have := Int.eq_one_of_dvd_one (by omega) d
      exact this
    subst hx
    omega
  · rintro ⟨e1, e2⟩
    have k1 : (x - 1) * l0 + (y - 1) * r0 = 0 := by rw [Int.sub_mul, Int.sub_mul]; omega
    have k2 : (x - 1) * l1 + (y - 1) * r1 = 0 := by rw [Int.sub_mul, Int.sub_mul]; omega
    have n1 : 0 ≤ (x - 1) * l0 := Int.mul_nonneg (by omega) h6
    have n2 : 0 ≤ (y - 1) * r0 := Int.mul_nonneg (by omega) h8
    have n3 : 0 ≤ (x - 1) * l1 := Int.mul_nonneg (by omega) h7
    have n4 : 0 ≤ (y - 1) * r1 := Int.mul_nonneg (by omega) h9
    have z1 : (x - 1) * l0 = 0 := by omega
    have z2 : (y - 1) * r0 = 0 := by omega
    have z3 : (x - 1) * l1 = 0 := by omega
    have z4 : (y - 1) * r1 = 0 := by omega
    have hx : x = 1 := by
      rcases Int.mul_eq_zero.1 z1 with h | h
      · omega
      · rcases Int.mul_eq_zero.1 z3 with h' | h'
        · omega
        · rw [h, h'] at h3; omega
    have hy : y = 1 := by
      rcases Int.mul_eq_zero.1 z2 with h | h
      · omega
      · rcases Int.mul_eq_zero.1 z4 with h' | h'
        · omega
        · rw [h, h'] at h3; omega
    rw [hx, hy]
theorem sp_first {P Q : Int} (hP : 1 ≤ P) (hQ : 1 ≤ Q) : Sp P Q 0 1 1 0 Q P := by
  refine ⟨by omega, by omega, by omega, hQ, hP, by omega, by omega, by omega, by omega⟩
/-- The path's bytes and code. -/
def paB (a b : Int) : ByteArray := match ptN 60 a b with | some l => ⟨l.toArray⟩ | none => ⟨#[]⟩
def paC (a b : Int) : Int := match ptN 60 a b with | some _ => 0 | none => 3
theorem pa_some {a b : Int} {l : List UInt8} (h : ptN 60 a b = some l) : paB a b = ⟨l.toArray⟩ ∧ paC a b = 0 := by unfold paB paC; rw [h]; exact ⟨rfl, rfl⟩
theorem pa_none {a b : Int} (h : ptN 60 a b = none) : paB a b = ⟨#[]⟩ ∧ paC a b = 3 := by unfold paB paC; rw [h]; exact ⟨rfl, rfl⟩
end Go.Proofs.YtohnmogejidpdabDoor
