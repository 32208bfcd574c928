/-
  Distances of fractions as plain numbers (own work).
-/
import Derived.Test.YtohnmogejidpdabDoorFrM
namespace Go.Proofs.YtohnmogejidpdabDoor
open Go.ChangeShapes Go.WideShapes Go.ChangeAt Go.RowKit
set_option linter.unusedVariables false
set_option maxRecDepth 100000
set_option linter.unusedSimpArgs false

theorem gcd_one_of {u v s t : Int} (h : s * u + t * v = 1) : Int.gcd u v = 1 := by
  have h1 : (Int.gcd u v : Int) ∣ u := Int.gcd_dvd_left ..
  have h2 : (Int.gcd u v : Int) ∣ v := Int.gcd_dvd_right ..
  have h3 : (Int.gcd u v : Int) ∣ 1 := by
    rw [← h]
    exact Int.dvd_add (Int.dvd_mul_of_dvd_right h1) (Int.dvd_mul_of_dvd_right h2)
  have h4 : Int.gcd u v ∣ 1 := by
    have := Int.natAbs_dvd_natAbs.2 h3
    simpa using this
  exact Nat.dvd_one.1 h4
/-- A fraction, led by the matrix that leads (a, b) to (1, 0), (x, y) being its mate: primitive again, and led back. -/
theorem mv_back {a b x y c d : Int} (h : a * y - b * x = 1) : a * (y * c + -x * d) + x * (-b * c + a * d) = c ∧ b * (y * c + -x * d) + y * (-b * c + a * d) = d := by
  constructor
  · have : (a * y - b * x) * c = c := by rw [h, Int.one_mul]
    grind
  · have : (a * y - b * x) * d = d := by rw [h, Int.one_mul]
    grind
theorem mv_gcd {a b x y c d : Int} (h : a * y - b * x = 1) (hg : Int.gcd c d = 1) : Int.gcd (y * c + -x * d) (-b * c + a * d) = 1 := by
  obtain ⟨s, t, hst⟩ := bez_int c d
  rw [hg] at hst
  obtain ⟨e1, e2⟩ := mv_back (c := c) (d := d) h
  generalize y * c + -x * d = U at *
  generalize -b * c + a * d = V at *
  apply gcd_one_of (s := s * a + t * b) (t := s * x + t * y)
  have : s * (a * U + x * V) + t * (b * U + y * V) = 1 := by rw [e1, e2]; exact hst
  grind
theorem fr_gcd (u v : Int) : Int.gcd (frX u v) (frY u v) = Int.gcd u v := by
  unfold frX frY
  split <;> simp
/-- The fraction of a primitive point. -/
theorem fr_form {u v : Int} (hg : Int.gcd u v = 1) : 0 ≤ frY u v ∧ (frY u v = 0 → frX u v = 1) := by
  unfold frX frY ngt
  by_cases hv : v < 0
  · simp [hv]; omega
  · by_cases h0 : v = 0
    · subst h0
      simp at hg
      by_cases hu : u < 0
      · simp [hu]; omega
      · simp [hu]; omega
    · simp [hv, h0]; omega

/-- What the matrix for (a, b) makes of (c, d), as it stands, and as a fraction. -/
def mvU (a b c d : Int) : Int := (mateI a b).2 * c + -(mateI a b).1 * d
def mvV (a b c d : Int) : Int := -b * c + a * d
def mvX (a b c d : Int) : Int := frX (mvU a b c d) (mvV a b c d)
def mvY (a b c d : Int) : Int := frY (mvU a b c d) (mvV a b c d)
theorem mv_prim {a b c d : Int} (h : isFr a b = true) (k : isFr c d = true) : Int.gcd (mvX a b c d) (mvY a b c d) = 1 ∧ 0 ≤ mvY a b c d ∧ (mvY a b c d = 0 → mvX a b c d = 1) := by
  have hm := (mateI_ok (isFr_pt h) (isFr_gcd h)).1
  have hg : Int.gcd c d = 1 := by have := isFr_gcd k; unfold gcdI at this; omega
  have e := mv_gcd hm hg
  unfold mvX mvY
  rw [fr_gcd]
  exact ⟨e, fr_form e⟩
theorem mv_same {a b : Int} (h : isFr a b = true) : mvX a b a b = 1 ∧ mvY a b a b = 0 := by
  have hm := (mateI_ok (isFr_pt h) (isFr_gcd h)).1
  have e1 : mvV a b a b = 0 := by unfold mvV; rw [Int.neg_mul, Int.mul_comm b a]; omega
  have e2 : mvU a b a b = 1 := by
    unfold mvU
    rw [Int.neg_mul, Int.mul_comm _ a, Int.mul_comm _ b]; omega
  unfold mvX mvY
  rw [e1, e2]
  exact ⟨rfl, rfl⟩
theorem mv_zero {a b c d : Int} (h : isFr a b = true) (k : isFr c d = true) (hv : mvY a b c d = 0) : a = c ∧ b = d := by
  have hm := (mateI_ok (isFr_pt h) (isFr_gcd h)).1
  have hg : Int.gcd c d = 1 := by have := isFr_gcd k; unfold gcdI at this; omega
  have e := mv_gcd hm hg
  obtain ⟨e1, e2⟩ := mv_back (c := c) (d := d) hm
  have hV : mvV a b c d = 0 := by
    unfold mvY frY at hv
    split at hv <;> omega
  have hV' : -b * c + a * d = 0 := hV
  rw [hV'] at e e1 e2
  rw [Int.mul_zero, Int.add_zero] at e1 e2
  generalize (mateI a b).2 * c + -(mateI a b).1 * d = U at *
  have hU : U = 1 ∨ U = -1 := by simp at e; omega
  obtain ⟨p0, p1⟩ := isFr_pos h
  obtain ⟨q0, q1⟩ := isFr_pos k
  rcases hU with rfl | rfl
  · constructor <;> omega
  · have hb : b = 0 := by omega
    have hd : d = 0 := by omega
    have := p1 hb
    have := q1 hd
    omega
/-- The level of P / Q. -/
def lvl (P Q : Int) : Int := lvP (expI P Q) 1 0
theorem lvl_zero (P : Int) : lvl P 0 = 0 := by unfold lvl; rw [expI_zero]; rfl
theorem lvl_one (P : Int) : lvl P 1 = 1 := by
  unfold lvl
  rw [expI_step P 1 (by decide)]
  have : P % 1 = 0 := by omega
  rw [this, expI_zero, lvP, lvP]
  split <;> rfl
theorem lvP_bd : ∀ (l : List Int) (b x : Int), 0 ≤ b → 0 ≤ x → 0 ≤ lvP l b x ∧ lvP l b x ≤ max b x + l.length
  | [], b, x, h, k => by simp [lvP]; omega
  | n :: l, b, x, h, k => by
    have := lvP_bd l x (if n = 1 then min b x + 1 else x + 1) k (by split <;> omega)
    rw [lvP]
    simp only [List.length_cons]
    constructor
    · exact this.1
    · have h2 := this.2
      have : (if n = 1 then min b x + 1 else x + 1) ≤ max b x + 1 := by split <;> omega
      omega
end Go.Proofs.YtohnmogejidpdabDoor
