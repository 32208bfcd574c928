/-
  What unimodular matrices keep (own work).
-/
import Derived.Test.YtoenlpkphekbnaaAlg4
import Derived.Test.YtoenlpkphekbnaaMat
namespace Go.Proofs.Ytoenlpkphekbnaa
open Go.ChangeShapes Go.WideShapes Go.ChangeAt Go.RowKit
set_option linter.unusedVariables false
set_option maxRecDepth 100000
set_option linter.unusedSimpArgs false
set_option maxRecDepth 100000

theorem unit_abs {D : Int} (h : D = 1 ∨ D = -1) (x : Int) : absI (D * x) = absI x := by
  unfold absI
  rcases h with rfl | rfl <;> simp <;> split <;> split <;> omega
/-- The area of an image. -/
theorem area_img {p q r t D : Int} (hD : D = 1 ∨ D = -1) (hd : p * t - q * r = D) (x0 y0 x1 y1 x2 y2 : Int) :
    areaP (p * x0 + q * y0, r * x0 + t * y0) (p * x1 + q * y1, r * x1 + t * y1) (p * x2 + q * y2, r * x2 + t * y2) = areaP (x0, y0) (x1, y1) (x2, y2) := by
  unfold areaP
  rw [← unit_abs hD (detP (_ , _) (_ , _))]
  congr 1
  unfold detP
  dsimp only
  rw [← hd]
  grind
theorem gcd_dvd_lin (a b m n r s : Int) : gcdI a b ∣ gcdI (m * a + n * b) (r * a + s * b) := by
  have d1 : gcdI a b ∣ a := by unfold gcdI; exact Int.gcd_dvd_left ..
  have d2 : gcdI a b ∣ b := by unfold gcdI; exact Int.gcd_dvd_right ..
  have e1 : gcdI a b ∣ m * a + n * b := Int.dvd_add (Int.dvd_trans d1 (Int.dvd_mul_left m a)) (Int.dvd_trans d2 (Int.dvd_mul_left n b))
  have e2 : gcdI a b ∣ r * a + s * b := Int.dvd_add (Int.dvd_trans d1 (Int.dvd_mul_left r a)) (Int.dvd_trans d2 (Int.dvd_mul_left s b))
  unfold gcdI at *
  exact Int.dvd_coe_gcd e1 e2
theorem gcd_nn (a b : Int) : 0 ≤ gcdI a b := by unfold gcdI; omega
/-- The length between images. -/
theorem len_img {p q r t D : Int} (hD : D = 1 ∨ D = -1) (hd : p * t - q * r = D) (x0 y0 x1 y1 : Int) :
    lenP (p * x0 + q * y0, r * x0 + t * y0) (p * x1 + q * y1, r * x1 + t * y1) = lenP (x0, y0) (x1, y1) := by
  unfold lenP
  dsimp only
  obtain ⟨u, hu⟩ : ∃ u, x1 - x0 = u := ⟨_, rfl⟩
  obtain ⟨v, hv⟩ : ∃ v, y1 - y0 = v := ⟨_, rfl⟩
  have e1 : p * x1 + q * y1 - (p * x0 + q * y0) = p * u + q * v := by rw [← hu, ← hv]; grind
  have e2 : r * x1 + t * y1 - (r * x0 + t * y0) = r * u + t * v := by rw [← hu, ← hv]; grind
  rw [e1, e2, hu, hv]
  refine Int.dvd_antisymm (gcd_nn _ _) (gcd_nn _ _) ?_ (gcd_dvd_lin u v p q r t)
  have h := gcd_dvd_lin (p * u + q * v) (r * u + t * v) (D * t) (-(D * q)) (-(D * r)) (D * p)
  have hDD : D * D = 1 := by rcases hD with rfl | rfl <;> rfl
  have f1 : D * t * (p * u + q * v) + -(D * q) * (r * u + t * v) = u := by
    have : D * t * (p * u + q * v) + -(D * q) * (r * u + t * v) = D * (p * t - q * r) * u := by grind
    rw [this, hd, hDD, Int.one_mul]
  have f2 : -(D * r) * (p * u + q * v) + D * p * (r * u + t * v) = v := by
    have : -(D * r) * (p * u + q * v) + D * p * (r * u + t * v) = D * (p * t - q * r) * v := by grind
    rw [this, hd, hDD, Int.one_mul]
  rwa [f1, f2] at h
/-- The inverse matrix leads back. -/
theorem inv_back {p q r t D : Int} (hD : D = 1 ∨ D = -1) (hd : p * t - q * r = D) (x y : Int) :
    D * t * (p * x + q * y) + -D * q * (r * x + t * y) = x ∧ -D * r * (p * x + q * y) + D * p * (r * x + t * y) = y := by
  have hDD : D * D = 1 := by rcases hD with rfl | rfl <;> rfl
  constructor
  · have : D * t * (p * x + q * y) + -D * q * (r * x + t * y) = D * (p * t - q * r) * x := by grind
    rw [this, hd, hDD, Int.one_mul]
  · have : -D * r * (p * x + q * y) + D * p * (r * x + t * y) = D * (p * t - q * r) * y := by grind
    rw [this, hd, hDD, Int.one_mul]
theorem inv_unit {p q r t D : Int} (hD : D = 1 ∨ D = -1) (hd : p * t - q * r = D) :
    p * (D * t) + q * (-D * r) = 1 ∧ p * (-D * q) + q * (D * p) = 0 ∧ r * (D * t) + t * (-D * r) = 0 ∧ r * (-D * q) + t * (D * p) = 1 := by
  have hDD : D * D = 1 := by rcases hD with rfl | rfl <;> rfl
  refine ⟨?_, by grind, by grind, ?_⟩
  · have : p * (D * t) + q * (-D * r) = D * (p * t - q * r) := by grind
    rw [this, hd, hDD]
  · have : r * (-D * q) + t * (D * p) = D * (p * t - q * r) := by grind
    rw [this, hd, hDD]
theorem crd_neg {x : Int} (h : crd x = true) : crd (-x) = true := by rw [crd_iff] at *; omega
theorem inv_mx {p q r t D : Int} (hD : D = 1 ∨ D = -1) (h : isMx p q r t = true) : isMx (D * t) (-D * q) (-D * r) (D * p) = true := by
  simp only [isMx, isPt, Bool.and_eq_true] at h ⊢
  obtain ⟨⟨h1, h2⟩, h3, h4⟩ := h
  rcases hD with rfl | rfl
  · simp only [Int.one_mul, Int.neg_mul]
    exact ⟨⟨h4, crd_neg h2⟩, crd_neg h3, h1⟩
  · simp only [Int.neg_mul, Int.one_mul, Int.neg_neg]
    exact ⟨⟨crd_neg h4, h2⟩, h3, crd_neg h1⟩
theorem unit_mx : isMx 1 0 0 1 = true := by decide
/-- The distance times the length is the area. -/
theorem dist_len {x0 y0 x1 y1 x2 y2 : Int} (k0 : isPt (x0, y0) = true) (k1 : isPt (x1, y1) = true) (k2 : isPt (x2, y2) = true) (hl : 1 ≤ lenP (x0, y0) (x1, y1)) :
    IntKind.i64.wrap ((areaP (x0, y0) (x1, y1) (x2, y2)).tdiv (lenP (x0, y0) (x1, y1))) * lenP (x0, y0) (x1, y1) = areaP (x0, y0) (x1, y1) (x2, y2) := by
  obtain ⟨a1, a2⟩ := area_bd k0 k1 k2
  have hd : lenP (x0, y0) (x1, y1) ∣ areaP (x0, y0) (x1, y1) (x2, y2) := by
    have d1 : lenP (x0, y0) (x1, y1) ∣ x1 - x0 := by unfold lenP gcdI; exact Int.gcd_dvd_left ..
    have d2 : lenP (x0, y0) (x1, y1) ∣ y1 - y0 := by unfold lenP gcdI; exact Int.gcd_dvd_right ..
    have d3 : lenP (x0, y0) (x1, y1) ∣ detP (x1 - x0, y1 - y0) (x2 - x0, y2 - y0) := by
      unfold detP
      exact Int.dvd_sub (Int.dvd_trans d1 (Int.dvd_mul_right _ _)) (Int.dvd_trans d2 (Int.dvd_mul_right _ _))
    unfold areaP absI
    exact Int.dvd_natAbs.2 d3
  have e1 := Int.mul_tdiv_cancel' hd
  have e2 : 0 ≤ (areaP (x0, y0) (x1, y1) (x2, y2)).tdiv (lenP (x0, y0) (x1, y1)) ∧ (areaP (x0, y0) (x1, y1) (x2, y2)).tdiv (lenP (x0, y0) (x1, y1)) ≤ areaP (x0, y0) (x1, y1) (x2, y2) := by
    generalize areaP (x0, y0) (x1, y1) (x2, y2) = A at *
    generalize lenP (x0, y0) (x1, y1) = L at *
    rw [Int.tdiv_eq_ediv_of_nonneg a1]
    exact ⟨Int.ediv_nonneg a1 (by omega), Int.ediv_le_self L a1⟩
  rw [show IntKind.i64.wrap ((areaP (x0, y0) (x1, y1) (x2, y2)).tdiv (lenP (x0, y0) (x1, y1))) = (areaP (x0, y0) (x1, y1) (x2, y2)).tdiv (lenP (x0, y0) (x1, y1)) by rw [IntKind.wrap_i64]; omega]
  rw [Int.mul_comm, e1]
end Go.Proofs.Ytoenlpkphekbnaa
