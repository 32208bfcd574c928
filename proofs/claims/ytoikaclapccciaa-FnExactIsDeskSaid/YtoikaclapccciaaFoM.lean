/-
  Forms as plain numbers: roots, discriminants, reduced forms, next forms, the first reduced one, cycles (own work).
-/
import Derived.Test.YtoikaclapccciaaAlg2
namespace Go.Proofs.Ytoikaclapccciaa
open Go.ChangeShapes Go.WideShapes Go.ChangeAt Go.RowKit
set_option linter.unusedVariables false
set_option linter.unusedSimpArgs false

/-- The greatest whole number whose square is less than d, looked for from w on. -/
def rtF : Nat → Int → Int → Int
  | 0, w, _ => w
  | n + 1, w, d => if (w + 1) * (w + 1) < d then rtF n (w + 1) d else w
def rtB (d : Int) : Int := rtF 64 0 d
theorem rtF_ok : ∀ (n : Nat) (w d : Int), 0 ≤ w → w * w < d → d ≤ (w + n + 1) * (w + n + 1) → w ≤ rtF n w d ∧ rtF n w d * rtF n w d < d ∧ d ≤ (rtF n w d + 1) * (rtF n w d + 1)
  | 0, w, d, h0, h1, h2 => by
    have e : w + ((0 : Nat) : Int) + 1 = w + 1 := by omega
    rw [e] at h2
    exact ⟨Int.le_refl _, h1, h2⟩
  | n + 1, w, d, h0, h1, h2 => by
    have e : w + ((n + 1 : Nat) : Int) + 1 = (w + 1) + (n : Int) + 1 := by omega
    rw [e] at h2
    unfold rtF
    by_cases h : (w + 1) * (w + 1) < d
    · rw [if_pos h]
      have := rtF_ok n (w + 1) d (by omega) h h2
      exact ⟨by omega, this.2⟩
    · rw [if_neg h]
      exact ⟨Int.le_refl _, h1, by omega⟩
theorem sq_le {a b : Int} (h : 0 ≤ a) (k : a ≤ b) : a * a ≤ b * b := Int.mul_le_mul k k h (by omega)
theorem sq_lt {a b : Int} (h : 0 ≤ b) (k : a * a < b * b) : a < b := by
  apply Int.not_le.1
  intro h2
  have := sq_le h h2
  omega
theorem rtB_ok {d : Int} (h1 : 1 ≤ d) (h2 : d ≤ 4000) : 0 ≤ rtB d ∧ rtB d ≤ 63 ∧ rtB d * rtB d < d ∧ d ≤ (rtB d + 1) * (rtB d + 1) := by
  have := rtF_ok 64 0 d (Int.le_refl _) (by omega) (by simp; omega)
  refine ⟨this.1, ?_, this.2.1, this.2.2⟩
  have h3 : rtB d * rtB d < 64 * 64 := by
    have := this.2.1
    show rtF 64 0 d * rtF 64 0 d < 64 * 64
    omega
  have := sq_lt (by omega) h3
  omega
theorem rtB_eq {w d : Int} (h1 : 1 ≤ d) (h2 : d ≤ 4000) (h3 : 0 ≤ w) (h4 : w * w < d) (h5 : d ≤ (w + 1) * (w + 1)) : rtB d = w := by
  obtain ⟨r0, _, r1, r2⟩ := rtB_ok h1 h2
  have a := sq_lt (a := w) (b := rtB d + 1) (by omega) (by omega)
  have b := sq_lt (a := rtB d) (b := w + 1) (by omega) (by omega)
  omega
/-- The model's root: the greatest whole number whose square is at most d. -/
def rtC (d : Int) : Int := if (rtB d + 1) * (rtB d + 1) = d then rtB d + 1 else rtB d
theorem rtC_eq {k d : Int} (h1 : 1 ≤ d) (h2 : d ≤ 4000) (h3 : 0 ≤ k) (h4 : k * k ≤ d) (h5 : d < (k + 1) * (k + 1)) : rtC d = k := by
  unfold rtC
  by_cases h : k * k = d
  · have hk : 1 ≤ k := by
      apply Int.not_lt.1
      intro hk
      have : k = 0 := by omega
      subst this
      omega
    have e : (k - 1 + 1) = k := by omega
    have hlt : (k - 1) * (k - 1) < d := by
      have : (k - 1) * (k - 1) = k * k - 2 * k + 1 := by grind
      omega
    have : rtB d = k - 1 := rtB_eq h1 h2 (by omega) hlt (by rw [e]; omega)
    rw [this, e, if_pos h]
  · have : rtB d = k := rtB_eq h1 h2 h3 (by omega) (by omega)
    rw [this, if_neg (by omega)]
/-- Whether a number may be a form's discriminant. -/
def isD (d : Int) : Bool := decide (1 ≤ d) && decide (d ≤ 4000) && !(decide ((rtB d + 1) * (rtB d + 1) = d))
theorem isD_parts {d : Int} (h : isD d = true) : 1 ≤ d ∧ d ≤ 4000 ∧ (rtB d + 1) * (rtB d + 1) ≠ d := by
  simp only [isD, Bool.and_eq_true, decide_eq_true_eq, Bool.not_eq_true', decide_eq_false_iff_not] at h
  exact ⟨h.1.1, h.1.2, h.2⟩
theorem isD_lt {d : Int} (h : isD d = true) : d < (rtB d + 1) * (rtB d + 1) := by
  obtain ⟨a, b, c⟩ := isD_parts h
  have := (rtB_ok a b).2.2.2
  omega
theorem rtC_of {d : Int} (h : isD d = true) : rtC d = rtB d := by
  unfold rtC
  rw [if_neg (isD_parts h).2.2]
theorem absI_sq (n : Int) : absI n * absI n = n * n := by
  have h : absI n = n ∨ absI n = -n := by unfold absI; omega
  rcases h with h | h <;> rw [h] <;> grind
theorem absI_nn (n : Int) : 0 ≤ absI n := by unfold absI; omega
theorem absI_le (n : Int) : n ≤ absI n ∧ -n ≤ absI n := by unfold absI; omega
theorem absI_or (n : Int) : absI n = n ∨ absI n = -n := by unfold absI; omega
theorem absI_mul (m n : Int) : absI (m * n) = absI m * absI n := by
  rcases absI_or m with hm | hm <;> rcases absI_or n with hn | hn <;> rw [hm, hn] <;> have h1 := absI_nn m <;> have h2 := absI_nn n <;> rw [hm] at h1 <;> rw [hn] at h2
  · have := Int.mul_nonneg h1 h2
    unfold absI; omega
  · have := Int.mul_nonneg h1 h2
    rw [Int.mul_neg] at this ⊢
    unfold absI; omega
  · have := Int.mul_nonneg h1 h2
    rw [Int.neg_mul] at this ⊢
    unfold absI; omega
  · have := Int.mul_nonneg h1 h2
    rw [Int.neg_mul_neg] at this ⊢
    unfold absI; omega
/-- No square is a form's discriminant. -/
theorem sq_not (n : Int) : isD (n * n) = false := by
  cases h : isD (n * n)
  · rfl
  · obtain ⟨h1, h2, h3⟩ := isD_parts h
    have e := absI_sq n
    have hn := absI_nn n
    generalize absI n = k at *
    have hk : 1 ≤ k := by
      apply Int.not_lt.1
      intro hk
      have : k = 0 := by omega
      subst this
      omega
    have e2 : (k - 1) * (k - 1) = k * k - 2 * k + 1 := by grind
    have e3 : k - 1 + 1 = k := by omega
    have := rtB_eq (w := k - 1) h1 h2 (by omega) (by omega) (by rw [e3]; omega)
    rw [this, e3] at h3
    exact absurd e h3
/-- The discriminant, forms, reduced forms (w: the root). -/
def dsc (a b c : Int) : Int := b * b - 4 * a * c
def isFm (a b c : Int) : Bool := crd a && crd b && crd c && isD (dsc a b c)
def isRd (a b w : Int) : Bool := decide (0 < b) && decide (b ≤ w) && decide (w - b < 2 * absI a) && decide (2 * absI a ≤ w + b)
theorem isRd_iff {a b w : Int} : isRd a b w = true ↔ 0 < b ∧ b ≤ w ∧ w - b < 2 * absI a ∧ 2 * absI a ≤ w + b := by
  simp only [isRd, Bool.and_eq_true, decide_eq_true_eq]
  constructor
  · intro h; exact ⟨h.1.1.1, h.1.1.2, h.1.2, h.2⟩
  · intro h; exact ⟨⟨⟨h.1, h.2.1⟩, h.2.2.1⟩, h.2.2.2⟩
theorem isFm_parts {a b c : Int} (h : isFm a b c = true) : (-1000000 ≤ a ∧ a ≤ 1000000) ∧ (-1000000 ≤ b ∧ b ≤ 1000000) ∧ (-1000000 ≤ c ∧ c ≤ 1000000) ∧ isD (dsc a b c) = true := by
  simp only [isFm, Bool.and_eq_true] at h
  exact ⟨crd_iff.1 h.1.1.1, crd_iff.1 h.1.1.2, crd_iff.1 h.1.2, h.2⟩
theorem isD_ac {a b c : Int} (h : isD (dsc a b c) = true) : a ≠ 0 ∧ c ≠ 0 := by
  constructor
  · rintro rfl
    have : dsc 0 b c = b * b := by unfold dsc; grind
    rw [this, sq_not] at h
    cases h
  · rintro rfl
    have : dsc a b 0 = b * b := by unfold dsc; grind
    rw [this, sq_not] at h
    cases h
/-- The next form. -/
def nxH (w c : Int) : Int := if w < absI c then absI c else w
def nxB (w b c : Int) : Int := nxH w c - (nxH w c + b) % (2 * absI c)
def nxC (d b' c : Int) : Int := (b' * b' - d).tdiv (4 * c)
theorem nxH_ge (w c : Int) : w ≤ nxH w c ∧ absI c ≤ nxH w c := by unfold nxH; split <;> omega
theorem nxB_ok {w b c : Int} (hc : c ≠ 0) : nxH w c - 2 * absI c < nxB w b c ∧ nxB w b c ≤ nxH w c ∧ ∃ q, nxB w b c = 2 * absI c * q - b := by
  have hp : 1 ≤ absI c := by unfold absI; omega
  have h1 := Int.emod_nonneg (nxH w c + b) (by omega : 2 * absI c ≠ 0)
  have h2 := Int.emod_lt_of_pos (nxH w c + b) (by omega : 0 < 2 * absI c)
  have h3 := Int.emod_add_mul_ediv (nxH w c + b) (2 * absI c)
  unfold nxB
  exact ⟨by omega, by omega, (nxH w c + b) / (2 * absI c), by omega⟩
/-- The next form has the same discriminant; its numbers. -/
theorem nx_dsc {a b c w : Int} (h : isD (dsc a b c) = true) : 4 * c * nxC (dsc a b c) (nxB w b c) c = nxB w b c * nxB w b c - dsc a b c := by
  obtain ⟨ha, hc⟩ := isD_ac h
  obtain ⟨_, _, q, hq⟩ := nxB_ok (w := w) (b := b) hc
  obtain ⟨k, hk⟩ : ∃ k, nxB w b c = 2 * c * k - b := by
    rcases absI_or c with h | h
    · exact ⟨q, by rw [hq, h]⟩
    · exact ⟨-q, by rw [hq, h]; grind⟩
  have e : nxB w b c * nxB w b c - dsc a b c = (4 * c) * (a - b * k + c * k * k) := by
    rw [hk]; unfold dsc; grind
  unfold nxC
  rw [e, Int.mul_tdiv_cancel_left _ (by omega)]
theorem nx_same {a b c w : Int} (h : isD (dsc a b c) = true) : dsc c (nxB w b c) (nxC (dsc a b c) (nxB w b c) c) = dsc a b c := by
  have := nx_dsc (w := w) h
  unfold dsc at *
  grind
/-- Its last number: in a step with great |C| less than a quarter of it; else at most a quarter of the discriminant. -/
theorem nx_big {a b c w : Int} (h : isD (dsc a b c) = true) (hw : rtB (dsc a b c) = w) (hb : w < absI c) : 4 * absI (nxC (dsc a b c) (nxB w b c) c) ≤ absI c ∧ -(absI c) < nxB w b c ∧ nxB w b c ≤ absI c := by
  obtain ⟨ha, hc⟩ := isD_ac h
  obtain ⟨d1, d2, d3⟩ := isD_parts h
  have hl := isD_lt h
  obtain ⟨r1, r2, q, hq⟩ := nxB_ok (w := w) (b := b) hc
  have hH : nxH w c = absI c := by unfold nxH; rw [if_pos hb]
  rw [hH] at r1 r2
  have e := nx_dsc (w := w) h
  have hp : 1 ≤ absI c := by unfold absI; omega
  have w0 := (rtB_ok d1 d2).1
  rw [hw] at hl w0
  generalize nxC (dsc a b c) (nxB w b c) c = C at *
  generalize nxB w b c = B at *
  generalize dsc a b c = d at *
  have hd : d ≤ absI c * absI c := by
    have := sq_le (a := w + 1) (b := absI c) (by omega) (by omega)
    omega
  have hB : B * B ≤ absI c * absI c := by
    rw [← absI_sq B]
    exact sq_le (absI_nn B) (by unfold absI at *; omega)
  have hB0 : 0 ≤ B * B := by rw [← absI_sq B]; exact Int.mul_nonneg (absI_nn B) (absI_nn B)
  have hA : absI (4 * c * C) ≤ absI c * absI c := by
    rw [e]; unfold absI at *; omega
  rw [Int.mul_assoc, absI_mul, absI_mul] at hA
  have h4 : absI 4 = 4 := by decide
  rw [h4] at hA
  refine ⟨?_, by omega, r2⟩
  apply Int.not_lt.1
  intro hgt
  have : absI c * (absI c + 1) ≤ absI c * (4 * absI C) := Int.mul_le_mul_of_nonneg_left (by omega) (by omega)
  have e2 : absI c * (4 * absI C) = 4 * (absI c * absI C) := by grind
  rw [e2, Int.mul_add] at this
  omega
theorem nx_small {a b c w : Int} (h : isD (dsc a b c) = true) (hw : rtB (dsc a b c) = w) (hb : absI c ≤ w) :
    w - 2 * absI c < nxB w b c ∧ nxB w b c ≤ w ∧ -w < nxB w b c ∧ 4 * (absI c * absI (nxC (dsc a b c) (nxB w b c) c)) = dsc a b c - nxB w b c * nxB w b c ∧ nxB w b c * nxB w b c < dsc a b c := by
  obtain ⟨ha, hc⟩ := isD_ac h
  obtain ⟨d1, d2, d3⟩ := isD_parts h
  obtain ⟨r1, r2, q, hq⟩ := nxB_ok (w := w) (b := b) hc
  have hH : nxH w c = w := by unfold nxH; rw [if_neg (by omega)]
  rw [hH] at r1 r2
  have e := nx_dsc (w := w) h
  have hp : 1 ≤ absI c := by unfold absI; omega
  obtain ⟨w0, _, w2, _⟩ := rtB_ok d1 d2
  rw [hw] at w0 w2
  generalize nxC (dsc a b c) (nxB w b c) c = C at *
  generalize nxB w b c = B at *
  generalize dsc a b c = d at *
  have hB : B * B < d := by
    have : B * B ≤ w * w := by
      rw [← absI_sq B]
      exact sq_le (absI_nn B) (by unfold absI at *; omega)
    omega
  refine ⟨r1, r2, by omega, ?_, hB⟩
  have hA : absI (4 * c * C) = d - B * B := by
    rw [e]; unfold absI; omega
  rw [Int.mul_assoc, absI_mul, absI_mul] at hA
  exact hA
/-- The next form is a form. -/
theorem nx_form {a b c : Int} (h : isFm a b c = true) : isFm c (nxB (rtB (dsc a b c)) b c) (nxC (dsc a b c) (nxB (rtB (dsc a b c)) b c) c) = true := by
  obtain ⟨ba, bb, bc, hd⟩ := isFm_parts h
  obtain ⟨d1, d2, d3⟩ := isD_parts hd
  obtain ⟨w0, w1, w2, w3⟩ := rtB_ok d1 d2
  have hs := nx_same (w := rtB (dsc a b c)) hd
  obtain ⟨w, hw⟩ : ∃ w, rtB (dsc a b c) = w := ⟨_, rfl⟩
  unfold isFm
  rw [hs, hd]
  rw [hw] at w0 w1 w2 w3 ⊢
  simp only [Bool.and_true, Bool.and_eq_true]
  have hp : 1 ≤ absI c := by have := (isD_ac hd).2; unfold absI; omega
  have hcm : absI c ≤ 1000000 := by unfold absI; omega
  by_cases hb : w < absI c
  · obtain ⟨q1, q2, q3⟩ := nx_big hd hw hb
    have := absI_le (nxC (dsc a b c) (nxB w b c) c)
    exact ⟨⟨crd_iff.2 bc, crd_iff.2 ⟨by omega, by omega⟩⟩, crd_iff.2 ⟨by omega, by omega⟩⟩
  · obtain ⟨q1, q2, q3, q4, q5⟩ := nx_small hd hw (by omega)
    have := absI_le (nxC (dsc a b c) (nxB w b c) c)
    have hn := absI_nn (nxC (dsc a b c) (nxB w b c) c)
    have hB0 : 0 ≤ nxB w b c * nxB w b c := by rw [← absI_sq]; exact Int.mul_nonneg (absI_nn _) (absI_nn _)
    have : 1 * absI (nxC (dsc a b c) (nxB w b c) c) ≤ absI c * absI (nxC (dsc a b c) (nxB w b c) c) := Int.mul_le_mul_of_nonneg_right hp hn
    exact ⟨⟨crd_iff.2 bc, crd_iff.2 ⟨by omega, by omega⟩⟩, crd_iff.2 ⟨by omega, by omega⟩⟩
/-- With C of at most half of the root the next form is reduced. -/
theorem nx_half {a b c w : Int} (h : isD (dsc a b c) = true) (hw : rtB (dsc a b c) = w) (hb : 2 * absI c ≤ w) : isRd c (nxB w b c) w = true := by
  have := absI_nn c
  obtain ⟨q1, q2, q3, q4, q5⟩ := nx_small h hw (by omega)
  exact isRd_iff.2 ⟨by omega, q2, by omega, by omega⟩
theorem nx_mid {a b c w : Int} (h : isD (dsc a b c) = true) (hw : rtB (dsc a b c) = w) (hb : absI c ≤ w) (hb2 : w < 2 * absI c) : 2 * absI (nxC (dsc a b c) (nxB w b c) c) ≤ w := by
  obtain ⟨d1, d2, d3⟩ := isD_parts h
  have hl := isD_lt h
  obtain ⟨q1, q2, q3, q4, q5⟩ := nx_small h hw hb
  have w0 := (rtB_ok d1 d2).1
  rw [hw] at hl w0
  have hB0 : 0 ≤ nxB w b c * nxB w b c := by rw [← absI_sq]; exact Int.mul_nonneg (absI_nn _) (absI_nn _)
  apply Int.not_lt.1
  intro hgt
  have := Int.mul_le_mul (a := w + 1) (b := w + 1) (c := 2 * absI c) (d := 2 * absI (nxC (dsc a b c) (nxB w b c) c)) (by omega) (by omega) (by omega) (by omega)
  have e : 2 * absI c * (2 * absI (nxC (dsc a b c) (nxB w b c) c)) = 4 * (absI c * absI (nxC (dsc a b c) (nxB w b c) c)) := by grind
  omega
/-- In a reduced form, C is as A; the next form of a reduced one is reduced. -/
theorem rd_c {a b c w : Int} (h : isD (dsc a b c) = true) (hw : rtB (dsc a b c) = w) (hr : isRd a b w = true) : w - b < 2 * absI c ∧ 2 * absI c ≤ w + b := by
  obtain ⟨d1, d2, d3⟩ := isD_parts h
  have hl := isD_lt h
  obtain ⟨w0, _, w2, _⟩ := rtB_ok d1 d2
  obtain ⟨p1, p2, p3, p4⟩ := isRd_iff.1 hr
  rw [hw] at hl w0 w2
  have hb : b * b ≤ w * w := sq_le (by omega) p2
  have hac : 4 * a * c = b * b - dsc a b c := by unfold dsc; omega
  have hA : absI (4 * a * c) = dsc a b c - b * b := by rw [hac]; unfold absI; omega
  rw [Int.mul_assoc, absI_mul, absI_mul] at hA
  have h4 : absI 4 = 4 := by decide
  rw [h4] at hA
  have e : 2 * absI a * (2 * absI c) = 4 * (absI a * absI c) := by grind
  have na := absI_nn a
  have nc := absI_nn c
  constructor
  · apply Int.not_le.1
    intro hle
    have := Int.mul_le_mul (a := 2 * absI a) (b := 2 * absI c) (c := w + b) (d := w - b) p4 hle (by omega) (by omega)
    have e2 : (w + b) * (w - b) = w * w - b * b := by grind
    omega
  · apply Int.not_lt.1
    intro hgt
    have := Int.mul_le_mul (a := w + 1 - b) (b := w + 1 + b) (c := 2 * absI a) (d := 2 * absI c) (by omega) (by omega) (by omega) (by omega)
    have e2 : (w + 1 - b) * (w + 1 + b) = (w + 1) * (w + 1) - b * b := by grind
    omega
theorem nx_rd {a b c w : Int} (h : isD (dsc a b c) = true) (hw : rtB (dsc a b c) = w) (hr : isRd a b w = true) : isRd c (nxB w b c) w = true := by
  obtain ⟨p1, p2, p3, p4⟩ := isRd_iff.1 hr
  obtain ⟨c1, c2⟩ := rd_c h hw hr
  obtain ⟨ha, hc⟩ := isD_ac h
  have hp : 1 ≤ absI c := by unfold absI; omega
  obtain ⟨q1, q2, q3, q4, q5⟩ := nx_small h hw (by omega)
  obtain ⟨_, _, q, hq⟩ := nxB_ok (w := w) (b := b) hc
  have hq1 : 1 ≤ q := by
    apply Int.not_lt.1
    intro hlt
    have : 2 * absI c * q ≤ 2 * absI c * 0 := Int.mul_le_mul_of_nonneg_left (by omega) (by omega)
    omega
  have : 2 * absI c * 1 ≤ 2 * absI c * q := Int.mul_le_mul_of_nonneg_left hq1 (by omega)
  exact isRd_iff.2 ⟨by omega, q2, by omega, by omega⟩
/-- Two reduced forms of one discriminant with the same next form are the same. -/
theorem nx_inj {a b c a' b' c' w d : Int} (h : isD d = true) (e1 : dsc a b c = d) (e2 : dsc a' b' c' = d) (hw : rtB d = w) (hr : isRd a b w = true) (hr' : isRd a' b' w = true)
    (hc : c = c') (hB : nxB w b c = nxB w b' c') : a = a' ∧ b = b' ∧ c = c' := by
  subst hc
  have h1 : isD (dsc a b c) = true := by rw [e1]; exact h
  obtain ⟨p1, p2, p3, p4⟩ := isRd_iff.1 hr
  obtain ⟨p1', p2', p3', p4'⟩ := isRd_iff.1 hr'
  obtain ⟨c1, c2⟩ := rd_c h1 (by rw [e1]; exact hw) hr
  obtain ⟨c1', c2'⟩ := rd_c (a := a') (b := b') (c := c) (by rw [e2]; exact h) (by rw [e2]; exact hw) hr'
  obtain ⟨ha, hcc⟩ := isD_ac h1
  have hp : 1 ≤ absI c := by unfold absI; omega
  obtain ⟨_, _, q, hq⟩ := nxB_ok (w := w) (b := b) hcc
  obtain ⟨_, _, q', hq'⟩ := nxB_ok (w := w) (b := b') hcc
  have hbb : b = b' := by
    have e : b - b' = 2 * absI c * (q - q') := by rw [Int.mul_sub]; omega
    have : q - q' = 0 := by
      apply Classical.byContradiction
      intro hne
      rcases Int.lt_or_lt_of_ne hne with hlt | hgt
      · have : 2 * absI c * (q - q') ≤ 2 * absI c * (-1) := Int.mul_le_mul_of_nonneg_left (by omega) (by omega)
        omega
      · have : 2 * absI c * 1 ≤ 2 * absI c * (q - q') := Int.mul_le_mul_of_nonneg_left (by omega) (by omega)
        omega
    rw [this] at e
    omega
  subst hbb
  refine ⟨?_, rfl, rfl⟩
  have : 4 * a * c = 4 * a' * c := by unfold dsc at e1 e2; omega
  have := Int.eq_of_mul_eq_mul_right hcc this
  omega

/-- Forms as triples; the next one; so many times the next one. -/
abbrev Tr := Int × Int × Int
def dT (x : Tr) : Int := dsc x.1 x.2.1 x.2.2
def fmT (x : Tr) : Bool := isFm x.1 x.2.1 x.2.2
def rdT (x : Tr) : Bool := isRd x.1 x.2.1 (rtB (dT x))
def nxT (x : Tr) : Tr := (x.2.2, nxB (rtB (dT x)) x.2.1 x.2.2, nxC (dT x) (nxB (rtB (dT x)) x.2.1 x.2.2) x.2.2)
theorem fmT_d {x : Tr} (h : fmT x = true) : isD (dT x) = true := (isFm_parts h).2.2.2
theorem nxT_d {x : Tr} (h : isD (dT x) = true) : dT (nxT x) = dT x := nx_same h
theorem nxT_fm {x : Tr} (h : fmT x = true) : fmT (nxT x) = true := nx_form h
theorem nxT_rd {x : Tr} (h : isD (dT x) = true) (hr : rdT x = true) : rdT (nxT x) = true := by
  unfold rdT
  rw [nxT_d h]
  exact nx_rd (a := x.1) h rfl hr
theorem nxT_inj {x y : Tr} (h : isD (dT x) = true) (e : dT x = dT y) (hx : rdT x = true) (hy : rdT y = true) (he : nxT x = nxT y) : x = y := by
  obtain ⟨a, b, c⟩ := x
  obtain ⟨a', b', c'⟩ := y
  unfold nxT at he
  rw [← e] at he
  simp only [Prod.mk.injEq] at he
  unfold rdT at hx hy
  rw [← e] at hy
  obtain ⟨rfl, rfl, rfl⟩ := nx_inj (a := a) (b := b) (c := c) (a' := a') (b' := b') (c' := c') h rfl e.symm rfl hx hy he.1 he.2.1
  rfl
/-- How far a form is from being reduced. -/
def msT (x : Tr) : Nat := if rdT x = true then 0 else if 2 * absI x.2.2 ≤ rtB (dT x) then 1 else if absI x.2.2 ≤ rtB (dT x) then 2 else 2 + (absI x.2.2).toNat
theorem msT_zero {x : Tr} (h : rdT x = true) : msT x = 0 := by unfold msT; rw [if_pos h]
theorem msT_pos {x : Tr} (h : rdT x = false) : 1 ≤ msT x := by
  unfold msT
  rw [if_neg (by rw [h]; decide)]
  split
  · omega
  · split <;> omega
theorem msT_nx {x : Tr} (h : isD (dT x) = true) (hr : rdT x = false) : msT (nxT x) < msT x := by
  have hn : ¬ (rdT x = true) := by rw [hr]; decide
  have hc0 := absI_nn x.2.2
  by_cases h1 : 2 * absI x.2.2 ≤ rtB (dT x)
  · have : rdT (nxT x) = true := by
      unfold rdT
      rw [nxT_d h]
      exact nx_half (a := x.1) h rfl h1
    rw [msT_zero this]
    exact msT_pos hr
  · by_cases h2 : absI x.2.2 ≤ rtB (dT x)
    · have := nx_mid (a := x.1) (b := x.2.1) (c := x.2.2) h rfl h2 (by unfold dT at h1; omega)
      have e : msT x = 2 := by unfold msT; rw [if_neg hn, if_neg h1, if_pos h2]
      rw [e]
      unfold msT
      rw [nxT_d h]
      split
      · omega
      · rw [if_pos (show 2 * absI (nxT x).2.2 ≤ rtB (dT x) from this)]; omega
    · have := nx_big (a := x.1) (b := x.2.1) (c := x.2.2) h rfl (by unfold dT at h2; omega)
      have e : msT x = 2 + (absI x.2.2).toNat := by unfold msT; rw [if_neg hn, if_neg h1, if_neg h2]
      have w0 := (rtB_ok (isD_parts h).1 (isD_parts h).2.1).1
      have hlt : 4 * absI (nxT x).2.2 ≤ absI x.2.2 := this.1
      have hn2 := absI_nn (nxT x).2.2
      rw [e]
      unfold msT
      split
      · omega
      · split
        · omega
        · split <;> omega
/-- The first reduced form to which a form leads. -/
def frN : Nat → Tr → Tr
  | 0, x => x
  | n + 1, x => if rdT x = true then x else frN n (nxT x)
def frT (x : Tr) : Tr := frN (msT x) x
theorem frN_same : ∀ (n m : Nat) (x : Tr), isD (dT x) = true → msT x ≤ n → msT x ≤ m → frN n x = frN m x
  | 0, 0, _, _, _, _ => rfl
  | 0, m + 1, x, h, h1, _ => by
    have : rdT x = true := by
      cases hr : rdT x
      · have := msT_pos hr; omega
      · rfl
    unfold frN
    rw [if_pos this]
  | n + 1, 0, x, h, _, h1 => by
    have : rdT x = true := by
      cases hr : rdT x
      · have := msT_pos hr; omega
      · rfl
    unfold frN
    rw [if_pos this]
  | n + 1, m + 1, x, h, h1, h2 => by
    unfold frN
    cases hr : rdT x
    · rw [if_neg (by decide), if_neg (by decide)]
      have := msT_nx h hr
      exact frN_same n m (nxT x) (by rw [nxT_d h]; exact h) (by omega) (by omega)
    · rw [if_pos rfl, if_pos rfl]
theorem frT_rd {x : Tr} (h : rdT x = true) : frT x = x := by unfold frT; rw [msT_zero h]; rfl
theorem frT_nx {x : Tr} (h : isD (dT x) = true) (hr : rdT x = false) : frT (nxT x) = frT x := by
  have h1 := msT_nx h hr
  obtain ⟨n, hn⟩ : ∃ n, msT x = n + 1 := ⟨msT x - 1, by omega⟩
  unfold frT
  rw [hn]
  conv => rhs; unfold frN
  rw [if_neg (by rw [hr]; decide)]
  exact frN_same _ _ _ (by rw [nxT_d h]; exact h) (Nat.le_refl _) (by omega)
theorem frT_ok : ∀ (n : Nat) (x : Tr), fmT x = true → msT x = n → fmT (frT x) = true ∧ rdT (frT x) = true ∧ dT (frT x) = dT x := by
  intro n
  induction n using Nat.strongRecOn with
  | ind n ih =>
    intro x h hn
    cases hr : rdT x
    · have h1 := msT_nx (fmT_d h) hr
      have := ih (msT (nxT x)) (by omega) (nxT x) (nxT_fm h) rfl
      rw [frT_nx (fmT_d h) hr, nxT_d (fmT_d h)] at this
      exact this
    · rw [frT_rd hr]; exact ⟨h, hr, rfl⟩
theorem frT_facts {x : Tr} (h : fmT x = true) : fmT (frT x) = true ∧ rdT (frT x) = true ∧ dT (frT x) = dT x := frT_ok _ x h rfl
/-- So many times the next form. -/
def itT : Nat → Tr → Tr
  | 0, x => x
  | n + 1, x => nxT (itT n x)
theorem itT_ok (x : Tr) (h : fmT x = true) (hr : rdT x = true) : ∀ n, fmT (itT n x) = true ∧ rdT (itT n x) = true ∧ dT (itT n x) = dT x
  | 0 => ⟨h, hr, rfl⟩
  | n + 1 => by
    obtain ⟨a, b, c⟩ := itT_ok x h hr n
    have := nxT_d (fmT_d a)
    exact ⟨nxT_fm a, nxT_rd (fmT_d a) b, this.trans c⟩
theorem itT_back (x : Tr) (h : fmT x = true) (hr : rdT x = true) : ∀ (i k : Nat), itT i x = itT (i + k) x → x = itT k x
  | 0, k, e => by rw [Nat.zero_add] at e; exact e
  | i + 1, k, e => by
    obtain ⟨a, b, c⟩ := itT_ok x h hr i
    obtain ⟨a', b', c'⟩ := itT_ok x h hr (i + k)
    have e2 : i + 1 + k = (i + k) + 1 := by omega
    rw [e2] at e
    exact itT_back x h hr i k (nxT_inj (fmT_d a) (by rw [c, c']) b b' e)
/-- Of more numbers below M than M two are the same. -/
theorem pigeon : ∀ (M : Nat) (f : Nat → Nat), (∀ i, i ≤ M → f i < M) → ∃ i j, i < j ∧ j ≤ M ∧ f i = f j
  | 0, f, h => absurd (h 0 (Nat.le_refl _)) (by omega)
  | M + 1, f, h => by
    by_cases hex : ∃ i, i ≤ M ∧ f i = f (M + 1)
    · obtain ⟨i, hi, e⟩ := hex
      exact ⟨i, M + 1, by omega, Nat.le_refl _, e⟩
    · have hne : ∀ i, i ≤ M → f i ≠ f (M + 1) := fun i hi e => hex ⟨i, hi, e⟩
      obtain ⟨i, j, h1, h2, h3⟩ := pigeon M (fun i => if f (M + 1) < f i then f i - 1 else f i) (fun i hi => by
        have := h i (by omega)
        have := h (M + 1) (Nat.le_refl _)
        have := hne i hi
        (try dsimp only)
        split <;> omega)
      refine ⟨i, j, h1, by omega, ?_⟩
      have a := hne i (by omega)
      have b := hne j h2
      (try dsimp only at h3)
      split at h3 <;> split at h3 <;> omega
def cdT (x : Tr) : Nat := ((x.1 + 64) * 64 + x.2.1).toNat
theorem rdT_bd {x : Tr} (h : fmT x = true) (hr : rdT x = true) : -63 ≤ x.1 ∧ x.1 ≤ 63 ∧ 1 ≤ x.2.1 ∧ x.2.1 ≤ 63 ∧ -63 ≤ x.2.2 ∧ x.2.2 ≤ 63 := by
  have hd := fmT_d h
  obtain ⟨d1, d2, _⟩ := isD_parts hd
  have w := rtB_ok d1 d2
  obtain ⟨p1, p2, p3, p4⟩ := isRd_iff.1 hr
  obtain ⟨c1, c2⟩ := rd_c (a := x.1) (b := x.2.1) (c := x.2.2) hd rfl hr
  have := absI_le x.1
  have := absI_le x.2.2
  unfold dT at *
  omega
theorem cdT_inj {x y : Tr} (hx : fmT x = true) (rx : rdT x = true) (hy : fmT y = true) (ry : rdT y = true) (e : dT x = dT y) (h : cdT x = cdT y) : x = y := by
  have b1 := rdT_bd hx rx
  have b2 := rdT_bd hy ry
  have ha := (isD_ac (fmT_d hx)).1
  obtain ⟨a, b, c⟩ := x
  obtain ⟨a', b', c'⟩ := y
  unfold cdT at h
  (try dsimp only at *)
  have ea : a = a' := by omega
  have eb : b = b' := by omega
  subst ea; subst eb
  have : 4 * a * c = 4 * a * c' := by unfold dT dsc at e; (try dsimp only at e); omega
  have := Int.eq_of_mul_eq_mul_left (by omega) this
  subst this
  rfl
/-- A reduced form is met again. -/
theorem itT_per (x : Tr) (h : fmT x = true) (hr : rdT x = true) : ∃ p, 1 ≤ p ∧ p ≤ 8192 ∧ itT p x = x := by
  obtain ⟨i, j, h1, h2, h3⟩ := pigeon 8192 (fun i => cdT (itT i x)) (fun i hi => by
    obtain ⟨a, b, c⟩ := itT_ok x h hr i
    have := rdT_bd a b
    unfold cdT
    omega)
  obtain ⟨a, b, c⟩ := itT_ok x h hr i
  obtain ⟨a', b', c'⟩ := itT_ok x h hr j
  have e := cdT_inj a b a' b' (by rw [c, c']) h3
  have ej : j = i + (j - i) := by omega
  rw [ej] at e
  exact ⟨j - i, by omega, by omega, (itT_back x h hr i (j - i) e).symm⟩
/-- The forms from y on until x comes. -/
def cyN : Nat → Tr → Tr → List Tr
  | 0, _, _ => []
  | n + 1, x, y => if y = x then [] else y :: cyN n x (nxT y)
/-- The cycle of a reduced form. -/
def cyT (x : Tr) : List Tr := x :: cyN 8192 x (nxT x)
theorem cyN_len : ∀ (n : Nat) (x y : Tr), (cyN n x y).length ≤ n
  | 0, _, _ => Nat.le_refl _
  | n + 1, x, y => by
    unfold cyN
    split
    · simp
    · have := cyN_len n x (nxT y)
      simp only [List.length_cons]; omega
theorem cyT_len (x : Tr) : (cyT x).length ≤ 8193 := by
  unfold cyT
  have := cyN_len 8192 x (nxT x)
  simp only [List.length_cons]; omega
/-- The least number of steps after which x is met again. -/
theorem least_per (x : Tr) : ∀ (n : Nat), (∃ p, 1 ≤ p ∧ p ≤ n ∧ itT p x = x) → ∃ p, 1 ≤ p ∧ p ≤ n ∧ itT p x = x ∧ ∀ j, 1 ≤ j → j < p → itT j x ≠ x
  | 0, ⟨p, h1, h2, _⟩ => absurd h1 (by omega)
  | n + 1, ⟨p, h1, h2, h3⟩ => by
    by_cases hex : ∃ q, 1 ≤ q ∧ q ≤ n ∧ itT q x = x
    · obtain ⟨q, a, b, c, d⟩ := least_per x n hex
      exact ⟨q, a, by omega, c, d⟩
    · refine ⟨p, h1, h2, h3, fun j a b e => hex ⟨j, a, by omega, e⟩⟩
theorem per_ex (x : Tr) (h : fmT x = true) (hr : rdT x = true) : ∃ p, 1 ≤ p ∧ p ≤ 8192 ∧ itT p x = x ∧ ∀ j, 1 ≤ j → j < p → itT j x ≠ x := least_per x 8192 (itT_per x h hr)
theorem cyN_of (x : Tr) (p : Nat) (hp : itT p x = x) (hl : ∀ j, 1 ≤ j → j < p → itT j x ≠ x) : ∀ (n i : Nat), 1 ≤ i → i ≤ p → p ≤ n + i → cyN n x (itT i x) = (List.range (p - i)).map (fun k => itT (i + k) x)
  | 0, i, h1, h2, h3 => by
    have : p - i = 0 := by omega
    rw [this]; rfl
  | n + 1, i, h1, h2, h3 => by
    unfold cyN
    by_cases e : i = p
    · subst e
      rw [if_pos hp, Nat.sub_self]; rfl
    · rw [if_neg (hl i h1 (by omega))]
      have ih := cyN_of x p hp hl n (i + 1) (by omega) (by omega) (by omega)
      have e2 : p - i = (p - (i + 1)) + 1 := by omega
      rw [e2, List.range_succ_eq_map, List.map_cons, List.map_map]
      have e3 : nxT (itT i x) = itT (i + 1) x := rfl
      rw [e3, ih]
      congr 1
      apply List.map_congr_left
      intro k _
      show itT (i + 1 + k) x = itT (i + (k + 1)) x
      congr 1; omega
theorem cyT_of {x : Tr} {p : Nat} (h1 : 1 ≤ p) (h2 : p ≤ 8192) (hp : itT p x = x) (hl : ∀ j, 1 ≤ j → j < p → itT j x ≠ x) : cyT x = (List.range p).map (fun k => itT k x) := by
  unfold cyT
  have e : nxT x = itT 1 x := rfl
  rw [e, cyN_of x p hp hl 8192 1 (by omega) h1 (by omega)]
  have e2 : p = (p - 1) + 1 := by omega
  conv => rhs; rw [e2, List.range_succ_eq_map, List.map_cons, List.map_map]
  congr 1
  apply List.map_congr_left
  intro k _
  show itT (1 + k) x = itT (k + 1) x
  congr 1; omega
theorem cyT_mem {x y : Tr} (h : fmT x = true) (hr : rdT x = true) (hy : y ∈ cyT x) : fmT y = true ∧ rdT y = true ∧ dT y = dT x := by
  obtain ⟨p, h1, h2, hp, hl⟩ := per_ex x h hr
  rw [cyT_of h1 h2 hp hl, List.mem_map] at hy
  obtain ⟨k, _, rfl⟩ := hy
  exact itT_ok x h hr k
end Go.Proofs.Ytoikaclapccciaa
