/-
  Polygons: a list of corners that turns to the left everywhere and passes once from the lower half to the upper one is one that has all other corners to the left of each side (own work; mathematics only).
-/
import Derived.Test.YtmjhejmkmdgikaaOpen
namespace Go.Proofs.Ytmjhejmkmdgikaa
set_option linter.unusedVariables false
set_option maxRecDepth 100000
set_option linter.unusedSectionVars false

/-- The determinant of two vectors. -/
def dv (a b : Int × Int) : Int := a.1 * b.2 - a.2 * b.1
/-- The upper half (to the right of 0 with it). -/
def Up (a : Int × Int) : Prop := 0 < a.2 ∨ (a.2 = 0 ∧ 0 < a.1)
instance (a : Int × Int) : Decidable (Up a) := by unfold Up; infer_instance
def ngv (a : Int × Int) : Int × Int := (-a.1, -a.2)
def sbv (a b : Int × Int) : Int × Int := (a.1 - b.1, a.2 - b.2)
theorem dv_sw (a b : Int × Int) : dv a b = - dv b a := by unfold dv; grind
theorem dv_ngl (a b : Int × Int) : dv (ngv a) b = - dv a b := by unfold dv ngv; grind
theorem dv_ngr (a b : Int × Int) : dv a (ngv b) = - dv a b := by unfold dv ngv; grind
theorem up_no {a : Int × Int} (h : Up a) : ¬ Up (ngv a) := by unfold Up ngv at *; omega
theorem up_or {a : Int × Int} (h : ¬ Up a) (hz : a ≠ (0, 0)) : Up (ngv a) := by
  unfold Up ngv at *
  obtain ⟨x, y⟩ := a
  have : ¬ (x = 0 ∧ y = 0) := by rintro ⟨rfl, rfl⟩; exact hz rfl
  simp only at *
  omega
theorem dv_nzl {a b : Int × Int} (h : dv a b ≠ 0) : a ≠ (0, 0) := by rintro rfl; exact h (by unfold dv; grind)
theorem dv_nzr {a b : Int × Int} (h : dv a b ≠ 0) : b ≠ (0, 0) := by rintro rfl; exact h (by unfold dv; grind)
/-- In the upper half, turning to the left goes on. -/
theorem up_turn {u v w : Int × Int} (hu : Up u) (hv : Up v) (hw : Up w) (h1 : 0 ≤ dv u v) (h2 : 0 < dv v w) : 0 < dv u w := by
  have key : v.2 * dv u w = u.2 * dv v w + w.2 * dv u v := by unfold dv; grind
  have kx : v.1 * dv u w = u.1 * dv v w + w.1 * dv u v := by unfold dv; grind
  obtain ⟨u1, u2⟩ := u
  obtain ⟨v1, v2⟩ := v
  obtain ⟨w1, w2⟩ := w
  unfold Up at hu hv hw
  simp only at hu hv hw key kx
  have hw2 : 0 ≤ w2 := by omega
  have hu2 : 0 ≤ u2 := by omega
  have pw := Int.mul_nonneg hw2 h1
  have pu := Int.mul_nonneg hu2 (Int.le_of_lt h2)
  rcases hv with hv | ⟨hv, hv1⟩
  · have hpos : 0 < v2 * dv (u1, u2) (w1, w2) := by
      rw [key]
      rcases hu with hu | ⟨hu, hu1⟩
      · have := Int.mul_pos hu h2
        omega
      · subst hu
        have hw' : 0 < w2 := by
          rcases hw with hw | ⟨hw, hw1⟩
          · exact hw
          · subst hw
            exfalso
            have := Int.mul_pos hv hw1
            unfold dv at h2
            simp only at h2
            omega
        have h3 : 0 < dv (u1, 0) (v1, v2) := by
          have := Int.mul_pos hu1 hv
          unfold dv
          simp only
          omega
        have := Int.mul_pos hw' h3
        omega
    exact Classical.byContradiction fun hn => absurd hpos (by have := Int.mul_nonneg (Int.le_of_lt hv) (show 0 ≤ -dv (u1, u2) (w1, w2) by omega); rw [Int.mul_neg] at this; omega)
  · subst hv
    have hu0 : u2 = 0 := by
      apply Classical.byContradiction
      intro hne
      have := Int.mul_pos (a := u2) (b := v1) (by omega) hv1
      unfold dv at h1
      simp only at h1
      omega
    subst hu0
    have hw' : 0 < w2 := by
      rcases hw with hw | ⟨hw, hw1⟩
      · exact hw
      · subst hw
        exfalso
        unfold dv at h2
        simp only at h2
        omega
    have hu1 : 0 < u1 := by omega
    have := Int.mul_pos hu1 hw'
    unfold dv
    simp only
    omega

/-- Corners that go around with period n: turning to the left everywhere. -/
structure Rnd (n : Nat) (P : Nat → Int × Int) : Prop where
  n3 : 3 ≤ n
  per : ∀ k, P (k + n) = P k
def eg (P : Nat → Int × Int) (k : Nat) : Int × Int := sbv (P (k + 1)) (P k)
theorem eg_per {n : Nat} {P : Nat → Int × Int} (h : Rnd n P) (k : Nat) : eg P (k + n) = eg P k := by
  unfold eg
  rw [show k + n + 1 = (k + 1) + n by omega, h.per, h.per]
/-- How far P k is to the left of the side i. -/
def lf (P : Nat → Int × Int) (i k : Nat) : Int := dv (eg P i) (sbv (P k) (P i))
theorem lf_at (P : Nat → Int × Int) (i : Nat) : lf P i i = 0 := by unfold lf dv sbv; grind
theorem lf_next (P : Nat → Int × Int) (i : Nat) : lf P i (i + 1) = 0 := by unfold lf eg dv sbv; grind
theorem lf_step (P : Nat → Int × Int) (i k : Nat) : lf P i (k + 1) = lf P i k + dv (eg P i) (eg P k) := by unfold lf eg dv sbv; grind
theorem lf_per {n : Nat} {P : Nat → Int × Int} (h : Rnd n P) (i k : Nat) : lf P i (k + n) = lf P i k := by unfold lf; rw [h.per]
theorem lf_per' {n : Nat} {P : Nat → Int × Int} (h : Rnd n P) (i k : Nat) : lf P (i + n) k = lf P i k := by unfold lf; rw [eg_per h, h.per]
/-- All corners but a side's own two are to the left of it. -/
def Cvx (n : Nat) (P : Nat → Int × Int) : Prop := ∀ i k, i + 1 < k → k < i + n → 0 < lf P i k
/-- Just one side of a round goes down ahead of one that goes up. -/
def Onc (n : Nat) (P : Nat → Int × Int) : Prop := ∃ s, s < n ∧ ∀ j, j < n → ((¬ Up (eg P j) ∧ Up (eg P (j + 1))) ↔ j = s)
def Lft (P : Nat → Int × Int) : Prop := ∀ k, 0 < dv (eg P k) (eg P (k + 1))

section
variable {n : Nat} {P : Nat → Int × Int} (h : Rnd n P) (hl : Lft P)
include hl
theorem eg_nz (k : Nat) : eg P k ≠ (0, 0) := dv_nzl (b := eg P (k + 1)) (by have := hl k; omega)
theorem run_up {a : Nat} : ∀ d, (∀ j, a ≤ j → j ≤ a + d + 1 → Up (eg P j)) → 0 < dv (eg P a) (eg P (a + d + 1))
  | 0, _ => hl a
  | d + 1, hu => up_turn (hu a (by omega) (by omega)) (hu (a + d + 1) (by omega) (by omega)) (hu (a + (d + 1) + 1) (by omega) (by omega))
      (Int.le_of_lt (run_up d (fun j h1 h2 => hu j h1 (by omega)))) (hl (a + d + 1))
theorem run_lo {a : Nat} : ∀ d, (∀ j, a ≤ j → j ≤ a + d + 1 → ¬ Up (eg P j)) → 0 < dv (eg P a) (eg P (a + d + 1))
  | 0, _ => hl a
  | d + 1, hu => by
    have e1 := up_or (hu a (by omega) (by omega)) (eg_nz hl _)
    have e2 := up_or (hu (a + d + 1) (by omega) (by omega)) (eg_nz hl _)
    have e3 := up_or (hu (a + (d + 1) + 1) (by omega) (by omega)) (eg_nz hl _)
    have r := run_lo d (fun j h1 h2 => hu j h1 (by omega))
    have s := hl (a + d + 1)
    have := up_turn e1 e2 e3 (by rw [dv_ngl, dv_ngr]; omega) (by rw [dv_ngl, dv_ngr]; show 0 < - -(dv (eg P (a + d + 1)) (eg P (a + d + 1 + 1))); omega)
    rw [dv_ngl, dv_ngr] at this
    omega
include h
theorem one_keep {s : Nat} (hs : s < n) (hj : ∀ j, j < n → ((¬ Up (eg P j) ∧ Up (eg P (j + 1))) ↔ j = s)) :
    ∀ j, s + 1 ≤ j → j + 1 < s + 1 + n → ¬ Up (eg P j) → ¬ Up (eg P (j + 1)) := by
  intro j h1 h2 h3 h4
  by_cases hc : j < n
  · exact absurd ((hj j hc).1 ⟨h3, h4⟩) (by omega)
  · have e : j = (j - n) + n := by omega
    rw [e, eg_per h] at h3
    rw [show j + 1 = (j - n + 1) + n by omega, eg_per h] at h4
    exact absurd ((hj (j - n) (by omega)).1 ⟨h3, h4⟩) (by omega)
theorem one_low {s : Nat} (hs : s < n) (hj : ∀ j, j < n → ((¬ Up (eg P j) ∧ Up (eg P (j + 1))) ↔ j = s)) {a : Nat} (h1 : s + 1 ≤ a) (h3 : ¬ Up (eg P a)) :
    ∀ d, a + d < s + 1 + n → ¬ Up (eg P (a + d))
  | 0, _ => h3
  | d + 1, h2 => one_keep h hl hs hj (a + d) (by omega) (by omega) (one_low hs hj h1 h3 d (by omega))
theorem one_l1 {s : Nat} (hs : s < n) (hj : ∀ j, j < n → ((¬ Up (eg P j) ∧ Up (eg P (j + 1))) ↔ j = s)) {a b : Nat} (h1 : s + 1 ≤ a) (hab : a < b) (h2 : b < s + 1 + n) (hb : Up (eg P b)) :
    0 < dv (eg P a) (eg P b) := by
  have := run_up hl (a := a) (b - a - 1) (fun j p q => by
    apply Classical.byContradiction
    intro hn
    have := one_low h hl hs hj (a := j) (by omega) hn (b - j) (by omega)
    rw [show j + (b - j) = b by omega] at this
    exact this hb)
  rw [show a + (b - a - 1) + 1 = b by omega] at this
  exact this
theorem one_l2 {s : Nat} (hs : s < n) (hj : ∀ j, j < n → ((¬ Up (eg P j) ∧ Up (eg P (j + 1))) ↔ j = s)) {a b : Nat} (h1 : s + 1 ≤ a) (hab : a < b) (h2 : b < s + 1 + n) (ha : ¬ Up (eg P a)) :
    0 < dv (eg P a) (eg P b) := by
  have := run_lo hl (a := a) (b - a - 1) (fun j p q => by
    have := one_low h hl hs hj h1 ha (j - a) (by omega)
    rw [show a + (j - a) = j by omega] at this
    exact this)
  rw [show a + (b - a - 1) + 1 = b by omega] at this
  exact this
/-- Beside one side, what goes no longer up goes down. -/
theorem one_fall {s : Nat} (hs : s < n) (hj : ∀ j, j < n → ((¬ Up (eg P j) ∧ Up (eg P (j + 1))) ↔ j = s)) {i j : Nat} (h1 : s + 1 ≤ i) (h2 : i < s + 1 + n) (hij : i < j) (h3 : j + 1 < i + n)
    (hd : dv (eg P i) (eg P j) ≤ 0) : dv (eg P i) (eg P (j + 1)) < 0 := by
  by_cases hA : j + 1 < s + 1 + n
  · have hu : ¬ Up (eg P j) := fun hu => absurd (one_l1 h hl hs hj h1 hij (by omega) hu) (by omega)
    have hi : Up (eg P i) := Classical.byContradiction fun hi => absurd (one_l2 h hl hs hj h1 hij (by omega) hi) (by omega)
    have hu' := one_keep h hl hs hj j (by omega) hA hu
    have hh := hl j
    have := up_turn hi (up_or hu (eg_nz hl _)) (up_or hu' (eg_nz hl _)) (by rw [dv_ngr]; omega) (by rw [dv_ngl, dv_ngr]; omega)
    rw [dv_ngr] at this
    omega
  · obtain ⟨q, hq⟩ : ∃ q, j + 1 = q + n := ⟨j + 1 - n, by omega⟩
    have eq : eg P (j + 1) = eg P q := by rw [hq, eg_per h]
    rw [eq]
    have hqi : q < i := by omega
    suffices hs' : 0 < dv (eg P q) (eg P i) by rw [dv_sw]; omega
    by_cases hi : Up (eg P i)
    · exact one_l1 h hl hs hj (by omega) hqi h2 hi
    · by_cases hu : Up (eg P q)
      · by_cases hb : q = s + 1
        · exfalso
          have := one_l2 h hl hs hj h1 hij (by omega) hi
          omega
        · obtain ⟨p, hp⟩ : ∃ p, j = p + n := ⟨j - n, by omega⟩
          have hup : Up (eg P p) := Classical.byContradiction fun hn => by
            have := one_keep h hl hs hj p (by omega) (by omega) hn
            rw [show p + 1 = q by omega] at this
            exact this hu
          rw [hp, eg_per h] at hd
          have hpq := hl p
          rw [show p + 1 = q by omega] at hpq
          have := up_turn (up_or hi (eg_nz hl _)) hup hu (by rw [dv_ngl]; omega) hpq
          rw [dv_ngl] at this
          rw [dv_sw]; omega
      · exact one_l2 h hl hs hj (by omega) hqi h2 hu
theorem lf_tail {i : Nat} : ∀ d k, k + d = i + n → 0 < d → (∀ j, k ≤ j → j < i + n → dv (eg P i) (eg P j) < 0) → 0 < lf P i k
  | 0, _, _, h0, _ => absurd h0 (by omega)
  | 1, k, hk, _, hg => by
    have e := lf_step P i k
    rw [hk, lf_per h, lf_at] at e
    have := hg k (by omega) (by omega)
    omega
  | d + 2, k, hk, _, hg => by
    have e := lf_step P i k
    have := lf_tail (d + 1) (k + 1) (by omega) (by omega) (fun j p q => hg j (by omega) q)
    have := hg k (by omega) (by omega)
    omega
theorem one_cvx0 {s : Nat} (hs : s < n) (hj : ∀ j, j < n → ((¬ Up (eg P j) ∧ Up (eg P (j + 1))) ↔ j = s)) {i : Nat} (h1 : s + 1 ≤ i) (h2 : i < s + 1 + n) :
    ∀ d, i + 2 + d < i + n → 0 < lf P i (i + 2 + d)
  | 0, _ => by
    have e := lf_step P i (i + 1)
    rw [lf_next] at e
    have := hl i
    show 0 < lf P i (i + 1 + 1)
    omega
  | d + 1, hd => by
    have ih := one_cvx0 hs hj h1 h2 d (by omega)
    have e := lf_step P i (i + 2 + d)
    show 0 < lf P i (i + 2 + d + 1)
    by_cases hg : 0 < dv (eg P i) (eg P (i + 2 + d))
    · omega
    · have hf : ∀ t, i + 2 + d + t + 1 < i + n → dv (eg P i) (eg P (i + 2 + d + t + 1)) < 0 := by
        intro t
        induction t with
        | zero => intro ht; exact one_fall h hl hs hj h1 h2 (by omega) ht (by show dv (eg P i) (eg P (i + 2 + d)) ≤ 0; omega)
        | succ t iht => intro ht; exact one_fall h hl hs hj h1 h2 (by omega) ht (Int.le_of_lt (iht (by omega)))
      refine lf_tail h hl (n - 3 - d) (i + 2 + d + 1) (by omega) (by omega) (fun j p q => ?_)
      have := hf (j - (i + 2 + d + 1)) (by omega)
      rw [show i + 2 + d + (j - (i + 2 + d + 1)) + 1 = j by omega] at this
      exact this
theorem cvx_of_one (ho : Onc n P) : ∀ i k, i < n → i + 1 < k → k < i + n → 0 < lf P i k := by
  obtain ⟨s, hs, hj⟩ := ho
  intro i k hi h1 h2
  by_cases hc : s + 1 ≤ i
  · have := one_cvx0 h hl hs hj hc (by omega) (k - i - 2) (by omega)
    rw [show i + 2 + (k - i - 2) = k by omega] at this
    exact this
  · have := one_cvx0 h hl hs hj (i := i + n) (by omega) (by omega) (k - i - 2) (by omega)
    rw [show i + n + 2 + (k - i - 2) = k + n by omega, lf_per h, lf_per' h] at this
    exact this
end
/-- The same with all sides. -/
theorem cvx_all {n : Nat} {P : Nat → Int × Int} (h : Rnd n P) (hc : ∀ i k, i < n → i + 1 < k → k < i + n → 0 < lf P i k) : Cvx n P := by
  have key : ∀ m i k, i < (m + 1) * n → i + 1 < k → k < i + n → 0 < lf P i k := by
    intro m
    induction m with
    | zero => intro i k hi; exact hc i k (by omega)
    | succ m ih =>
      intro i k hi h1 h2
      by_cases hn : i < n
      · exact hc i k hn h1 h2
      · obtain ⟨i', rfl⟩ : ∃ i', i = i' + n := ⟨i - n, by omega⟩
        obtain ⟨k', rfl⟩ : ∃ k', k = k' + n := ⟨k - n, by omega⟩
        rw [lf_per h, lf_per' h]
        refine ih i' k' ?_ (by omega) (by omega)
        rw [Nat.succ_mul] at hi
        omega
  intro i k h1 h2
  refine key i i k ?_ h1 h2
  have := h.n3
  have : (i + 1) * 1 ≤ (i + 1) * n := Nat.mul_le_mul_left _ (by omega)
  omega
theorem cvx_lft {n : Nat} {P : Nat → Int × Int} (h : Rnd n P) (hc : Cvx n P) : Lft P := by
  intro k
  have := hc k (k + 2) (by omega) (by have := h.n3; omega)
  have e := lf_step P k (k + 1)
  rw [lf_next] at e
  show 0 < dv (eg P k) (eg P (k + 1))
  have e2 : lf P k (k + 2) = lf P k (k + 1 + 1) := rfl
  omega
/-- Between two directions of the upper half, turning to the left from one to the other. -/
theorem up_mid {w D u : Int × Int} (hw : Up w) (hu : Up u) (h1 : 0 < dv w D) (h2 : 0 < dv D u) (h3 : 0 < dv w u) : Up D := by
  apply Classical.byContradiction
  intro hn
  have hD := up_or hn (dv_nzl (b := u) (by omega))
  have := up_turn hD hw hu (by rw [dv_ngl, dv_sw]; omega) h3
  rw [dv_ngl] at this
  omega
theorem up_add {a b : Int × Int} (ha : Up a) (hb : Up b) : Up (a.1 + b.1, a.2 + b.2) := by unfold Up at *; simp only; omega
section
variable {n : Nat} {P : Nat → Int × Int} (h : Rnd n P)
include h
/-- The lowest corner is the lowest of all. -/
theorem low_all (hc : Cvx n P) {i : Nat} (h1 : ¬ Up (eg P i)) (h2 : Up (eg P (i + 1))) : ∀ k, i + 1 < k → k ≤ i + n → Up (sbv (P k) (P (i + 1))) := by
  intro k hk hk'
  have hl := cvx_lft h hc
  have hn := h.n3
  by_cases e1 : k = i + 2
  · subst e1; exact h2
  · by_cases e2 : k = i + n
    · subst e2
      rw [h.per]
      have := up_or h1 (eg_nz hl _)
      unfold Up ngv eg sbv at this
      unfold Up sbv
      simp only at *
      omega
    · have a1 := hc i k (by omega) (by omega)
      have a2 := hc (i + 1) k (by omega) (by omega)
      have hd := hl i
      refine up_mid h2 (up_or h1 (eg_nz hl _)) ?_ ?_ ?_
      · exact a2
      · rw [dv_ngr, dv_sw]
        have e : dv (eg P i) (sbv (P k) (P (i + 1))) = lf P i k - lf P i (i + 1) := by unfold lf dv sbv; grind
        rw [lf_next] at e
        omega
      · rw [dv_ngr, dv_sw]; omega
theorem one_same (hc : Cvx n P) {i j : Nat} (hij : i < j) (hjn : j < i + n) (h1 : ¬ Up (eg P i)) (h2 : Up (eg P (i + 1))) (h3 : ¬ Up (eg P j)) (h4 : Up (eg P (j + 1))) : False := by
  have a := low_all h hc h1 h2 (j + 1) (by omega) (by omega)
  have b := low_all h hc h3 h4 (i + 1 + n) (by omega) (by omega)
  rw [h.per] at b
  unfold Up sbv at a b
  simp only at a b
  omega
omit h in
theorem sum_up {a : Nat} : ∀ d, (∀ j, a ≤ j → j ≤ a + d → Up (eg P j)) → Up (sbv (P (a + d + 1)) (P a))
  | 0, hu => hu a (by omega) (by omega)
  | d + 1, hu => by
    have x := sum_up d (fun j p q => hu j p (by omega))
    have y := hu (a + (d + 1)) (by omega) (by omega)
    have := up_add x y
    unfold Up eg sbv at *
    simp only [show a + (d + 1) = a + d + 1 by omega] at *
    omega
omit h in
theorem sum_lo (hz : ∀ k, eg P k ≠ (0, 0)) {a : Nat} : ∀ d, (∀ j, a ≤ j → j ≤ a + d → ¬ Up (eg P j)) → Up (ngv (sbv (P (a + d + 1)) (P a)))
  | 0, hu => up_or (hu a (by omega) (by omega)) (hz _)
  | d + 1, hu => by
    have x := sum_lo hz d (fun j p q => hu j p (by omega))
    have y := up_or (hu (a + (d + 1)) (by omega) (by omega)) (hz _)
    have := up_add x y
    unfold Up ngv eg sbv at *
    simp only [show a + (d + 1) = a + d + 1 by omega] at *
    omega
theorem one_some (hz : ∀ k, eg P k ≠ (0, 0)) : ∃ s, s < n ∧ ¬ Up (eg P s) ∧ Up (eg P (s + 1)) := by
  apply Classical.byContradiction
  intro hn
  have hn3 := h.n3
  have keep : ∀ j, j < n → ¬ Up (eg P j) → ¬ Up (eg P (j + 1)) := fun j hj h1 h2 => hn ⟨j, hj, h1, h2⟩
  have zero : ∀ a, ¬ Up (sbv (P (a + (n - 1) + 1)) (P a)) ∧ ¬ Up (ngv (sbv (P (a + (n - 1) + 1)) (P a))) := by
    intro a
    rw [show a + (n - 1) + 1 = a + n by omega, h.per]
    unfold Up ngv sbv
    simp only
    omega
  by_cases hall : ∀ j, j < n → Up (eg P j)
  · exact (zero 0).1 (sum_up (n - 1) (fun j _ q => hall j (by omega)))
  · obtain ⟨j, hj⟩ := Classical.not_forall.1 hall
    obtain ⟨hjn, hjl⟩ : j < n ∧ ¬ Up (eg P j) := ⟨Classical.byContradiction fun hh => hj (fun x => absurd x hh), fun hh => hj (fun _ => hh)⟩
    have low : ∀ d, ¬ Up (eg P (j + d)) := by
      intro d
      induction d with
      | zero => exact hjl
      | succ d ih =>
        have key : ∀ m t, t < (m + 1) * n → ¬ Up (eg P t) → ¬ Up (eg P (t + 1)) := by
          intro m
          induction m with
          | zero => intro t ht; exact keep t (by omega)
          | succ m ihm =>
            intro t ht h1
            by_cases htn : t < n
            · exact keep t htn h1
            · obtain ⟨t', rfl⟩ : ∃ t', t = t' + n := ⟨t - n, by omega⟩
              rw [eg_per h] at h1
              rw [show t' + n + 1 = t' + 1 + n by omega, eg_per h]
              refine ihm t' ?_ h1
              rw [Nat.succ_mul] at ht
              omega
        refine key (j + d) (j + d) ?_ ih
        have : (j + d + 1) * 1 ≤ (j + d + 1) * n := Nat.mul_le_mul_left _ (by omega)
        omega
    refine (zero j).2 (sum_lo hz (n - 1) (fun t p q => ?_))
    have := low (t - j)
    rw [show j + (t - j) = t by omega] at this
    exact this
theorem one_of_cvx (hc : Cvx n P) : Onc n P := by
  have hl := cvx_lft h hc
  obtain ⟨s, hs, h1, h2⟩ := one_some h (eg_nz hl)
  refine ⟨s, hs, fun j hj => ⟨fun ⟨a, b⟩ => ?_, fun e => by subst e; exact ⟨h1, h2⟩⟩⟩
  rcases Nat.lt_trichotomy j s with hlt | heq | hgt
  · exact (one_same h hc hlt (by omega) a b h1 h2).elim
  · exact heq
  · exact (one_same h hc hgt (by omega) h1 h2 a b).elim
/-- Both readings of a polygon. -/
theorem cvx_iff : (Lft P ∧ Onc n P) ↔ Cvx n P := ⟨fun ⟨a, b⟩ => cvx_all h (cvx_of_one h a b), fun hc => ⟨cvx_lft h hc, one_of_cvx h hc⟩⟩
end

end Go.Proofs.Ytmjhejmkmdgikaa
