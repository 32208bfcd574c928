/-
  Chapter 5's fractions as plain numbers: fractions, neighbours, parents, levels, paths (own work).
-/
import Derived.Test.YtohnmogejidpdabDoorCorM
namespace Go.Proofs.YtohnmogejidpdabDoor
open Go.ChangeShapes Go.WideShapes Go.ChangeAt Go.RowKit
set_option linter.unusedVariables false
set_option maxRecDepth 100000
set_option linter.unusedSimpArgs false

/-- Whether a primitive point is turned. -/
def ngt (x y : Int) : Bool := decide (y < 0) || (y == 0 && decide (x < 0))
def frX (x y : Int) : Int := if ngt x y = true then -x else x
def frY (x y : Int) : Int := if ngt x y = true then -y else y
def isFr (a b : Int) : Bool := isPr a b && (decide (0 < b) || (b == 0 && a == 1))
theorem isFr_pr {a b : Int} (h : isFr a b = true) : isPr a b = true := by simp only [isFr, Bool.and_eq_true] at h; exact h.1
theorem isFr_pt {a b : Int} (h : isFr a b = true) : isPt (a, b) = true := by have := isFr_pr h; simp only [isPr, Bool.and_eq_true] at this; exact this.1
theorem isFr_gcd {a b : Int} (h : isFr a b = true) : gcdI a b = 1 := by have := isFr_pr h; simp only [isPr, Bool.and_eq_true, beq_iff_eq] at this; exact this.2
theorem isFr_pos {a b : Int} (h : isFr a b = true) : 0 ≤ b ∧ (b = 0 → a = 1) := by
  simp only [isFr, Bool.and_eq_true, Bool.or_eq_true, decide_eq_true_eq, beq_iff_eq] at h
  omega
theorem frX_same {a b : Int} (h : ngt a b = false) : frX a b = a ∧ frY a b = b := by simp [frX, frY, h]
theorem isFr_ngt {a b : Int} (h : isFr a b = true) : ngt a b = false := by
  have := isFr_pos h
  simp only [ngt, Bool.or_eq_false_iff, Bool.and_eq_false_imp, decide_eq_false_iff_not, beq_iff_eq]
  omega
theorem isFr_fix {a b : Int} (h : isFr a b = true) : frX a b = a ∧ frY a b = b := frX_same (isFr_ngt h)
/-- The program's test. -/
theorem isFr_prog (a b : Int) : (isPr a b && (frX a b == a && frY a b == b)) = isFr a b := by
  unfold isFr
  cases hp : isPr a b
  · rfl
  · have hg : gcdI a b = 1 := by simp only [isPr, Bool.and_eq_true, beq_iff_eq] at hp; exact hp.2
    have h0 : ¬ (a = 0 ∧ b = 0) := by rintro ⟨rfl, rfl⟩; simp [gcdI] at hg
    have h1 : b = 0 → a = 1 ∨ a = -1 := by rintro rfl; simp [gcdI] at hg; omega
    simp only [Bool.true_and]
    cases hn : ngt a b
    · obtain ⟨e1, e2⟩ := frX_same hn
      rw [e1, e2]
      simp only [ngt, Bool.or_eq_false_iff, Bool.and_eq_false_imp, decide_eq_false_iff_not, beq_iff_eq] at hn
      have : (decide (0 < b) || (b == 0 && a == 1)) = true := by
        simp only [Bool.or_eq_true, Bool.and_eq_true, decide_eq_true_eq, beq_iff_eq]
        omega
      rw [this]; simp
    · have e1 : frX a b = -a := by simp [frX, hn]
      have e2 : frY a b = -b := by simp [frY, hn]
      rw [e1, e2]
      simp only [ngt, Bool.or_eq_true, Bool.and_eq_true, decide_eq_true_eq, beq_iff_eq] at hn
      have t : (decide (0 < b) || (b == 0 && a == 1)) = false := by
        simp only [Bool.or_eq_false_iff, Bool.and_eq_false_imp, decide_eq_false_iff_not, beq_iff_eq, beq_eq_false_iff_ne]
        omega
      have t2 : (-a == a && -b == b) = false := by
        simp only [Bool.and_eq_false_imp, beq_iff_eq, beq_eq_false_iff_ne]
        omega
      rw [t, t2]
/-- The model's test. -/
theorem isFr_spec (a b : Int) : (isPt (a, b) && (gcdI a b == 1 && (decide (b > 0) || (b == 0 && a == 1)))) = isFr a b := by
  unfold isFr isPr
  rw [Bool.and_assoc]
/-- The codes of fractions. -/
def frK (p r : Bool) : Int := bif p then (bif r then 0 else 2) else 1
def frC2 (a b c d : Int) : Int := frK (isPt (a, b) && isPt (c, d)) (isFr a b && isFr c d)
/-- Whether two fractions are neighbours. -/
def nearB (a b c d : Int) : Bool := absI (detP (a, b) (c, d)) == 1
theorem nearB_spec (a b c d : Int) : (detP (a, b) (c, d) == 1 || detP (a, b) (c, d) == -1) = nearB a b c d := by
  unfold nearB absI
  rw [Bool.eq_iff_iff]
  simp only [Bool.or_eq_true, beq_iff_eq]
  omega

/-- The parents' left one is told by its determinant and second number. -/
theorem left_unique {a b x y x' y' : Int} (hb : 1 ≤ b) (h : a * y - b * x = 1) (h' : a * y' - b * x' = 1) (l : 0 ≤ y) (u : y < b) (l' : 0 ≤ y') (u' : y' < b) : x = x' ∧ y = y' := by
  have e : a * (y - y') = b * (x - x') := by rw [Int.mul_sub, Int.mul_sub]; omega
  have hd : b ∣ (y - y') := ⟨y * (x - x') - x * (y - y'), by
    have e2 : (a * y - b * x) * (y - y') = y - y' := by rw [h, Int.one_mul]
    grind⟩
  obtain ⟨t, ht⟩ := hd
  have ht0 : t = 0 := by
    rcases Int.lt_trichotomy t 0 with h | h | h
    · have : b * t ≤ b * (-1) := Int.mul_le_mul_of_nonneg_left (by omega) (by omega)
      omega
    · exact h
    · have : b * 1 ≤ b * t := Int.mul_le_mul_of_nonneg_left (by omega) (by omega)
      omega
  subst ht0
  have hy : y = y' := by omega
  subst hy
  have hx : b * (x - x') = 0 := by rw [← e]; simp
  rcases Int.mul_eq_zero.1 hx with h | h
  · omega
  · exact ⟨by omega, rfl⟩
/-- The left parent by the mate (mx, my) of (a, b). -/
def parX (a mx my : Int) : Int := if my < 0 then mx + a else mx
def parY (b my : Int) : Int := if my < 0 then my + b else my
theorem par_ok {a b mx my n : Int} (hb : 2 ≤ b) (ha : a ≠ 0) (hn : n = absI a) (h : a * my - b * mx = 1) (h0 : 0 ≤ mx) (h1 : mx < n) :
    a * parY b my - b * parX a mx my = 1 ∧ 1 ≤ parY b my ∧ parY b my < b := by
  have hn' : n = a ∨ n = -a := by subst hn; unfold absI; omega
  have hbm : 0 ≤ b * mx := Int.mul_nonneg (by omega) h0
  have hbu : b * mx ≤ b * (n - 1) := Int.mul_le_mul_of_nonneg_left (by omega) (by omega)
  rw [Int.mul_sub, Int.mul_one] at hbu
  have hnp : 1 ≤ n := by omega
  have key : n * b - b + 1 < n * b := by omega
  rcases hn' with rfl | rfl
  · -- a is greater than 0
    have hm : 1 ≤ my := by
      rcases Int.lt_or_le my 1 with h | h
      · have : n * my ≤ n * 0 := Int.mul_le_mul_of_nonneg_left (by omega) (by omega)
        omega
      · exact h
    have hu : my < b := by
      rcases Int.lt_or_le my b with h | h
      · exact h
      · have : n * b ≤ n * my := Int.mul_le_mul_of_nonneg_left (by omega) (by omega)
        rw [Int.mul_comm b n] at hbu
        omega
    unfold parX parY
    rw [if_neg (by omega), if_neg (by omega)]
    exact ⟨h, hm, hu⟩
  · have hm : my < 0 := by
      rcases Int.lt_or_le my 0 with h | h
      · exact h
      · have : 0 ≤ -a * my := Int.mul_nonneg (by omega) h
        rw [Int.neg_mul] at this
        omega
    have hu : -my < b := by
      rcases Int.lt_or_le (-my) b with h | h
      · exact h
      · have : -a * b ≤ -a * (-my) := Int.mul_le_mul_of_nonneg_left (by omega) (by omega)
        rw [show -a * -my = a * my from Int.neg_mul_neg a my] at this
        rw [Int.mul_comm b (-a)] at hbu
        omega
    unfold parX parY
    rw [if_pos hm, if_pos hm]
    refine ⟨?_, by omega, by omega⟩
    rw [Int.mul_add, Int.mul_add, Int.mul_comm b a]
    omega
theorem mateI_first {a b : Int} (hg : gcdI a b = 1) (ha : a ≠ 0) : 0 ≤ (mateI a b).1 ∧ (mateI a b).1 < absI a := by
  unfold mateI
  rw [if_neg ha]
  obtain ⟨h0, h1, _⟩ := mateX_ok (absI_pos ha) (gcd_abs hg)
  exact ⟨h0, h1⟩
/-- The parents: the program's by the mate of a, the model's by the mate of a turned round. -/
theorem par_mate {a b : Int} (hF : isFr a b = true) (hb : 2 ≤ b) :
    parX a (mateI a b).1 (mateI a b).2 = a - (mateI b a).2 ∧ parY b (mateI a b).2 = b - (mateI b a).1 ∧ a * parY b (mateI a b).2 - b * parX a (mateI a b).1 (mateI a b).2 = 1 ∧ 1 ≤ parY b (mateI a b).2 ∧ parY b (mateI a b).2 < b := by
  have hp := isFr_pt hF
  have hg := isFr_gcd hF
  have ha : a ≠ 0 := by rintro rfl; simp [gcdI] at hg; omega
  have hp' : isPt (b, a) = true := by simp only [isPt, Bool.and_eq_true] at hp ⊢; exact ⟨hp.2, hp.1⟩
  have hg' : gcdI b a = 1 := by unfold gcdI at hg ⊢; rw [Int.gcd_comm]; exact hg
  obtain ⟨f0, f1⟩ := mateI_first hg ha
  obtain ⟨g0, g1⟩ := mateI_first hg' (by omega : b ≠ 0)
  have d0 := (mateI_ok hp hg).1
  have d1 := (mateI_ok hp' hg').1
  generalize (mateI a b).1 = X at *
  generalize (mateI a b).2 = Y at *
  generalize (mateI b a).1 = X' at *
  generalize (mateI b a).2 = Y' at *
  have gb : absI b = b := by unfold absI; omega
  rw [gb] at g1
  obtain ⟨p1, p2, p3⟩ := par_ok hb ha rfl d0 f0 f1
  have hX' : 1 ≤ X' := by
    rcases Int.lt_or_le X' 1 with h | h
    · obtain rfl : X' = 0 := by omega
      rw [Int.mul_zero, Int.sub_zero] at d1
      have hy : 1 ≤ Y' := by
        rcases Int.lt_or_le Y' 1 with h | h
        · have : b * Y' ≤ b * 0 := Int.mul_le_mul_of_nonneg_left (by omega) (by omega)
          omega
        · exact h
      have : b * 1 ≤ b * Y' := Int.mul_le_mul_of_nonneg_left (by omega) (by omega)
      omega
    · exact h
  have e : a * (b - X') - b * (a - Y') = 1 := by rw [Int.mul_sub, Int.mul_sub, Int.mul_comm b a]; omega
  obtain ⟨q1, q2⟩ := left_unique (by omega) p1 e (by omega) p3 (by omega) (by omega)
  exact ⟨q1, q2, p1, p2, p3⟩
theorem gcd_emod (a b : Int) : Int.gcd b (a % b) = Int.gcd a b := by
  have h : a % b = a - b * (a / b) := by have := Int.emod_add_mul_ediv a b; omega
  rw [h, Int.gcd_comm a b]
  exact Int.gcd_sub_mul_left_right b a (a / b)
/-! Levels -/
/-- The level of u times one fraction and v times another one together, down the tree between them: lu, lv are their levels. -/
def lvG : Nat → Int → Int → Int → Int → Int
  | 0, _, _, _, _ => 0
  | f + 1, u, v, lu, lv => if u = v then min lu lv + 1 else if v < u then lvG f (u - v) v lu (min lu lv + 1) else lvG f u (v - u) (min lu lv + 1) lv
/-- The level along a list of numbers. -/
def lvP : List Int → Int → Int → Int
  | [], _, l => l
  | k :: ks, b, l => lvP ks l (if k = 1 then min b l + 1 else l + 1)
theorem lvG_comm : ∀ (f : Nat) (u v lu lv : Int), lvG f u v lu lv = lvG f v u lv lu
  | 0, _, _, _, _ => rfl
  | f + 1, u, v, lu, lv => by
    unfold lvG
    rw [Int.min_comm lv lu]
    by_cases h : u = v
    · rw [if_pos h, if_pos h.symm]
    · rw [if_neg h, if_neg (Ne.symm h)]
      by_cases k : v < u
      · rw [if_pos k, if_neg (by omega), lvG_comm f]
      · rw [if_neg k, if_pos (by omega), lvG_comm f]
/-- The level of the second one when the first one has been added k times. -/
def nxL (k : Nat) (lu lv : Int) : Int := if k = 0 then lv else if k = 1 then min lu lv + 1 else lu + 1
theorem nxL_succ (k : Nat) (lu lv : Int) (h1 : lu - lv ≤ 1) (h2 : lv - lu ≤ 1) : nxL k lu (min lu lv + 1) = nxL (k + 1) lu lv := by
  unfold nxL
  match k with
  | 0 => simp
  | 1 => simp; omega
  | k + 2 => simp
theorem nxL_near (k : Nat) (lu lv : Int) (h1 : lu - lv ≤ 1) (h2 : lv - lu ≤ 1) : lu - nxL k lu lv ≤ 1 ∧ nxL k lu lv - lu ≤ 1 := by
  unfold nxL
  split
  · exact ⟨by omega, by omega⟩
  · split <;> exact ⟨by omega, by omega⟩
/-- k steps on one side, at once. -/
theorem lvG_many : ∀ (k f : Nat) (s v lu lv : Int), 1 ≤ s → 1 ≤ v → lu - lv ≤ 1 → lv - lu ≤ 1 → lvG (f + k) (k * v + s) v lu lv = if k = 0 ∨ ¬ s = v ∨ True then lvG f s v lu (nxL k lu lv) else 0
  | 0, f, s, v, lu, lv, _, _, _, _ => by simp [nxL]
  | k + 1, f, s, v, lu, lv, h1, h2, h3, h4 => by
    have hk : 0 ≤ (k : Int) * v := Int.mul_nonneg (by omega) (by omega)
    have e : ((k + 1 : Nat) : Int) * v + s = (k : Int) * v + s + v := by push_cast; rw [Int.add_mul]; omega
    rw [show f + (k + 1) = (f + k) + 1 from rfl, e]
    rw [lvG, if_neg (by omega), if_pos (by omega)]
    rw [show (k : Int) * v + s + v - v = (k : Int) * v + s by omega]
    rw [lvG_many k f s v lu _ h1 h2 (by omega) (by omega), nxL_succ k lu lv h3 h4]
    simp
/-- Down the tree, and along the list: the same. -/
theorem lv_same : ∀ (n : Nat) (f : Nat) (u v b l : Int), 1 ≤ v → v ≤ u → v ≤ n → Int.gcd u v = 1 → l - b ≤ 1 → b - l ≤ 1 → u + v ≤ f → lvG f u v l b = lvP (expI u v) b l
  | 0, _, _, _, _, _, h1, _, h2, _, _, _, _ => by omega
  | n + 1, f, u, v, b, l, h1, h2, h3, hg, h4, h5, hf => by
    have hd := Int.emod_add_mul_ediv u v
    have m0 := Int.emod_nonneg u (by omega : v ≠ 0)
    have m1 := Int.emod_lt_of_pos u (by omega : 0 < v)
    have d1 : 1 ≤ u / v := by
      rcases Int.lt_or_le (u / v) 1 with h | h
      · have : v * (u / v) ≤ v * 0 := Int.mul_le_mul_of_nonneg_left (by omega) (by omega)
        omega
      · exact h
    rw [expI_step u v h1, lvP]
    have hgg : Int.gcd v (u % v) = 1 := (gcd_emod u v).trans hg
    generalize hs : u % v = s at *
    obtain ⟨k, hk⟩ : ∃ k : Nat, u / v = k + 1 := ⟨(u / v - 1).toNat, by omega⟩
    rw [hk] at hd ⊢
    have hkv : (k : Int) ≤ k * v := by
      have : (k : Int) * 1 ≤ k * v := Int.mul_le_mul_of_nonneg_left (by omega) (by omega)
      omega
    have hvk : v * ((k : Int) + 1) = k * v + v := by rw [Int.mul_add, Int.mul_comm]; omega
    rw [hvk] at hd
    by_cases hz : s = 0
    · subst hz
      obtain rfl : v = 1 := by simp [Int.gcd] at hgg; omega
      rw [expI_zero, lvP]
      obtain ⟨g, rfl⟩ : ∃ g, f = g + 1 + k := ⟨f - 1 - k, by omega⟩
      have e := lvG_many k (g + 1) 1 1 l b (by omega) (by omega) h4 h5
      rw [show u = k * 1 + 1 by omega, e]
      simp only [or_true, if_true]
      rw [lvG, if_pos rfl]
      unfold nxL
      by_cases h0 : k = 0
      · subst h0; simp [Int.min_comm]
      · rw [if_neg h0, if_neg (show ¬ (k : Int) + 1 = 1 by omega)]
        split <;> omega
    · obtain ⟨g, rfl⟩ : ∃ g, f = g + (k + 1) := ⟨f - (k + 1), by omega⟩
      have e := lvG_many (k + 1) g s v l b (by omega) (by omega) h4 h5
      rw [show u = ((k + 1 : Nat) : Int) * v + s by push_cast; rw [Int.add_mul]; omega, e]
      simp only [or_true, if_true]
      rw [lvG_comm]
      obtain ⟨q1, q2⟩ := nxL_near (k + 1) l b h4 h5
      rw [lv_same n g v s l (nxL (k + 1) l b) (by omega) (by omega) (by omega) hgg (by omega) (by omega) (by omega)]
      unfold nxL
      rw [if_neg (by omega)]
      rw [Int.min_comm b l]
      by_cases h0 : k = 0
      · subst h0; simp
      · rw [if_neg (by omega), if_neg (show ¬ (k : Int) + 1 = 1 by omega)]
/-- The level of p / q: the model's and the program's. -/
theorem level_same (p q : Int) (f : Nat) (hq : 2 ≤ q) (hg : Int.gcd p q = 1) (hf : 2 * q ≤ f) : lvP (expI p q) 1 0 = lvG f (q - p % q) (p % q) 1 1 := by
  have m0 := Int.emod_nonneg p (by omega : q ≠ 0)
  have m1 := Int.emod_lt_of_pos p (by omega : 0 < q)
  have hgg : Int.gcd q (p % q) = 1 := (gcd_emod p q).trans hg
  have hs : 1 ≤ p % q := by
    rcases Int.lt_or_le (p % q) 1 with h | h
    · have : p % q = 0 := by omega
      rw [this] at hgg; simp [Int.gcd] at hgg; omega
    · exact h
  rw [expI_step p q (by omega), lvP]
  have e : (if p / q = 1 then min 1 0 + 1 else (0 : Int) + 1) = 1 := by split <;> rfl
  rw [e]
  have k := lv_same q.toNat (f + 1) q (p % q) 0 1 hs (by omega) (by omega) hgg (by omega) (by omega) (by omega)
  rw [← k, lvG, if_neg (by omega), if_pos (by omega)]
  rfl
end Go.Proofs.YtohnmogejidpdabDoor
