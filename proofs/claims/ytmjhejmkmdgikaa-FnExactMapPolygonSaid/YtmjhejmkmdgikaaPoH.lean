/-
  Polygons. Hulls: the corner behind a corner (own work; mathematics only).
-/
import Derived.Test.YtmjhejmkmdgikaaPoM
namespace Go.Proofs.Ytmjhejmkmdgikaa
set_option linter.unusedVariables false
set_option maxRecDepth 100000
set_option linter.unusedSectionVars false

/-- How far a vector goes. -/
def l1 (a : Int × Int) : Int := (a.1.natAbs : Int) + (a.2.natAbs : Int)
def gcv (a : Int × Int) : Int := (Int.gcd a.1 a.2 : Int)
theorem l1_nonneg (a : Int × Int) : 0 ≤ l1 a := by unfold l1; omega
theorem l1_pos {a : Int × Int} (h : a ≠ (0, 0)) : 0 < l1 a := by
  unfold l1
  obtain ⟨x, y⟩ := a
  have : ¬ (x = 0 ∧ y = 0) := by rintro ⟨rfl, rfl⟩; exact h rfl
  simp only
  omega
theorem gcv_pos {a : Int × Int} (h : a ≠ (0, 0)) : 0 < gcv a := by
  unfold gcv
  obtain ⟨x, y⟩ := a
  have : ¬ (x = 0 ∧ y = 0) := by rintro ⟨rfl, rfl⟩; exact h rfl
  have : Int.gcd x y ≠ 0 := by rw [Ne, Int.gcd_eq_zero_iff]; exact this
  simp only
  omega
/-- On one line, both measures tell the same. -/
theorem l1_gcv {u v : Int × Int} (h : dv u v = 0) : l1 u * gcv v = l1 v * gcv u := by
  have e : u.1 * v.2 = u.2 * v.1 := by unfold dv at h; omega
  have h1 : u.1.natAbs * Int.gcd v.1 v.2 = v.1.natAbs * Int.gcd u.1 u.2 := by
    rw [← Int.gcd_mul_left, ← Int.gcd_mul_left, e, Int.mul_comm u.1 v.1, Int.mul_comm u.2 v.1]
  have h2 : u.2.natAbs * Int.gcd v.1 v.2 = v.2.natAbs * Int.gcd u.1 u.2 := by
    rw [← Int.gcd_mul_left, ← Int.gcd_mul_left, ← e, Int.mul_comm u.2 v.2, Int.mul_comm u.1 v.2]
  unfold l1 gcv
  have k1 : (u.1.natAbs : Int) * (Int.gcd v.1 v.2 : Int) = (v.1.natAbs : Int) * (Int.gcd u.1 u.2 : Int) := by exact_mod_cast h1
  have k2 : (u.2.natAbs : Int) * (Int.gcd v.1 v.2 : Int) = (v.2.natAbs : Int) * (Int.gcd u.1 u.2 : Int) := by exact_mod_cast h2
  rw [Int.add_mul, Int.add_mul, k1, k2]
theorem far_iff {u v : Int × Int} (h : dv u v = 0) (hu : u ≠ (0, 0)) : l1 v ≤ l1 u ↔ gcv v ≤ gcv u := by
  have e := l1_gcv h
  have a := l1_pos hu
  have b := gcv_pos hu
  constructor
  · intro hl
    apply Classical.byContradiction
    intro hn
    have h1 : l1 v * gcv u ≤ l1 u * gcv u := Int.mul_le_mul_of_nonneg_right hl (by omega)
    have h2 : l1 u * gcv u < l1 u * gcv v := Int.mul_lt_mul_of_pos_left (by omega) a
    omega
  · intro hl
    apply Classical.byContradiction
    intro hn
    have h1 : l1 u * gcv v ≤ l1 u * gcv u := Int.mul_le_mul_of_nonneg_left hl (by omega)
    have h2 : l1 u * gcv u < l1 v * gcv u := Int.mul_lt_mul_of_pos_right (by omega) b
    omega
/-- The half plane to the left of a direction, with the way back. -/
def Hf (d v : Int × Int) : Prop := 0 < dv d v ∨ (dv d v = 0 ∧ d.1 * v.1 + d.2 * v.2 < 0)
def tu (d v : Int × Int) : Int × Int := (-(d.1 * v.1 + d.2 * v.2), dv d v)
theorem hf_up {d v : Int × Int} : Hf d v ↔ Up (tu d v) := by unfold Hf Up tu; simp only; omega
def nr (d : Int × Int) : Int := d.1 * d.1 + d.2 * d.2
theorem sq_nonneg (x : Int) : 0 ≤ x * x := by
  rcases Int.le_total 0 x with h | h
  · exact Int.mul_nonneg h h
  · have := Int.mul_nonneg (show 0 ≤ -x by omega) (show 0 ≤ -x by omega)
    rw [Int.neg_mul_neg] at this
    exact this
theorem sq_pos {x : Int} (h : x ≠ 0) : 0 < x * x := by
  rcases Int.lt_or_gt_of_ne h with h | h
  · have := Int.mul_pos (show 0 < -x by omega) (show 0 < -x by omega)
    rw [Int.neg_mul_neg] at this
    exact this
  · exact Int.mul_pos h h
theorem nr_pos {d : Int × Int} (h : d ≠ (0, 0)) : 0 < nr d := by
  unfold nr
  obtain ⟨x, y⟩ := d
  have : ¬ (x = 0 ∧ y = 0) := by rintro ⟨rfl, rfl⟩; exact h rfl
  simp only
  by_cases hx : x = 0
  · have := sq_pos (x := y) (by omega)
    have := sq_nonneg x
    omega
  · have := sq_pos hx
    have := sq_nonneg y
    omega
theorem tu_dv (d u v : Int × Int) : dv (tu d u) (tu d v) = nr d * dv v u := by unfold tu dv nr; simp only; grind
theorem pos_mul {a b : Int} (ha : 0 < a) : 0 < a * b ↔ 0 < b := by
  constructor
  · intro h
    apply Classical.byContradiction
    intro hn
    have := Int.mul_nonneg (Int.le_of_lt ha) (show 0 ≤ -b by omega)
    rw [Int.mul_neg] at this
    omega
  · exact Int.mul_pos ha
theorem nn_mul {a b : Int} (ha : 0 < a) : 0 ≤ a * b ↔ 0 ≤ b := by
  constructor
  · intro h
    apply Classical.byContradiction
    intro hn
    have := Int.mul_pos ha (show 0 < -b by omega)
    rw [Int.mul_neg] at this
    omega
  · exact Int.mul_nonneg (Int.le_of_lt ha)
theorem hf_turn {d a b c : Int × Int} (hd : d ≠ (0, 0)) (ha : Hf d a) (hb : Hf d b) (hc : Hf d c) (h1 : 0 < dv a b) (h2 : 0 ≤ dv b c) : 0 < dv a c := by
  have hn := nr_pos hd
  have := up_turn (hf_up.1 hc) (hf_up.1 hb) (hf_up.1 ha) (by rw [tu_dv]; exact (nn_mul hn).2 h2) (by rw [tu_dv]; exact (pos_mul hn).2 h1)
  rw [tu_dv] at this
  exact (pos_mul hn).1 this
theorem up_par {a b : Int × Int} (ha : Up a) (hb : Up b) (h : dv a b = 0) : ∃ p q : Int, 0 < p ∧ 0 < q ∧ p * a.1 = q * b.1 ∧ p * a.2 = q * b.2 := by
  obtain ⟨a1, a2⟩ := a
  obtain ⟨b1, b2⟩ := b
  unfold dv at h
  unfold Up at ha hb
  simp only at *
  by_cases hb2 : 0 < b2
  · have ha2 : 0 < a2 := by
      rcases ha with ha | ⟨ha, ha1⟩
      · exact ha
      · subst ha
        exfalso
        have := Int.mul_pos ha1 hb2
        omega
    exact ⟨b2, a2, hb2, ha2, by have e1 := Int.mul_comm b2 a1; omega, Int.mul_comm _ _⟩
  · have hb0 : b2 = 0 := by omega
    subst hb0
    have hb1 : 0 < b1 := by omega
    have ha0 : a2 = 0 := by
      have : a2 * b1 = 0 := by omega
      rcases Int.mul_eq_zero.1 this with h | h <;> omega
    subst ha0
    exact ⟨b1, a1, hb1, by omega, Int.mul_comm _ _, by omega⟩
theorem hf_par {d a b : Int × Int} (hd : d ≠ (0, 0)) (ha : Hf d a) (hb : Hf d b) (h : dv a b = 0) : ∃ p q : Int, 0 < p ∧ 0 < q ∧ p * a.1 = q * b.1 ∧ p * a.2 = q * b.2 := by
  have hn := nr_pos hd
  have h' : dv b a = 0 := by rw [dv_sw]; omega
  obtain ⟨p, q, hp, hq, e1, e2⟩ := up_par (hf_up.1 ha) (hf_up.1 hb) (by rw [tu_dv, h', Int.mul_zero])
  refine ⟨p, q, hp, hq, ?_, ?_⟩
  · apply Int.eq_of_mul_eq_mul_left (Int.ne_of_gt hn)
    unfold tu dv at e1 e2
    unfold nr
    simp only at e1 e2
    grind
  · apply Int.eq_of_mul_eq_mul_left (Int.ne_of_gt hn)
    unfold tu dv at e1 e2
    unfold nr
    simp only at e1 e2
    grind
theorem l1_mul {p q : Int} {a b : Int × Int} (hp : 0 < p) (hq : 0 < q) (e1 : p * a.1 = q * b.1) (e2 : p * a.2 = q * b.2) : p * l1 a = q * l1 b := by
  have k1 : p.natAbs * a.1.natAbs = q.natAbs * b.1.natAbs := by rw [← Int.natAbs_mul, ← Int.natAbs_mul, e1]
  have k2 : p.natAbs * a.2.natAbs = q.natAbs * b.2.natAbs := by rw [← Int.natAbs_mul, ← Int.natAbs_mul, e2]
  have m1 : (p.natAbs : Int) * (a.1.natAbs : Int) = (q.natAbs : Int) * (b.1.natAbs : Int) := by exact_mod_cast k1
  have m2 : (p.natAbs : Int) * (a.2.natAbs : Int) = (q.natAbs : Int) * (b.2.natAbs : Int) := by exact_mod_cast k2
  have hp' : (p.natAbs : Int) = p := by omega
  have hq' : (q.natAbs : Int) = q := by omega
  rw [hp', hq'] at m1 m2
  unfold l1
  rw [Int.mul_add, Int.mul_add, m1, m2]
def trn (a b c : Int × Int) : Int := dv (sbv b a) (sbv c a)
theorem sbv_nz {a b : Int × Int} (h : a ≠ b) : sbv a b ≠ (0, 0) := by
  intro e
  unfold sbv at e
  simp only [Prod.mk.injEq] at e
  exact h (Prod.ext (by omega) (by omega))
/-- A point beyond which there is nothing. -/
def Ext (L : List (Int × Int)) (a : Int × Int) : Prop := ∃ d, d ≠ (0, 0) ∧ ∀ c, c ∈ L → c ≠ a → Hf d (sbv c a)
/-- The corner behind a. -/
def Nxt (L : List (Int × Int)) (a b : Int × Int) : Prop := b ∈ L ∧ b ≠ a ∧ ∀ c, c ∈ L → 0 ≤ trn a b c ∧ (trn a b c = 0 → l1 (sbv c a) ≤ l1 (sbv b a))
theorem nxt_one {L : List (Int × Int)} {a b b' : Int × Int} (he : Ext L a) (h : Nxt L a b) (h' : Nxt L a b') : b = b' := by
  obtain ⟨d, hd, hh⟩ := he
  have x := h.2.2 b' h'.1
  have y := h'.2.2 b h.1
  have sw : trn a b' b = - trn a b b' := dv_sw _ _
  have z : trn a b b' = 0 := by omega
  have lx := x.2 z
  have ly := y.2 (by omega)
  obtain ⟨p, q, hp, hq, e1, e2⟩ := hf_par hd (hh b h.1 h.2.1) (hh b' h'.1 h'.2.1) z
  have em := l1_mul hp hq e1 e2
  have el : l1 (sbv b a) = l1 (sbv b' a) := by omega
  rw [el] at em
  have hz := l1_pos (sbv_nz h'.2.1)
  have epq : p = q := Int.eq_of_mul_eq_mul_right (Int.ne_of_gt hz) em
  subst epq
  have f1 := Int.eq_of_mul_eq_mul_left (Int.ne_of_gt hp) e1
  have f2 := Int.eq_of_mul_eq_mul_left (Int.ne_of_gt hp) e2
  unfold sbv at f1 f2
  exact Prod.ext (by simp only at f1; omega) (by simp only at f2; omega)
/-- Points on the line of a side are between its two corners. -/
theorem nxt_between {L : List (Int × Int)} {a b c : Int × Int} (he : Ext L a) (h : Nxt L a b) (hc : c ∈ L) (hca : c ≠ a) (hcb : c ≠ b) (hz : trn a b c = 0) :
    ∃ p q : Int, 0 < q ∧ q < p ∧ p * (sbv c a).1 = q * (sbv b a).1 ∧ p * (sbv c a).2 = q * (sbv b a).2 := by
  obtain ⟨d, hd, hh⟩ := he
  obtain ⟨p, q, hp, hq, e1, e2⟩ := hf_par hd (hh c hc hca) (hh b h.1 h.2.1) (by rw [dv_sw]; unfold trn at hz; omega)
  refine ⟨p, q, hq, ?_, e1, e2⟩
  have hl := (h.2.2 c hc).2 hz
  have em := l1_mul hp hq e1 e2
  have hb := l1_pos (sbv_nz h.2.1)
  rcases Int.lt_trichotomy q p with x | x | x
  · exact x
  · exfalso
    subst x
    have f1 := Int.eq_of_mul_eq_mul_left (Int.ne_of_gt hp) e1
    have f2 := Int.eq_of_mul_eq_mul_left (Int.ne_of_gt hp) e2
    unfold sbv at f1 f2
    exact hcb (Prod.ext (by simp only at f1; omega) (by simp only at f2; omega))
  · exfalso
    have h1 : p * l1 (sbv c a) ≤ p * l1 (sbv b a) := Int.mul_le_mul_of_nonneg_left hl (by omega)
    have h2 : p * l1 (sbv b a) < q * l1 (sbv b a) := Int.mul_lt_mul_of_pos_right x hb
    omega
theorem nxt_ext {L : List (Int × Int)} {a b : Int × Int} (he : Ext L a) (h : Nxt L a b) : Ext L b := by
  refine ⟨sbv b a, sbv_nz h.2.1, fun c hc hcb => ?_⟩
  have ht := h.2.2 c hc
  have e : dv (sbv b a) (sbv c b) = trn a b c := by unfold trn dv sbv; grind
  by_cases hpos : 0 < trn a b c
  · exact Or.inl (by rw [e]; exact hpos)
  · have hz : trn a b c = 0 := by omega
    refine Or.inr ⟨by rw [e]; exact hz, ?_⟩
    have hn := nr_pos (sbv_nz h.2.1)
    by_cases hca : c = a
    · subst hca
      have : (sbv b c).1 * (sbv c b).1 + (sbv b c).2 * (sbv c b).2 = - nr (sbv b c) := by unfold nr sbv; grind
      omega
    · obtain ⟨p, q, hq, hqp, e1, e2⟩ := nxt_between he h hc hca hcb hz
      have k : p * ((sbv b a).1 * (sbv c b).1 + (sbv b a).2 * (sbv c b).2) = (q - p) * nr (sbv b a) := by
        unfold nr sbv at *
        simp only at *
        grind
      have k2 := Int.mul_pos (show 0 < p - q by omega) hn
      have k3 : (q - p) * nr (sbv b a) = - ((p - q) * nr (sbv b a)) := by grind
      apply Classical.byContradiction
      intro hge
      have := Int.mul_nonneg (show 0 ≤ p by omega) (show 0 ≤ (sbv b a).1 * (sbv c b).1 + (sbv b a).2 * (sbv c b).2 by omega)
      omega

end Go.Proofs.Ytmjhejmkmdgikaa
