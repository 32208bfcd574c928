/-
  Chapter 4's triangles as plain numbers: sides, inner points row by row (own work).
-/
import Derived.Test.YtcgaikedbhdbgaaCorM
import Derived.Test.YtcgaikedbhdbgaaAlg4
namespace Go.Proofs.Ytcgaikedbhdbgaa
set_option linter.unusedVariables false
set_option maxRecDepth 100000
set_option linter.unusedSimpArgs false

def isS (x y : Int) : Bool := decide (-1000 ≤ x) && decide (x ≤ 1000) && decide (-1000 ≤ y) && decide (y ≤ 1000)
def Sml (x : Int) : Prop := -1000 ≤ x ∧ x ≤ 1000
theorem isS_iff {x y : Int} : isS x y = true ↔ Sml x ∧ Sml y := by simp [isS, Sml, and_assoc]
theorem Sml.pt {x y : Int} (h : Sml x) (k : Sml y) : isPt (x, y) = true := by
  unfold Sml at *
  unfold isPt
  rw [Bool.and_eq_true]
  exact ⟨crd_iff.2 ⟨by omega, by omega⟩, crd_iff.2 ⟨by omega, by omega⟩⟩
theorem Sml.bn {x : Int} (h : Sml x) : Bn x := by unfold Sml at h; unfold Bn; omega
theorem Sml.sub {x y : Int} (h : Sml x) (k : Sml y) : -2000 ≤ x - y ∧ x - y ≤ 2000 := by unfold Sml at *; omega
def isT (a b c d e f : Int) : Bool := isS a b && isS c d && isS e f && (areaP (a, b) (c, d) (e, f) != 0)
/-- A triangle's numbers. -/
def Tri (a b c d e f : Int) : Prop := Sml a ∧ Sml b ∧ Sml c ∧ Sml d ∧ Sml e ∧ Sml f ∧ areaP (a, b) (c, d) (e, f) ≠ 0
theorem isT_iff {a b c d e f : Int} : isT a b c d e f = true ↔ Tri a b c d e f := by simp [isT, Tri, isS_iff, and_assoc]
def sd (a b c d x y : Int) : Int := (c - a) * (y - b) - (d - b) * (x - a)
theorem sd_sum (a b c d e f x y : Int) : sd a b c d x y + sd c d e f x y + sd e f a b x y = sd a b c d e f := by unfold sd; grind
theorem sd_bx (a b c d e f x y m : Int) : sd c d e f x y * (a - m) + sd e f a b x y * (c - m) + sd a b c d x y * (e - m) = sd a b c d e f * (x - m) := by unfold sd; grind
theorem sd_by (a b c d e f x y m : Int) : sd c d e f x y * (b - m) + sd e f a b x y * (d - m) + sd a b c d x y * (f - m) = sd a b c d e f * (y - m) := by unfold sd; grind
def inT (a b c d e f x y : Int) : Bool := decide (0 < sd a b c d x y) && decide (0 < sd c d e f x y) && decide (0 < sd e f a b x y)
theorem inT_iff {a b c d e f x y : Int} : inT a b c d e f x y = true ↔ 0 < sd a b c d x y ∧ 0 < sd c d e f x y ∧ 0 < sd e f a b x y := by simp [inT, and_assoc]
theorem inT_lo {a b c d e f x y m : Int} (h : inT a b c d e f x y = true) (h1 : m ≤ a) (h2 : m ≤ c) (h3 : m ≤ e) : m < x := by
  obtain ⟨s0, s1, s2⟩ := inT_iff.1 h
  have hs := sd_sum a b c d e f x y
  have hb := sd_bx a b c d e f x y m
  have p1 := Int.mul_nonneg (Int.le_of_lt s1) (Int.sub_nonneg.2 h1)
  have p2 := Int.mul_nonneg (Int.le_of_lt s2) (Int.sub_nonneg.2 h2)
  have p3 := Int.mul_nonneg (Int.le_of_lt s0) (Int.sub_nonneg.2 h3)
  apply Int.not_le.1
  intro hx
  have hD : 0 < sd a b c d e f := by omega
  have p4 := Int.mul_nonneg (Int.le_of_lt hD) (Int.sub_nonneg.2 hx)
  have e4 : sd a b c d e f * (x - m) = -(sd a b c d e f * (m - x)) := by grind
  have z1 : sd c d e f x y * (a - m) = 0 := by omega
  have z2 : sd e f a b x y * (c - m) = 0 := by omega
  have z3 : sd a b c d x y * (e - m) = 0 := by omega
  have a1 : a = m := by rcases Int.mul_eq_zero.1 z1 with h | h <;> omega
  have a2 : c = m := by rcases Int.mul_eq_zero.1 z2 with h | h <;> omega
  have a3 : e = m := by rcases Int.mul_eq_zero.1 z3 with h | h <;> omega
  subst a1 a2 a3
  unfold sd at hD
  grind
theorem sd_swap (a b c d x y : Int) : sd a b c d x y = sd b a d c y x * (-1) := by unfold sd; grind
theorem sd_flip (a b c d x y : Int) : sd a b c d x y = - sd c d a b x y := by unfold sd; grind
theorem inT_hi {a b c d e f x y m : Int} (h : inT a b c d e f x y = true) (h1 : a ≤ m) (h2 : c ≤ m) (h3 : e ≤ m) : x < m := by
  have h' : inT (-c) d (-a) b (-e) f (-x) y = true := by
    obtain ⟨s0, s1, s2⟩ := inT_iff.1 h
    refine inT_iff.2 ⟨?_, ?_, ?_⟩
    · have : sd (-c) d (-a) b (-x) y = sd a b c d x y := by unfold sd; grind
      omega
    · have : sd (-a) b (-e) f (-x) y = sd e f a b x y := by unfold sd; grind
      omega
    · have : sd (-e) f (-c) d (-x) y = sd c d e f x y := by unfold sd; grind
      omega
  have := inT_lo (m := -m) h' (by omega) (by omega) (by omega)
  omega
theorem inT_tr {a b c d e f x y : Int} (h : inT a b c d e f x y = true) : inT d c b a f e y x = true := by
  obtain ⟨s0, s1, s2⟩ := inT_iff.1 h
  refine inT_iff.2 ⟨?_, ?_, ?_⟩
  · have : sd d c b a y x = sd a b c d x y := by unfold sd; grind
    omega
  · have : sd b a f e y x = sd e f a b x y := by unfold sd; grind
    omega
  · have : sd f e d c y x = sd c d e f x y := by unfold sd; grind
    omega
theorem inT_ylo {a b c d e f x y m : Int} (h : inT a b c d e f x y = true) (h1 : m ≤ b) (h2 : m ≤ d) (h3 : m ≤ f) : m < y := inT_lo (inT_tr h) h2 h1 h3
theorem inT_yhi {a b c d e f x y m : Int} (h : inT a b c d e f x y = true) (h1 : b ≤ m) (h2 : d ≤ m) (h3 : f ≤ m) : y < m := inT_hi (inT_tr h) h2 h1 h3
/-- The least y that is above the line of a side that goes to the right. -/
def loY (a b c d x : Int) : Int := b + ((d - b) * (x - a)) / (c - a) + 1
theorem lo_iff {a b c d x y : Int} (h : 0 < c - a) : 0 < sd a b c d x y ↔ loY a b c d x ≤ y := by
  unfold sd loY
  have e := Int.emod_add_mul_ediv ((d - b) * (x - a)) (c - a)
  have h1 := Int.emod_nonneg ((d - b) * (x - a)) (by omega : c - a ≠ 0)
  have h2 := Int.emod_lt_of_pos ((d - b) * (x - a)) h
  generalize ((d - b) * (x - a)) % (c - a) = r at *
  generalize ((d - b) * (x - a)) / (c - a) = q at *
  generalize (d - b) * (x - a) = p at *
  generalize c - a = n at *
  constructor
  · intro k
    apply Int.not_lt.1
    intro hl
    have : n * (y - b) ≤ n * q := Int.mul_le_mul_of_nonneg_left (by omega) (by omega)
    omega
  · intro k
    have : n * (q + 1) ≤ n * (y - b) := Int.mul_le_mul_of_nonneg_left (by omega) (by omega)
    rw [Int.mul_add, Int.mul_one] at this
    omega
theorem hi_mono {a b c d x y z : Int} (h : c - a ≤ 0) (hz : y ≤ z) (k : 0 < sd a b c d x z) : 0 < sd a b c d x y := by
  unfold sd at *
  have : (c - a) * (z - b) ≤ (c - a) * (y - b) := by have q1 : 0 ≤ (-(c - a)) * ((z - b) - (y - b)) := Int.mul_nonneg (by omega) (by omega); grind
  omega
/-- One step of the program's start of a row. -/
def stY (s a b c d x : Int) : Int := if 0 < c - a then max s (loY a b c d x) else s
def st3 (a b c d e f x : Int) : Int := stY (stY (stY (-1000) a b c d x) c d e f x) e f a b x
theorem stY_ge (s a b c d x : Int) : s ≤ stY s a b c d x := by unfold stY; split <;> omega
theorem stY_le {s a b c d x y : Int} (hs : s ≤ y) (h : 0 < sd a b c d x y) : stY s a b c d x ≤ y := by
  unfold stY; split
  · next k => have := (lo_iff k).1 h; omega
  · exact hs
theorem stY_mono {s a b c d x y z : Int} (h : stY s a b c d x ≤ y) (hz : y ≤ z) (k : 0 < sd a b c d x z) : 0 < sd a b c d x y := by
  unfold stY at h
  split at h
  · next hd => exact (lo_iff hd).2 (by omega)
  · exact hi_mono (by omega) hz k
theorem st3_le {a b c d e f x y : Int} (h : inT a b c d e f x y = true) (hl : -1000 ≤ y) : st3 a b c d e f x ≤ y := by
  obtain ⟨s0, s1, s2⟩ := inT_iff.1 h
  exact stY_le (stY_le (stY_le hl s0) s1) s2
theorem st3_mono {a b c d e f x y z : Int} (h : st3 a b c d e f x ≤ y) (hz : y ≤ z) (k : inT a b c d e f x z = true) : inT a b c d e f x y = true := by
  obtain ⟨s0, s1, s2⟩ := inT_iff.1 k
  unfold st3 at h
  have g2 := stY_ge (stY (stY (-1000) a b c d x) c d e f x) e f a b x
  have g1 := stY_ge (stY (-1000) a b c d x) c d e f x
  exact inT_iff.2 ⟨stY_mono (s := -1000) (by omega) hz s0, stY_mono (s := stY (-1000) a b c d x) (by omega) hz s1, stY_mono h hz s2⟩
/-- The numbers y0, y0 + 1, .. below y0 + n for which p holds. -/
def filN (p : Int → Bool) (y0 : Int) : Nat → List Int
  | 0 => []
  | n + 1 => filN p y0 n ++ (if p (y0 + n) then [y0 + n] else [])
def iotN (y0 : Int) : Nat → List Int
  | 0 => []
  | n + 1 => iotN y0 n ++ [y0 + n]
theorem iotN_len (y0 : Int) : ∀ n, (iotN y0 n).length = n
  | 0 => rfl
  | n + 1 => by simp [iotN, iotN_len y0 n]
theorem filN_iv (p : Int → Bool) (y0 s : Int) (j : Nat) (hs : y0 ≤ s) (hp : ∀ y, y0 ≤ y → (p y = true ↔ s ≤ y ∧ y < s + j)) : ∀ n : Nat, filN p y0 n = iotN s (min j (y0 + n - s).toNat)
  | 0 => by
    have : min j (y0 + (0 : Nat) - s).toNat = 0 := by omega
    rw [this]; rfl
  | n + 1 => by
    unfold filN
    rw [filN_iv p y0 s j hs hp n]
    by_cases h : p (y0 + n) = true
    · have k := (hp (y0 + n) (by omega)).1 h
      rw [if_pos h]
      have e1 : min j (y0 + ((n + 1 : Nat) : Int) - s).toNat = min j (y0 + n - s).toNat + 1 := by omega
      rw [e1, iotN]
      have e2 : s + ((min j (y0 + n - s).toNat : Nat) : Int) = y0 + n := by omega
      rw [e2]
    · rw [if_neg h, List.append_nil]
      have k : ¬ (s ≤ y0 + n ∧ y0 + n < s + j) := fun q => h ((hp (y0 + n) (by omega)).2 q)
      have e1 : min j (y0 + ((n + 1 : Nat) : Int) - s).toNat = min j (y0 + n - s).toNat := by omega
      rw [e1]
theorem filN_none (p : Int → Bool) (y0 : Int) : ∀ n : Nat, (∀ y, p y = false) → filN p y0 n = []
  | 0, _ => rfl
  | n + 1, h => by unfold filN; rw [filN_none p y0 n h, h]; rfl
theorem filN_len (p : Int → Bool) (y0 : Int) : ∀ n : Nat, (filN p y0 n).length ≤ n
  | 0 => Nat.le_refl _
  | n + 1 => by
    unfold filN
    have := filN_len p y0 n
    rw [List.length_append]
    split <;> simp <;> omega
/-- The program's row is the model's one: j points from the start on are inside, the next one is not. -/
theorem row_eq {a b c d e f x lo : Int} {N j : Nat} (hb : lo ≤ b) (hd : lo ≤ d) (hf : lo ≤ f) (hb2 : b ≤ lo + N) (hd2 : d ≤ lo + N) (hf2 : f ≤ lo + N) (h10 : -1000 ≤ lo)
    (hin : ∀ i : Nat, i < j → inT a b c d e f x (st3 a b c d e f x + i) = true) (hout : inT a b c d e f x (st3 a b c d e f x + j) = false) :
    filN (inT a b c d e f x) lo (N + 1) = iotN (st3 a b c d e f x) j := by
  generalize hs : st3 a b c d e f x = s at *
  by_cases hj : j = 0
  · subst hj
    rw [filN_none]
    · rfl
    · intro y
      apply Bool.eq_false_iff.2
      intro hy
      have l1 := inT_ylo hy hb hd hf
      have l2 := st3_le hy (by omega)
      rw [hs] at l2
      have := st3_mono (a := a) (b := b) (c := c) (d := d) (e := e) (f := f) (x := x) (y := s) (z := y) (by omega) l2 hy
      simp at hout
      rw [hout] at this
      exact absurd this (by decide)
  · have i0 := hin 0 (by omega)
    have i1 := hin (j - 1) (by omega)
    have l0 := inT_ylo i0 hb hd hf
    have u1 := inT_yhi i1 hb2 hd2 hf2
    rw [filN_iv (inT a b c d e f x) lo s j (by omega)]
    · congr 1
      omega
    · intro y hy
      constructor
      · intro hp
        have l1 := inT_ylo hp hb hd hf
        have l2 := st3_le hp (by omega)
        rw [hs] at l2
        refine ⟨l2, Int.not_le.1 fun hge => ?_⟩
        have := st3_mono (a := a) (b := b) (c := c) (d := d) (e := e) (f := f) (x := x) (y := s + j) (z := y) (by omega) hge hp
        rw [hout] at this
        exact absurd this (by decide)
      · intro ⟨g1, g2⟩
        have := hin (y - s).toNat (by omega)
        have e2 : s + (((y - s).toNat : Nat) : Int) = y := by omega
        rwa [e2] at this
def rowP (x : Int) (ys : List Int) : List (Int × Int) := ys.map fun y => (x, y)
def rowsN (f : Int → List Int) (x0 : Int) : Nat → List (Int × Int)
  | 0 => []
  | n + 1 => rowsN f x0 n ++ rowP (x0 + n) (f (x0 + n))
theorem rowsN_shift (f : Int → List Int) (x0 : Int) : ∀ n : Nat, rowsN f x0 (n + 1) = rowP x0 (f x0) ++ rowsN f (x0 + 1) n
  | 0 => by simp [rowsN]
  | n + 1 => by
    have e : x0 + ((n + 1 : Nat) : Int) = x0 + 1 + n := by omega
    rw [rowsN, rowsN_shift f x0 n, e, List.append_assoc]
    rfl
theorem rowsN_inner (f : Int → List Int) (x0 : Int) (n : Nat) (h0 : f x0 = []) (h1 : f (x0 + (n + 1 : Nat)) = []) : rowsN f x0 (n + 2) = rowsN f (x0 + 1) n := by
  rw [rowsN, h1, rowsN_shift, h0]
  simp [rowP]
theorem rowsN_congr {f g : Int → List Int} (x0 : Int) : ∀ n : Nat, (∀ i : Nat, i < n → f (x0 + i) = g (x0 + i)) → rowsN f x0 n = rowsN g x0 n
  | 0, _ => rfl
  | n + 1, h => by rw [rowsN, rowsN, rowsN_congr x0 n (fun i hi => h i (by omega)), h n (by omega)]
theorem rowsN_len (f : Int → List Int) (x0 : Int) (k : Nat) (h : ∀ x, (f x).length ≤ k) : ∀ n : Nat, (rowsN f x0 n).length ≤ n * k
  | 0 => by simp [rowsN]
  | n + 1 => by
    rw [rowsN, List.length_append, Nat.succ_mul]
    have := rowsN_len f x0 k h n
    have := h (x0 + n)
    simp only [rowP, List.length_map]
    omega
/-- The turn of a triangle. -/
def tnI (a b c d e f : Int) : Int := if sd a b c d e f < 0 then -1 else 1
def inM (a b c d e f x y : Int) : Bool := decide (0 < tnI a b c d e f * sd a b c d x y) && decide (0 < tnI a b c d e f * sd c d e f x y) && decide (0 < tnI a b c d e f * sd e f a b x y)
theorem inM_pos {a b c d e f : Int} (h : ¬ sd a b c d e f < 0) (x y : Int) : inM a b c d e f x y = inT a b c d e f x y := by
  unfold inM inT tnI
  rw [if_neg h]
  simp
theorem inM_neg {a b c d e f : Int} (h : sd a b c d e f < 0) (x y : Int) : inM a b c d e f x y = inT a b e f c d x y := by
  unfold inM inT tnI
  rw [if_pos h]
  rw [sd_flip a b c d, sd_flip c d e f, sd_flip e f a b]
  simp only [Int.neg_mul_neg, Int.one_mul]
  generalize decide (0 < sd c d a b x y) = p
  generalize decide (0 < sd e f c d x y) = q
  generalize decide (0 < sd a b e f x y) = r
  cases p <;> cases q <;> cases r <;> rfl
def mn3 (a b c : Int) : Int := min (min a b) c
def mx3 (a b c : Int) : Int := max (max a b) c
/-- The inner points of a triangle, row by row. -/
def inL (a b c d e f : Int) : List (Int × Int) := rowsN (fun x => filN (inT a b c d e f x) (mn3 b d f) (mx3 b d f - mn3 b d f + 1).toNat) (mn3 a c e + 1) (mx3 a c e - mn3 a c e - 1).toNat
theorem filN_congr {p q : Int → Bool} (h : ∀ y, p y = q y) (y0 : Int) (n : Nat) : filN p y0 n = filN q y0 n := by rw [show p = q from funext h]
theorem inL_rows {a b c d e f : Int} (p : Int → Int → Bool) (hp : ∀ x y, p x y = inT a b c d e f x y) (hne : mn3 a c e < mx3 a c e) :
    rowsN (fun x => filN (p x) (mn3 b d f) (mx3 b d f - mn3 b d f + 1).toNat) (mn3 a c e) (mx3 a c e - mn3 a c e + 1).toNat = inL a b c d e f := by
  have hpe : p = inT a b c d e f := funext fun x => funext fun y => hp x y
  subst hpe
  obtain ⟨n, hn⟩ : ∃ n : Nat, (mx3 a c e - mn3 a c e - 1).toNat = n := ⟨_, rfl⟩
  have he : (mx3 a c e - mn3 a c e + 1).toNat = n + 2 := by omega
  unfold inL
  rw [hn, he]
  refine rowsN_inner _ _ _ (filN_none _ _ _ fun y => ?_) (filN_none _ _ _ fun y => ?_)
  · apply Bool.eq_false_iff.2
    intro h
    have := inT_lo (m := mn3 a c e) h (by unfold mn3; omega) (by unfold mn3; omega) (by unfold mn3; omega)
    omega
  · apply Bool.eq_false_iff.2
    intro h
    have := inT_hi (m := mx3 a c e) h (by unfold mx3; omega) (by unfold mx3; omega) (by unfold mx3; omega)
    omega
theorem inL_len {a b c d e f : Int} (h : mx3 a c e - mn3 a c e ≤ 2000) (k : mx3 b d f - mn3 b d f ≤ 2000) : (inL a b c d e f).length ≤ 4000000 + 4000 := by
  unfold inL
  have := rowsN_len (fun x => filN (inT a b c d e f x) (mn3 b d f) (mx3 b d f - mn3 b d f + 1).toNat) (mn3 a c e + 1) 2001 (fun x => by have := filN_len (inT a b c d e f x) (mn3 b d f) (mx3 b d f - mn3 b d f + 1).toNat; omega) (mx3 a c e - mn3 a c e - 1).toNat
  have h2 : (mx3 a c e - mn3 a c e - 1).toNat * 2001 ≤ 2000 * 2001 := Nat.mul_le_mul_right _ (by omega)
  omega
end Go.Proofs.Ytcgaikedbhdbgaa
