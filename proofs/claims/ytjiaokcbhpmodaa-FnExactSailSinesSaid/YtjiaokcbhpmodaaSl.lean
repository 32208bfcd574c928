/-
  Sails as plain numbers: each next point, its determinants and bounds, and where a sail ends (own work).
-/
import Derived.Test.YtjiaokcbhpmodaaCorM
namespace Go.Proofs.Ytjiaokcbhpmodaa
open Go.ChangeShapes Go.WideShapes Go.ChangeAt Go.RowKit
set_option linter.unusedVariables false
set_option linter.unusedSimpArgs false

/-- p / q, rounded up. -/
def upI (p q : Int) : Int := -((-p) / q)
theorem upI_bd {p q : Int} (hq : 1 ≤ q) : 0 ≤ upI p q * q - p ∧ upI p q * q - p ≤ q - 1 := by
  have e := Int.emod_add_mul_ediv (-p) q
  have h1 := Int.emod_nonneg (-p) (by omega : q ≠ 0)
  have h2 := Int.emod_lt_of_pos (-p) (by omega : 0 < q)
  unfold upI
  rw [Int.neg_mul, Int.mul_comm ((-p) / q) q]
  omega
theorem upI_range {p q : Int} (hq : 1 ≤ q) (h1 : -2000000000000 ≤ p) (h2 : p ≤ 2000000000000) : -2000000000000 ≤ upI p q ∧ upI p q ≤ 2000000000000 := by
  obtain ⟨a, b⟩ := upI_bd (p := p) hq
  generalize upI p q = c at *
  constructor
  · apply Int.not_lt.1
    intro h
    have : (c + 2000000000001) * q ≤ 0 := Int.mul_nonpos_of_nonpos_of_nonneg (by omega) (by omega)
    rw [Int.add_mul] at this
    omega
  · apply Int.not_lt.1
    intro h
    have : 0 ≤ (c - 2000000000001) * q := Int.mul_nonneg (by omega) (by omega)
    rw [Int.sub_mul] at this
    omega
/-- The number c of a point v of a sail, u being the point ahead of it, and the point behind it. -/
def cS (b u v : Int × Int) : Int := upI (detP u b) (detP v b)
def nxS (b u v : Int × Int) : Int × Int := (cS b u v * v.1 - u.1, cS b u v * v.2 - u.2)
theorem det_next (u v : Int × Int) (c : Int) : detP v (c * v.1 - u.1, c * v.2 - u.2) = detP u v := by
  unfold detP; dsimp only; grind
theorem det_last (u v b : Int × Int) (c : Int) : detP (c * v.1 - u.1, c * v.2 - u.2) b = c * detP v b - detP u b := by
  unfold detP; dsimp only; grind
theorem det_both (u v : Int × Int) (c : Int) : detP u (c * v.1 - u.1, c * v.2 - u.2) = c * detP u v := by
  unfold detP; dsimp only; grind
theorem plucker (a b v w : Int × Int) : detP a w * detP v b - detP a v * detP w b = detP a b * detP v w := by
  unfold detP; grind
theorem spread1 (a b v : Int × Int) : detP a b * v.1 = detP v b * a.1 + detP a v * b.1 := by
  unfold detP; grind
theorem spread2 (a b v : Int × Int) : detP a b * v.2 = detP v b * a.2 + detP a v * b.2 := by
  unfold detP; grind
def Sm (p : Int × Int) : Prop := -2000000 ≤ p.1 ∧ p.1 ≤ 2000000 ∧ -2000000 ≤ p.2 ∧ p.2 ≤ 2000000
/-- Two neighbouring points of the sail of a and b. -/
def SlI (a b u v : Int × Int) : Prop :=
  detP u v = 1 ∧ 0 ≤ detP v b ∧ detP v b ≤ detP a b ∧ 0 ≤ detP a v ∧ detP a v ≤ detP a b ∧ Sm u ∧ Sm v ∧ -2000000000000 ≤ detP u b ∧ detP u b ≤ 2000000000000
/-- Angles. -/
def isAn (a b : Int × Int) : Bool := isPr a.1 a.2 && isPr b.1 b.2 && decide (1 ≤ detP a b)
theorem isPr_parts {a b : Int} (h : isPr a b = true) : isPt (a, b) = true ∧ gcdI a b = 1 := by
  simpa only [isPr, Bool.and_eq_true, beq_iff_eq] using h
theorem isAn_parts {a b : Int × Int} (h : isAn a b = true) : isPt a = true ∧ isPt b = true ∧ gcdI a.1 a.2 = 1 ∧ gcdI b.1 b.2 = 1 ∧ 1 ≤ detP a b ∧ detP a b ≤ 2000000000000 := by
  simp only [isAn, Bool.and_eq_true, decide_eq_true_eq] at h
  obtain ⟨⟨h1, h2⟩, h3⟩ := h
  obtain ⟨p1, g1⟩ := isPr_parts h1
  obtain ⟨p2, g2⟩ := isPr_parts h2
  exact ⟨p1, p2, g1, g2, h3, (det_tnC (a := a.1) (b := a.2) (c := b.1) (d := b.2) p1 p2).2⟩
theorem isPt_sm {p : Int × Int} (h : isPt p = true) : Sm p := by
  obtain ⟨x1, x2⟩ := isPt_c1 (x := p.1) (y := p.2) h
  obtain ⟨y1, y2⟩ := isPt_c2 (x := p.1) (y := p.2) h
  unfold Sm; omega
theorem le_of_mul {D x y : Int} (hD : 1 ≤ D) (h : D * x ≤ D * y) : x ≤ y := Int.le_of_mul_le_mul_left h (by omega)
theorem coord_bd {D r s x y z : Int} (hD : 1 ≤ D) (hr0 : 0 ≤ r) (hr : r ≤ D) (hs0 : 0 ≤ s) (hs : s ≤ D) (hx1 : -1000000 ≤ x) (hx2 : x ≤ 1000000) (hy1 : -1000000 ≤ y) (hy2 : y ≤ 1000000) (h : D * z = r * x + s * y) : -2000000 ≤ z ∧ z ≤ 2000000 := by
  obtain ⟨p1, p2⟩ := mul_bd (a := r) (b := x) (A := D) (B := 1000000) (by omega) hr hx1 hx2
  obtain ⟨q1, q2⟩ := mul_bd (a := s) (b := y) (A := D) (B := 1000000) (by omega) hs hy1 hy2
  exact ⟨le_of_mul hD (by omega), le_of_mul hD (by omega)⟩
/-- The mate, turned around, and the first point. -/
def preS (a : Int × Int) : Int × Int := (-(mateI a.1 a.2).1, -(mateI a.1 a.2).2)
theorem preS_det {a : Int × Int} (h0 : isPt a = true) (hg : gcdI a.1 a.2 = 1) : detP (preS a) a = 1 := by
  have := (mateI_ok (a := a.1) (b := a.2) h0 hg).1
  unfold detP preS; dsimp only; grind
theorem sl_first {a b : Int × Int} (h : isAn a b = true) : SlI a b (preS a) a := by
  obtain ⟨p1, p2, g1, g2, d1, d2⟩ := isAn_parts h
  have hm := (mateI_ok (a := a.1) (b := a.2) p1 g1).2
  have hs := isPt_sm hm
  have hd := det_tnC (a := (mateI a.1 a.2).1) (b := (mateI a.1 a.2).2) (c := b.1) (d := b.2) hm p2
  have e : detP (preS a) b = -detP ((mateI a.1 a.2).1, (mateI a.1 a.2).2) (b.1, b.2) := by unfold detP preS; dsimp only; grind
  have e2 : detP a a = 0 := by unfold detP; grind
  refine ⟨preS_det p1 g1, by omega, by omega, by omega, by omega, ?_, isPt_sm p1, by omega, by omega⟩
  unfold Sm preS at *
  dsimp only at *
  omega
/-- A point of the sail that is on b's line is b. -/
theorem sl_end {a b u v : Int × Int} (h : isAn a b = true) (hi : SlI a b u v) (hz : detP v b = 0) : v = b := by
  obtain ⟨p1, p2, g1, g2, d1, d2⟩ := isAn_parts h
  obtain ⟨i1, i2, i3, i4, i5, _⟩ := hi
  have s1 := spread1 a b v
  have s2 := spread2 a b v
  rw [hz] at s1 s2
  have hm := (mateI_ok (a := b.1) (b := b.2) p2 g2).1
  generalize mateI b.1 b.2 = s at *
  generalize detP a b = D at *
  generalize hk : detP a v = k at *
  have e : k = D * (v.1 * s.2 - v.2 * s.1) := by grind
  generalize v.1 * s.2 - v.2 * s.1 = t at *
  have t1 : t ≤ 1 := le_of_mul d1 (by omega)
  have t0 : 0 ≤ t := le_of_mul d1 (by omega)
  have ht : t = 0 ∨ t = 1 := by omega
  rcases ht with rfl | rfl
  · have z1 : v.1 = 0 := by
      have : D * v.1 = D * 0 := by rw [s1, e]; simp
      exact Int.eq_of_mul_eq_mul_left (by omega) this
    have z2 : v.2 = 0 := by
      have : D * v.2 = D * 0 := by rw [s2, e]; simp
      exact Int.eq_of_mul_eq_mul_left (by omega) this
    unfold detP at i1
    rw [z1, z2] at i1
    simp at i1
  · have z1 : v.1 = b.1 := by
      have : D * v.1 = D * b.1 := by rw [s1, e]; simp
      exact Int.eq_of_mul_eq_mul_left (by omega) this
    have z2 : v.2 = b.2 := by
      have : D * v.2 = D * b.2 := by rw [s2, e]; simp
      exact Int.eq_of_mul_eq_mul_left (by omega) this
    exact Prod.ext z1 z2
theorem sl_pos {a b u v : Int × Int} (h : isAn a b = true) (hi : SlI a b u v) (hne : v ≠ b) : 1 ≤ detP v b := by
  have := hi.2.1
  have : detP v b ≠ 0 := fun hz => hne (sl_end h hi hz)
  omega
theorem det_self (b : Int × Int) : detP b b = 0 := by unfold detP; grind
/-- The next point of a sail. -/
theorem sl_next {a b u v : Int × Int} (h : isAn a b = true) (hi : SlI a b u v) (hq : 1 ≤ detP v b) :
    SlI a b v (nxS b u v) ∧ detP (nxS b u v) b < detP v b ∧ detP u (nxS b u v) = cS b u v ∧ -2000000000000 ≤ cS b u v ∧ cS b u v ≤ 2000000000000 := by
  obtain ⟨p1, p2, g1, g2, d1, d2⟩ := isAn_parts h
  obtain ⟨i1, i2, i3, i4, i5, iu, iv, j1, j2⟩ := hi
  obtain ⟨c1, c2⟩ := upI_bd (p := detP u b) hq
  obtain ⟨c3, c4⟩ := upI_range (p := detP u b) hq j1 j2
  have e1 := det_next u v (cS b u v)
  have e2 := det_last u v b (cS b u v)
  have e3 := det_both u v (cS b u v)
  have e4 : ((cS b u v * v.1 - u.1, cS b u v * v.2 - u.2) : Int × Int) = nxS b u v := rfl
  rw [e4] at e1 e2 e3
  have hc : upI (detP u b) (detP v b) = cS b u v := rfl
  rw [hc] at c1 c2 c3 c4
  clear hc e4
  generalize cS b u v = c at *
  generalize hw : nxS b u v = w at *
  clear hw
  have pl := plucker a b v w
  have s1 := spread1 a b w
  have s2 := spread2 a b w
  rw [e1, i1] at pl
  rw [i1] at e3
  have r0 : 0 ≤ detP w b := by omega
  have r1 : detP w b ≤ detP v b - 1 := by omega
  have hb0 : 0 ≤ detP a w := by
    apply Int.not_lt.1
    intro hlt
    have m1 : 0 ≤ (-detP a w - 1) * detP v b := Int.mul_nonneg (by omega) (by omega)
    have m2 : 0 ≤ detP a v * detP w b := Int.mul_nonneg i4 r0
    rw [Int.sub_mul, Int.neg_mul] at m1
    omega
  have hb1 : detP a w ≤ detP a b := by
    refine le_of_mul (D := detP v b) hq ?_
    have m1 : detP a v * detP w b ≤ detP a b * (detP v b - 1) := Int.mul_le_mul i5 r1 r0 (by omega)
    rw [Int.mul_sub] at m1
    rw [Int.mul_comm (detP v b) (detP a w), Int.mul_comm (detP v b) (detP a b)]
    omega
  obtain ⟨x1, x2⟩ := isPt_c1 (x := a.1) (y := a.2) p1
  obtain ⟨x3, x4⟩ := isPt_c2 (x := a.1) (y := a.2) p1
  obtain ⟨y1, y2⟩ := isPt_c1 (x := b.1) (y := b.2) p2
  obtain ⟨y3, y4⟩ := isPt_c2 (x := b.1) (y := b.2) p2
  have w1 := coord_bd d1 r0 (by omega) hb0 hb1 x1 x2 y1 y2 s1
  have w2 := coord_bd d1 r0 (by omega) hb0 hb1 x3 x4 y3 y4 s2
  refine ⟨⟨by omega, r0, by omega, hb0, hb1, iv, ⟨w1.1, w1.2, w2.1, w2.2⟩, by omega, by omega⟩, by omega, by omega, c3, c4⟩
theorem sm_bn {p : Int × Int} (h : Sm p) : Bn p.1 ∧ Bn p.2 := by unfold Sm at h; unfold Bn; omega
/-- The points of the sail from v on, at most n of them. -/
def slN (b : Int × Int) : Nat → Int × Int → Int × Int → List (Int × Int)
  | 0, _, _ => []
  | n + 1, u, v => v :: (if v = b then [] else slN b n v (nxS b u v))
theorem slN_end {b u : Int × Int} {n : Nat} : slN b (n + 1) u b = [b] := by rw [slN, if_pos rfl]
theorem slN_go {b u v : Int × Int} {n : Nat} (h : v ≠ b) : slN b (n + 1) u v = v :: slN b n v (nxS b u v) := by rw [slN, if_neg h]
theorem slN_len1 {b u v : Int × Int} {n : Nat} : 1 ≤ (slN b (n + 1) u v).length := by rw [slN]; simp
/-- The sail of an angle. -/
def slI (a b : Int × Int) : List (Int × Int) := slN b ((detP a b).toNat + 1) (preS a) a
/-- The points of the sail that are returned, and the code. -/
def slL (a b : Int × Int) : List (Int × Int) := if isAn a b = true ∧ (slI a b).length ≤ 2000 then slI a b else []
def slC (a b : Int × Int) : Int := if isAn a b = true then (if (slI a b).length ≤ 2000 then 0 else 3) else 1
theorem slL_len (a b : Int × Int) : (slL a b).length ≤ 2000 := by
  unfold slL
  split
  · rename_i h; exact h.2
  · simp
end Go.Proofs.Ytjiaokcbhpmodaa
