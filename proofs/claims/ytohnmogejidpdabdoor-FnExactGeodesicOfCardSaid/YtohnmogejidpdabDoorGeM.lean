/-
  Geodesics as plain numbers: the model's list and the program's (own work).
-/
import Derived.Test.YtohnmogejidpdabDoorGeN
namespace Go.Proofs.YtohnmogejidpdabDoor
open Go.ChangeShapes Go.WideShapes Go.ChangeAt Go.RowKit
set_option linter.unusedVariables false
set_option maxRecDepth 100000
set_option linter.unusedSimpArgs false

/-- The way from (x, y) to the last fraction ahead of 1 / 0, as the model goes. -/
def wy : Nat → Int → Int → List (Int × Int)
  | 0, x, y => [(x, y)]
  | f + 1, x, y => if y ≤ 1 then [(x, y)] else (x, y) :: wy f (nxX x y) (nxY x y)
/-- What the program appends on its way, each fraction led back by T. -/
def iw (T : Int → Int → Int × Int) : Nat → Int → Int → List (Int × Int)
  | 0, _, _ => []
  | f + 1, x, y => if y ≤ 0 then [] else T (nxX x y) (nxY x y) :: iw T f (nxX x y) (nxY x y)
theorem iw_end (T : Int → Int → Int × Int) : ∀ (f : Nat) (x : Int), iw T f x 0 = []
  | 0, _ => rfl
  | f + 1, x => by rw [iw, if_pos (by decide)]
theorem iw_go (T : Int → Int → Int × Int) {f : Nat} {x y : Int} (h : 0 < y) : iw T (f + 1) x y = T (nxX x y) (nxY x y) :: iw T f (nxX x y) (nxY x y) := by rw [iw, if_neg (by omega)]
theorem wy_end : ∀ (f : Nat) (x y : Int), y ≤ 1 → wy f x y = [(x, y)]
  | 0, _, _, _ => rfl
  | f + 1, x, y, h => by rw [wy, if_pos h]
theorem wy_go {f : Nat} {x y : Int} (h : 1 < y) : wy (f + 1) x y = (x, y) :: wy f (nxX x y) (nxY x y) := by rw [wy, if_neg (by omega)]
/-- The two lists are one, turned round. -/
theorem iw_wy (T : Int → Int → Int × Int) : ∀ (f : Nat) (x y : Int), isFr x y = true → 1 ≤ y → y ≤ (f : Int) → T x y :: iw T f x y = (wy f x y).map (fun p => T p.1 p.2) ++ [T 1 0]
  | 0, x, y, _, h1, h2 => by omega
  | f + 1, x, y, hF, h1, h2 => by
    rw [iw_go T (by omega)]
    by_cases hy : y = 1
    · subst hy
      rw [(nx_one x).1, (nx_one x).2, iw_end, wy_end _ _ _ (Int.le_refl _)]
      rfl
    · obtain ⟨k1, k2, k3⟩ := nx_fr hF (by omega)
      rw [iw_wy T f _ _ k1 k2 (by omega), wy_go (by omega)]
      rfl
/-- A fraction, led back by the matrix that leads 1 / 0 to a / b. -/
def bkT (a b x y : Int) : Int × Int := (frX (a * x + (mateI a b).1 * y) (b * x + (mateI a b).2 * y), frY (a * x + (mateI a b).1 * y) (b * x + (mateI a b).2 * y))
theorem bkT_one {a b : Int} (h : isFr a b = true) : bkT a b 1 0 = (a, b) := by
  unfold bkT
  rw [Int.mul_one, Int.mul_zero, Int.add_zero, Int.mul_one, Int.mul_zero, Int.add_zero, (isFr_fix h).1, (isFr_fix h).2]
theorem fr_neg {c d : Int} (h : isFr c d = true) : frX (-c) (-d) = c ∧ frY (-c) (-d) = d := by
  obtain ⟨p, q⟩ := isFr_pos h
  have hn : ngt (-c) (-d) = true := by
    simp only [ngt, Bool.or_eq_true, Bool.and_eq_true, decide_eq_true_eq, beq_iff_eq]
    rcases Int.lt_or_le 0 d with k | k
    · left; omega
    · right
      have hd : d = 0 := by omega
      have := q hd
      omega
  unfold frX frY
  rw [hn]
  simp
theorem bkT_seen {a b c d : Int} (h : isFr a b = true) (k : isFr c d = true) : bkT a b (mvX a b c d) (mvY a b c d) = (c, d) := by
  have hm := (mateI_ok (isFr_pt h) (isFr_gcd h)).1
  obtain ⟨e1, e2⟩ := mv_back (c := c) (d := d) hm
  have u1 : a * mvU a b c d + (mateI a b).1 * mvV a b c d = c := e1
  have u2 : b * mvU a b c d + (mateI a b).2 * mvV a b c d = d := e2
  unfold bkT mvX mvY
  cases hn : ngt (mvU a b c d) (mvV a b c d)
  · rw [(frX_same hn).1, (frX_same hn).2, u1, u2, (isFr_fix k).1, (isFr_fix k).2]
  · have x1 : frX (mvU a b c d) (mvV a b c d) = -mvU a b c d := by unfold frX; rw [hn]; rfl
    have x2 : frY (mvU a b c d) (mvV a b c d) = -mvV a b c d := by unfold frY; rw [hn]; rfl
    rw [x1, x2, Int.mul_neg, Int.mul_neg, Int.mul_neg, Int.mul_neg, ← Int.neg_add, ← Int.neg_add, u1, u2, (fr_neg k).1, (fr_neg k).2]
/-- The geodesic, as both sides tell it, and its code. -/
def geK (a b c d : Int) : Int := if allFr [(a, b), (c, d)] = true then (if isPt (mvX a b c d, mvY a b c d) = true then 0 else 3) else frE [(a, b), (c, d)]
def geL (a b c d : Int) : List (Int × Int) := if geK a b c d = 0 then (if mvY a b c d = 0 then [(a, b)] else (a, b) :: ((wy (mvY a b c d).toNat (mvX a b c d) (mvY a b c d)).map (fun p => bkT a b p.1 p.2)).reverse) else []
theorem geL_impl {a b c d : Int} (h : isFr a b = true) (k : isFr c d = true) (hK : geK a b c d = 0) (hp : isPt (mvX a b c d, mvY a b c d) = true) :
    geL a b c d = ((c, d) :: iw (bkT a b) (mvY a b c d).toNat (mvX a b c d) (mvY a b c d)).reverse := by
  obtain ⟨g1, g2, g3⟩ := mv_prim h k
  unfold geL
  rw [if_pos hK]
  by_cases hz : mvY a b c d = 0
  · obtain ⟨rfl, rfl⟩ := mv_zero h k hz
    rw [if_pos hz, hz, iw_end]; rfl
  · have hF : isFr (mvX a b c d) (mvY a b c d) = true := by
      have q1 := isPt_c1 hp
      have q2 := isPt_c2 hp
      exact isFr_of q1 ⟨by omega, q2.2⟩ g1
    rw [if_neg hz]
    have e := iw_wy (bkT a b) (mvY a b c d).toNat (mvX a b c d) (mvY a b c d) hF (by omega) (by omega)
    rw [bkT_seen h k, bkT_one h] at e
    rw [e, List.reverse_append]; rfl
end Go.Proofs.YtohnmogejidpdabDoor
