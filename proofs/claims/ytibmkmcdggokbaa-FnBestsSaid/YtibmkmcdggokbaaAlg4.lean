/-
  Contracts of chapter 1's DistanceOf, PrimitiveOf, AddPoints in the model and in the program (own work).
-/
import Derived.Test.YtibmkmcdggokbaaAlg3
namespace Go.Proofs.Ytibmkmcdggokbaa
open Go.ChangeShapes Go.WideShapes Go.ChangeAt Go.RowKit
set_option linter.unusedVariables false
set_option linter.unusedSimpArgs false

theorem lenP_pos {a b : Int × Int} (h : ¬ (a.1 = b.1 ∧ a.2 = b.2)) : 1 ≤ lenP a b := by
  unfold lenP gcdI
  have : Int.gcd (b.1 - a.1) (b.2 - a.2) ≠ 0 := by
    intro hz
    rw [Int.gcd_eq_zero_iff] at hz
    omega
  omega
theorem area_bd {x0 y0 x1 y1 x2 y2 : Int} (k0 : isPt (x0, y0) = true) (k1 : isPt (x1, y1) = true) (k2 : isPt (x2, y2) = true) : 0 ≤ areaP (x0, y0) (x1, y1) (x2, y2) ∧ areaP (x0, y0) (x1, y1) (x2, y2) ≤ 1000000000000000000 := by
  have := det_tn k0 k1 k2
  unfold Tn at this
  unfold areaP absI
  dsimp only
  omega
theorem len_bd {x0 y0 x1 y1 : Int} (k0 : isPt (x0, y0) = true) (k1 : isPt (x1, y1) = true) : 0 ≤ lenP (x0, y0) (x1, y1) := by
  unfold lenP gcdI
  omega





def primP (a : Int × Int) : Int × Int := (IntKind.i64.wrap (a.1.tdiv (gcdI a.1 a.2)), IntKind.i64.wrap (a.2.tdiv (gcdI a.1 a.2)))
theorem gcd_ne {x y : Int} (h : (x == 0 && y == 0) = false) : ¬ gcdI x y = 0 := by
  unfold gcdI
  intro hz
  have hz' : Int.gcd x y = 0 := by omega
  rw [Int.gcd_eq_zero_iff] at hz'
  simp [hz'.1, hz'.2] at h
theorem crd_tn {x : Int} (h : -1000000 ≤ x ∧ x ≤ 1000000) : Tn x := ⟨by omega, by omega⟩



end Go.Proofs.Ytibmkmcdggokbaa
