/-
  Contracts of chapter 1's greatest common divisors and absolute values (own work).
-/
import Derived.Test.YtibmkmcdggokbaaAlg
namespace Go.Proofs.Ytibmkmcdggokbaa
open Go.ChangeShapes Go.WideShapes Go.ChangeAt Go.RowKit
set_option linter.unusedVariables false
set_option linter.unusedSimpArgs false

theorem ret_int {k : IntKind} {a b : Int} (h : a = b) : Ending.returned (.int k a) = .returned (.int k b) := by rw [h]
def gcdI (a b : Int) : Int := (Int.gcd a b : Int)
def absI (a : Int) : Int := (a.natAbs : Int)
theorem gcd_step (a b : Int) : Int.gcd b (a.tmod b) = Int.gcd a b := by
  unfold Int.gcd
  rw [Int.natAbs_tmod, Nat.gcd_comm, ← Nat.gcd_rec, Nat.gcd_comm]
theorem tmod_lt (a b : Int) (hb : b ≠ 0) : (a.tmod b).natAbs < b.natAbs := by
  rw [Int.natAbs_tmod]; exact Nat.mod_lt _ (by omega)
theorem gcd_zero (a : Int) : gcdI a 0 = absI a := by simp [gcdI, absI]
/-- A number of at most a trillion and more in absolute value. -/
def Tn (n : Int) : Prop := -1000000000000000000 ≤ n ∧ n ≤ 1000000000000000000
theorem Bn.tn {n : Int} (h : Bn n) : Tn n := by unfold Bn at h; unfold Tn; omega
theorem tmod_tn {a b : Int} (hb : b ≠ 0) (h : Tn b) : Tn (a.tmod b) := by
  have := tmod_lt a b hb
  unfold Tn at *
  omega

end Go.Proofs.Ytibmkmcdggokbaa
