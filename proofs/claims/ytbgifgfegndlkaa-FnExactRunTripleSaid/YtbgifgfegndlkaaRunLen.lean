/-
  The length of a run (own work).
-/
import Derived.Test.YtbgifgfegndlkaaTrY
namespace Go.Proofs.Ytbgifgfegndlkaa
open Go.ChangeShapes Go.WideShapes Go.ChangeAt Go.RowKit
set_option linter.unusedVariables false
set_option linter.unusedSimpArgs false
set_option maxRecDepth 100000

theorem runT_len (k n : Nat) (t : T3) : (runT k n t).length ≤ n + 1 := by
  have h := (runL_len k n (s0S t)).2
  have e := congrArg List.length (runT_map k n (s0S t))
  rw [List.length_map] at e
  have e2 : (runT k n (s0S t).1).length = (runT k n t).length := rfl
  omega
theorem runV_len (a b c r n : Int) : (runV a b c r n).length ≤ 8388608 := by
  unfold runV
  rcases rcd_cases a b c r n with ⟨h0, hs, k, m, rfl, hk, rfl, hm⟩ | ⟨h0, h1⟩
  · rw [if_pos h0]
    have := runT_len ((k : Int).toNat) ((m : Int).toNat) (a, b, c)
    omega
  · rw [if_neg h1]
    simp
end Go.Proofs.Ytbgifgfegndlkaa
