/-
  Contracts of chapter 1's inverses modulo a number, in the program and in the model (own work).
-/
import Derived.Test.YtohnmogejidpdaaMateM
namespace Go.Proofs.Ytohnmogejidpdaa
open Go.ChangeShapes Go.WideShapes Go.ChangeAt Go.RowKit
set_option linter.unusedVariables false
set_option linter.unusedSimpArgs false

theorem mm_bd {m : Int} (h1 : 1 ≤ m) (h2 : m ≤ 1000000) : m * m ≤ 1000000000000 := by
  have := (mul_bd (a := m) (b := m) (A := 1000000) (B := 1000000) (by omega) h2 (by omega) h2).2
  omega
theorem l01Rest_any (n x : Int) (w : World) (hn1 : 1 ≤ n) (hn2 : n ≤ 1000000000000000) (hx1 : -1000000000000000 ≤ x) (hx2 : x ≤ 1000000000000000) :
    Calls Try.prog 99 #[.int .i64 n, .int .i64 x] w fun e w' => e = .returned (.int .i64 (x % n)) ∧ w = w' := by
  have HE := Lib.hid (rest_emod2 (n := n) (x := x) hn1)
  have hn0 : ¬ n = 0 := by omega
  have l : (x.tmod n).natAbs < n.natAbs := tmod_lt x n hn0
  go_enter Try.func99, Try.ntmps99
  go_wp2
  go_ret
  exact ⟨by rw [← HE.out]; rfl, rfl⟩
end Go.Proofs.Ytohnmogejidpdaa
