/-
  Contracts of chapter 1's FractionOf, in the model and in the program (own work).
-/
import Derived.Test.YtibmkmcdggokbaaRow
import Derived.Test.YtibmkmcdggokbaaAlg2
namespace Go.Proofs.Ytibmkmcdggokbaa
open Go.ChangeShapes Go.WideShapes Go.ChangeAt Go.RowKit
set_option linter.unusedVariables false
set_option linter.unusedSimpArgs false

/-- Element k of a list as chapter 1 asks: a number that fits, and at least 1 behind the first one. -/
def elB (xs : List Int) (k : Nat) : Bool := crd (xs.getD k 0) && (decide (k = 0) || decide (1 ≤ xs.getD k 0))
/-- All elements so, up to n. -/
def elsB (xs : List Int) : Nat → Bool
  | 0 => true
  | n + 1 => elsB xs n && elB xs n
def expB (xs : List Int) : Bool := decide (1 ≤ xs.length) && decide (xs.length ≤ 60) && elsB xs xs.length
theorem elsB_at {xs : List Int} : ∀ {n k : Nat}, elsB xs n = true → k < n → elB xs k = true
  | n + 1, k, h, hk => by
    unfold elsB at h
    simp only [Bool.and_eq_true] at h
    by_cases hkn : k = n
    · rw [hkn]; exact h.2
    · exact elsB_at h.1 (by omega)
theorem elsB_no {xs : List Int} : ∀ {n k : Nat}, k < n → elB xs k = false → elsB xs n = false
  | n + 1, k, hk, h => by
    unfold elsB
    by_cases hkn : k = n
    · rw [hkn] at h; rw [h, Bool.and_false]
    · rw [elsB_no (by omega) h, Bool.false_and]

end Go.Proofs.Ytibmkmcdggokbaa
