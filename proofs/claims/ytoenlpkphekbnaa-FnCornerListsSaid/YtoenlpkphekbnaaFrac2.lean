/-
  Contracts of chapter 1's FractionOf, in the model and in the program: the fold from the last number on (own work).
-/
import Derived.Test.YtoenlpkphekbnaaFrac
namespace Go.Proofs.Ytoenlpkphekbnaa
open Go.ChangeShapes Go.WideShapes Go.ChangeAt Go.RowKit
set_option linter.unusedVariables false
set_option maxRecDepth 100000
set_option linter.unusedSimpArgs false

def ff : List Int → Int × Int
  | [] => (1, 0)
  | x :: l => (x * (ff l).1 + (ff l).2, (ff l).1)
def okF : List Int → Bool
  | [] => true
  | x :: l => okF l && isPt (ff (x :: l))
theorem okF_drop {xs : List Int} : ∀ t, okF xs = true → okF (xs.drop t) = true := by
  induction xs with
  | nil => intro t h; cases t <;> exact h
  | cons x l ih =>
    intro t h
    cases t with
    | zero => exact h
    | succ t =>
      unfold okF at h
      simp only [Bool.and_eq_true] at h
      exact ih t h.1
theorem drop_step {xs : List Int} {t : Nat} (h : t < xs.length) : xs.drop t = xs.getD t 0 :: xs.drop (t + 1) := by
  rw [List.drop_eq_getElem_cons h]
  simp [List.getD, h]
theorem okF_pt {xs : List Int} {t : Nat} (h : okF (xs.drop t) = true) (ht : t ≤ xs.length) : isPt (ff (xs.drop t)) = true := by
  by_cases hl : t < xs.length
  · rw [drop_step hl] at h ⊢
    unfold okF at h
    simp only [Bool.and_eq_true] at h
    exact h.2
  · rw [List.drop_of_length_le (by omega)]; rfl

end Go.Proofs.Ytoenlpkphekbnaa
