/-
  ReflectFraction as plain numbers (own work).
-/
import Derived.Test.YtcaleapedomfmaaDoorNbReflectFraction
import Derived.Test.YtcaleapedomfmaaDoorNbU
namespace Go.Proofs.YtcaleapedomfmaaDoor
open Go.ChangeShapes Go.WideShapes Go.ChangeAt Go.RowKit Go.Shelf
set_option linter.unusedVariables false
set_option maxRecDepth 100000
set_option linter.unusedSimpArgs false
set_option maxRecDepth 100000

/-- What ReflectFraction returns, for the sum (U, V) and the difference (D, E): the code C beside (X, Y). -/
def Rf (x0 y0 x1 y1 x2 y2 U V D E C X Y : Int) : Prop :=
  (allFr [(x0, y0), (x1, y1), (x2, y2)] = false → C = frE [(x0, y0), (x1, y1), (x2, y2)] ∧ X = 0 ∧ Y = 0) ∧
  (allFr [(x0, y0), (x1, y1), (x2, y2)] = true → nearB x0 y0 x1 y1 = false → C = 5 ∧ X = 0 ∧ Y = 0) ∧
  (allFr [(x0, y0), (x1, y1), (x2, y2)] = true → nearB x0 y0 x1 y1 = true → (x2 == U && y2 == V) = true → isPt (D, E) = false → C = 3 ∧ X = 0 ∧ Y = 0) ∧
  (allFr [(x0, y0), (x1, y1), (x2, y2)] = true → nearB x0 y0 x1 y1 = true → (x2 == U && y2 == V) = true → isPt (D, E) = true → C = 0 ∧ X = D ∧ Y = E) ∧
  (allFr [(x0, y0), (x1, y1), (x2, y2)] = true → nearB x0 y0 x1 y1 = true → (x2 == U && y2 == V) = false → (x2 == D && y2 == E) = true → isPt (U, V) = false → C = 3 ∧ X = 0 ∧ Y = 0) ∧
  (allFr [(x0, y0), (x1, y1), (x2, y2)] = true → nearB x0 y0 x1 y1 = true → (x2 == U && y2 == V) = false → (x2 == D && y2 == E) = true → isPt (U, V) = true → C = 0 ∧ X = U ∧ Y = V) ∧
  (allFr [(x0, y0), (x1, y1), (x2, y2)] = true → nearB x0 y0 x1 y1 = true → (x2 == U && y2 == V) = false → (x2 == D && y2 == E) = false → C = 5 ∧ X = 0 ∧ Y = 0)
theorem rf_ex (x0 y0 x1 y1 x2 y2 U V D E : Int) : ∃ C X Y, Rf x0 y0 x1 y1 x2 y2 U V D E C X Y := by
  unfold Rf
  cases allFr [(x0, y0), (x1, y1), (x2, y2)] <;> cases nearB x0 y0 x1 y1 <;> cases (x2 == U && y2 == V) <;> cases (x2 == D && y2 == E) <;> cases isPt (D, E) <;> cases isPt (U, V) <;>
    first
    | (refine ⟨frE [(x0, y0), (x1, y1), (x2, y2)], 0, 0, ?_⟩; simp; done)
    | (refine ⟨5, 0, 0, ?_⟩; simp; done)
    | (refine ⟨3, 0, 0, ?_⟩; simp; done)
    | (refine ⟨0, D, E, ?_⟩; simp; done)
    | (refine ⟨0, U, V, ?_⟩; simp; done)
theorem sum_same3 {x0 y0 x1 y1 x2 y2 : Int} (h : allFr [(x0, y0), (x1, y1), (x2, y2)] = true) (k : nearB x0 y0 x1 y1 = true) : frX (x0 + x1) (y0 + y1) = x0 + x1 ∧ frY (x0 + x1) (y0 + y1) = y0 + y1 := by
  obtain ⟨f0, f1, _⟩ := frs3 h
  exact sum_same (by simp [allFr, f0, f1]) k
end Go.Proofs.YtcaleapedomfmaaDoor
