/-
  Sums and differences of neighbours: the model and the program, by one contract each (own work).
-/
import Derived.Shelf.Abstract
import Derived.Test.YtohnmogejidpdabDoorNb0
import Derived.Test.YtohnmogejidpdabDoorDoor
namespace Go.Proofs.YtohnmogejidpdabDoor
open Go.ChangeShapes Go.WideShapes Go.ChangeAt Go.RowKit Go.Shelf
set_option linter.unusedVariables false
set_option maxRecDepth 100000
set_option linter.unusedSimpArgs false
set_option maxRecDepth 100000

/-- n beside no error. -/
def onz (c n : Int) : Int := if c = 0 then n else 0
theorem onz_no {c n : Int} (h : c ≠ 0) : onz c n = 0 := by unfold onz; rw [if_neg h]
theorem onz_yes (n : Int) : onz 0 n = n := by unfold onz; rw [if_pos rfl]
/-- The code of what is made of neighbours: (X, Y). -/
def sbK (x0 y0 x1 y1 X Y : Int) : Int := if allFr [(x0, y0), (x1, y1)] = true then (if nearB x0 y0 x1 y1 = true then (if isPt (X, Y) = true then 0 else 3) else 5) else frE [(x0, y0), (x1, y1)]
theorem sbK_fr {x0 y0 x1 y1 X Y : Int} (h : allFr [(x0, y0), (x1, y1)] = false) : sbK x0 y0 x1 y1 X Y = frE [(x0, y0), (x1, y1)] := by unfold sbK; rw [h]; rfl
theorem sbK_far {x0 y0 x1 y1 X Y : Int} (h : allFr [(x0, y0), (x1, y1)] = true) (k : nearB x0 y0 x1 y1 = false) : sbK x0 y0 x1 y1 X Y = 5 := by unfold sbK; rw [h, k]; rfl
theorem sbK_big {x0 y0 x1 y1 X Y : Int} (h : allFr [(x0, y0), (x1, y1)] = true) (k : nearB x0 y0 x1 y1 = true) (l : isPt (X, Y) = false) : sbK x0 y0 x1 y1 X Y = 3 := by unfold sbK; rw [h, k, l]; rfl
theorem sbK_ok {x0 y0 x1 y1 X Y : Int} (h : allFr [(x0, y0), (x1, y1)] = true) (k : nearB x0 y0 x1 y1 = true) (l : isPt (X, Y) = true) : sbK x0 y0 x1 y1 X Y = 0 := by unfold sbK; rw [h, k, l]; rfl
theorem frE_ne {ps : List (Int × Int)} (h : allFr ps = false) : frE ps ≠ 0 := by
  obtain ⟨_, _, k, _⟩ := isFr_code (a0 := default) (a1 := default) h
  simpa using k
theorem bn_tn_lin {a b k : Int} (h : Bn a) (h2 : Bn b) (k1 : -1 ≤ k) (k2 : k ≤ 1) : Tn (a + k * b) := by
  have : k = -1 ∨ k = 0 ∨ k = 1 := by omega
  unfold Bn at *
  unfold Tn
  rcases this with rfl | rfl | rfl <;> omega
end Go.Proofs.YtohnmogejidpdabDoor
