/-
  The way around points, as the program goes it (own work).
-/
import Derived.Test.YtmjhejmkmdgikaaPgY
import Derived.Test.YtmjhejmkmdgikaaPoJ
import Derived.Test.YtmjhejmkmdgikaaPgQ
namespace Go.Proofs.Ytmjhejmkmdgikaa
open Go.ChangeShapes Go.WideShapes Go.ChangeAt Go.RowKit
set_option linter.unusedVariables false
set_option maxRecDepth 100000
set_option linter.unusedSimpArgs false
set_option maxRecDepth 100000

def hF (L : List (Int × Int)) : Int × Int := lmin L (L.getD 0 (0, 0))
def hlP (L : List (Int × Int)) : Nat := clo (hF L) (hsq L (hF L)) 12 1
def slLen : Value → Nat
  | .slice _ n _ => n
  | _ => 0
theorem getD_in {L : List (Int × Int)} {k : Nat} (h : k < L.length) : L.getD k (0, 0) ∈ L := by
  rw [List.getD_eq_getElem?_getD, List.getElem?_eq_getElem h]; exact List.getElem_mem h
theorem hF_in {L : List (Int × Int)} (h : 1 ≤ L.length) : hF L ∈ L := by
  rcases (lmin_ok L (L.getD 0 (0, 0))).1 with e | e
  · unfold hF; rw [e]; exact getD_in (by omega)
  · exact e
theorem hF_min (L : List (Int × Int)) : ∀ c, c ∈ L → lxlt c (hF L) = false := (lmin_ok L (L.getD 0 (0, 0))).2.2
theorem clo_go (f : Int × Int) (h : Nat → Int × Int) {k : Nat} (hk : k ≤ 12) : clo f h (13 - k) k = if h k = f then k else clo f h (13 - (k + 1)) (k + 1) := by
  rw [show 13 - k = (13 - (k + 1)) + 1 from by omega]
  rfl
theorem beq_pt (a b : Int × Int) : (a.1 == b.1 && a.2 == b.2) = decide (a = b) := by
  by_cases h : a = b
  · subst h; simp
  · rw [decide_eq_false h]
    cases hq : (a.1 == b.1 && a.2 == b.2)
    · rfl
    · simp only [Bool.and_eq_true, beq_iff_eq] at hq
      exact absurd (Prod.ext hq.1 hq.2) h
end Go.Proofs.Ytmjhejmkmdgikaa
