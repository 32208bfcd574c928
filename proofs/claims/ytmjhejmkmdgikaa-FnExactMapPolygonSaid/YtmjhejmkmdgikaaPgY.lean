/-
  The least point of a list that is not empty (own work).
-/
import Derived.Test.YtmjhejmkmdgikaaPgX
import Derived.Test.YtmjhejmkmdgikaaBlk
import Derived.Test.YtmjhejmkmdgikaaPgS
import Derived.BigRegion
import Derived.Deep.DeepCutAuto
namespace Go.Proofs.Ytmjhejmkmdgikaa
open Go.ChangeShapes Go.WideShapes Go.ChangeAt Go.RowKit
set_option linter.unusedVariables false
set_option maxRecDepth 100000
set_option linter.unusedSimpArgs false
set_option maxRecDepth 100000

def mnL (ps : List (Int × Int)) (k : Nat) : Int × Int := lmin (ps.take k) (ps.getD 0 (0, 0))
theorem lxlt_irr (a : Int × Int) : lxlt a a = false := by simp [lxlt]
theorem mnL_one {ps : List (Int × Int)} (h : 1 ≤ ps.length) : mnL ps 1 = ps.getD 0 (0, 0) := by
  match ps, h with
  | p :: r, _ => simp [mnL, lmin, lxlt_irr]
theorem mnL_succ {ps : List (Int × Int)} {k : Nat} (h : k < ps.length) : mnL ps (k + 1) = if lxlt (ps.getD k (0, 0)) (mnL ps k) = true then ps.getD k (0, 0) else mnL ps k := by
  unfold mnL lmin
  rw [List.take_succ_eq_append_getElem h, List.foldl_append]
  simp [List.getD, h]
theorem mnL_all (ps : List (Int × Int)) : mnL ps ps.length = lmin ps (ps.getD 0 (0, 0)) := by unfold mnL; rw [List.take_length]
end Go.Proofs.Ytmjhejmkmdgikaa
