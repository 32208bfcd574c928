/-
  The list of the fractions of an order, checked step by step (own work).
-/
import Derived.Test.YtcaleapedomfmaaFlI
namespace Go.Proofs.Ytcaleapedomfmaa
open Go.ChangeShapes Go.WideShapes Go.ChangeAt Go.RowKit
set_option linter.unusedVariables false
set_option linter.unusedSimpArgs false
set_option maxRecDepth 100000

theorem flat_at : ∀ (ps : List (Int × Int)) (k : Nat), (flat ps).getD (k * 2) 0 = (ps.getD k (0, 0)).1 ∧ (flat ps).getD (k * 2 + 1) 0 = (ps.getD k (0, 0)).2
  | [], k => by simp [flat]
  | p :: l, 0 => by simp [flat]
  | p :: l, k + 1 => by
    have e : flat (p :: l) = p.1 :: p.2 :: flat l := rfl
    have := flat_at l k
    rw [e, show (k + 1) * 2 = k * 2 + 1 + 1 by omega, show k * 2 + 1 + 1 + 1 = (k * 2 + 1) + 1 + 1 by omega]
    simpa using this
/-- The fraction at k. -/
def at2 (L : List (Int × Int)) (k : Nat) : Int × Int := L.getD k (0, 0)
/-- The step at k. -/
def stO (n : Int) (L : List (Int × Int)) (k : Nat) : Bool :=
  decide (1 ≤ (at2 L k).2 ∧ (at2 L k).2 ≤ 100 ∧ 0 ≤ (at2 L k).1 ∧ (at2 L k).1 ≤ 100 ∧ 0 ≤ (at2 L (k - 1)).1 ∧ (at2 L (k - 1)).1 ≤ 100 ∧ 0 ≤ (at2 L (k - 1)).2 ∧ (at2 L (k - 1)).2 ≤ 100) &&
  (if k + 1 < L.length then decide (¬ (at2 L k).1 = (at2 L k).2 ∧ at2 L (k + 1) = (-(at2 L (k - 1)).1 + (n + (at2 L (k - 1)).2) / (at2 L k).2 * (at2 L k).1, -(at2 L (k - 1)).2 + (n + (at2 L (k - 1)).2) / (at2 L k).2 * (at2 L k).2)) else decide ((at2 L k).1 = (at2 L k).2))
def okO (n : Int) (L : List (Int × Int)) : Bool := decide (2 ≤ L.length ∧ L.length ≤ 200) && decide (L.take 2 = [(0, 1), (1, n)]) && (List.range L.length).all (fun k => k == 0 || stO n L k)
theorem okO_all (n : Int) (h : 1 ≤ n ∧ n ≤ 16) : okO n ([(0, 1)] ++ flT 16 n 1 2 0 1 1 1 ++ [(1, 1)]) = true := by
  have : n = 1 ∨ n = 2 ∨ n = 3 ∨ n = 4 ∨ n = 5 ∨ n = 6 ∨ n = 7 ∨ n = 8 ∨ n = 9 ∨ n = 10 ∨ n = 11 ∨ n = 12 ∨ n = 13 ∨ n = 14 ∨ n = 15 ∨ n = 16 := by omega
  rcases this with rfl | rfl | rfl | rfl | rfl | rfl | rfl | rfl | rfl | rfl | rfl | rfl | rfl | rfl | rfl | rfl <;> decide +kernel
theorem okO_at {n : Int} {L : List (Int × Int)} (h : okO n L = true) {k : Nat} (h1 : 1 ≤ k) (h2 : k < L.length) : stO n L k = true := by
  unfold okO at h
  simp only [Bool.and_eq_true, List.all_eq_true, List.mem_range] at h
  have := h.2 k h2
  simp only [Bool.or_eq_true, beq_iff_eq] at this
  rcases this with h | h
  · omega
  · exact h
theorem stO_bd {n : Int} {L : List (Int × Int)} {k : Nat} (h : stO n L k = true) : 1 ≤ (at2 L k).2 ∧ (at2 L k).2 ≤ 100 ∧ 0 ≤ (at2 L k).1 ∧ (at2 L k).1 ≤ 100 ∧ 0 ≤ (at2 L (k - 1)).1 ∧ (at2 L (k - 1)).1 ≤ 100 ∧ 0 ≤ (at2 L (k - 1)).2 ∧ (at2 L (k - 1)).2 ≤ 100 := by
  unfold stO at h
  rw [Bool.and_eq_true, decide_eq_true_eq] at h
  exact h.1
theorem stO_go {n : Int} {L : List (Int × Int)} {k : Nat} (h : stO n L k = true) (hk : k + 1 < L.length) : ¬ (at2 L k).1 = (at2 L k).2 ∧ at2 L (k + 1) = (-(at2 L (k - 1)).1 + (n + (at2 L (k - 1)).2) / (at2 L k).2 * (at2 L k).1, -(at2 L (k - 1)).2 + (n + (at2 L (k - 1)).2) / (at2 L k).2 * (at2 L k).2) := by
  unfold stO at h
  rw [Bool.and_eq_true, if_pos hk] at h
  exact of_decide_eq_true h.2
theorem stO_end {n : Int} {L : List (Int × Int)} {k : Nat} (h : stO n L k = true) (hk : ¬ k + 1 < L.length) : (at2 L k).1 = (at2 L k).2 := by
  unfold stO at h
  rw [Bool.and_eq_true, if_neg hk] at h
  exact of_decide_eq_true h.2
theorem at2_take {L : List (Int × Int)} {m k : Nat} (h : k < m) : (L.take m).getD k (0, 0) = at2 L k := by
  unfold at2
  simp [List.getD, List.getElem?_take, h]
theorem take_snoc {L : List (Int × Int)} {m : Nat} (h : m < L.length) : L.take (m + 1) = L.take m ++ [at2 L m] := by
  rw [List.take_succ_eq_append_getElem h]
  unfold at2
  simp [List.getD, h]
end Go.Proofs.Ytcaleapedomfmaa
