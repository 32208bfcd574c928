/-
  Reduced pairs: they are reduced, their determinant is the same up to the sign, and their first norm is at most both norms (own work).
-/
import Derived.Test.YtadikmjdmddkjaaRdM
namespace Go.Proofs.Ytadikmjdmddkjaa
open Go.ChangeShapes Go.WideShapes Go.ChangeAt Go.RowKit
set_option linter.unusedVariables false
set_option linter.unusedSimpArgs false

theorem rdS_det (s : PP) : detP (rdS s).1 (rdS s).2 = detP s.1 s.2 ∨ detP (rdS s).1 (rdS s).2 = -(detP s.1 s.2) := by
  unfold rdS
  split
  · right; exact detP_swap s.1 s.2
  · left; exact rdB_det s.1 s.2
theorem rdR_det : ∀ (n : Nat) (s : PP), detP (rdR n s).1 (rdR n s).2 = detP s.1 s.2 ∨ detP (rdR n s).1 (rdR n s).2 = -(detP s.1 s.2)
  | 0, s => .inl rfl
  | n + 1, s => by
    unfold rdR
    split
    · exact .inl rfl
    · rcases rdR_det n (rdS s) with h | h <;> rcases rdS_det s with k | k
      · left; rw [h, k]
      · right; rw [h, k]
      · right; rw [h, k]
      · left; rw [h, k, Int.neg_neg]
theorem rdR_red : ∀ (n : Nat) (s : PP), RdOk s → rdm s ≤ n → redP (rdR n s).1 (rdR n s).2 = true
  | 0, s, h, hn => by have := rdm_pos h; omega
  | n + 1, s, h, hn => by
    unfold rdR
    cases hr : redP s.1 s.2 with
    | true => rw [if_pos rfl]; exact hr
    | false =>
      rw [if_neg (by decide)]
      obtain ⟨h', hl⟩ := h.step hr
      exact rdR_red n _ h' (by omega)
def mnN (s : PP) : Int := min (dotP s.1 s.1) (dotP s.2 s.2)
theorem rdS_min {s : PP} (h : RdOk s) (hr : redP s.1 s.2 = false) : mnN (rdS s) ≤ mnN s := by
  unfold rdS mnN
  split
  · dsimp only; omega
  · next hx =>
    have := rdB_less (dotP_pos h.det) hr (by omega)
    dsimp only
    omega
theorem rdR_min : ∀ (n : Nat) (s : PP), RdOk s → mnN (rdR n s) ≤ mnN s
  | 0, s, h => Int.le_refl _
  | n + 1, s, h => by
    unfold rdR
    cases hr : redP s.1 s.2 with
    | true => rw [if_pos rfl]; exact Int.le_refl _
    | false =>
      rw [if_neg (by decide)]
      exact Int.le_trans (rdR_min n _ (h.step hr).1) (rdS_min h hr)
theorem rdV_red {s : PP} (h : RdOk s) : redP (rdV s).1 (rdV s).2 = true := rdR_red _ _ h (Nat.le_refl _)
theorem rdV_det (s : PP) : detP (rdV s).1 (rdV s).2 = detP s.1 s.2 ∨ detP (rdV s).1 (rdV s).2 = -(detP s.1 s.2) := rdR_det _ _
/-- The first norm of the reduced pair is at least 1, and at most both norms. -/
theorem rdV_short {s : PP} (h : RdOk s) (hk : RdOk (rdV s)) : 1 ≤ dotP (rdV s).1 (rdV s).1 ∧ dotP (rdV s).1 (rdV s).1 ≤ dotP s.1 s.1 ∧ dotP (rdV s).1 (rdV s).1 ≤ dotP s.2 s.2 := by
  have h1 := dotP_pos hk.det
  have h2 := rdV_red h
  unfold redP at h2
  simp only [Bool.and_eq_true, decide_eq_true_eq] at h2
  have h3 : mnN (rdV s) ≤ mnN s := rdR_min _ _ h
  unfold mnN at h3
  omega
end Go.Proofs.Ytadikmjdmddkjaa
