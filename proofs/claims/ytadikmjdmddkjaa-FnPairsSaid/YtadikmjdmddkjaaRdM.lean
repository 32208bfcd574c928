/-
  Pairs of points reduced: the steps, that they end, and that no number grows too far (own work).
-/
import Derived.Test.YtadikmjdmddkjaaAlg
namespace Go.Proofs.Ytadikmjdmddkjaa
open Go.ChangeShapes Go.WideShapes Go.ChangeAt Go.RowKit
set_option linter.unusedVariables false
set_option linter.unusedSimpArgs false

def dotP (a b : Int × Int) : Int := a.1 * b.1 + a.2 * b.2
def redP (a b : Int × Int) : Bool := decide (dotP a a ≤ dotP b b) && (decide (-(dotP a a) ≤ 2 * dotP a b) && decide (2 * dotP a b ≤ dotP a a))
def rdK (a b : Int × Int) : Int := (2 * dotP a b + dotP a a) / (2 * dotP a a)
abbrev PP := (Int × Int) × (Int × Int)
def rdB (a b : Int × Int) : Int × Int := (b.1 + -(rdK a b) * a.1, b.2 + -(rdK a b) * a.2)
def rdS (s : PP) : PP := if dotP s.2 s.2 < dotP s.1 s.1 then (s.2, s.1) else (s.1, rdB s.1 s.2)
def rdm (s : PP) : Nat := 2 * (dotP s.1 s.1 + dotP s.2 s.2).toNat + if dotP s.2 s.2 < dotP s.1 s.1 then 1 else 0
def rdR : Nat → PP → PP
  | 0, s => s
  | n + 1, s => if redP s.1 s.2 = true then s else rdR n (rdS s)
def rdV (s : PP) : PP := rdR (rdm s) s
structure RdOk (s : PP) : Prop where
  det : detP s.1 s.2 ≠ 0
  one : dotP s.1 s.1 ≤ 2000000000000
  two : dotP s.2 s.2 ≤ 2000000000000

theorem sq_nn (x : Int) : 0 ≤ x * x := by
  rcases Int.le_total 0 x with h | h
  · exact Int.mul_nonneg h h
  · exact Int.mul_nonneg_of_nonpos_of_nonpos h h
theorem sq_zero {x : Int} (h : x * x ≤ 0) : x = 0 := by
  have := sq_nn x
  have : x * x = 0 := by omega
  rcases Int.mul_eq_zero.1 this with h | h <;> exact h
theorem dotP_nn (a : Int × Int) : 0 ≤ dotP a a := by
  have := sq_nn a.1; have := sq_nn a.2; unfold dotP; omega
theorem dotP_pos {a b : Int × Int} (h : detP a b ≠ 0) : 1 ≤ dotP a a := by
  have h1 := sq_nn a.1; have h2 := sq_nn a.2
  by_cases hz : 1 ≤ dotP a a
  · exact hz
  · exfalso
    unfold dotP at hz
    have z1 := sq_zero (x := a.1) (by omega)
    have z2 := sq_zero (x := a.2) (by omega)
    apply h
    unfold detP
    rw [z1, z2]
    simp
theorem detP_swap (a b : Int × Int) : detP b a = -(detP a b) := by
  unfold detP; grind
theorem dotP_bd1 {x : Int} (h : x * x ≤ 2000000000000) : -1500000 ≤ x ∧ x ≤ 1500000 := by
  constructor
  · by_cases hc : -1500000 ≤ x
    · exact hc
    · exfalso
      have := Int.mul_le_mul (a := 1500000) (b := 1500000) (c := -x) (d := -x) (by omega) (by omega) (by omega) (by omega)
      rw [Int.neg_mul_neg] at this
      omega
  · by_cases hc : x ≤ 1500000
    · exact hc
    · exfalso
      have := Int.mul_le_mul (a := 1500000) (b := 1500000) (c := x) (d := x) (by omega) (by omega) (by omega) (by omega)
      omega
theorem dotP_bd {a : Int × Int} (h : dotP a a ≤ 2000000000000) : (-1500000 ≤ a.1 ∧ a.1 ≤ 1500000) ∧ (-1500000 ≤ a.2 ∧ a.2 ≤ 1500000) := by
  have h1 := sq_nn a.1; have h2 := sq_nn a.2
  unfold dotP at h
  exact ⟨dotP_bd1 (by omega), dotP_bd1 (by omega)⟩
theorem dotP_two (a b : Int × Int) : -(dotP a a + dotP b b) ≤ 2 * dotP a b ∧ 2 * dotP a b ≤ dotP a a + dotP b b := by
  have h1 := sq_nn (a.1 - b.1); have h2 := sq_nn (a.2 - b.2); have h3 := sq_nn (a.1 + b.1); have h4 := sq_nn (a.2 + b.2)
  have e1 : (a.1 - b.1) * (a.1 - b.1) = a.1 * a.1 - 2 * (a.1 * b.1) + b.1 * b.1 := by grind
  have e2 : (a.2 - b.2) * (a.2 - b.2) = a.2 * a.2 - 2 * (a.2 * b.2) + b.2 * b.2 := by grind
  have e3 : (a.1 + b.1) * (a.1 + b.1) = a.1 * a.1 + 2 * (a.1 * b.1) + b.1 * b.1 := by grind
  have e4 : (a.2 + b.2) * (a.2 + b.2) = a.2 * a.2 + 2 * (a.2 * b.2) + b.2 * b.2 := by grind
  unfold dotP
  constructor <;> omega
theorem rdK_bd {a b : Int × Int} (h : 1 ≤ dotP a a) : 2 * (rdK a b * dotP a a) ≤ 2 * dotP a b + dotP a a ∧ 2 * dotP a b + dotP a a < 2 * (rdK a b * dotP a a) + 2 * dotP a a := by
  have h1 := Int.mul_ediv_self_le (x := 2 * dotP a b + dotP a a) (k := 2 * dotP a a) (by omega)
  have h2 := Int.lt_mul_ediv_self_add (x := 2 * dotP a b + dotP a a) (k := 2 * dotP a a) (by omega)
  have e : 2 * dotP a a * ((2 * dotP a b + dotP a a) / (2 * dotP a a)) = 2 * (rdK a b * dotP a a) := by
    unfold rdK
    generalize (2 * dotP a b + dotP a a) / (2 * dotP a a) = k
    grind
  rw [e] at h1 h2
  exact ⟨h1, h2⟩
theorem pos_of {k A : Int} (hA : 1 ≤ A) (h : 0 < k * A) : 1 ≤ k := by
  by_cases hk : 1 ≤ k
  · exact hk
  · exfalso
    have := Int.mul_nonneg (a := -k) (b := A) (by omega) (by omega)
    rw [Int.neg_mul] at this
    omega
theorem neg_of {k A : Int} (hA : 1 ≤ A) (h : k * A < 0) : k ≤ -1 := by
  have := pos_of (k := -k) hA (by rw [Int.neg_mul]; omega)
  omega
theorem rdK_fits {a b : Int × Int} (h : 1 ≤ dotP a a) (h1 : dotP a a ≤ 2000000000000) (h2 : dotP b b ≤ 2000000000000) : -3000000000000 ≤ rdK a b ∧ rdK a b ≤ 3000000000000 := by
  obtain ⟨l, u⟩ := rdK_bd (b := b) h
  obtain ⟨p, q⟩ := dotP_two a b
  generalize rdK a b = k at l u
  constructor
  · by_cases hk : k ≤ -1
    · have := Int.mul_nonneg (a := -k) (b := dotP a a - 1) (by omega) (by omega)
      rw [Int.neg_mul, Int.mul_sub] at this
      by_cases hc : -3000000000000 ≤ k
      · exact hc
      · exfalso
        have t := Int.mul_le_mul (a := 3000000000001) (b := dotP a a) (c := -k) (d := dotP a a) (by omega) (by omega) (by omega) (by omega)
        rw [Int.neg_mul] at t
        omega
    · omega
  · by_cases hk : 1 ≤ k
    · by_cases hc : k ≤ 3000000000000
      · exact hc
      · exfalso
        have t := Int.mul_le_mul (a := 3000000000001) (b := dotP a a) (c := k) (d := dotP a a) (by omega) (by omega) (by omega) (by omega)
        omega
    · omega
theorem rdB_dot (a b : Int × Int) : dotP (rdB a b) (rdB a b) = dotP b b + rdK a b * (rdK a b * dotP a a - 2 * dotP a b) := by
  unfold rdB
  generalize rdK a b = k
  unfold dotP
  grind
theorem rdB_det (a b : Int × Int) : detP a (rdB a b) = detP a b := by
  unfold rdB
  generalize rdK a b = k
  unfold detP
  grind
theorem rdB_less {a b : Int × Int} (h : 1 ≤ dotP a a) (hr : redP a b = false) (hle : dotP a a ≤ dotP b b) : dotP (rdB a b) (rdB a b) < dotP b b := by
  rw [rdB_dot]
  obtain ⟨l, u⟩ := rdK_bd (b := b) h
  generalize rdK a b = k at l u ⊢
  have hn : ¬ (-(dotP a a) ≤ 2 * dotP a b ∧ 2 * dotP a b ≤ dotP a a) := by
    rintro ⟨h1, h2⟩
    unfold redP at hr
    simp [hle, h1, h2] at hr
  suffices k * (k * dotP a a - 2 * dotP a b) < 0 by omega
  by_cases hp : dotP a a < 2 * dotP a b
  · have hk := pos_of (k := k) h (by omega)
    exact Int.mul_neg_of_pos_of_neg (by omega) (by omega)
  · have hk := neg_of (k := k) h (by omega)
    exact Int.mul_neg_of_neg_of_pos (by omega) (by omega)
theorem RdOk.step {s : PP} (h : RdOk s) (hr : redP s.1 s.2 = false) : RdOk (rdS s) ∧ rdm (rdS s) < rdm s := by
  obtain ⟨a, b⟩ := s
  obtain ⟨hd, h1, h2⟩ := h
  dsimp only at hd h1 h2 hr
  have ha := dotP_pos hd
  have hb := dotP_nn b
  unfold rdS
  dsimp only
  by_cases hx : dotP b b < dotP a a
  · rw [if_pos hx]
    refine ⟨⟨by dsimp only; rw [detP_swap]; omega, h2, h1⟩, ?_⟩
    unfold rdm
    dsimp only
    rw [if_pos hx, if_neg (by omega)]
    omega
  · rw [if_neg hx]
    have hl := rdB_less ha hr (by omega)
    refine ⟨⟨by dsimp only; rw [rdB_det]; exact hd, h1, by dsimp only; omega⟩, ?_⟩
    have hn := dotP_nn (rdB a b)
    unfold rdm
    dsimp only
    rw [if_neg hx]
    split <;> omega
theorem rdm_pos {s : PP} (h : RdOk s) : 1 ≤ rdm s := by
  have ha := dotP_pos h.det
  have hb := dotP_nn s.2
  unfold rdm
  split <;> omega
theorem rdR_same : ∀ (n m : Nat) (s : PP), RdOk s → rdm s ≤ n → rdm s ≤ m → rdR n s = rdR m s
  | 0, _, s, h, hn, _ => by have := rdm_pos h; omega
  | _ + 1, 0, s, h, _, hm => by have := rdm_pos h; omega
  | n + 1, m + 1, s, h, hn, hm => by
    unfold rdR
    by_cases hr : redP s.1 s.2 = true
    · rw [if_pos hr, if_pos hr]
    · rw [if_neg hr, if_neg hr]
      obtain ⟨h', hl⟩ := h.step (by simpa using hr)
      exact rdR_same n m _ h' (by omega) (by omega)
theorem rdV_done {s : PP} (h : RdOk s) (hr : redP s.1 s.2 = true) : rdV s = s := by
  unfold rdV
  have := rdm_pos h
  obtain ⟨n, hn⟩ : ∃ n, rdm s = n + 1 := ⟨rdm s - 1, by omega⟩
  rw [hn]
  unfold rdR
  rw [if_pos hr]
theorem rdV_next {s : PP} (h : RdOk s) (hr : redP s.1 s.2 = false) : rdV s = rdV (rdS s) := by
  obtain ⟨h', hl⟩ := h.step hr
  unfold rdV
  have := rdm_pos h
  obtain ⟨n, hn⟩ : ∃ n, rdm s = n + 1 := ⟨rdm s - 1, by omega⟩
  rw [hn, rdR_same (rdm (rdS s)) n (rdS s) h' (by omega) (by omega)]
  show (if redP s.1 s.2 = true then s else rdR n (rdS s)) = _
  rw [hr]
  rfl
theorem rdOk_of {x0 y0 x1 y1 : Int} (h0 : isPt (x0, y0) = true) (h1 : isPt (x1, y1) = true) (hd : detP (x0, y0) (x1, y1) ≠ 0) : RdOk ((x0, y0), (x1, y1)) := by
  have sq : ∀ x y, isPt (x, y) = true → dotP (x, y) (x, y) ≤ 2000000000000 := by
    intro x y h
    simp only [isPt, Bool.and_eq_true] at h
    obtain ⟨a, b⟩ := h
    have a := crd_iff.1 a; have b := crd_iff.1 b
    have p := mul_bd (a := x) (b := x) (A := 1000000) (B := 1000000) (by omega) (by omega) (by omega) (by omega)
    have q := mul_bd (a := y) (b := y) (A := 1000000) (B := 1000000) (by omega) (by omega) (by omega) (by omega)
    unfold dotP
    dsimp only
    omega
  exact ⟨hd, sq _ _ h0, sq _ _ h1⟩
end Go.Proofs.Ytadikmjdmddkjaa
