/-
  Best approximations and records: the plain lists (own work).
-/
import Derived.Test.YtibmkmcdggokbaaAlg
namespace Go.Proofs.Ytibmkmcdggokbaa
open Go.ChangeShapes Go.WideShapes Go.ChangeAt Go.RowKit
set_option linter.unusedVariables false
set_option linter.unusedSimpArgs false

def nrP (x q : Int) : Int := if q - x % q < x % q then x / q + 1 else x / q
def nrM (x q : Int) : Int := if q - x % q < x % q then q - x % q else x % q
theorem nrM_bd {x q : Int} (hq : 1 ≤ q) : 0 ≤ nrM x q ∧ nrM x q ≤ q := by
  have h1 := Int.emod_nonneg x (by omega : q ≠ 0)
  have h2 := Int.emod_lt_of_pos x (by omega : 0 < q)
  unfold nrM
  split <;> omega
/-- The numbers in 1..n + 1 that are better than the last one of them ahead, and the last one. -/
def rcS (bt : Int → Int → Bool) : Nat → List Int × Int
  | 0 => ([1], 1)
  | n + 1 => if bt ((n : Int) + 2) (rcS bt n).2 = true then ((rcS bt n).1 ++ [(n : Int) + 2], (n : Int) + 2) else rcS bt n
variable {bt : Int → Int → Bool}
theorem rcS_yes {n : Nat} (h : bt ((n : Int) + 2) (rcS bt n).2 = true) : rcS bt (n + 1) = ((rcS bt n).1 ++ [(n : Int) + 2], (n : Int) + 2) := by
  show (if _ then _ else _) = _
  rw [if_pos h]
theorem rcS_no {n : Nat} (h : bt ((n : Int) + 2) (rcS bt n).2 = false) : rcS bt (n + 1) = rcS bt n := by
  show (if _ then _ else _) = _
  rw [h]
  rfl
theorem rcS_last : ∀ n : Nat, 1 ≤ (rcS bt n).2 ∧ (rcS bt n).2 ≤ (n : Int) + 1
  | 0 => by simp [rcS]
  | n + 1 => by
    have := rcS_last n
    cases h : bt ((n : Int) + 2) (rcS bt n).2 with
    | true => rw [rcS_yes h]; dsimp only; omega
    | false => rw [rcS_no h]; omega
theorem rcS_all : ∀ (n : Nat), ∀ k ∈ (rcS bt n).1, 1 ≤ k ∧ k ≤ (n : Int) + 1
  | 0 => by simp [rcS]
  | n + 1 => by
    have := rcS_all n
    cases h : bt ((n : Int) + 2) (rcS bt n).2 with
    | true =>
      rw [rcS_yes h]
      intro k hk
      simp only [List.mem_append, List.mem_singleton] at hk
      rcases hk with hk | hk
      · have := this k hk; omega
      · omega
    | false => rw [rcS_no h]; intro k hk; have := this k hk; omega
theorem rcS_len : ∀ n : Nat, 1 ≤ (rcS bt n).1.length ∧ (rcS bt n).1.length ≤ n + 1
  | 0 => by simp [rcS]
  | n + 1 => by
    have := rcS_len n
    cases h : bt ((n : Int) + 2) (rcS bt n).2 with
    | true => rw [rcS_yes h]; simp only [List.length_append, List.length_singleton]; omega
    | false => rw [rcS_no h]; omega
theorem rcS_stop {m : Nat} (h : ∀ k : Int, 1 ≤ k → bt k (rcS bt m).2 = false) : ∀ j : Nat, rcS bt (m + j) = rcS bt m
  | 0 => rfl
  | j + 1 => by
    have ih := rcS_stop h j
    show rcS bt ((m + j) + 1) = _
    rw [rcS_no (by rw [ih]; exact h _ (by omega)), ih]
/-- The second kind (true): what is missed is less; the first kind: divided by the number itself. -/
def btK (s : Bool) (p q k l : Int) : Bool := if s then decide (nrM (k * p) q < nrM (l * p) q) else decide (nrM (k * p) q * l < nrM (l * p) q * k)
theorem btK_stop {s : Bool} {p q l : Int} (hq : 1 ≤ q) (hl : 1 ≤ l) (h : nrM (l * p) q = 0) (k : Int) (hk : 1 ≤ k) : btK s p q k l = false := by
  have := (nrM_bd (x := k * p) hq).1
  unfold btK
  rw [h]
  cases s with
  | true => simp; omega
  | false =>
    have := Int.mul_nonneg this (by omega : 0 ≤ l)
    simp
    omega
theorem best_zero {s : Bool} {p q : Int} (hq : 1 ≤ q) : ∀ n : Nat, nrM (((n : Int) + 1) * p) q = 0 → nrM ((rcS (btK s p q) n).2 * p) q = 0
  | 0, h => by simpa [rcS] using h
  | n + 1, h => by
    have hc : (((n + 1 : Nat) : Int) + 1) = (n : Int) + 2 := by omega
    rw [hc] at h
    cases hb : btK s p q ((n : Int) + 2) (rcS (btK s p q) n).2 with
    | true => rw [rcS_yes hb]; exact h
    | false =>
      rw [rcS_no hb]
      generalize (rcS (btK s p q) n).2 = L at hb ⊢
      have h0 := (nrM_bd (x := L * p) hq).1
      unfold btK at hb
      rw [h] at hb
      cases s with
      | true => simp at hb; omega
      | false =>
        simp at hb
        by_cases hz : nrM (L * p) q = 0
        · exact hz
        · exfalso
          have := Int.mul_pos (a := nrM (L * p) q) (b := (n : Int) + 2) (by omega) (by omega)
          omega
theorem best_stop {s : Bool} {p q : Int} (hq : 1 ≤ q) {n : Nat} (h : nrM (((n : Int) + 1) * p) q = 0) (j : Nat) : rcS (btK s p q) (n + j) = rcS (btK s p q) n :=
  rcS_stop (fun k hk => btK_stop hq (rcS_last n).1 (best_zero hq n h) k hk) j
/-- The list of best approximations from the list of their second numbers. -/
def bsP (p q : Int) (ks : List Int) : List (Int × Int) := ks.map (fun k => (nrP (k * p) q, k))
theorem bsP_snoc (p q : Int) (ks : List Int) (k : Int) : bsP p q (ks ++ [k]) = bsP p q ks ++ [(nrP (k * p) q, k)] := by simp [bsP]
theorem bsP_len (p q : Int) (ks : List Int) : (bsP p q ks).length = ks.length := by simp [bsP]
/-- The greater one of what two ratios miss. -/
def btC (p r q k l : Int) : Bool := decide (max (nrM (k * p) q) (nrM (k * r) q) < max (nrM (l * p) q) (nrM (l * r) q))
end Go.Proofs.Ytibmkmcdggokbaa
