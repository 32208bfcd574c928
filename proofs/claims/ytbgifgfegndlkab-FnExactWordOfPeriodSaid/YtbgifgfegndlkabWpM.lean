/-
  Words of periods as plain numbers (own work).
-/
import Derived.Test.YtbgifgfegndlkabBys
import Derived.Test.YtbgifgfegndlkabMark
namespace Go.Proofs.Ytbgifgfegndlkab
open Go.ChangeShapes Go.WideShapes Go.ChangeAt Go.RowKit
set_option linter.unusedVariables false
set_option linter.unusedSimpArgs false
set_option maxRecDepth 100000

/-- The letters of runs by turns; the first of them of R if the number is even. -/
def wpL : Nat → List Int → List UInt8
  | _, [] => []
  | i, n :: t => List.replicate n.toNat (if i % 2 = 0 then 82 else 76) ++ wpL (i + 1) t
/-- Whether all numbers are at least 1 and their sum is at most this. -/
def rOk : Int → List Int → Bool
  | _, [] => true
  | l, n :: t => decide (1 ≤ n) && decide (n ≤ l) && rOk (l - n) t
theorem rOk_low {l n : Int} {t : List Int} (h : n < 1) : rOk l (n :: t) = false := by unfold rOk; rw [show decide (1 ≤ n) = false from by simpa using h]; rfl
theorem rOk_high {l n : Int} {t : List Int} (h : l < n) : rOk l (n :: t) = false := by unfold rOk; rw [show decide (n ≤ l) = false from by simpa using h]; simp
theorem rOk_go {l n : Int} {t : List Int} (h1 : 1 ≤ n) (h2 : n ≤ l) : rOk l (n :: t) = rOk (l - n) t := by rw [rOk]; simp [h1, h2]
theorem drop_getD (xs : List Int) (i : Nat) (h : i < xs.length) : xs.drop i = xs.getD i 0 :: xs.drop (i + 1) := by
  rw [List.drop_eq_getElem_cons h]; simp [List.getD, h]
/-- What both sides answer. -/
def wpOk (xs : List Int) : Bool := decide (xs.length ≠ 0) && decide (xs.length % 2 = 0) && rOk 200 xs
def wpW (xs : List Int) : List UInt8 := if wpOk xs = true then wpL 0 xs else []
def wpC (xs : List Int) : Int := if wpOk xs = true then 0 else 2
theorem wp_no {xs : List Int} (h : wpOk xs = false) : wpW xs = [] ∧ wpC xs = 2 := by unfold wpW wpC; rw [h]; exact ⟨rfl, rfl⟩
theorem wp_yes {xs : List Int} (h : wpOk xs = true) : wpW xs = wpL 0 xs ∧ wpC xs = 0 := by unfold wpW wpC; rw [h]; exact ⟨rfl, rfl⟩
/-- A list that can be read. -/
def SrcO (w : World) (a : Option Addr) (xs : List Int) : Prop := 0 < xs.length → ∃ g, a = some ⟨g, 0, none⟩ ∧ g < w.heap.size ∧ ∀ j, j < xs.length → w.cell? ⟨g, j, none⟩ = some (.int .i64 (xs.getD j 0))
theorem SrcO.below {w w' : World} {a : Option Addr} {xs : List Int} (h : SrcO w a xs) (hb : Below w.heap.size w w') : SrcO w' a xs := fun h0 => by
  obtain ⟨g, ha, hg, hc⟩ := h h0
  exact ⟨g, ha, Nat.lt_of_lt_of_le hg hb.size, fun j hj => (hb.cell (p := ⟨g, j, none⟩) hg).trans (hc j hj)⟩
theorem rep_snoc (m : Nat) (b : UInt8) : List.replicate m b ++ [b] = List.replicate (m + 1) b := by rw [List.replicate_succ']
end Go.Proofs.Ytbgifgfegndlkab
