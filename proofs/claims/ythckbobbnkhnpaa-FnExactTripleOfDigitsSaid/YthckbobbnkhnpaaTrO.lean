/-
  Three numbers in descending order, equal ones as they stand: the library's stable sort at three places, the numbers at these places (own work).
-/
import Derived.Test.YthckbobbnkhnpaaTrM
namespace Go.Proofs.Ythckbobbnkhnpaa
open Go.ChangeShapes Go.WideShapes Go.ChangeAt Go.RowKit
set_option linter.unusedVariables false
set_option linter.unusedSimpArgs false
set_option maxRecDepth 100000

theorem Bk3.at {w : World} {g : Nat} {a b c : Int} (h : Bk3 w g a b c) {p : Nat} (hp : p < 3) : w.cell? ⟨g, p, none⟩ = some (.int .i64 (pk p a b c)) := by
  obtain ⟨⟨h0, h1, h2⟩, _, _⟩ := h
  match p, hp with
  | 0, _ => exact h0
  | 1, _ => exact h1
  | 2, _ => exact h2
theorem grown_set (w : World) (g j : Nat) (x : Value) : w.grownBy (w.setCell ⟨g, j, none⟩ x) (some g) := by
  refine ⟨rfl, rfl, rfl, by simp, fun i hi hr => ?_⟩
  exact Below.heap_setCell w ⟨g, j, none⟩ x i (by simpa using hr)
theorem grown_drewN {a w : World} {row : Option Nat} (h : a.grownBy w row) (n : Nat) : a.grownBy (w.drewN n) row := ⟨h.os, h.tape, h.output, h.size, h.block⟩
theorem Bk3.grown {w w' : World} {g : Nat} {r : Option Nat} {a b c : Int} (h : Bk3 w g a b c) (hg : w.grownBy w' r) (hne : r ≠ some g) : Bk3 w' g a b c := h.same (hg.block g h.2.2 (fun e => hne e.symm))
/-- One step of the sort, at the first and at the second place. -/
def ins1 (a b c : Int) (s : Nat × Nat × Nat) : Nat × Nat × Nat := if pk s.1 a b c < pk s.2.1 a b c then (s.2.1, s.1, s.2.2) else s
def ins2 (a b c : Int) (s : Nat × Nat × Nat) : Nat × Nat × Nat := if pk s.2.1 a b c < pk s.2.2 a b c then ins1 a b c (s.1, s.2.2, s.2.1) else s
theorem od_ins (a b c : Int) : ins2 a b c (ins1 a b c (0, 1, 2)) = od a b c := by
  unfold od ins2 ins1
  simp only [pk]
  by_cases h1 : a < b <;> by_cases h2 : a < c <;> by_cases h3 : b < c <;> simp [h1, h2, h3]
def sg (a b c : Int) : Nat → Nat × Nat × Nat
  | 0 => (0, 1, 2)
  | 1 => (0, 1, 2)
  | 2 => ins1 a b c (0, 1, 2)
  | _ => od a b c
def lt3 (s : Nat × Nat × Nat) : Prop := s.1 < 3 ∧ s.2.1 < 3 ∧ s.2.2 < 3
theorem lt3_012 : lt3 (0, 1, 2) := by simp [lt3]
theorem ins1_lt {a b c : Int} {s : Nat × Nat × Nat} (h : lt3 s) : lt3 (ins1 a b c s) := by
  unfold ins1
  split
  · exact ⟨h.2.1, h.1, h.2.2⟩
  · exact h
theorem sg_lt (a b c : Int) (k : Nat) : lt3 (sg a b c k) := by
  match k with
  | 0 => exact lt3_012
  | 1 => exact lt3_012
  | 2 => exact ins1_lt lt3_012
  | _ + 3 => exact od_lt a b c
def cmpI (x y : Int) : Int := if x < y then -1 else if y < x then 1 else 0
end Go.Proofs.Ythckbobbnkhnpaa
