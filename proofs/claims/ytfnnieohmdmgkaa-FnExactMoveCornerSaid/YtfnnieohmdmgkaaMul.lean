/-
  Contracts of chapter 1's MultiplyMatrices, in the model and in the program (own work).
-/
import Derived.Test.YtfnnieohmdmgkaaApp
namespace Go.Proofs.Ytfnnieohmdmgkaa
open Go.ChangeShapes Go.WideShapes Go.ChangeAt Go.RowKit
set_option linter.unusedVariables false
set_option linter.unusedSimpArgs false

/-- A variable of four cells, made ahead of a call: what it holds behind it. -/
theorem after_new4 {a wn : World} {c0 c1 c2 c3 : Value} {t : TypeId} (hb : Below (a.alloc (.cells #[c0, c1, c2, c3] t)).heap.size (a.alloc (.cells #[c0, c1, c2, c3] t)) wn) :
    wn.cell? ⟨a.heap.size, 0, none⟩ = some c0 ∧ wn.cell? ⟨a.heap.size, 1, none⟩ = some c1 ∧ wn.cell? ⟨a.heap.size, 2, none⟩ = some c2 ∧ wn.cell? ⟨a.heap.size, 3, none⟩ = some c3 ∧ wn.frozen? ⟨a.heap.size, 0, none⟩ = false ∧ wn.frozen? ⟨a.heap.size, 1, none⟩ = false ∧ wn.frozen? ⟨a.heap.size, 2, none⟩ = false ∧ wn.frozen? ⟨a.heap.size, 3, none⟩ = false ∧ a.heap.size < wn.heap.size := by
  have hl : a.heap.size < (a.alloc (.cells #[c0, c1, c2, c3] t)).heap.size := by simp
  refine ⟨?_, ?_, ?_, ?_, ?_, ?_, ?_, ?_, Nat.lt_of_lt_of_le hl hb.size⟩
  · rw [(bcell hb).1 _ _ hl]; simp
  · rw [(bcell hb).1 _ _ hl]; simp
  · rw [(bcell hb).1 _ _ hl]; simp
  · rw [(bcell hb).1 _ _ hl]; simp
  · rw [(bcell hb).2 _ _ hl]; simp
  · rw [(bcell hb).2 _ _ hl]; simp
  · rw [(bcell hb).2 _ _ hl]; simp
  · rw [(bcell hb).2 _ _ hl]; simp
theorem after_newd4 {a wn : World} {c0 c1 c2 c3 : Value} {t : TypeId} (hb : Below (a.alloc (.cells #[c0, c1, c2, c3] t)).drew.heap.size (a.alloc (.cells #[c0, c1, c2, c3] t)).drew wn) :
    wn.cell? ⟨a.heap.size, 0, none⟩ = some c0 ∧ wn.cell? ⟨a.heap.size, 1, none⟩ = some c1 ∧ wn.cell? ⟨a.heap.size, 2, none⟩ = some c2 ∧ wn.cell? ⟨a.heap.size, 3, none⟩ = some c3 ∧ wn.frozen? ⟨a.heap.size, 0, none⟩ = false ∧ wn.frozen? ⟨a.heap.size, 1, none⟩ = false ∧ wn.frozen? ⟨a.heap.size, 2, none⟩ = false ∧ wn.frozen? ⟨a.heap.size, 3, none⟩ = false ∧ a.heap.size < wn.heap.size :=
  after_new4 (a := a) (c0 := c0) (c1 := c1) (c2 := c2) (c3 := c3) (t := t) ⟨hb.os, hb.tape, hb.output, hb.size, hb.block⟩
theorem after_old4 {W wn : World} {p : Nat} {c0 c1 c2 c3 : Value} (hb : Below W.heap.size W wn) (h : W.cell? ⟨p, 0, none⟩ = some c0 ∧ W.cell? ⟨p, 1, none⟩ = some c1 ∧ W.cell? ⟨p, 2, none⟩ = some c2 ∧ W.cell? ⟨p, 3, none⟩ = some c3 ∧ W.frozen? ⟨p, 0, none⟩ = false ∧ W.frozen? ⟨p, 1, none⟩ = false ∧ W.frozen? ⟨p, 2, none⟩ = false ∧ W.frozen? ⟨p, 3, none⟩ = false ∧ p < W.heap.size) :
    wn.cell? ⟨p, 0, none⟩ = some c0 ∧ wn.cell? ⟨p, 1, none⟩ = some c1 ∧ wn.cell? ⟨p, 2, none⟩ = some c2 ∧ wn.cell? ⟨p, 3, none⟩ = some c3 ∧ wn.frozen? ⟨p, 0, none⟩ = false ∧ wn.frozen? ⟨p, 1, none⟩ = false ∧ wn.frozen? ⟨p, 2, none⟩ = false ∧ wn.frozen? ⟨p, 3, none⟩ = false ∧ p < wn.heap.size := by
  obtain ⟨h0, h1, h2, h3, f0, f1, f2, f3, e⟩ := h
  have A := (bcell hb).1 p
  have F := (bcell hb).2 p
  exact ⟨by rw [A _ e]; exact h0, by rw [A _ e]; exact h1, by rw [A _ e]; exact h2, by rw [A _ e]; exact h3, by rw [F _ e]; exact f0, by rw [F _ e]; exact f1, by rw [F _ e]; exact f2, by rw [F _ e]; exact f3, Nat.lt_of_lt_of_le e hb.size⟩
end Go.Proofs.Ytfnnieohmdmgkaa
