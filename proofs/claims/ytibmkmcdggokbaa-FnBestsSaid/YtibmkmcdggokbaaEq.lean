/-
  Contracts of the laws' comparisons of points and matrices, where both are the same (own work).
-/
import Derived.Test.YtibmkmcdggokbaaPts
namespace Go.Proofs.Ytibmkmcdggokbaa
open Go.ChangeShapes Go.WideShapes Go.ChangeAt Go.RowKit
set_option linter.unusedVariables false
set_option linter.unusedSimpArgs false

theorem after_call2K {G : Prop} {W0 w1 W wn : World} {n : Nat} (hb : Below W.heap.size W wn) (hcl : ∀ b o, b < n → w1.cell? ⟨b, o, none⟩ = W0.cell? ⟨b, o, none⟩) (hfr : ∀ b o, b < n → w1.frozen? ⟨b, o, none⟩ = W0.frozen? ⟨b, o, none⟩) (hlt : ∀ b, b < n → b < w1.heap.size) (hg : Below w1.heap.size w1 W)
    (K : (∀ b o, b < n → wn.cell? ⟨b, o, none⟩ = W0.cell? ⟨b, o, none⟩) → (∀ b o, b < n → wn.frozen? ⟨b, o, none⟩ = W0.frozen? ⟨b, o, none⟩) → (∀ b, b < n → b < wn.heap.size) → G) : G :=
  let h := after_call2 hb hcl hfr hlt hg
  K h.1 h.2.1 h.2.2

/-- A variable of two cells, made ahead of a call: what it holds behind it. -/
theorem after_new {a wn : World} {c0 c1 : Value} {t : TypeId} (hb : Below (a.alloc (.cells #[c0, c1] t)).heap.size (a.alloc (.cells #[c0, c1] t)) wn) :
    (wn.cell? ⟨a.heap.size, 0, none⟩ = some c0 ∧ wn.cell? ⟨a.heap.size, 1, none⟩ = some c1 ∧ wn.frozen? ⟨a.heap.size, 0, none⟩ = false ∧ wn.frozen? ⟨a.heap.size, 1, none⟩ = false ∧ a.heap.size < wn.heap.size) := by
  have hl : a.heap.size < (a.alloc (.cells #[c0, c1] t)).heap.size := by simp
  refine ⟨?_, ?_, ?_, ?_, Nat.lt_of_lt_of_le hl hb.size⟩
  · rw [(bcell hb).1 _ _ hl]; simp
  · rw [(bcell hb).1 _ _ hl]; simp
  · rw [(bcell hb).2 _ _ hl]; simp
  · rw [(bcell hb).2 _ _ hl]; simp
theorem after_newd {a wn : World} {c0 c1 : Value} {t : TypeId} (hb : Below (a.alloc (.cells #[c0, c1] t)).drew.heap.size (a.alloc (.cells #[c0, c1] t)).drew wn) :
    (wn.cell? ⟨a.heap.size, 0, none⟩ = some c0 ∧ wn.cell? ⟨a.heap.size, 1, none⟩ = some c1 ∧ wn.frozen? ⟨a.heap.size, 0, none⟩ = false ∧ wn.frozen? ⟨a.heap.size, 1, none⟩ = false ∧ a.heap.size < wn.heap.size) :=
  after_new (a := a) (c0 := c0) (c1 := c1) (t := t) ⟨hb.os, hb.tape, hb.output, hb.size, hb.block⟩
theorem after_old {W wn : World} {p : Nat} {c0 c1 : Value} (hb : Below W.heap.size W wn) (h : (W.cell? ⟨p, 0, none⟩ = some c0 ∧ W.cell? ⟨p, 1, none⟩ = some c1 ∧ W.frozen? ⟨p, 0, none⟩ = false ∧ W.frozen? ⟨p, 1, none⟩ = false ∧ p < W.heap.size)) :
    (wn.cell? ⟨p, 0, none⟩ = some c0 ∧ wn.cell? ⟨p, 1, none⟩ = some c1 ∧ wn.frozen? ⟨p, 0, none⟩ = false ∧ wn.frozen? ⟨p, 1, none⟩ = false ∧ p < wn.heap.size) :=
  ⟨by rw [(bcell hb).1 _ _ h.2.2.2.2]; exact h.1, by rw [(bcell hb).1 _ _ h.2.2.2.2]; exact h.2.1, by rw [(bcell hb).2 _ _ h.2.2.2.2]; exact h.2.2.1, by rw [(bcell hb).2 _ _ h.2.2.2.2]; exact h.2.2.2.1, Nat.lt_of_lt_of_le h.2.2.2.2 hb.size⟩

end Go.Proofs.Ytibmkmcdggokbaa
