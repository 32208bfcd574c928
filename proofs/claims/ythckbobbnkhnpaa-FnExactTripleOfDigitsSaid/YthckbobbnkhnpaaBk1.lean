/-
  Blocks of one whole number; blocks of numbers stay while a range over a function goes on (own work).
-/
import Derived.Test.YthckbobbnkhnpaaTdJ
import Derived.Test.YthckbobbnkhnpaaAnT
import Derived.Test.YthckbobbnkhnpaaTrQ
namespace Go.Proofs.Ythckbobbnkhnpaa
open Go.ChangeShapes Go.WideShapes Go.ChangeAt Go.RowKit
set_option linter.unusedVariables false
set_option linter.unusedSimpArgs false

def Bk1 (W : World) (g : Nat) (v0 : Int) : Prop := (W.cell? ⟨g, 0, none⟩ = some (.int .i64 v0)) ∧ (W.frozen? ⟨g, 0, none⟩ = false) ∧ g < W.heap.size
theorem Bk1.same {W W' : World} {g : Nat} {v0 : Int} (h : Bk1 W g v0) (he : W'.heap[g]? = W.heap[g]?) : Bk1 W' g v0 := by
  obtain ⟨h0, f0, hg⟩ := h
  exact ⟨(World.cell?_of_block (a := ⟨g, 0, none⟩) he).trans h0, (World.frozen?_of_block (a := ⟨g, 0, none⟩) he).trans f0, by
    rw [Array.getElem?_eq_getElem hg] at he
    exact (Array.getElem?_eq_some_iff.1 he).1⟩
theorem Bk1.below {W W' : World} {g : Nat} {v0 : Int} (h : Bk1 W g v0) (hb : Below W.heap.size W W') : Bk1 W' g v0 := h.same (hb.block g h.2.2)
theorem Bk1.far {W : World} {g : Nat} {v0 : Int} (h : Bk1 W g v0) (p : Addr) (v : Value) (hne : g ≠ p.block) : Bk1 (W.setCell p v) g v0 := h.same (Below.heap_setCell W p v g hne)
theorem bk1_new (w : World) (v0 : Int) (t : TypeId) : Bk1 (w.alloc (.cells #[.int .i64 v0] t)) w.heap.size v0 := by
  refine ⟨?_, ?_, ?_⟩
  all_goals first | (go_cell; done) | (simp; done)
theorem Bk1.set0 {W : World} {g : Nat} {v0 : Int} (h : Bk1 W g v0) (x : Int) : Bk1 (W.setCell ⟨g, 0, none⟩ (.int .i64 x)) g x := by
  obtain ⟨h0, f0, hg⟩ := h
  refine ⟨?_, ?_, ?_⟩
  all_goals first | (go_cell; done) | (simp [*]; done)
theorem Bk1.own {W W' : World} {row : Option Nat} {g : Nat} {v0 : Int} (h : Bk1 W g v0) (hg : W.grownBy W' row) (hr : ∀ r, row = some r → ∃ o : Obj, W.heap[r]? = some o ∧ o.isCells = false) : Bk1 W' g v0 := by
  obtain ⟨o, ho, hc⟩ := cells_of_cell h.1
  exact h.same (grownBy_keeps_cells hg hr ho hc)
theorem Bk3.own {W W' : World} {row : Option Nat} {g : Nat} {v0 v1 v2 : Int} (h : Bk3 W g v0 v1 v2) (hg : W.grownBy W' row) (hr : ∀ r, row = some r → ∃ o : Obj, W.heap[r]? = some o ∧ o.isCells = false) : Bk3 W' g v0 v1 v2 := by
  obtain ⟨o, ho, hc⟩ := cells_of_cell h.1.1
  exact h.same (grownBy_keeps_cells hg hr ho hc)
end Go.Proofs.Ythckbobbnkhnpaa
