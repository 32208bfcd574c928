/-
  Blocks of four whole numbers (own work).
-/
import Derived.Test.YtoenlpkphekbnaaBlk
namespace Go.Proofs.Ytoenlpkphekbnaa
open Go.ChangeShapes Go.WideShapes Go.ChangeAt Go.RowKit
set_option linter.unusedVariables false
set_option maxRecDepth 100000
set_option linter.unusedSimpArgs false
set_option maxRecDepth 100000

/-- A block that holds 4 numbers. -/
def Bk4 (W : World) (g : Nat) (v0 v1 v2 v3 : Int) : Prop := (W.cell? ⟨g, 0, none⟩ = some (.int .i64 v0) ∧ W.cell? ⟨g, 1, none⟩ = some (.int .i64 v1) ∧ W.cell? ⟨g, 2, none⟩ = some (.int .i64 v2) ∧ W.cell? ⟨g, 3, none⟩ = some (.int .i64 v3)) ∧ (W.frozen? ⟨g, 0, none⟩ = false ∧ W.frozen? ⟨g, 1, none⟩ = false ∧ W.frozen? ⟨g, 2, none⟩ = false ∧ W.frozen? ⟨g, 3, none⟩ = false) ∧ g < W.heap.size
theorem Bk4.same {W W' : World} {g : Nat} {v0 v1 v2 v3 : Int} (h : Bk4 W g v0 v1 v2 v3) (he : W'.heap[g]? = W.heap[g]?) : Bk4 W' g v0 v1 v2 v3 := by
  obtain ⟨⟨h0, h1, h2, h3⟩, ⟨f0, f1, f2, f3⟩, hg⟩ := h
  exact ⟨⟨(World.cell?_of_block (a := ⟨g, 0, none⟩) he).trans h0, (World.cell?_of_block (a := ⟨g, 1, none⟩) he).trans h1, (World.cell?_of_block (a := ⟨g, 2, none⟩) he).trans h2, (World.cell?_of_block (a := ⟨g, 3, none⟩) he).trans h3⟩, ⟨(World.frozen?_of_block (a := ⟨g, 0, none⟩) he).trans f0, (World.frozen?_of_block (a := ⟨g, 1, none⟩) he).trans f1, (World.frozen?_of_block (a := ⟨g, 2, none⟩) he).trans f2, (World.frozen?_of_block (a := ⟨g, 3, none⟩) he).trans f3⟩, by
    rw [Array.getElem?_eq_getElem hg] at he
    exact (Array.getElem?_eq_some_iff.1 he).1⟩
theorem Bk4.below {W W' : World} {g : Nat} {v0 v1 v2 v3 : Int} (h : Bk4 W g v0 v1 v2 v3) (hb : Below W.heap.size W W') : Bk4 W' g v0 v1 v2 v3 := h.same (hb.block g h.2.2)
theorem Bk4.far {W : World} {g : Nat} {v0 v1 v2 v3 : Int} (h : Bk4 W g v0 v1 v2 v3) (p : Addr) (v : Value) (hne : g ≠ p.block) : Bk4 (W.setCell p v) g v0 v1 v2 v3 := h.same (Below.heap_setCell W p v g hne)
theorem bk4_new (w : World) (v0 v1 v2 v3 : Int) (t : TypeId) : Bk4 (w.alloc (.cells #[.int .i64 v0, .int .i64 v1, .int .i64 v2, .int .i64 v3] t)) w.heap.size v0 v1 v2 v3 := by
  refine ⟨⟨?_, ?_, ?_, ?_⟩, ⟨?_, ?_, ?_, ?_⟩, ?_⟩
  all_goals first | (go_cell; done) | (simp; done)
theorem Bk4.set0 {W : World} {g : Nat} {v0 v1 v2 v3 : Int} (h : Bk4 W g v0 v1 v2 v3) (x : Int) : Bk4 (W.setCell ⟨g, 0, none⟩ (.int .i64 x)) g x v1 v2 v3 := by
  obtain ⟨⟨h0, h1, h2, h3⟩, ⟨f0, f1, f2, f3⟩, hg⟩ := h
  refine ⟨⟨?_, ?_, ?_, ?_⟩, ⟨?_, ?_, ?_, ?_⟩, ?_⟩
  all_goals first | (go_cell; done) | (simp [*]; done)
theorem Bk4.set1 {W : World} {g : Nat} {v0 v1 v2 v3 : Int} (h : Bk4 W g v0 v1 v2 v3) (x : Int) : Bk4 (W.setCell ⟨g, 1, none⟩ (.int .i64 x)) g v0 x v2 v3 := by
  obtain ⟨⟨h0, h1, h2, h3⟩, ⟨f0, f1, f2, f3⟩, hg⟩ := h
  refine ⟨⟨?_, ?_, ?_, ?_⟩, ⟨?_, ?_, ?_, ?_⟩, ?_⟩
  all_goals first | (go_cell; done) | (simp [*]; done)
theorem Bk4.set2 {W : World} {g : Nat} {v0 v1 v2 v3 : Int} (h : Bk4 W g v0 v1 v2 v3) (x : Int) : Bk4 (W.setCell ⟨g, 2, none⟩ (.int .i64 x)) g v0 v1 x v3 := by
  obtain ⟨⟨h0, h1, h2, h3⟩, ⟨f0, f1, f2, f3⟩, hg⟩ := h
  refine ⟨⟨?_, ?_, ?_, ?_⟩, ⟨?_, ?_, ?_, ?_⟩, ?_⟩
  all_goals first | (go_cell; done) | (simp [*]; done)
theorem Bk4.set3 {W : World} {g : Nat} {v0 v1 v2 v3 : Int} (h : Bk4 W g v0 v1 v2 v3) (x : Int) : Bk4 (W.setCell ⟨g, 3, none⟩ (.int .i64 x)) g v0 v1 v2 x := by
  obtain ⟨⟨h0, h1, h2, h3⟩, ⟨f0, f1, f2, f3⟩, hg⟩ := h
  refine ⟨⟨?_, ?_, ?_, ?_⟩, ⟨?_, ?_, ?_, ?_⟩, ?_⟩
  all_goals first | (go_cell; done) | (simp [*]; done)
end Go.Proofs.Ytoenlpkphekbnaa
