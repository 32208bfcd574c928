/-
  Blocks of some whole numbers (own work).
-/
import Derived.Test.YtoikaclapccciaaBlk
namespace Go.Proofs.Ytoikaclapccciaa
open Go.ChangeShapes Go.WideShapes Go.ChangeAt Go.RowKit
set_option linter.unusedVariables false
set_option linter.unusedSimpArgs false
set_option maxRecDepth 100000

/-- A block that holds 11 numbers. -/
def Bk11 (W : World) (g : Nat) (v0 v1 v2 v3 v4 v5 v6 v7 v8 v9 v10 : Int) : Prop := (W.cell? ⟨g, 0, none⟩ = some (.int .i64 v0) ∧ W.cell? ⟨g, 1, none⟩ = some (.int .i64 v1) ∧ W.cell? ⟨g, 2, none⟩ = some (.int .i64 v2) ∧ W.cell? ⟨g, 3, none⟩ = some (.int .i64 v3) ∧ W.cell? ⟨g, 4, none⟩ = some (.int .i64 v4) ∧ W.cell? ⟨g, 5, none⟩ = some (.int .i64 v5) ∧ W.cell? ⟨g, 6, none⟩ = some (.int .i64 v6) ∧ W.cell? ⟨g, 7, none⟩ = some (.int .i64 v7) ∧ W.cell? ⟨g, 8, none⟩ = some (.int .i64 v8) ∧ W.cell? ⟨g, 9, none⟩ = some (.int .i64 v9) ∧ W.cell? ⟨g, 10, none⟩ = some (.int .i64 v10)) ∧ (W.frozen? ⟨g, 0, none⟩ = false ∧ W.frozen? ⟨g, 1, none⟩ = false ∧ W.frozen? ⟨g, 2, none⟩ = false ∧ W.frozen? ⟨g, 3, none⟩ = false ∧ W.frozen? ⟨g, 4, none⟩ = false ∧ W.frozen? ⟨g, 5, none⟩ = false ∧ W.frozen? ⟨g, 6, none⟩ = false ∧ W.frozen? ⟨g, 7, none⟩ = false ∧ W.frozen? ⟨g, 8, none⟩ = false ∧ W.frozen? ⟨g, 9, none⟩ = false ∧ W.frozen? ⟨g, 10, none⟩ = false) ∧ g < W.heap.size
theorem Bk11.same {W W' : World} {g : Nat} {v0 v1 v2 v3 v4 v5 v6 v7 v8 v9 v10 : Int} (h : Bk11 W g v0 v1 v2 v3 v4 v5 v6 v7 v8 v9 v10) (he : W'.heap[g]? = W.heap[g]?) : Bk11 W' g v0 v1 v2 v3 v4 v5 v6 v7 v8 v9 v10 := by
  obtain ⟨⟨h0, h1, h2, h3, h4, h5, h6, h7, h8, h9, h10⟩, ⟨f0, f1, f2, f3, f4, f5, f6, f7, f8, f9, f10⟩, hg⟩ := h
  exact ⟨⟨(World.cell?_of_block (a := ⟨g, 0, none⟩) he).trans h0, (World.cell?_of_block (a := ⟨g, 1, none⟩) he).trans h1, (World.cell?_of_block (a := ⟨g, 2, none⟩) he).trans h2, (World.cell?_of_block (a := ⟨g, 3, none⟩) he).trans h3, (World.cell?_of_block (a := ⟨g, 4, none⟩) he).trans h4, (World.cell?_of_block (a := ⟨g, 5, none⟩) he).trans h5, (World.cell?_of_block (a := ⟨g, 6, none⟩) he).trans h6, (World.cell?_of_block (a := ⟨g, 7, none⟩) he).trans h7, (World.cell?_of_block (a := ⟨g, 8, none⟩) he).trans h8, (World.cell?_of_block (a := ⟨g, 9, none⟩) he).trans h9, (World.cell?_of_block (a := ⟨g, 10, none⟩) he).trans h10⟩, ⟨(World.frozen?_of_block (a := ⟨g, 0, none⟩) he).trans f0, (World.frozen?_of_block (a := ⟨g, 1, none⟩) he).trans f1, (World.frozen?_of_block (a := ⟨g, 2, none⟩) he).trans f2, (World.frozen?_of_block (a := ⟨g, 3, none⟩) he).trans f3, (World.frozen?_of_block (a := ⟨g, 4, none⟩) he).trans f4, (World.frozen?_of_block (a := ⟨g, 5, none⟩) he).trans f5, (World.frozen?_of_block (a := ⟨g, 6, none⟩) he).trans f6, (World.frozen?_of_block (a := ⟨g, 7, none⟩) he).trans f7, (World.frozen?_of_block (a := ⟨g, 8, none⟩) he).trans f8, (World.frozen?_of_block (a := ⟨g, 9, none⟩) he).trans f9, (World.frozen?_of_block (a := ⟨g, 10, none⟩) he).trans f10⟩, by
    rw [Array.getElem?_eq_getElem hg] at he
    exact (Array.getElem?_eq_some_iff.1 he).1⟩
theorem Bk11.below {W W' : World} {g : Nat} {v0 v1 v2 v3 v4 v5 v6 v7 v8 v9 v10 : Int} (h : Bk11 W g v0 v1 v2 v3 v4 v5 v6 v7 v8 v9 v10) (hb : Below W.heap.size W W') : Bk11 W' g v0 v1 v2 v3 v4 v5 v6 v7 v8 v9 v10 := h.same (hb.block g h.2.2)
theorem Bk11.far {W : World} {g : Nat} {v0 v1 v2 v3 v4 v5 v6 v7 v8 v9 v10 : Int} (h : Bk11 W g v0 v1 v2 v3 v4 v5 v6 v7 v8 v9 v10) (p : Addr) (v : Value) (hne : g ≠ p.block) : Bk11 (W.setCell p v) g v0 v1 v2 v3 v4 v5 v6 v7 v8 v9 v10 := h.same (Below.heap_setCell W p v g hne)
theorem bk11_new (w : World) (v0 v1 v2 v3 v4 v5 v6 v7 v8 v9 v10 : Int) (t : TypeId) : Bk11 (w.alloc (.cells #[.int .i64 v0, .int .i64 v1, .int .i64 v2, .int .i64 v3, .int .i64 v4, .int .i64 v5, .int .i64 v6, .int .i64 v7, .int .i64 v8, .int .i64 v9, .int .i64 v10] t)) w.heap.size v0 v1 v2 v3 v4 v5 v6 v7 v8 v9 v10 := by
  refine ⟨⟨?_, ?_, ?_, ?_, ?_, ?_, ?_, ?_, ?_, ?_, ?_⟩, ⟨?_, ?_, ?_, ?_, ?_, ?_, ?_, ?_, ?_, ?_, ?_⟩, ?_⟩
  all_goals first | (go_cell; done) | (simp; done)
theorem Bk11.set0 {W : World} {g : Nat} {v0 v1 v2 v3 v4 v5 v6 v7 v8 v9 v10 : Int} (h : Bk11 W g v0 v1 v2 v3 v4 v5 v6 v7 v8 v9 v10) (x : Int) : Bk11 (W.setCell ⟨g, 0, none⟩ (.int .i64 x)) g x v1 v2 v3 v4 v5 v6 v7 v8 v9 v10 := by
  obtain ⟨⟨h0, h1, h2, h3, h4, h5, h6, h7, h8, h9, h10⟩, ⟨f0, f1, f2, f3, f4, f5, f6, f7, f8, f9, f10⟩, hg⟩ := h
  refine ⟨⟨?_, ?_, ?_, ?_, ?_, ?_, ?_, ?_, ?_, ?_, ?_⟩, ⟨?_, ?_, ?_, ?_, ?_, ?_, ?_, ?_, ?_, ?_, ?_⟩, ?_⟩
  all_goals first | (go_cell; done) | (simp [*]; done)
theorem Bk11.set1 {W : World} {g : Nat} {v0 v1 v2 v3 v4 v5 v6 v7 v8 v9 v10 : Int} (h : Bk11 W g v0 v1 v2 v3 v4 v5 v6 v7 v8 v9 v10) (x : Int) : Bk11 (W.setCell ⟨g, 1, none⟩ (.int .i64 x)) g v0 x v2 v3 v4 v5 v6 v7 v8 v9 v10 := by
  obtain ⟨⟨h0, h1, h2, h3, h4, h5, h6, h7, h8, h9, h10⟩, ⟨f0, f1, f2, f3, f4, f5, f6, f7, f8, f9, f10⟩, hg⟩ := h
  refine ⟨⟨?_, ?_, ?_, ?_, ?_, ?_, ?_, ?_, ?_, ?_, ?_⟩, ⟨?_, ?_, ?_, ?_, ?_, ?_, ?_, ?_, ?_, ?_, ?_⟩, ?_⟩
  all_goals first | (go_cell; done) | (simp [*]; done)
theorem Bk11.set2 {W : World} {g : Nat} {v0 v1 v2 v3 v4 v5 v6 v7 v8 v9 v10 : Int} (h : Bk11 W g v0 v1 v2 v3 v4 v5 v6 v7 v8 v9 v10) (x : Int) : Bk11 (W.setCell ⟨g, 2, none⟩ (.int .i64 x)) g v0 v1 x v3 v4 v5 v6 v7 v8 v9 v10 := by
  obtain ⟨⟨h0, h1, h2, h3, h4, h5, h6, h7, h8, h9, h10⟩, ⟨f0, f1, f2, f3, f4, f5, f6, f7, f8, f9, f10⟩, hg⟩ := h
  refine ⟨⟨?_, ?_, ?_, ?_, ?_, ?_, ?_, ?_, ?_, ?_, ?_⟩, ⟨?_, ?_, ?_, ?_, ?_, ?_, ?_, ?_, ?_, ?_, ?_⟩, ?_⟩
  all_goals first | (go_cell; done) | (simp [*]; done)
theorem Bk11.set3 {W : World} {g : Nat} {v0 v1 v2 v3 v4 v5 v6 v7 v8 v9 v10 : Int} (h : Bk11 W g v0 v1 v2 v3 v4 v5 v6 v7 v8 v9 v10) (x : Int) : Bk11 (W.setCell ⟨g, 3, none⟩ (.int .i64 x)) g v0 v1 v2 x v4 v5 v6 v7 v8 v9 v10 := by
  obtain ⟨⟨h0, h1, h2, h3, h4, h5, h6, h7, h8, h9, h10⟩, ⟨f0, f1, f2, f3, f4, f5, f6, f7, f8, f9, f10⟩, hg⟩ := h
  refine ⟨⟨?_, ?_, ?_, ?_, ?_, ?_, ?_, ?_, ?_, ?_, ?_⟩, ⟨?_, ?_, ?_, ?_, ?_, ?_, ?_, ?_, ?_, ?_, ?_⟩, ?_⟩
  all_goals first | (go_cell; done) | (simp [*]; done)
theorem Bk11.set4 {W : World} {g : Nat} {v0 v1 v2 v3 v4 v5 v6 v7 v8 v9 v10 : Int} (h : Bk11 W g v0 v1 v2 v3 v4 v5 v6 v7 v8 v9 v10) (x : Int) : Bk11 (W.setCell ⟨g, 4, none⟩ (.int .i64 x)) g v0 v1 v2 v3 x v5 v6 v7 v8 v9 v10 := by
  obtain ⟨⟨h0, h1, h2, h3, h4, h5, h6, h7, h8, h9, h10⟩, ⟨f0, f1, f2, f3, f4, f5, f6, f7, f8, f9, f10⟩, hg⟩ := h
  refine ⟨⟨?_, ?_, ?_, ?_, ?_, ?_, ?_, ?_, ?_, ?_, ?_⟩, ⟨?_, ?_, ?_, ?_, ?_, ?_, ?_, ?_, ?_, ?_, ?_⟩, ?_⟩
  all_goals first | (go_cell; done) | (simp [*]; done)
theorem Bk11.set5 {W : World} {g : Nat} {v0 v1 v2 v3 v4 v5 v6 v7 v8 v9 v10 : Int} (h : Bk11 W g v0 v1 v2 v3 v4 v5 v6 v7 v8 v9 v10) (x : Int) : Bk11 (W.setCell ⟨g, 5, none⟩ (.int .i64 x)) g v0 v1 v2 v3 v4 x v6 v7 v8 v9 v10 := by
  obtain ⟨⟨h0, h1, h2, h3, h4, h5, h6, h7, h8, h9, h10⟩, ⟨f0, f1, f2, f3, f4, f5, f6, f7, f8, f9, f10⟩, hg⟩ := h
  refine ⟨⟨?_, ?_, ?_, ?_, ?_, ?_, ?_, ?_, ?_, ?_, ?_⟩, ⟨?_, ?_, ?_, ?_, ?_, ?_, ?_, ?_, ?_, ?_, ?_⟩, ?_⟩
  all_goals first | (go_cell; done) | (simp [*]; done)
theorem Bk11.set6 {W : World} {g : Nat} {v0 v1 v2 v3 v4 v5 v6 v7 v8 v9 v10 : Int} (h : Bk11 W g v0 v1 v2 v3 v4 v5 v6 v7 v8 v9 v10) (x : Int) : Bk11 (W.setCell ⟨g, 6, none⟩ (.int .i64 x)) g v0 v1 v2 v3 v4 v5 x v7 v8 v9 v10 := by
  obtain ⟨⟨h0, h1, h2, h3, h4, h5, h6, h7, h8, h9, h10⟩, ⟨f0, f1, f2, f3, f4, f5, f6, f7, f8, f9, f10⟩, hg⟩ := h
  refine ⟨⟨?_, ?_, ?_, ?_, ?_, ?_, ?_, ?_, ?_, ?_, ?_⟩, ⟨?_, ?_, ?_, ?_, ?_, ?_, ?_, ?_, ?_, ?_, ?_⟩, ?_⟩
  all_goals first | (go_cell; done) | (simp [*]; done)
theorem Bk11.set7 {W : World} {g : Nat} {v0 v1 v2 v3 v4 v5 v6 v7 v8 v9 v10 : Int} (h : Bk11 W g v0 v1 v2 v3 v4 v5 v6 v7 v8 v9 v10) (x : Int) : Bk11 (W.setCell ⟨g, 7, none⟩ (.int .i64 x)) g v0 v1 v2 v3 v4 v5 v6 x v8 v9 v10 := by
  obtain ⟨⟨h0, h1, h2, h3, h4, h5, h6, h7, h8, h9, h10⟩, ⟨f0, f1, f2, f3, f4, f5, f6, f7, f8, f9, f10⟩, hg⟩ := h
  refine ⟨⟨?_, ?_, ?_, ?_, ?_, ?_, ?_, ?_, ?_, ?_, ?_⟩, ⟨?_, ?_, ?_, ?_, ?_, ?_, ?_, ?_, ?_, ?_, ?_⟩, ?_⟩
  all_goals first | (go_cell; done) | (simp [*]; done)
theorem Bk11.set8 {W : World} {g : Nat} {v0 v1 v2 v3 v4 v5 v6 v7 v8 v9 v10 : Int} (h : Bk11 W g v0 v1 v2 v3 v4 v5 v6 v7 v8 v9 v10) (x : Int) : Bk11 (W.setCell ⟨g, 8, none⟩ (.int .i64 x)) g v0 v1 v2 v3 v4 v5 v6 v7 x v9 v10 := by
  obtain ⟨⟨h0, h1, h2, h3, h4, h5, h6, h7, h8, h9, h10⟩, ⟨f0, f1, f2, f3, f4, f5, f6, f7, f8, f9, f10⟩, hg⟩ := h
  refine ⟨⟨?_, ?_, ?_, ?_, ?_, ?_, ?_, ?_, ?_, ?_, ?_⟩, ⟨?_, ?_, ?_, ?_, ?_, ?_, ?_, ?_, ?_, ?_, ?_⟩, ?_⟩
  all_goals first | (go_cell; done) | (simp [*]; done)
theorem Bk11.set9 {W : World} {g : Nat} {v0 v1 v2 v3 v4 v5 v6 v7 v8 v9 v10 : Int} (h : Bk11 W g v0 v1 v2 v3 v4 v5 v6 v7 v8 v9 v10) (x : Int) : Bk11 (W.setCell ⟨g, 9, none⟩ (.int .i64 x)) g v0 v1 v2 v3 v4 v5 v6 v7 v8 x v10 := by
  obtain ⟨⟨h0, h1, h2, h3, h4, h5, h6, h7, h8, h9, h10⟩, ⟨f0, f1, f2, f3, f4, f5, f6, f7, f8, f9, f10⟩, hg⟩ := h
  refine ⟨⟨?_, ?_, ?_, ?_, ?_, ?_, ?_, ?_, ?_, ?_, ?_⟩, ⟨?_, ?_, ?_, ?_, ?_, ?_, ?_, ?_, ?_, ?_, ?_⟩, ?_⟩
  all_goals first | (go_cell; done) | (simp [*]; done)
theorem Bk11.set10 {W : World} {g : Nat} {v0 v1 v2 v3 v4 v5 v6 v7 v8 v9 v10 : Int} (h : Bk11 W g v0 v1 v2 v3 v4 v5 v6 v7 v8 v9 v10) (x : Int) : Bk11 (W.setCell ⟨g, 10, none⟩ (.int .i64 x)) g v0 v1 v2 v3 v4 v5 v6 v7 v8 v9 x := by
  obtain ⟨⟨h0, h1, h2, h3, h4, h5, h6, h7, h8, h9, h10⟩, ⟨f0, f1, f2, f3, f4, f5, f6, f7, f8, f9, f10⟩, hg⟩ := h
  refine ⟨⟨?_, ?_, ?_, ?_, ?_, ?_, ?_, ?_, ?_, ?_, ?_⟩, ⟨?_, ?_, ?_, ?_, ?_, ?_, ?_, ?_, ?_, ?_, ?_⟩, ?_⟩
  all_goals first | (go_cell; done) | (simp [*]; done)
end Go.Proofs.Ytoikaclapccciaa
