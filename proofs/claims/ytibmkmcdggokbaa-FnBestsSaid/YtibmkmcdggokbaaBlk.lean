/-
  Blocks of a few whole numbers (own work).
-/
import Derived.Test.YtibmkmcdggokbaaAlg4
namespace Go.Proofs.Ytibmkmcdggokbaa
open Go.ChangeShapes Go.WideShapes Go.ChangeAt Go.RowKit
set_option linter.unusedVariables false
set_option linter.unusedSimpArgs false
set_option maxRecDepth 100000

/-- A call returns v in every world and leaves what was there. -/
def Gives (f : Nat) (args : Array Value) (v : Value) : Prop := ∀ w, Calls Try.prog f args w fun e w' => e = .returned v ∧ Below w.heap.size w w'
/-- A number of three. -/
def V3 (a b c : Int) : Nat → Int
  | 0 => a
  | 1 => b
  | _ => c
/-- A block that holds 2 numbers. -/
def Bk2 (W : World) (g : Nat) (v0 v1 : Int) : Prop := (W.cell? ⟨g, 0, none⟩ = some (.int .i64 v0) ∧ W.cell? ⟨g, 1, none⟩ = some (.int .i64 v1)) ∧ (W.frozen? ⟨g, 0, none⟩ = false ∧ W.frozen? ⟨g, 1, none⟩ = false) ∧ g < W.heap.size
theorem Bk2.same {W W' : World} {g : Nat} {v0 v1 : Int} (h : Bk2 W g v0 v1) (he : W'.heap[g]? = W.heap[g]?) : Bk2 W' g v0 v1 := by
  obtain ⟨⟨h0, h1⟩, ⟨f0, f1⟩, hg⟩ := h
  exact ⟨⟨(World.cell?_of_block (a := ⟨g, 0, none⟩) he).trans h0, (World.cell?_of_block (a := ⟨g, 1, none⟩) he).trans h1⟩, ⟨(World.frozen?_of_block (a := ⟨g, 0, none⟩) he).trans f0, (World.frozen?_of_block (a := ⟨g, 1, none⟩) he).trans f1⟩, by
    rw [Array.getElem?_eq_getElem hg] at he
    exact (Array.getElem?_eq_some_iff.1 he).1⟩
theorem Bk2.below {W W' : World} {g : Nat} {v0 v1 : Int} (h : Bk2 W g v0 v1) (hb : Below W.heap.size W W') : Bk2 W' g v0 v1 := h.same (hb.block g h.2.2)
theorem Bk2.far {W : World} {g : Nat} {v0 v1 : Int} (h : Bk2 W g v0 v1) (p : Addr) (v : Value) (hne : g ≠ p.block) : Bk2 (W.setCell p v) g v0 v1 := h.same (Below.heap_setCell W p v g hne)
theorem bk2_new (w : World) (v0 v1 : Int) (t : TypeId) : Bk2 (w.alloc (.cells #[.int .i64 v0, .int .i64 v1] t)) w.heap.size v0 v1 := by
  refine ⟨⟨?_, ?_⟩, ⟨?_, ?_⟩, ?_⟩
  all_goals first | (go_cell; done) | (simp; done)
theorem Bk2.set0 {W : World} {g : Nat} {v0 v1 : Int} (h : Bk2 W g v0 v1) (x : Int) : Bk2 (W.setCell ⟨g, 0, none⟩ (.int .i64 x)) g x v1 := by
  obtain ⟨⟨h0, h1⟩, ⟨f0, f1⟩, hg⟩ := h
  refine ⟨⟨?_, ?_⟩, ⟨?_, ?_⟩, ?_⟩
  all_goals first | (go_cell; done) | (simp [*]; done)
theorem Bk2.set1 {W : World} {g : Nat} {v0 v1 : Int} (h : Bk2 W g v0 v1) (x : Int) : Bk2 (W.setCell ⟨g, 1, none⟩ (.int .i64 x)) g v0 x := by
  obtain ⟨⟨h0, h1⟩, ⟨f0, f1⟩, hg⟩ := h
  refine ⟨⟨?_, ?_⟩, ⟨?_, ?_⟩, ?_⟩
  all_goals first | (go_cell; done) | (simp [*]; done)
/-- A block that holds 3 numbers. -/
def Bk3 (W : World) (g : Nat) (v0 v1 v2 : Int) : Prop := (W.cell? ⟨g, 0, none⟩ = some (.int .i64 v0) ∧ W.cell? ⟨g, 1, none⟩ = some (.int .i64 v1) ∧ W.cell? ⟨g, 2, none⟩ = some (.int .i64 v2)) ∧ (W.frozen? ⟨g, 0, none⟩ = false ∧ W.frozen? ⟨g, 1, none⟩ = false ∧ W.frozen? ⟨g, 2, none⟩ = false) ∧ g < W.heap.size
theorem Bk3.same {W W' : World} {g : Nat} {v0 v1 v2 : Int} (h : Bk3 W g v0 v1 v2) (he : W'.heap[g]? = W.heap[g]?) : Bk3 W' g v0 v1 v2 := by
  obtain ⟨⟨h0, h1, h2⟩, ⟨f0, f1, f2⟩, hg⟩ := h
  exact ⟨⟨(World.cell?_of_block (a := ⟨g, 0, none⟩) he).trans h0, (World.cell?_of_block (a := ⟨g, 1, none⟩) he).trans h1, (World.cell?_of_block (a := ⟨g, 2, none⟩) he).trans h2⟩, ⟨(World.frozen?_of_block (a := ⟨g, 0, none⟩) he).trans f0, (World.frozen?_of_block (a := ⟨g, 1, none⟩) he).trans f1, (World.frozen?_of_block (a := ⟨g, 2, none⟩) he).trans f2⟩, by
    rw [Array.getElem?_eq_getElem hg] at he
    exact (Array.getElem?_eq_some_iff.1 he).1⟩
theorem Bk3.below {W W' : World} {g : Nat} {v0 v1 v2 : Int} (h : Bk3 W g v0 v1 v2) (hb : Below W.heap.size W W') : Bk3 W' g v0 v1 v2 := h.same (hb.block g h.2.2)
theorem Bk3.far {W : World} {g : Nat} {v0 v1 v2 : Int} (h : Bk3 W g v0 v1 v2) (p : Addr) (v : Value) (hne : g ≠ p.block) : Bk3 (W.setCell p v) g v0 v1 v2 := h.same (Below.heap_setCell W p v g hne)
theorem bk3_new (w : World) (v0 v1 v2 : Int) (t : TypeId) : Bk3 (w.alloc (.cells #[.int .i64 v0, .int .i64 v1, .int .i64 v2] t)) w.heap.size v0 v1 v2 := by
  refine ⟨⟨?_, ?_, ?_⟩, ⟨?_, ?_, ?_⟩, ?_⟩
  all_goals first | (go_cell; done) | (simp; done)
theorem Bk3.set0 {W : World} {g : Nat} {v0 v1 v2 : Int} (h : Bk3 W g v0 v1 v2) (x : Int) : Bk3 (W.setCell ⟨g, 0, none⟩ (.int .i64 x)) g x v1 v2 := by
  obtain ⟨⟨h0, h1, h2⟩, ⟨f0, f1, f2⟩, hg⟩ := h
  refine ⟨⟨?_, ?_, ?_⟩, ⟨?_, ?_, ?_⟩, ?_⟩
  all_goals first | (go_cell; done) | (simp [*]; done)
theorem Bk3.set1 {W : World} {g : Nat} {v0 v1 v2 : Int} (h : Bk3 W g v0 v1 v2) (x : Int) : Bk3 (W.setCell ⟨g, 1, none⟩ (.int .i64 x)) g v0 x v2 := by
  obtain ⟨⟨h0, h1, h2⟩, ⟨f0, f1, f2⟩, hg⟩ := h
  refine ⟨⟨?_, ?_, ?_⟩, ⟨?_, ?_, ?_⟩, ?_⟩
  all_goals first | (go_cell; done) | (simp [*]; done)
theorem Bk3.set2 {W : World} {g : Nat} {v0 v1 v2 : Int} (h : Bk3 W g v0 v1 v2) (x : Int) : Bk3 (W.setCell ⟨g, 2, none⟩ (.int .i64 x)) g v0 v1 x := by
  obtain ⟨⟨h0, h1, h2⟩, ⟨f0, f1, f2⟩, hg⟩ := h
  refine ⟨⟨?_, ?_, ?_⟩, ⟨?_, ?_, ?_⟩, ?_⟩
  all_goals first | (go_cell; done) | (simp [*]; done)
/-- A block that holds 6 numbers. -/
def Bk6 (W : World) (g : Nat) (v0 v1 v2 v3 v4 v5 : Int) : Prop := (W.cell? ⟨g, 0, none⟩ = some (.int .i64 v0) ∧ W.cell? ⟨g, 1, none⟩ = some (.int .i64 v1) ∧ W.cell? ⟨g, 2, none⟩ = some (.int .i64 v2) ∧ W.cell? ⟨g, 3, none⟩ = some (.int .i64 v3) ∧ W.cell? ⟨g, 4, none⟩ = some (.int .i64 v4) ∧ W.cell? ⟨g, 5, none⟩ = some (.int .i64 v5)) ∧ (W.frozen? ⟨g, 0, none⟩ = false ∧ W.frozen? ⟨g, 1, none⟩ = false ∧ W.frozen? ⟨g, 2, none⟩ = false ∧ W.frozen? ⟨g, 3, none⟩ = false ∧ W.frozen? ⟨g, 4, none⟩ = false ∧ W.frozen? ⟨g, 5, none⟩ = false) ∧ g < W.heap.size
theorem Bk6.same {W W' : World} {g : Nat} {v0 v1 v2 v3 v4 v5 : Int} (h : Bk6 W g v0 v1 v2 v3 v4 v5) (he : W'.heap[g]? = W.heap[g]?) : Bk6 W' g v0 v1 v2 v3 v4 v5 := by
  obtain ⟨⟨h0, h1, h2, h3, h4, h5⟩, ⟨f0, f1, f2, f3, f4, f5⟩, hg⟩ := h
  exact ⟨⟨(World.cell?_of_block (a := ⟨g, 0, none⟩) he).trans h0, (World.cell?_of_block (a := ⟨g, 1, none⟩) he).trans h1, (World.cell?_of_block (a := ⟨g, 2, none⟩) he).trans h2, (World.cell?_of_block (a := ⟨g, 3, none⟩) he).trans h3, (World.cell?_of_block (a := ⟨g, 4, none⟩) he).trans h4, (World.cell?_of_block (a := ⟨g, 5, none⟩) he).trans h5⟩, ⟨(World.frozen?_of_block (a := ⟨g, 0, none⟩) he).trans f0, (World.frozen?_of_block (a := ⟨g, 1, none⟩) he).trans f1, (World.frozen?_of_block (a := ⟨g, 2, none⟩) he).trans f2, (World.frozen?_of_block (a := ⟨g, 3, none⟩) he).trans f3, (World.frozen?_of_block (a := ⟨g, 4, none⟩) he).trans f4, (World.frozen?_of_block (a := ⟨g, 5, none⟩) he).trans f5⟩, by
    rw [Array.getElem?_eq_getElem hg] at he
    exact (Array.getElem?_eq_some_iff.1 he).1⟩
theorem Bk6.below {W W' : World} {g : Nat} {v0 v1 v2 v3 v4 v5 : Int} (h : Bk6 W g v0 v1 v2 v3 v4 v5) (hb : Below W.heap.size W W') : Bk6 W' g v0 v1 v2 v3 v4 v5 := h.same (hb.block g h.2.2)
theorem Bk6.far {W : World} {g : Nat} {v0 v1 v2 v3 v4 v5 : Int} (h : Bk6 W g v0 v1 v2 v3 v4 v5) (p : Addr) (v : Value) (hne : g ≠ p.block) : Bk6 (W.setCell p v) g v0 v1 v2 v3 v4 v5 := h.same (Below.heap_setCell W p v g hne)
theorem bk6_new (w : World) (v0 v1 v2 v3 v4 v5 : Int) (t : TypeId) : Bk6 (w.alloc (.cells #[.int .i64 v0, .int .i64 v1, .int .i64 v2, .int .i64 v3, .int .i64 v4, .int .i64 v5] t)) w.heap.size v0 v1 v2 v3 v4 v5 := by
  refine ⟨⟨?_, ?_, ?_, ?_, ?_, ?_⟩, ⟨?_, ?_, ?_, ?_, ?_, ?_⟩, ?_⟩
  all_goals first | (go_cell; done) | (simp; done)
theorem Bk6.set0 {W : World} {g : Nat} {v0 v1 v2 v3 v4 v5 : Int} (h : Bk6 W g v0 v1 v2 v3 v4 v5) (x : Int) : Bk6 (W.setCell ⟨g, 0, none⟩ (.int .i64 x)) g x v1 v2 v3 v4 v5 := by
  obtain ⟨⟨h0, h1, h2, h3, h4, h5⟩, ⟨f0, f1, f2, f3, f4, f5⟩, hg⟩ := h
  refine ⟨⟨?_, ?_, ?_, ?_, ?_, ?_⟩, ⟨?_, ?_, ?_, ?_, ?_, ?_⟩, ?_⟩
  all_goals first | (go_cell; done) | (simp [*]; done)
theorem Bk6.set1 {W : World} {g : Nat} {v0 v1 v2 v3 v4 v5 : Int} (h : Bk6 W g v0 v1 v2 v3 v4 v5) (x : Int) : Bk6 (W.setCell ⟨g, 1, none⟩ (.int .i64 x)) g v0 x v2 v3 v4 v5 := by
  obtain ⟨⟨h0, h1, h2, h3, h4, h5⟩, ⟨f0, f1, f2, f3, f4, f5⟩, hg⟩ := h
  refine ⟨⟨?_, ?_, ?_, ?_, ?_, ?_⟩, ⟨?_, ?_, ?_, ?_, ?_, ?_⟩, ?_⟩
  all_goals first | (go_cell; done) | (simp [*]; done)
theorem Bk6.set2 {W : World} {g : Nat} {v0 v1 v2 v3 v4 v5 : Int} (h : Bk6 W g v0 v1 v2 v3 v4 v5) (x : Int) : Bk6 (W.setCell ⟨g, 2, none⟩ (.int .i64 x)) g v0 v1 x v3 v4 v5 := by
  obtain ⟨⟨h0, h1, h2, h3, h4, h5⟩, ⟨f0, f1, f2, f3, f4, f5⟩, hg⟩ := h
  refine ⟨⟨?_, ?_, ?_, ?_, ?_, ?_⟩, ⟨?_, ?_, ?_, ?_, ?_, ?_⟩, ?_⟩
  all_goals first | (go_cell; done) | (simp [*]; done)
theorem Bk6.set3 {W : World} {g : Nat} {v0 v1 v2 v3 v4 v5 : Int} (h : Bk6 W g v0 v1 v2 v3 v4 v5) (x : Int) : Bk6 (W.setCell ⟨g, 3, none⟩ (.int .i64 x)) g v0 v1 v2 x v4 v5 := by
  obtain ⟨⟨h0, h1, h2, h3, h4, h5⟩, ⟨f0, f1, f2, f3, f4, f5⟩, hg⟩ := h
  refine ⟨⟨?_, ?_, ?_, ?_, ?_, ?_⟩, ⟨?_, ?_, ?_, ?_, ?_, ?_⟩, ?_⟩
  all_goals first | (go_cell; done) | (simp [*]; done)
theorem Bk6.set4 {W : World} {g : Nat} {v0 v1 v2 v3 v4 v5 : Int} (h : Bk6 W g v0 v1 v2 v3 v4 v5) (x : Int) : Bk6 (W.setCell ⟨g, 4, none⟩ (.int .i64 x)) g v0 v1 v2 v3 x v5 := by
  obtain ⟨⟨h0, h1, h2, h3, h4, h5⟩, ⟨f0, f1, f2, f3, f4, f5⟩, hg⟩ := h
  refine ⟨⟨?_, ?_, ?_, ?_, ?_, ?_⟩, ⟨?_, ?_, ?_, ?_, ?_, ?_⟩, ?_⟩
  all_goals first | (go_cell; done) | (simp [*]; done)
theorem Bk6.set5 {W : World} {g : Nat} {v0 v1 v2 v3 v4 v5 : Int} (h : Bk6 W g v0 v1 v2 v3 v4 v5) (x : Int) : Bk6 (W.setCell ⟨g, 5, none⟩ (.int .i64 x)) g v0 v1 v2 v3 v4 x := by
  obtain ⟨⟨h0, h1, h2, h3, h4, h5⟩, ⟨f0, f1, f2, f3, f4, f5⟩, hg⟩ := h
  refine ⟨⟨?_, ?_, ?_, ?_, ?_, ?_⟩, ⟨?_, ?_, ?_, ?_, ?_, ?_⟩, ?_⟩
  all_goals first | (go_cell; done) | (simp [*]; done)
end Go.Proofs.Ytibmkmcdggokbaa
