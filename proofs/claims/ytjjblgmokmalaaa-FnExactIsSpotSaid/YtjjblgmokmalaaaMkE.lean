/-
  The laws' helpers on lists of int64 whose block bears any type: a slice of an array of the call's own (own work).
-/
import Derived.Test.YtjjblgmokmalaaaMark
import Derived.Test.YtjjblgmokmalaaaOwn
namespace Go.Proofs.Ytjjblgmokmalaaa
open Go.ChangeShapes Go.WideShapes Go.ChangeAt Go.RowKit
set_option linter.unusedVariables false
set_option linter.unusedSimpArgs false

/-- A list of the call's own, in a block of type e. -/
def OwnE (e : TypeId) (B : Nat) (w : World) (v : Value) (xs : List Int) : Prop := w.ownsRow B e 1 v xs.length (xs.map (Value.int .i64))
theorem OwnE.below {e : TypeId} {B : Nat} {w w' : World} {v : Value} {xs : List Int} (h : OwnE e B w v xs) (hb : Below w.heap.size w w') : OwnE e B w' v xs := own_below h hb
theorem OwnE.nil {e : TypeId} (w : World) (B : Nat) : OwnE e B w (.slice none 0 0) [] := World.ownsRow_nil _ _ _ _
theorem OwnE.lit3 {e : TypeId} (w : World) (B : Nat) (a b c : Int) (hb : B ≤ w.heap.size) : OwnE e B (w.alloc (.cells #[.int .i64 a, .int .i64 b, .int .i64 c] e)) (.slice (some ⟨w.heap.size, 0, none⟩) 3 3) [a, b, c] := World.ownsRow_lit w #[.int .i64 a, .int .i64 b, .int .i64 c] 3 hb (by decide) rfl
theorem own_viewE {e0 : TypeId} {B : Nat} {w : World} {v : Value} {xs : List Int} (h : OwnE e0 B w v xs) :
    ∃ (a : Option Addr) (cap : Nat), v = .slice a xs.length cap ∧ (0 < xs.length → ∃ g, a = some ⟨g, 0, none⟩ ∧ B ≤ g ∧ g < w.heap.size ∧ (∀ j, j < xs.length → w.cell? ⟨g, j, none⟩ = some (.int .i64 (xs.getD j 0))) ∧ (∀ j, w.frozen? ⟨g, j, none⟩ = false)) := by
  have h0 := h
  rcases h.2 with ⟨rfl, hn⟩ | ⟨g, cap, cur, rfl, hb, hg, _⟩
  · exact ⟨none, 0, by rw [hn], fun hp => by omega⟩
  · refine ⟨some ⟨g, 0, none⟩, cap, rfl, fun _ => ⟨g, rfl, hb, (Array.getElem?_eq_some_iff.1 hg).1, fun j hj => ?_, fun j => World.ownsRow.frozenAt h0 j⟩⟩
    have := World.ownsRow.cellAt h0 j (by omega)
    rw [this, List.getElem?_map, List.getElem?_eq_getElem hj]
    simp [List.getD, hj]

end Go.Proofs.Ytjjblgmokmalaaa
