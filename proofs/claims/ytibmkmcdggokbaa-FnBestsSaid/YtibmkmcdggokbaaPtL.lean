/-
  Lists of points that a call makes, cell by cell, and the laws' helpers on them (own work).
-/
import Derived.Test.YtibmkmcdggokbaaMark
import Derived.Test.YtibmkmcdggokbaaEq
import Derived.Deep.RegionWith
namespace Go.Proofs.Ytibmkmcdggokbaa
open Go.ChangeShapes Go.WideShapes Go.ChangeAt Go.RowKit
set_option linter.unusedVariables false
set_option linter.unusedSimpArgs false

/-- A list of n points that lies in blocks from B on, its numbers one behind the other. -/
def OwnF (B : Nat) (w : World) (v : Value) (n : Nat) (zs : List Int) : Prop := w.ownsRow B 31 2 v n (zs.map (Value.int .i64))
theorem OwnF.below {B : Nat} {w w' : World} {v : Value} {n : Nat} {zs : List Int} (h : OwnF B w v n zs) (hb : Below w.heap.size w w') : OwnF B w' v n zs := own_below h hb
theorem OwnF.len {B : Nat} {w : World} {v : Value} {n : Nat} {zs : List Int} (h : OwnF B w v n zs) : zs.length = n * 2 := by
  have := h.1
  rwa [List.length_map] at this
def flat (ps : List (Int × Int)) : List Int := ps.flatMap fun p => [p.1, p.2]
theorem flat_len (ps : List (Int × Int)) : (flat ps).length = ps.length * 2 := by
  induction ps with
  | nil => rfl
  | cons p l ih =>
    have : flat (p :: l) = p.1 :: p.2 :: flat l := rfl
    rw [this, List.length_cons, List.length_cons, List.length_cons, ih]; omega
theorem flat_append (a b : List (Int × Int)) : flat (a ++ b) = flat a ++ flat b := by simp [flat]
/-- A call returned such a list and a code, and left all that was there. -/
def RetPC (w : World) (ps : List (Int × Int)) (c : Int) (e : Ending) (w' : World) : Prop := ∃ v, e = .returned (.tuple #[v, .int .i64 c]) ∧ OwnF w.heap.size w' v ps.length (flat ps) ∧ Below w.heap.size w w'
theorem info_pt : (Try.prog.info? 31).map (fun i => (i.zero, i.size, i.bytes)) = some (some (.agg #[.int .i64 0, .int .i64 0]), 2, 16) := by kernel_rfl
theorem own_viewF {B : Nat} {w : World} {v : Value} {n : Nat} {zs : List Int} (h : OwnF B w v n zs) :
    ∃ (a : Option Addr) (cap : Nat), v = .slice a n cap ∧ (0 < n → ∃ g, a = some ⟨g, 0, none⟩ ∧ B ≤ g ∧ g < w.heap.size ∧ (∀ j, j < n * 2 → w.cell? ⟨g, j, none⟩ = some (.int .i64 (zs.getD j 0))) ∧ (∀ j, w.frozen? ⟨g, j, none⟩ = false)) := by
  have h0 := h
  have hl := h.len
  rcases h.2 with ⟨rfl, hn⟩ | ⟨g, cap, cur, rfl, hb, hg, _⟩
  · exact ⟨none, 0, by rw [hn], fun hp => by omega⟩
  · refine ⟨some ⟨g, 0, none⟩, cap, rfl, fun _ => ⟨g, rfl, hb, (Array.getElem?_eq_some_iff.1 hg).1, fun j hj => ?_, fun j => World.ownsRow.frozenAt h0 j⟩⟩
    have := World.ownsRow.cellAt h0 j (by omega)
    have hj2 : j < zs.length := by omega
    rw [this, List.getElem?_map, List.getElem?_eq_getElem hj2]
    simp [List.getD, hj2]
end Go.Proofs.Ytibmkmcdggokbaa
