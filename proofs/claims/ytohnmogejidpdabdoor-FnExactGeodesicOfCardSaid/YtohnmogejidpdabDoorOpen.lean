/-
  What the laws of this seat take, opened: an array or struct of int64 cells, by value, is so many numbers, each within int64. No conditions.
-/
import Derived.Test.YtohnmogejidpdabDoorRows
import Derived.WalkKit
import Derived.ProofKit
import Derived.OpenShut
namespace Go.Proofs.YtohnmogejidpdabDoor
open Go.ChangeShapes Go.WideShapes Go.ChangeAt Go.RowKit

theorem own : ownKnob Tryd.prog.godebug = none := by kernel_rfl
theorem laidOut : laidOutB Tryd.prog = true := by kernel_rfl

set_option maxRecDepth 100000 in
set_option linter.unusedSimpArgs false in
theorem open22 {H : Type} {enc : TypeId × Value → H} {w : World} {base : Nat} {sp : Nat → Bool} {held : Bool} {r : Reach} {b0 : Nat} {v : Value} {d : DataW H} {ps : List MemPlace}
    (hval : Value.okWide Tryd.prog w r b0 22 v) (hd : DataW.Trod enc Tryd.prog w base sp held 22 v d ps) :
    ∃ (x0 x1 : Int), v = .agg #[.int .i64 x0, .int .i64 x1] ∧ (Lit.int .i64 x0).wf = true ∧ (Lit.int .i64 x1).wf = true := by
  have hc2 : Tryd.prog.cellsOf 2 = 1 := by kernel_rfl
  have hc22 : Tryd.prog.cellsOf 22 = 2 := by kernel_rfl
  obtain ⟨cs, rfl, hsz, _⟩ : ∃ cs, v = .agg cs ∧ cs.size = Tryd.prog.cellsOf 22 ∧ Row.okWide Tryd.prog w r b0 22 cs := by simpa [Value.okWide, Tryd.underlying22] using hval
  rw [hc22] at hsz
  obtain ⟨l⟩ := cs
  match l, hsz with
  | [c0, c1], _ =>
    obtain ⟨fuel, hy⟩ := hd
    simp only [Value.cells] at hy
    obtain ⟨ys, m, _, _, _, hl, hf⟩ := DataW.trod_array Tryd.underlying22 hy
    match ys, hl with
    | [y_0, y_1], _ =>
    have hy_0 := hf 0 (by omega)
    have hy_1 := hf 1 (by omega)
    simp [hc2] at hy_0 hy_1
    obtain ⟨x0, e0, _, s0⟩ := DataW.trod_int Tryd.underlying2 hy_0
    obtain ⟨x1, e1, _, s1⟩ := DataW.trod_int Tryd.underlying2 hy_1
    simp at e0 e1
    subst e0 e1
    exact ⟨x0, x1, rfl, s0, s1⟩

end Go.Proofs.YtohnmogejidpdabDoor
