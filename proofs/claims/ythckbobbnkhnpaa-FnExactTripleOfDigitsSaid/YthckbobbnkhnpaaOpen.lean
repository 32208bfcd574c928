/-
  What the laws of this seat take, opened: an array or struct of int64 cells, by value, is so many numbers, each within int64. No conditions.
-/
import Derived.Test.YthckbobbnkhnpaaRows
import Derived.WalkKit
import Derived.ProofKit
import Derived.OpenShut
namespace Go.Proofs.Ythckbobbnkhnpaa
open Go.ChangeShapes Go.WideShapes Go.ChangeAt Go.RowKit

theorem own : ownKnob Try.prog.godebug = none := by kernel_rfl
theorem laidOut : laidOutB Try.prog = true := by kernel_rfl

set_option maxRecDepth 100000 in
set_option linter.unusedSimpArgs false in
theorem open23 {H : Type} {enc : TypeId × Value → H} {w : World} {base : Nat} {sp : Nat → Bool} {held : Bool} {r : Reach} {b0 : Nat} {v : Value} {d : DataW H} {ps : List MemPlace}
    (hval : Value.okWide Try.prog w r b0 23 v) (hd : DataW.Trod enc Try.prog w base sp held 23 v d ps) :
    ∃ (x0 x1 x2 : Int), v = .agg #[.int .i64 x0, .int .i64 x1, .int .i64 x2] ∧ (Lit.int .i64 x0).wf = true ∧ (Lit.int .i64 x1).wf = true ∧ (Lit.int .i64 x2).wf = true := by
  have hc2 : Try.prog.cellsOf 2 = 1 := by kernel_rfl
  have hc23 : Try.prog.cellsOf 23 = 3 := by kernel_rfl
  obtain ⟨cs, rfl, hsz, _⟩ : ∃ cs, v = .agg cs ∧ cs.size = Try.prog.cellsOf 23 ∧ Row.okWide Try.prog w r b0 23 cs := by simpa [Value.okWide, Try.underlying23] using hval
  rw [hc23] at hsz
  obtain ⟨l⟩ := cs
  match l, hsz with
  | [c0, c1, c2], _ =>
    obtain ⟨fuel, hy⟩ := hd
    simp only [Value.cells] at hy
    obtain ⟨ys, m, _, _, _, hl, hf⟩ := DataW.trod_array Try.underlying23 hy
    match ys, hl with
    | [y_0, y_1, y_2], _ =>
    have hy_0 := hf 0 (by omega)
    have hy_1 := hf 1 (by omega)
    have hy_2 := hf 2 (by omega)
    simp [hc2] at hy_0 hy_1 hy_2
    obtain ⟨x0, e0, _, s0⟩ := DataW.trod_int Try.underlying2 hy_0
    obtain ⟨x1, e1, _, s1⟩ := DataW.trod_int Try.underlying2 hy_1
    obtain ⟨x2, e2, _, s2⟩ := DataW.trod_int Try.underlying2 hy_2
    simp at e0 e1 e2
    subst e0 e1 e2
    exact ⟨x0, x1, x2, rfl, s0, s1, s2⟩

end Go.Proofs.Ythckbobbnkhnpaa
