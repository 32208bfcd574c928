/-
  What the laws of this seat take, opened: an array or struct of int64 cells, by value, is so many numbers, each within int64. No conditions.
-/
import Derived.Test.YtmjhejmkmdgikaaRows
import Derived.WalkKit
import Derived.ProofKit
import Derived.OpenShut
namespace Go.Proofs.Ytmjhejmkmdgikaa
open Go.ChangeShapes Go.WideShapes Go.ChangeAt Go.RowKit

theorem own : ownKnob Try.prog.godebug = none := by kernel_rfl
theorem laidOut : laidOutB Try.prog = true := by kernel_rfl

set_option maxRecDepth 100000 in
set_option linter.unusedSimpArgs false in
theorem open31 {H : Type} {enc : TypeId × Value → H} {w : World} {base : Nat} {sp : Nat → Bool} {held : Bool} {r : Reach} {b0 : Nat} {v : Value} {d : DataW H} {ps : List MemPlace}
    (hval : Value.okWide Try.prog w r b0 31 v) (hd : DataW.Trod enc Try.prog w base sp held 31 v d ps) :
    ∃ (x0 x1 : Int), v = .agg #[.int .i64 x0, .int .i64 x1] ∧ (Lit.int .i64 x0).wf = true ∧ (Lit.int .i64 x1).wf = true := by
  have hc2 : Try.prog.cellsOf 2 = 1 := by kernel_rfl
  have hc31 : Try.prog.cellsOf 31 = 2 := by kernel_rfl
  obtain ⟨cs, rfl, hsz, _⟩ : ∃ cs, v = .agg cs ∧ cs.size = Try.prog.cellsOf 31 ∧ Row.okWide Try.prog w r b0 31 cs := by simpa [Value.okWide, Try.underlying31] using hval
  rw [hc31] at hsz
  obtain ⟨l⟩ := cs
  match l, hsz with
  | [c0, c1], _ =>
    obtain ⟨fuel, hy⟩ := hd
    simp only [Value.cells] at hy
    obtain ⟨ys, m, _, _, _, hl, hf⟩ := DataW.trod_array Try.underlying31 hy
    match ys, hl with
    | [y_0, y_1], _ =>
    have hy_0 := hf 0 (by omega)
    have hy_1 := hf 1 (by omega)
    simp [hc2] at hy_0 hy_1
    obtain ⟨x0, e0, _, s0⟩ := DataW.trod_int Try.underlying2 hy_0
    obtain ⟨x1, e1, _, s1⟩ := DataW.trod_int Try.underlying2 hy_1
    simp at e0 e1
    subst e0 e1
    exact ⟨x0, x1, rfl, s0, s1⟩

set_option maxRecDepth 100000 in
set_option linter.unusedSimpArgs false in
theorem open57 {H : Type} {enc : TypeId × Value → H} {w : World} {base : Nat} {sp : Nat → Bool} {held : Bool} {r : Reach} {b0 : Nat} {v : Value} {d : DataW H} {ps : List MemPlace}
    (hval : Value.okWide Try.prog w r b0 57 v) (hd : DataW.Trod enc Try.prog w base sp held 57 v d ps) :
    ∃ (x0 x1 x2 x3 : Int), v = .agg #[.int .i64 x0, .int .i64 x1, .int .i64 x2, .int .i64 x3] ∧ (Lit.int .i64 x0).wf = true ∧ (Lit.int .i64 x1).wf = true ∧ (Lit.int .i64 x2).wf = true ∧ (Lit.int .i64 x3).wf = true := by
  have hc2 : Try.prog.cellsOf 2 = 1 := by kernel_rfl
  have hc31 : Try.prog.cellsOf 31 = 2 := by kernel_rfl
  have hc57 : Try.prog.cellsOf 57 = 4 := by kernel_rfl
  obtain ⟨cs, rfl, hsz, _⟩ : ∃ cs, v = .agg cs ∧ cs.size = Try.prog.cellsOf 57 ∧ Row.okWide Try.prog w r b0 57 cs := by simpa [Value.okWide, Try.underlying57] using hval
  rw [hc57] at hsz
  obtain ⟨l⟩ := cs
  match l, hsz with
  | [c0, c1, c2, c3], _ =>
    obtain ⟨fuel, hy⟩ := hd
    simp only [Value.cells] at hy
    obtain ⟨ys, m, _, _, _, hl, hf⟩ := DataW.trod_array Try.underlying57 hy
    match ys, hl with
    | [y_0, y_1], _ =>
    have hy_0 := hf 0 (by omega)
    have hy_1 := hf 1 (by omega)
    simp [hc31] at hy_0 hy_1
    obtain ⟨ys_0, m_0, _, _, _, hl_0, hf_0⟩ := DataW.trod_array Try.underlying31 hy_0
    match ys_0, hl_0 with
    | [y_0_0, y_0_1], _ =>
    have hy_0_0 := hf_0 0 (by omega)
    have hy_0_1 := hf_0 1 (by omega)
    simp [hc2] at hy_0_0 hy_0_1
    obtain ⟨x0, e0, _, s0⟩ := DataW.trod_int Try.underlying2 hy_0_0
    obtain ⟨x1, e1, _, s1⟩ := DataW.trod_int Try.underlying2 hy_0_1
    obtain ⟨ys_1, m_1, _, _, _, hl_1, hf_1⟩ := DataW.trod_array Try.underlying31 hy_1
    match ys_1, hl_1 with
    | [y_1_0, y_1_1], _ =>
    have hy_1_0 := hf_1 0 (by omega)
    have hy_1_1 := hf_1 1 (by omega)
    simp [hc2] at hy_1_0 hy_1_1
    obtain ⟨x2, e2, _, s2⟩ := DataW.trod_int Try.underlying2 hy_1_0
    obtain ⟨x3, e3, _, s3⟩ := DataW.trod_int Try.underlying2 hy_1_1
    simp at e0 e1 e2 e3
    subst e0 e1 e2 e3
    exact ⟨x0, x1, x2, x3, rfl, s0, s1, s2, s3⟩

end Go.Proofs.Ytmjhejmkmdgikaa
