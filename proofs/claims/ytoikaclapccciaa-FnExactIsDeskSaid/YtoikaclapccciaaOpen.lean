/-
  What the laws of this seat take, opened: an array or struct of int64 cells, by value, is so many numbers, each within int64. No conditions.
-/
import Derived.Test.YtoikaclapccciaaRows
import Derived.WalkKit
import Derived.ProofKit
import Derived.OpenShut
namespace Go.Proofs.Ytoikaclapccciaa
open Go.ChangeShapes Go.WideShapes Go.ChangeAt Go.RowKit

theorem own : ownKnob Try.prog.godebug = none := by kernel_rfl
theorem laidOut : laidOutB Try.prog = true := by kernel_rfl

set_option maxRecDepth 100000 in
set_option linter.unusedSimpArgs false in
theorem open35 {H : Type} {enc : TypeId × Value → H} {w : World} {base : Nat} {sp : Nat → Bool} {held : Bool} {r : Reach} {b0 : Nat} {v : Value} {d : DataW H} {ps : List MemPlace}
    (hval : Value.okWide Try.prog w r b0 35 v) (hd : DataW.Trod enc Try.prog w base sp held 35 v d ps) :
    ∃ (x0 x1 x2 x3 x4 x5 x6 x7 x8 x9 x10 : Int), v = .agg #[.int .i64 x0, .int .i64 x1, .int .i64 x2, .int .i64 x3, .int .i64 x4, .int .i64 x5, .int .i64 x6, .int .i64 x7, .int .i64 x8, .int .i64 x9, .int .i64 x10] ∧ (Lit.int .i64 x0).wf = true ∧ (Lit.int .i64 x1).wf = true ∧ (Lit.int .i64 x2).wf = true ∧ (Lit.int .i64 x3).wf = true ∧ (Lit.int .i64 x4).wf = true ∧ (Lit.int .i64 x5).wf = true ∧ (Lit.int .i64 x6).wf = true ∧ (Lit.int .i64 x7).wf = true ∧ (Lit.int .i64 x8).wf = true ∧ (Lit.int .i64 x9).wf = true ∧ (Lit.int .i64 x10).wf = true := by
  have hc2 : Try.prog.cellsOf 2 = 1 := by kernel_rfl
  have hc22 : Try.prog.cellsOf 22 = 2 := by kernel_rfl
  have hc24 : Try.prog.cellsOf 24 = 4 := by kernel_rfl
  have hc33 : Try.prog.cellsOf 33 = 3 := by kernel_rfl
  have hc35 : Try.prog.cellsOf 35 = 11 := by kernel_rfl
  obtain ⟨cs, rfl, hsz, _⟩ : ∃ cs, v = .agg cs ∧ cs.size = Try.prog.cellsOf 35 ∧ Row.okWide Try.prog w r b0 35 cs := by simpa [Value.okWide, Try.underlying35] using hval
  rw [hc35] at hsz
  obtain ⟨l⟩ := cs
  match l, hsz with
  | [c0, c1, c2, c3, c4, c5, c6, c7, c8, c9, c10], _ =>
    obtain ⟨fuel, hy⟩ := hd
    simp only [Value.cells] at hy
    obtain ⟨ys, m, _, _, _, hl, hf⟩ := DataW.trod_struct Try.underlying35 hy
    match ys, hl with
    | [y_0, y_1, y_2, y_3], _ =>
    have hy_0 := hf 0 _ rfl
    have hy_1 := hf 1 _ rfl
    have hy_2 := hf 2 _ rfl
    have hy_3 := hf 3 _ rfl
    simp [hc22, hc24, hc33] at hy_0 hy_1 hy_2 hy_3
    obtain ⟨ys_0, m_0, _, _, _, hl_0, hf_0⟩ := DataW.trod_array Try.underlying22 hy_0
    match ys_0, hl_0 with
    | [y_0_0, y_0_1], _ =>
    have hy_0_0 := hf_0 0 (by omega)
    have hy_0_1 := hf_0 1 (by omega)
    simp [hc2] at hy_0_0 hy_0_1
    obtain ⟨x0, e0, _, s0⟩ := DataW.trod_int Try.underlying2 hy_0_0
    obtain ⟨x1, e1, _, s1⟩ := DataW.trod_int Try.underlying2 hy_0_1
    obtain ⟨ys_1, m_1, _, _, _, hl_1, hf_1⟩ := DataW.trod_array Try.underlying22 hy_1
    match ys_1, hl_1 with
    | [y_1_0, y_1_1], _ =>
    have hy_1_0 := hf_1 0 (by omega)
    have hy_1_1 := hf_1 1 (by omega)
    simp [hc2] at hy_1_0 hy_1_1
    obtain ⟨x2, e2, _, s2⟩ := DataW.trod_int Try.underlying2 hy_1_0
    obtain ⟨x3, e3, _, s3⟩ := DataW.trod_int Try.underlying2 hy_1_1
    obtain ⟨ys_2, m_2, _, _, _, hl_2, hf_2⟩ := DataW.trod_array Try.underlying24 hy_2
    match ys_2, hl_2 with
    | [y_2_0, y_2_1], _ =>
    have hy_2_0 := hf_2 0 (by omega)
    have hy_2_1 := hf_2 1 (by omega)
    simp [hc22] at hy_2_0 hy_2_1
    obtain ⟨ys_2_0, m_2_0, _, _, _, hl_2_0, hf_2_0⟩ := DataW.trod_array Try.underlying22 hy_2_0
    match ys_2_0, hl_2_0 with
    | [y_2_0_0, y_2_0_1], _ =>
    have hy_2_0_0 := hf_2_0 0 (by omega)
    have hy_2_0_1 := hf_2_0 1 (by omega)
    simp [hc2] at hy_2_0_0 hy_2_0_1
    obtain ⟨x4, e4, _, s4⟩ := DataW.trod_int Try.underlying2 hy_2_0_0
    obtain ⟨x5, e5, _, s5⟩ := DataW.trod_int Try.underlying2 hy_2_0_1
    obtain ⟨ys_2_1, m_2_1, _, _, _, hl_2_1, hf_2_1⟩ := DataW.trod_array Try.underlying22 hy_2_1
    match ys_2_1, hl_2_1 with
    | [y_2_1_0, y_2_1_1], _ =>
    have hy_2_1_0 := hf_2_1 0 (by omega)
    have hy_2_1_1 := hf_2_1 1 (by omega)
    simp [hc2] at hy_2_1_0 hy_2_1_1
    obtain ⟨x6, e6, _, s6⟩ := DataW.trod_int Try.underlying2 hy_2_1_0
    obtain ⟨x7, e7, _, s7⟩ := DataW.trod_int Try.underlying2 hy_2_1_1
    obtain ⟨ys_3, m_3, _, _, _, hl_3, hf_3⟩ := DataW.trod_struct Try.underlying33 hy_3
    match ys_3, hl_3 with
    | [y_3_0, y_3_1, y_3_2], _ =>
    have hy_3_0 := hf_3 0 _ rfl
    have hy_3_1 := hf_3 1 _ rfl
    have hy_3_2 := hf_3 2 _ rfl
    simp [hc2] at hy_3_0 hy_3_1 hy_3_2
    obtain ⟨x8, e8, _, s8⟩ := DataW.trod_int Try.underlying2 hy_3_0
    obtain ⟨x9, e9, _, s9⟩ := DataW.trod_int Try.underlying2 hy_3_1
    obtain ⟨x10, e10, _, s10⟩ := DataW.trod_int Try.underlying2 hy_3_2
    simp at e0 e1 e2 e3 e4 e5 e6 e7 e8 e9 e10
    subst e0 e1 e2 e3 e4 e5 e6 e7 e8 e9 e10
    exact ⟨x0, x1, x2, x3, x4, x5, x6, x7, x8, x9, x10, rfl, s0, s1, s2, s3, s4, s5, s6, s7, s8, s9, s10⟩

end Go.Proofs.Ytoikaclapccciaa
