/-
  What the two listed error variables give a walk, and how they read behind a call (own work).
-/
import Derived.Test.YtohnmogejidpdabDoorErr
import Derived.Test.YtohnmogejidpdabDoorCards
import Derived.Stop.LaidTwo
import Derived.MakeChecks
namespace Go.Proofs.YtohnmogejidpdabDoor
open Go.ChangeShapes Go.WideShapes Go.ChangeAt Go.RowKit
set_option linter.unusedVariables false
set_option maxRecDepth 100000
set_option linter.unusedSimpArgs false
set_option maxRecDepth 100000

theorem gPoint : Tryd.prog.globalNamed "loop.example/g01297/impl.errNoPoint" = some 0 := by kernel_rfl
theorem gFrac : Tryd.prog.globalNamed "loop.example/g01297/impl.errNoFraction" = some 1 := by kernel_rfl
theorem gPointT : (Tryd.prog.globals[0]?).map (·.type) = some 70 := by kernel_rfl
theorem gFracT : (Tryd.prog.globals[1]?).map (·.type) = some 70 := by kernel_rfl
theorem cellsE : Tryd.prog.cellsOf 149 = 1 := by kernel_rfl
theorem cellsStr : Tryd.prog.cellsOf 9 = 1 := by kernel_rfl
theorem starE : "*" ++ "errors.errorString" = "*errors.errorString" := by decide
theorem rowE (u : TypeId) (h : Tryd.prog.typeName? 3 u = some "*errors.errorString") : u = 123 :=
  typeName_ptr_named (nm := "errors.errorString") (by rw [starE]; kernel_rfl) (by kernel_rfl) (by decide) u (by rw [starE]; exact h)
theorem snt_of_laid {W : World} {text0 text1 : List UInt8} {r : List (String × DataW Unit)}
    (h : laidMet Tryd.prog (("loop.example/g01297/impl.errNoPoint", .iface "*errors.errorString" (.ptr (.agg [.lit (.string text0)]))) :: ("loop.example/g01297/impl.errNoFraction", .iface "*errors.errorString" (.ptr (.agg [.lit (.string text1)]))) :: r) W) :
    ∃ a0 a1 : Addr, W.var? Tryd.prog "loop.example/g01297/impl.errNoPoint" = some #[er a0] ∧ W.var? Tryd.prog "loop.example/g01297/impl.errNoFraction" = some #[er a1] ∧ Snt W a0 a1 := by
  obtain ⟨a0, a1, s0, s1, c0, c1, t0, t1, hv0, hv1, hc0, hs0, hz0, hc1, hs1, hz1, hne, hb0, hb1⟩ := laid_sentinels2 h gPoint gPointT gFrac gFracT Tryd.underlying70 rowE Tryd.underlying123 Tryd.underlying149 rfl rfl Tryd.underlying9 cellsE cellsStr
  have hg0 : W.cell? ⟨0, 0, none⟩ = some (er a0) := by simpa using World.var?_cell gPoint hv0 0
  have hg1 : W.cell? ⟨1, 0, none⟩ = some (er a1) := by simpa using World.var?_cell gFrac hv1 0
  exact ⟨a0, a1, hv0, hv1, hg0, hg1, hne, ⟨c0, t0, hb0⟩, ⟨c1, t1, hb1⟩⟩
theorem var_below {W W' : World} (hb : Below W.heap.size W W') {n : String} {g : Nat} {cs : Array Value} (hg : Tryd.prog.globalNamed n = some g) (h : W.var? Tryd.prog n = some cs) : W'.var? Tryd.prog n = some cs := by
  unfold World.var? at h ⊢
  simp only [hg, Option.bind_some] at h ⊢
  have hlt : g < W.heap.size := by
    rcases Nat.lt_or_ge g W.heap.size with h' | h'
    · exact h'
    · simp [Array.getElem?_eq_none h'] at h
  rw [hb.block g hlt]
  exact h
theorem vr {H : Type} (enc : TypeId × Value → H) {X : World} {a0 a1 : Addr} (x0 : X.var? Tryd.prog "loop.example/g01297/impl.errNoPoint" = some #[er a0]) (x1 : X.var? Tryd.prog "loop.example/g01297/impl.errNoFraction" = some #[er a1]) (sp : Nat → Bool) :
    DataW.TrodVars enc Tryd.prog X sp ["loop.example/g01297/impl.errNoPoint", "loop.example/g01297/impl.errNoFraction"] [tok enc (er a0), tok enc (er a1)] [.cell 0 0, .cell 1 0] :=
  vars_read2 enc gPoint gPointT Tryd.underlying70 x0 trivial gFrac gFracT Tryd.underlying70 x1 trivial sp
end Go.Proofs.YtohnmogejidpdabDoor
