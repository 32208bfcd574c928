/-
  Points before points and far from points in the model (own work).
-/
import Derived.Test.YtmjhejmkmdgikaaPgX
import Derived.Lib.MinMax
namespace Go.Proofs.Ytmjhejmkmdgikaa
open Go.ChangeShapes Go.WideShapes Go.ChangeAt Go.RowKit
set_option linter.unusedVariables false
set_option maxRecDepth 100000
set_option linter.unusedSimpArgs false
set_option maxRecDepth 100000

theorem l09Before_any (x0 x1 y0 y1 : Int) (w : World) : Calls Try.prog 132 #[.agg #[.int .i64 x0, .int .i64 x1], .agg #[.int .i64 y0, .int .i64 y1]] w fun e w' => e = .returned (.bool (lxlt (x0, x1) (y0, y1))) ∧ Below w.heap.size w w' := by
  by_cases h1 : x0 < y0
  · have HE : Hid (lxlt (x0, x1) (y0, y1) = true) := lxlt_iff.2 (.inl h1)
    rw [HE.out]
    have hs20 : w.heap.size < w.heap.size + 1 + 1 := (by omega)
    go_enter Try.func132, Try.ntmps132
    go_wp2_with fail
    all_goals
      go_ret
      exact ⟨rfl, by (repeat' (first | (with_reducible exact Below.refl _ _) | (with_reducible refine Below.alloc ?_ ?_ _) | (with_reducible refine Below.setCell ?_ ?_ _) | (with_reducible refine Below.drew ?_) | (with_reducible refine below_drewN ?_ _) | (with_reducible assumption) | (with_reducible refine below_after (by with_reducible assumption) ?_) | go_size))⟩
  · by_cases h2 : x0 = y0
    · subst h2
      by_cases h3 : x1 < y1
      · have HE : Hid (lxlt (x0, x1) (x0, y1) = true) := lxlt_iff.2 (.inr ⟨rfl, h3⟩)
        rw [HE.out]
        have hs20 : w.heap.size < w.heap.size + 1 + 1 := (by omega)
        go_enter Try.func132, Try.ntmps132
        go_wp2_with fail
        all_goals
          go_ret
          exact ⟨rfl, by (repeat' (first | (with_reducible exact Below.refl _ _) | (with_reducible refine Below.alloc ?_ ?_ _) | (with_reducible refine Below.setCell ?_ ?_ _) | (with_reducible refine Below.drew ?_) | (with_reducible refine below_drewN ?_ _) | (with_reducible assumption) | (with_reducible refine below_after (by with_reducible assumption) ?_) | go_size))⟩
      · have HE : Hid (lxlt (x0, x1) (x0, y1) = false) := by
          show _ = _
          cases h : lxlt (x0, x1) (x0, y1)
          · rfl
          · have := lxlt_iff.1 h; simp at this; omega
        rw [HE.out]
        have hs20 : w.heap.size < w.heap.size + 1 + 1 := (by omega)
        go_enter Try.func132, Try.ntmps132
        go_wp2_with fail
        all_goals
          go_ret
          exact ⟨rfl, by (repeat' (first | (with_reducible exact Below.refl _ _) | (with_reducible refine Below.alloc ?_ ?_ _) | (with_reducible refine Below.setCell ?_ ?_ _) | (with_reducible refine Below.drew ?_) | (with_reducible refine below_drewN ?_ _) | (with_reducible assumption) | (with_reducible refine below_after (by with_reducible assumption) ?_) | go_size))⟩
    · have HE : Hid (lxlt (x0, x1) (y0, y1) = false) := by
        show _ = _
        cases h : lxlt (x0, x1) (y0, y1)
        · rfl
        · have := lxlt_iff.1 h; simp at this; omega
      rw [HE.out]
      have h4 : (x0 == y0) = false := by simpa using h2
      have hs20 : w.heap.size < w.heap.size + 1 + 1 := (by omega)
      go_enter Try.func132, Try.ntmps132
      go_wp2_with fail
      all_goals
        go_ret
        exact ⟨rfl, by (repeat' (first | (with_reducible exact Below.refl _ _) | (with_reducible refine Below.alloc ?_ ?_ _) | (with_reducible refine Below.setCell ?_ ?_ _) | (with_reducible refine Below.drew ?_) | (with_reducible refine below_drewN ?_ _) | (with_reducible assumption) | (with_reducible refine below_after (by with_reducible assumption) ?_) | go_size))⟩
theorem l09Far_any (x0 x1 y0 y1 : Int) (w : World) (k0 : isPt (x0, x1) = true) (k1 : isPt (y0, y1) = true) : Calls Try.prog 133 #[.agg #[.int .i64 x0, .int .i64 x1], .agg #[.int .i64 y0, .int .i64 y1]] w fun e w' => e = .returned (.int .i64 (l1 (sbv (y0, y1) (x0, x1)))) ∧ Below w.heap.size w w' := by
  obtain ⟨a1, a2⟩ := isPt_c1 k0
  obtain ⟨a3, a4⟩ := isPt_c2 k0
  obtain ⟨b1, b2⟩ := isPt_c1 k1
  obtain ⟨b3, b4⟩ := isPt_c2 k1
  have HE : Hid (l1 (sbv (y0, y1) (x0, x1)) = max (y0 - x0) (-(y0 - x0)) + max (y1 - x1) (-(y1 - x1))) := by
    show _ = _
    unfold l1 sbv
    simp only
    omega
  rw [HE.out]
  have q1 : IntKind.i64.wrap (y0 - x0) = y0 - x0 := by rw [IntKind.wrap_i64]; omega
  have q2 : IntKind.i64.wrap (y1 - x1) = y1 - x1 := by rw [IntKind.wrap_i64]; omega
  have q3 : IntKind.i64.wrap (-(y0 - x0)) = -(y0 - x0) := by rw [IntKind.wrap_i64]; omega
  have q4 : IntKind.i64.wrap (-(y1 - x1)) = -(y1 - x1) := by rw [IntKind.wrap_i64]; omega
  have q5 : IntKind.i64.wrap (max (y0 - x0) (-(y0 - x0)) + max (y1 - x1) (-(y1 - x1))) = max (y0 - x0) (-(y0 - x0)) + max (y1 - x1) (-(y1 - x1)) := by rw [IntKind.wrap_i64]; omega
  clear k0 k1 HE
  have hs20 : w.heap.size < w.heap.size + 1 + 1 := (by omega)
  go_enter Try.func133, Try.ntmps133
  go_wp2_with fail
  go_region_held3 (fun W => W.cell? ⟨w.heap.size, 0, none⟩ = some (.int .i64 x0) ∧ W.cell? ⟨w.heap.size, 1, none⟩ = some (.int .i64 x1) ∧ W.cell? ⟨w.heap.size + 1, 0, none⟩ = some (.int .i64 y0) ∧ W.cell? ⟨w.heap.size + 1, 1, none⟩ = some (.int .i64 y1) ∧ w.heap.size < W.heap.size ∧ w.heap.size + 1 < W.heap.size) (first | (go_keep; done) | ((repeat' apply And.intro) <;> first | (go_keep; done) | (go_cell; done) | (refine (Below.cell (B := w.heap.size + 1 + 1) ?_ ?_).trans ?_; focus (repeat' (first | (with_reducible refine Below.alloc ?_ ?_ _) | (with_reducible refine Below.setCell ?_ ?_ _) | (with_reducible refine Below.drew ?_) | (with_reducible exact Below.refl _ _) | (first | omega | (simp only [World.size_alloc, World.size_drew, World.size_setCell]; omega) | (simp; omega)))); focus (first | omega | (simp only [World.size_alloc, World.size_drew, World.size_setCell]; omega) | (simp; omega)); first | (go_keep; done) | ((refine (Below.cell (by with_reducible assumption) ?_).trans ?_) <;> first | (go_keep; done) | (first | omega | (simp only [World.size_alloc, World.size_drew, World.size_setCell]; omega) | (simp; omega)))) | ((refine (Below.cell (by with_reducible assumption) ?_).trans ?_) <;> first | (go_keep; done) | (simp only [World.size_alloc, World.size_drew, World.size_setCell]; omega) | omega) | (simp only [World.size_alloc, World.size_drew, World.size_setCell]; omega) | omega)) (fail)
  go_wp2
  all_goals
    go_ret
    exact ⟨rfl, by (repeat' (first | (with_reducible exact Below.refl _ _) | (with_reducible refine Below.alloc ?_ ?_ _) | (with_reducible refine Below.setCell ?_ ?_ _) | (with_reducible refine Below.drew ?_) | (with_reducible refine below_drewN ?_ _) | (with_reducible assumption) | (with_reducible refine below_after (by with_reducible assumption) ?_) | go_size))⟩
end Go.Proofs.Ytmjhejmkmdgikaa
