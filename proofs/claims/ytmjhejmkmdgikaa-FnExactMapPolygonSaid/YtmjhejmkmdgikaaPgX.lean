/-
  Points compared (own work): cmp.Compare, slices.Compare over the two numbers of a point, comparePoints.
-/
import Derived.Test.YtmjhejmkmdgikaaPgA
import Derived.Test.YtmjhejmkmdgikaaPoI
import Derived.Test.YtmjhejmkmdgikaaMark
namespace Go.Proofs.Ytmjhejmkmdgikaa
open Go.ChangeShapes Go.WideShapes Go.ChangeAt Go.RowKit
set_option linter.unusedVariables false
set_option maxRecDepth 100000
set_option linter.unusedSimpArgs false
set_option maxRecDepth 100000

def cmI (a b : Int) : Int := if a < b then -1 else if b < a then 1 else 0
def cmP (a b : Int × Int) : Int := if cmI a.1 b.1 = 0 then cmI a.2 b.2 else cmI a.1 b.1
theorem cmP_lt (a b : Int × Int) : cmP a b < 0 ↔ lxlt a b = true := by
  rw [lxlt_iff]
  unfold cmP cmI
  repeat' split
  all_goals omega
theorem isNaN_any (a : Int) (w : World) : Calls Try.prog 110 #[.int .i64 a] w fun e w' => e = .returned (.bool false) ∧ w = w' := by
  go_enter Try.func110, Try.ntmps110
  go_wp2_with fail
  all_goals
    go_ret
    first | exact ⟨rfl, rfl⟩ | simp
theorem cmI_any (a b : Int) (w : World) : Calls Try.prog 61 #[.int .i64 a, .int .i64 b] w fun e w' => e = .returned (.int .i64 (cmI a b)) ∧ w = w' := by
  by_cases h1 : a < b
  · have HE : Hid (cmI a b = -1) := if_pos h1
    go_enter Try.func61, Try.ntmps61
    go_wp2_with (go_at_call 110; refine (isNaN_any _ _).mono ?_; rintro e wn ⟨rfl, rfl⟩)
    rw [HE.out]
    go_ret
    exact ⟨rfl, rfl⟩
  · by_cases h2 : b < a
    · have HE : Hid (cmI a b = 1) := (if_neg h1).trans (if_pos h2)
      go_enter Try.func61, Try.ntmps61
      go_wp2_with (go_at_call 110; refine (isNaN_any _ _).mono ?_; rintro e wn ⟨rfl, rfl⟩)
      rw [HE.out]
      go_ret
      exact ⟨rfl, rfl⟩
    · have HE : Hid (cmI a b = 0) := (if_neg h1).trans (if_neg h2)
      go_enter Try.func61, Try.ntmps61
      go_wp2_with (go_at_call 110; refine (isNaN_any _ _).mono ?_; rintro e wn ⟨rfl, rfl⟩)
      rw [HE.out]
      go_ret
      exact ⟨rfl, rfl⟩
theorem cmS_any (x0 x1 y0 y1 : Int) (g k c d : Nat) (w : World) (c0 : w.cell? ⟨g, 0, none⟩ = some (.int .i64 x0)) (c1 : w.cell? ⟨g, 1, none⟩ = some (.int .i64 x1)) (d0 : w.cell? ⟨k, 0, none⟩ = some (.int .i64 y0)) (d1 : w.cell? ⟨k, 1, none⟩ = some (.int .i64 y1)) :
    Calls Try.prog 151 #[.slice (some ⟨g, 0, none⟩) 2 c, .slice (some ⟨k, 0, none⟩) 2 d] w fun e w' => e = .returned (.int .i64 (cmP (x0, x1) (y0, y1))) ∧ w = w' := by
  obtain ⟨r0, h0⟩ : ∃ r, cmI x0 y0 = r := ⟨_, rfl⟩
  obtain ⟨r1, h1⟩ : ∃ r, cmI x1 y1 = r := ⟨_, rfl⟩
  have A0 : Hid (∀ w, Calls Try.prog 61 #[.int .i64 x0, .int .i64 y0] w fun e w' => e = .returned (.int .i64 r0) ∧ w = w') := fun w => by have := cmI_any x0 y0 w; rwa [h0] at this
  have A1 : Hid (∀ w, Calls Try.prog 61 #[.int .i64 x1, .int .i64 y1] w fun e w' => e = .returned (.int .i64 r1) ∧ w = w') := fun w => by have := cmI_any x1 y1 w; rwa [h1] at this
  have HP : Hid (cmP (x0, x1) (y0, y1) = if r0 = 0 then r1 else r0) := by show _ = _; unfold cmP; simp only [h0, h1]
  rw [HP.out]
  clear h0 h1 HP
  go_enter Try.func151, Try.ntmps151
  go_wp2_with fail
  go_loopw [4, 11] (fun r i wr => ∃ j : Nat, j ≤ 2 ∧ i = .int .i64 j ∧ r = .int .i64 0 ∧ w = wr ∧ (1 ≤ j → r0 = 0) ∧ (2 ≤ j → r1 = 0)) (fun _ i _ => 2 - (intOf i).toNat)
  case atStart => exact ⟨0, by omega, by go_num, rfl, rfl, by omega, by omega⟩
  case round =>
    obtain ⟨j, hj, rfl, rfl, rfl, z0, z1⟩ := hrel
    match j, hj with
    | 0, _ =>
      by_cases hr : r0 = 0
      · subst hr
        go_wp2_with (first | (go_at_call 61; refine (A0.out _).mono ?_; rintro e wn ⟨rfl, rfl⟩) | (go_at_call 61; refine (A1.out _).mono ?_; rintro e wn ⟨rfl, rfl⟩))
        go_roundw
        case rel => exact ⟨1, by omega, by go_num, by first | rfl | trivial, by first | rfl | trivial, fun _ => by first | rfl | trivial, by omega⟩
        case measure => simp [intOf]
      · go_wp2_with (first | (go_at_call 61; refine (A0.out _).mono ?_; rintro e wn ⟨rfl, rfl⟩) | (go_at_call 61; refine (A1.out _).mono ?_; rintro e wn ⟨rfl, rfl⟩))
        go_ret
        exact ⟨by first | rfl | rw [if_neg hr], rfl⟩
    | 1, _ =>
      have hr := Lib.hid (z0 (by omega))
      clear z0 z1
      by_cases hr1 : r1 = 0
      · subst hr1
        go_wp2_with (first | (go_at_call 61; refine (A1.out _).mono ?_; rintro e wn ⟨rfl, rfl⟩))
        go_roundw
        case rel => exact ⟨2, by omega, by go_num, by first | rfl | trivial, by first | rfl | trivial, fun _ => hr.out, fun _ => by first | rfl | trivial⟩
        case measure => simp [intOf]
      · go_wp2_with (first | (go_at_call 61; refine (A1.out _).mono ?_; rintro e wn ⟨rfl, rfl⟩))
        go_ret
        exact ⟨by first | rfl | rw [if_pos hr.out], rfl⟩
    | 2, _ =>
      have hr := z0 (by omega)
      have hr1 := z1 (by omega)
      subst hr hr1
      clear z0 z1
      go_wp2_with fail
      go_ret
      exact ⟨rfl, rfl⟩
theorem cmP_any (x0 x1 y0 y1 : Int) (w : World) : Calls Try.prog 138 #[.agg #[.int .i64 x0, .int .i64 x1], .agg #[.int .i64 y0, .int .i64 y1]] w fun e w' => e = .returned (.int .i64 (cmP (x0, x1) (y0, y1))) ∧ Below w.heap.size w w' := by
  have hs20 : w.heap.size < w.heap.size + 1 + 1 := (by omega)
  go_enter Try.func138, Try.ntmps138
  go_wp2_with fail
  go_region_held3 (fun W => W.cell? ⟨w.heap.size, 0, none⟩ = some (.int .i64 x0) ∧ W.cell? ⟨w.heap.size, 1, none⟩ = some (.int .i64 x1) ∧ W.cell? ⟨w.heap.size + 1, 0, none⟩ = some (.int .i64 y0) ∧ W.cell? ⟨w.heap.size + 1, 1, none⟩ = some (.int .i64 y1) ∧ w.heap.size < W.heap.size ∧ w.heap.size + 1 < W.heap.size) (first | (go_keep; done) | ((repeat' apply And.intro) <;> first | (go_keep; done) | (go_cell; done) | (refine (Below.cell (B := w.heap.size + 1 + 1) ?_ ?_).trans ?_; focus (repeat' (first | (with_reducible refine Below.alloc ?_ ?_ _) | (with_reducible refine Below.setCell ?_ ?_ _) | (with_reducible refine Below.drew ?_) | (with_reducible exact Below.refl _ _) | (first | omega | (simp only [World.size_alloc, World.size_drew, World.size_setCell]; omega) | (simp; omega)))); focus (first | omega | (simp only [World.size_alloc, World.size_drew, World.size_setCell]; omega) | (simp; omega)); first | (go_keep; done) | ((refine (Below.cell (by with_reducible assumption) ?_).trans ?_) <;> first | (go_keep; done) | (first | omega | (simp only [World.size_alloc, World.size_drew, World.size_setCell]; omega) | (simp; omega)))) | ((refine (Below.cell (by with_reducible assumption) ?_).trans ?_) <;> first | (go_keep; done) | (simp only [World.size_alloc, World.size_drew, World.size_setCell]; omega) | omega) | (simp only [World.size_alloc, World.size_drew, World.size_setCell]; omega) | omega)) (first | (go_at_call 151; refine (cmS_any x0 x1 y0 y1 _ _ _ _ _ (by go_cell) (by go_cell) (by go_cell) (by go_cell)).mono ?_; rintro e wn ⟨rfl, rfl⟩))
  go_wp2
  all_goals
    go_ret
    exact ⟨rfl, by (repeat' (first | (with_reducible exact Below.refl _ _) | (with_reducible refine Below.alloc ?_ ?_ _) | (with_reducible refine Below.setCell ?_ ?_ _) | (with_reducible refine Below.drew ?_) | (with_reducible refine below_drewN ?_ _) | (with_reducible assumption) | (with_reducible refine below_after (by with_reducible assumption) ?_) | go_size))⟩
end Go.Proofs.Ytmjhejmkmdgikaa
