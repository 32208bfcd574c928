/-
  Lists of points compared: slices.CompareFunc where the first points differ, leastList's closure (own work).
-/
import Derived.Test.YtmjhejmkmdgikaaPgO
import Derived.Test.YtmjhejmkmdgikaaPgX
namespace Go.Proofs.Ytmjhejmkmdgikaa
open Go.ChangeShapes Go.WideShapes Go.ChangeAt Go.RowKit
set_option linter.unusedVariables false
set_option maxRecDepth 100000
set_option linter.unusedSimpArgs false
set_option maxRecDepth 100000

theorem cmP_ne {a b : Int × Int} (h : a ≠ b) : cmP a b ≠ 0 := by
  intro e
  apply h
  unfold cmP cmI at e
  have : a.1 = b.1 ∧ a.2 = b.2 := by
    repeat' split at e
    all_goals omega
  exact Prod.ext this.1 this.2
set_option maxHeartbeats 1600000 in
theorem cmpF_any (g0 g1 c0 c1 n : Nat) (X0 X1 Y0 Y1 : Int) (w : World) (h1 : 1 ≤ n) (hne : (X0, X1) ≠ (Y0, Y1)) (x0 : w.cell? ⟨g0, 0, none⟩ = some (.int .i64 X0)) (x1 : w.cell? ⟨g0, 1, none⟩ = some (.int .i64 X1)) (y0 : w.cell? ⟨g1, 0, none⟩ = some (.int .i64 Y0)) (y1 : w.cell? ⟨g1, 1, none⟩ = some (.int .i64 Y1)) :
    Calls Try.prog 150 #[.slice (some ⟨g0, 0, none⟩) n c0, .slice (some ⟨g1, 0, none⟩) n c1, .func (.func 138) #[] #[]] w fun e w' => e = .returned (.int .i64 (cmP (X0, X1) (Y0, Y1))) ∧ Below w.heap.size w w' := by
  have hr0 := cmP_ne hne
  obtain ⟨r, hr⟩ : ∃ r, cmP (X0, X1) (Y0, Y1) = r := ⟨_, rfl⟩
  rw [hr] at hr0 ⊢
  have HCM : Hid (∀ w, Calls Try.prog 138 #[.agg #[.int .i64 X0, .int .i64 X1], .agg #[.int .i64 Y0, .int .i64 Y1]] w fun e w' => e = .returned (.int .i64 r) ∧ Below w.heap.size w w') := fun w => by have := cmP_any X0 X1 Y0 Y1 w; rwa [hr] at this
  have q1 : (0 : Int) < (n : Int) := by omega
  have g0l := World.block_lt_of_cell? w _ x0
  have g1l := World.block_lt_of_cell? w _ y0
  clear hne hr
  go_enter Try.func150, Try.ntmps150
  go_wp2_with fail
  refine wp_loop_rounds 2 ?_
  rw [rounds_succ]
  go_wp2_with (go_at_call 138; refine (HCM.out _).mono ?_; rintro e wn ⟨rfl, hb⟩)
  go_ret
  exact ⟨rfl, below_after hb (by (repeat' (first | (with_reducible exact Below.refl _ _) | (with_reducible refine Below.alloc ?_ ?_ _) | (with_reducible refine Below.setCell ?_ ?_ _) | (with_reducible refine Below.drew ?_) | (with_reducible refine below_drewN ?_ _) | (with_reducible assumption) | (with_reducible refine below_after (by with_reducible assumption) ?_) | go_size)))⟩
theorem lessF_any (g0 g1 c0 c1 n b : Nat) (X0 X1 Y0 Y1 : Int) (w : World) (h1 : 1 ≤ n) (hne : (X0, X1) ≠ (Y0, Y1)) (x0 : w.cell? ⟨g0, 0, none⟩ = some (.int .i64 X0)) (x1 : w.cell? ⟨g0, 1, none⟩ = some (.int .i64 X1)) (y0 : w.cell? ⟨g1, 0, none⟩ = some (.int .i64 Y0)) (y1 : w.cell? ⟨g1, 1, none⟩ = some (.int .i64 Y1)) (hb : w.cell? ⟨b, 0, none⟩ = some (.func (.func 138) #[] #[])) :
    Calls Try.prog 149 #[.slice (some ⟨g0, 0, none⟩) n c0, .slice (some ⟨g1, 0, none⟩) n c1, .pointer (some ⟨b, 0, none⟩)] w fun e w' => e = .returned (.int .i64 (cmP (X0, X1) (Y0, Y1))) ∧ Below w.heap.size w w' := by
  have HF := Lib.hid (cmpF_any g0 g1 c0 c1 n X0 X1 Y0 Y1 w h1 hne x0 x1 y0 y1)
  clear hne
  go_enter Try.func149, Try.ntmps149
  go_wp2_with (go_at_call 150; refine HF.out.mono ?_; rintro e wn ⟨rfl, hb2⟩)
  go_ret
  exact ⟨rfl, hb2⟩
end Go.Proofs.Ytmjhejmkmdgikaa
