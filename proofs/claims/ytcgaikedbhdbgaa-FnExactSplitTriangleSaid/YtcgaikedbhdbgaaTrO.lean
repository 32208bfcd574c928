/-
  Triangles of shapes and multiples, in the program and in the model (own work).
-/
import Derived.Test.YtcgaikedbhdbgaaTri3
namespace Go.Proofs.Ytcgaikedbhdbgaa
open Go.ChangeShapes Go.WideShapes Go.ChangeAt Go.RowKit
set_option linter.unusedVariables false
set_option maxRecDepth 100000
set_option linter.unusedSimpArgs false
set_option maxRecDepth 100000

theorem toShape_any (l p g : Int) (w : World) : Calls Try.prog 45 #[.agg #[.int .i64 l, .int .i64 p, .int .i64 g]] w fun e w' => e = .returned (.agg #[.int .i64 l, .int .i64 p, .int .i64 g]) ∧ Below w.heap.size w w' := by
  have hs20 : w.heap.size < w.heap.size + 1 + 1 := (by omega); have hs30 : w.heap.size < w.heap.size + 1 + 1 + 1 := (by omega); have hs31 : w.heap.size + 1 < w.heap.size + 1 + 1 + 1 := (by omega)
  go_enter Try.func45, Try.ntmps45
  go_wp2
  refine bodyPost_ret (v := .agg #[.int .i64 l, .int .i64 p, .int .i64 g]) (by simp (maxDischargeDepth := 8) [results, Try.results45, go_sem, *]) rfl ?_
  exact ⟨rfl, by (repeat' (first | (with_reducible exact Below.refl _ _) | (with_reducible refine Below.alloc ?_ ?_ _) | (with_reducible refine Below.setCell ?_ ?_ _) | (with_reducible refine Below.drew ?_) | (with_reducible refine below_drewN ?_ _) | (with_reducible assumption) | (with_reducible refine below_after (by with_reducible assumption) ?_) | go_size))⟩
theorem eqShape_same (l p g : Int) (w : World) : Calls Try.prog 41 #[.agg #[.int .i64 l, .int .i64 p, .int .i64 g], .agg #[.int .i64 l, .int .i64 p, .int .i64 g]] w fun e w' => e = .returned (.bool true) ∧ Below w.heap.size w w' := by
  have hs20 : w.heap.size < w.heap.size + 1 + 1 := (by omega)
  go_enter Try.func41, Try.ntmps41
  go_wp2
  go_ret
  exact ⟨rfl, by (repeat' (first | (with_reducible exact Below.refl _ _) | (with_reducible refine Below.alloc ?_ ?_ _) | (with_reducible refine Below.setCell ?_ ?_ _) | (with_reducible refine Below.drew ?_) | (with_reducible refine below_drewN ?_ _) | (with_reducible assumption) | (with_reducible refine below_after (by with_reducible assumption) ?_) | go_size))⟩
set_option maxHeartbeats 1600000 in
theorem eqTriangle_same (x0 y0 x1 y1 x2 y2 : Int) (w : World) : Calls Try.prog 47 #[.agg #[.int .i64 x0, .int .i64 y0, .int .i64 x1, .int .i64 y1, .int .i64 x2, .int .i64 y2], .agg #[.int .i64 x0, .int .i64 y0, .int .i64 x1, .int .i64 y1, .int .i64 x2, .int .i64 y2]] w fun e w' => e = .returned (.bool true) ∧ Below w.heap.size w w' := by
  have hs20 : w.heap.size < w.heap.size + 1 + 1 := (by omega); have hs30 : w.heap.size < w.heap.size + 1 + 1 + 1 := (by omega); have hs31 : w.heap.size + 1 < w.heap.size + 1 + 1 + 1 := (by omega)
  go_enter Try.func47, Try.ntmps47
  go_wp2
  refine wp_loop_rounds 4 ?_
  rw [rounds_succ]
  go_wp2_with fail
  go_region_held3 (fun W => W.cell? ⟨w.heap.size, 0, none⟩ = some (.int .i64 x0) ∧ W.cell? ⟨w.heap.size, 1, none⟩ = some (.int .i64 y0) ∧ W.cell? ⟨w.heap.size, 2, none⟩ = some (.int .i64 x1) ∧ W.cell? ⟨w.heap.size, 3, none⟩ = some (.int .i64 y1) ∧ W.cell? ⟨w.heap.size, 4, none⟩ = some (.int .i64 x2) ∧ W.cell? ⟨w.heap.size, 5, none⟩ = some (.int .i64 y2) ∧ W.cell? ⟨w.heap.size + 1, 0, none⟩ = some (.int .i64 x0) ∧ W.cell? ⟨w.heap.size + 1, 1, none⟩ = some (.int .i64 y0) ∧ W.cell? ⟨w.heap.size + 1, 2, none⟩ = some (.int .i64 x1) ∧ W.cell? ⟨w.heap.size + 1, 3, none⟩ = some (.int .i64 y1) ∧ W.cell? ⟨w.heap.size + 1, 4, none⟩ = some (.int .i64 x2) ∧ W.cell? ⟨w.heap.size + 1, 5, none⟩ = some (.int .i64 y2) ∧ w.heap.size < W.heap.size ∧ w.heap.size + 1 < W.heap.size) (first | (go_keep; done) | ((repeat' apply And.intro) <;> first | (go_keep; done) | (go_cell; done) | (refine (Below.cell (B := w.heap.size + 1 + 1) ?_ ?_).trans ?_; focus (repeat' (first | (with_reducible refine Below.alloc ?_ ?_ _) | (with_reducible refine Below.setCell ?_ ?_ _) | (with_reducible refine Below.drew ?_) | (with_reducible exact Below.refl _ _) | (first | omega | (simp only [World.size_alloc, World.size_drew, World.size_setCell]; omega) | (simp; omega)))); focus (first | omega | (simp only [World.size_alloc, World.size_drew, World.size_setCell]; omega) | (simp; omega)); first | (go_keep; done) | ((refine (Below.cell (by with_reducible assumption) ?_).trans ?_) <;> first | (go_keep; done) | (first | omega | (simp only [World.size_alloc, World.size_drew, World.size_setCell]; omega) | (simp; omega)))) | ((refine (Below.cell (by with_reducible assumption) ?_).trans ?_) <;> first | (go_keep; done) | (simp only [World.size_alloc, World.size_drew, World.size_setCell]; omega) | omega) | (simp only [World.size_alloc, World.size_drew, World.size_setCell]; omega) | omega)) (first | (go_at_call 73; refine (eqPoint_same _ _ _).mono ?_; rintro e wn ⟨rfl, hb⟩; first | (have h2 := after_call2 hb hcl hfr hlt (by ((repeat' (first | (with_reducible exact Below.refl _ _) | (with_reducible refine Below.alloc ?_ ?_ _) | (with_reducible refine Below.setCell ?_ ?_ _) | (with_reducible refine Below.drew ?_) | (with_reducible refine below_drewN ?_ _) | (with_reducible assumption) | (with_reducible refine below_after (by with_reducible assumption) ?_) | go_size)); done)); obtain ⟨hclx, hfrx, hltx, hsz⟩ := after_call hb; (try simp only [World.size_alloc, World.size_setCell, World.size_drew] at hclx hfrx hltx hsz); (try (have hszl := Nat.lt_of_succ_le hsz)); obtain ⟨hcl, hfr, hlt⟩ := h2) | (obtain ⟨hcl, hfr, hlt, hsz⟩ := after_call hb; (try simp only [World.size_alloc, World.size_setCell, World.size_drew] at hcl hfr hlt hsz))))
  go_wp2
  rw [rounds_succ]
  go_wp2_with fail
  go_region_held3 (fun W => W.cell? ⟨w.heap.size, 0, none⟩ = some (.int .i64 x0) ∧ W.cell? ⟨w.heap.size, 1, none⟩ = some (.int .i64 y0) ∧ W.cell? ⟨w.heap.size, 2, none⟩ = some (.int .i64 x1) ∧ W.cell? ⟨w.heap.size, 3, none⟩ = some (.int .i64 y1) ∧ W.cell? ⟨w.heap.size, 4, none⟩ = some (.int .i64 x2) ∧ W.cell? ⟨w.heap.size, 5, none⟩ = some (.int .i64 y2) ∧ W.cell? ⟨w.heap.size + 1, 0, none⟩ = some (.int .i64 x0) ∧ W.cell? ⟨w.heap.size + 1, 1, none⟩ = some (.int .i64 y0) ∧ W.cell? ⟨w.heap.size + 1, 2, none⟩ = some (.int .i64 x1) ∧ W.cell? ⟨w.heap.size + 1, 3, none⟩ = some (.int .i64 y1) ∧ W.cell? ⟨w.heap.size + 1, 4, none⟩ = some (.int .i64 x2) ∧ W.cell? ⟨w.heap.size + 1, 5, none⟩ = some (.int .i64 y2) ∧ w.heap.size < W.heap.size ∧ w.heap.size + 1 < W.heap.size) (first | (go_keep; done) | ((repeat' apply And.intro) <;> first | (go_keep; done) | (go_cell; done) | (refine (Below.cell (B := w.heap.size + 1 + 1) ?_ ?_).trans ?_; focus (repeat' (first | (with_reducible refine Below.alloc ?_ ?_ _) | (with_reducible refine Below.setCell ?_ ?_ _) | (with_reducible refine Below.drew ?_) | (with_reducible exact Below.refl _ _) | (first | omega | (simp only [World.size_alloc, World.size_drew, World.size_setCell]; omega) | (simp; omega)))); focus (first | omega | (simp only [World.size_alloc, World.size_drew, World.size_setCell]; omega) | (simp; omega)); first | (go_keep; done) | ((refine (Below.cell (by with_reducible assumption) ?_).trans ?_) <;> first | (go_keep; done) | (first | omega | (simp only [World.size_alloc, World.size_drew, World.size_setCell]; omega) | (simp; omega)))) | ((refine (Below.cell (by with_reducible assumption) ?_).trans ?_) <;> first | (go_keep; done) | (simp only [World.size_alloc, World.size_drew, World.size_setCell]; omega) | omega) | (simp only [World.size_alloc, World.size_drew, World.size_setCell]; omega) | omega)) (first | (go_at_call 73; refine (eqPoint_same _ _ _).mono ?_; rintro e wn ⟨rfl, hb⟩; first | (have h2 := after_call2 hb hcl hfr hlt (by ((repeat' (first | (with_reducible exact Below.refl _ _) | (with_reducible refine Below.alloc ?_ ?_ _) | (with_reducible refine Below.setCell ?_ ?_ _) | (with_reducible refine Below.drew ?_) | (with_reducible refine below_drewN ?_ _) | (with_reducible assumption) | (with_reducible refine below_after (by with_reducible assumption) ?_) | go_size)); done)); obtain ⟨hclx, hfrx, hltx, hsz⟩ := after_call hb; (try simp only [World.size_alloc, World.size_setCell, World.size_drew] at hclx hfrx hltx hsz); (try (have hszl := Nat.lt_of_succ_le hsz)); obtain ⟨hcl, hfr, hlt⟩ := h2) | (obtain ⟨hcl, hfr, hlt, hsz⟩ := after_call hb; (try simp only [World.size_alloc, World.size_setCell, World.size_drew] at hcl hfr hlt hsz))))
  go_wp2
  rw [rounds_succ]
  go_wp2_with fail
  go_region_held3 (fun W => W.cell? ⟨w.heap.size, 0, none⟩ = some (.int .i64 x0) ∧ W.cell? ⟨w.heap.size, 1, none⟩ = some (.int .i64 y0) ∧ W.cell? ⟨w.heap.size, 2, none⟩ = some (.int .i64 x1) ∧ W.cell? ⟨w.heap.size, 3, none⟩ = some (.int .i64 y1) ∧ W.cell? ⟨w.heap.size, 4, none⟩ = some (.int .i64 x2) ∧ W.cell? ⟨w.heap.size, 5, none⟩ = some (.int .i64 y2) ∧ W.cell? ⟨w.heap.size + 1, 0, none⟩ = some (.int .i64 x0) ∧ W.cell? ⟨w.heap.size + 1, 1, none⟩ = some (.int .i64 y0) ∧ W.cell? ⟨w.heap.size + 1, 2, none⟩ = some (.int .i64 x1) ∧ W.cell? ⟨w.heap.size + 1, 3, none⟩ = some (.int .i64 y1) ∧ W.cell? ⟨w.heap.size + 1, 4, none⟩ = some (.int .i64 x2) ∧ W.cell? ⟨w.heap.size + 1, 5, none⟩ = some (.int .i64 y2) ∧ w.heap.size < W.heap.size ∧ w.heap.size + 1 < W.heap.size) (first | (go_keep; done) | ((repeat' apply And.intro) <;> first | (go_keep; done) | (go_cell; done) | (refine (Below.cell (B := w.heap.size + 1 + 1) ?_ ?_).trans ?_; focus (repeat' (first | (with_reducible refine Below.alloc ?_ ?_ _) | (with_reducible refine Below.setCell ?_ ?_ _) | (with_reducible refine Below.drew ?_) | (with_reducible exact Below.refl _ _) | (first | omega | (simp only [World.size_alloc, World.size_drew, World.size_setCell]; omega) | (simp; omega)))); focus (first | omega | (simp only [World.size_alloc, World.size_drew, World.size_setCell]; omega) | (simp; omega)); first | (go_keep; done) | ((refine (Below.cell (by with_reducible assumption) ?_).trans ?_) <;> first | (go_keep; done) | (first | omega | (simp only [World.size_alloc, World.size_drew, World.size_setCell]; omega) | (simp; omega)))) | ((refine (Below.cell (by with_reducible assumption) ?_).trans ?_) <;> first | (go_keep; done) | (simp only [World.size_alloc, World.size_drew, World.size_setCell]; omega) | omega) | (simp only [World.size_alloc, World.size_drew, World.size_setCell]; omega) | omega)) (first | (go_at_call 73; refine (eqPoint_same _ _ _).mono ?_; rintro e wn ⟨rfl, hb⟩; first | (have h2 := after_call2 hb hcl hfr hlt (by ((repeat' (first | (with_reducible exact Below.refl _ _) | (with_reducible refine Below.alloc ?_ ?_ _) | (with_reducible refine Below.setCell ?_ ?_ _) | (with_reducible refine Below.drew ?_) | (with_reducible refine below_drewN ?_ _) | (with_reducible assumption) | (with_reducible refine below_after (by with_reducible assumption) ?_) | go_size)); done)); obtain ⟨hclx, hfrx, hltx, hsz⟩ := after_call hb; (try simp only [World.size_alloc, World.size_setCell, World.size_drew] at hclx hfrx hltx hsz); (try (have hszl := Nat.lt_of_succ_le hsz)); obtain ⟨hcl, hfr, hlt⟩ := h2) | (obtain ⟨hcl, hfr, hlt, hsz⟩ := after_call hb; (try simp only [World.size_alloc, World.size_setCell, World.size_drew] at hcl hfr hlt hsz))))
  go_wp2
  rw [rounds_succ]
  go_wp2
  go_ret
  exact ⟨rfl, by (repeat' (first | (with_reducible exact Below.refl _ _) | (with_reducible refine Below.alloc ?_ ?_ _) | (with_reducible refine Below.setCell ?_ ?_ _) | (with_reducible refine Below.drew ?_) | (with_reducible refine below_drewN ?_ _) | (with_reducible assumption) | (with_reducible refine below_after (by with_reducible assumption) ?_) | go_size))⟩
def toC (l p g : Int) : Int := if inB l 1 1000 = true ∧ inB g 1 1000 = true ∧ 0 ≤ p ∧ p < g then 0 else 2
theorem l04Of_any (l p g : Int) (w : World) : Calls Try.prog 87 #[.agg #[.int .i64 l, .int .i64 p, .int .i64 g]] w fun e w' => e = .returned (.agg #[.int .i64 0, .int .i64 0, .int .i64 l, .int .i64 0, .int .i64 p, .int .i64 g]) ∧ Below w.heap.size w w' := by
  have hs20 : w.heap.size < w.heap.size + 1 + 1 := (by omega); have hs30 : w.heap.size < w.heap.size + 1 + 1 + 1 := (by omega); have hs31 : w.heap.size + 1 < w.heap.size + 1 + 1 + 1 := (by omega)
  go_enter Try.func87, Try.ntmps87
  go_wp2
  refine bodyPost_ret (v := .agg #[.int .i64 0, .int .i64 0, .int .i64 l, .int .i64 0, .int .i64 p, .int .i64 g]) (by simp (maxDischargeDepth := 8) [results, Try.results87, go_sem, *]) rfl ?_
  exact ⟨rfl, by (repeat' (first | (with_reducible exact Below.refl _ _) | (with_reducible refine Below.alloc ?_ ?_ _) | (with_reducible refine Below.setCell ?_ ?_ _) | (with_reducible refine Below.drew ?_) | (with_reducible refine below_drewN ?_ _) | (with_reducible assumption) | (with_reducible refine below_after (by with_reducible assumption) ?_) | go_size))⟩
set_option maxHeartbeats 4000000 in
theorem impl_TriangleOf_any (l p g : Int) (w : World) : Calls Try.prog 46 #[.agg #[.int .i64 l, .int .i64 p, .int .i64 g]] w fun e w' => e = .returned (.tuple #[.agg #[.int .i64 0, .int .i64 0, .int .i64 (on0 (toC l p g) l), .int .i64 0, .int .i64 (on0 (toC l p g) p), .int .i64 (on0 (toC l p g) g)], .int .i64 (toC l p g)]) ∧ Below w.heap.size w w' := by
  cases q1 : inB l 1 1000
  · skip
    have hz : toC l p g = 2 := if_neg (by rintro ⟨c1, c2, c3, c4⟩; first | exact absurd c1 (by rw [q1]; decide) | exact absurd c2 (by rw [q2]; decide) | omega)
    rw [hz, on0_2, on0_2, on0_2]
    have hs20 : w.heap.size < w.heap.size + 1 + 1 := (by omega); have hs30 : w.heap.size < w.heap.size + 1 + 1 + 1 := (by omega); have hs31 : w.heap.size + 1 < w.heap.size + 1 + 1 + 1 := (by omega); have hs40 : w.heap.size < w.heap.size + 1 + 1 + 1 + 1 := (by omega); have hs41 : w.heap.size + 1 < w.heap.size + 1 + 1 + 1 + 1 := (by omega); have hs42 : w.heap.size + 1 + 1 < w.heap.size + 1 + 1 + 1 + 1 := (by omega)
    go_enter Try.func46, Try.ntmps46
    go_wp2_with (first | (go_at_call 88; refine (isFactor_any _ _).mono ?_; rintro e wn ⟨rfl, rfl⟩))
    refine bodyPost_ret (v := .tuple #[.agg #[.int .i64 0, .int .i64 0, .int .i64 0, .int .i64 0, .int .i64 0, .int .i64 0], .int .i64 2]) (by simp (maxDischargeDepth := 8) [results, Try.results46, go_sem, *]) rfl ?_
    exact ⟨rfl, by (repeat' (first | (with_reducible exact Below.refl _ _) | (with_reducible refine Below.alloc ?_ ?_ _) | (with_reducible refine Below.setCell ?_ ?_ _) | (with_reducible refine Below.drew ?_) | (with_reducible refine below_drewN ?_ _) | (with_reducible assumption) | (with_reducible refine below_after (by with_reducible assumption) ?_) | go_size))⟩
  cases q2 : inB g 1 1000
  · skip
    have hz : toC l p g = 2 := if_neg (by rintro ⟨c1, c2, c3, c4⟩; first | exact absurd c1 (by rw [q1]; decide) | exact absurd c2 (by rw [q2]; decide) | omega)
    rw [hz, on0_2, on0_2, on0_2]
    have hs20 : w.heap.size < w.heap.size + 1 + 1 := (by omega); have hs30 : w.heap.size < w.heap.size + 1 + 1 + 1 := (by omega); have hs31 : w.heap.size + 1 < w.heap.size + 1 + 1 + 1 := (by omega); have hs40 : w.heap.size < w.heap.size + 1 + 1 + 1 + 1 := (by omega); have hs41 : w.heap.size + 1 < w.heap.size + 1 + 1 + 1 + 1 := (by omega); have hs42 : w.heap.size + 1 + 1 < w.heap.size + 1 + 1 + 1 + 1 := (by omega)
    go_enter Try.func46, Try.ntmps46
    go_wp2_with (first | (go_at_call 88; refine (isFactor_any _ _).mono ?_; rintro e wn ⟨rfl, rfl⟩))
    refine bodyPost_ret (v := .tuple #[.agg #[.int .i64 0, .int .i64 0, .int .i64 0, .int .i64 0, .int .i64 0, .int .i64 0], .int .i64 2]) (by simp (maxDischargeDepth := 8) [results, Try.results46, go_sem, *]) rfl ?_
    exact ⟨rfl, by (repeat' (first | (with_reducible exact Below.refl _ _) | (with_reducible refine Below.alloc ?_ ?_ _) | (with_reducible refine Below.setCell ?_ ?_ _) | (with_reducible refine Below.drew ?_) | (with_reducible refine below_drewN ?_ _) | (with_reducible assumption) | (with_reducible refine below_after (by with_reducible assumption) ?_) | go_size))⟩
  have hg := inB_iff.1 q2
  by_cases k1 : p < 0
  · skip
    have hz : toC l p g = 2 := if_neg (by rintro ⟨c1, c2, c3, c4⟩; first | exact absurd c1 (by rw [q1]; decide) | exact absurd c2 (by rw [q2]; decide) | omega)
    rw [hz, on0_2, on0_2, on0_2]
    
    clear hg
    have hs20 : w.heap.size < w.heap.size + 1 + 1 := (by omega); have hs30 : w.heap.size < w.heap.size + 1 + 1 + 1 := (by omega); have hs31 : w.heap.size + 1 < w.heap.size + 1 + 1 + 1 := (by omega); have hs40 : w.heap.size < w.heap.size + 1 + 1 + 1 + 1 := (by omega); have hs41 : w.heap.size + 1 < w.heap.size + 1 + 1 + 1 + 1 := (by omega); have hs42 : w.heap.size + 1 + 1 < w.heap.size + 1 + 1 + 1 + 1 := (by omega)
    go_enter Try.func46, Try.ntmps46
    go_wp2_with (first | (go_at_call 88; refine (isFactor_any _ _).mono ?_; rintro e wn ⟨rfl, rfl⟩))
    refine bodyPost_ret (v := .tuple #[.agg #[.int .i64 0, .int .i64 0, .int .i64 0, .int .i64 0, .int .i64 0, .int .i64 0], .int .i64 2]) (by simp (maxDischargeDepth := 8) [results, Try.results46, go_sem, *]) rfl ?_
    exact ⟨rfl, by (repeat' (first | (with_reducible exact Below.refl _ _) | (with_reducible refine Below.alloc ?_ ?_ _) | (with_reducible refine Below.setCell ?_ ?_ _) | (with_reducible refine Below.drew ?_) | (with_reducible refine below_drewN ?_ _) | (with_reducible assumption) | (with_reducible refine below_after (by with_reducible assumption) ?_) | go_size))⟩
  by_cases k2 : g ≤ p
  · skip
    have hz : toC l p g = 2 := if_neg (by rintro ⟨c1, c2, c3, c4⟩; first | exact absurd c1 (by rw [q1]; decide) | exact absurd c2 (by rw [q2]; decide) | omega)
    rw [hz, on0_2, on0_2, on0_2]
    
    clear hg
    have hs20 : w.heap.size < w.heap.size + 1 + 1 := (by omega); have hs30 : w.heap.size < w.heap.size + 1 + 1 + 1 := (by omega); have hs31 : w.heap.size + 1 < w.heap.size + 1 + 1 + 1 := (by omega); have hs40 : w.heap.size < w.heap.size + 1 + 1 + 1 + 1 := (by omega); have hs41 : w.heap.size + 1 < w.heap.size + 1 + 1 + 1 + 1 := (by omega); have hs42 : w.heap.size + 1 + 1 < w.heap.size + 1 + 1 + 1 + 1 := (by omega)
    go_enter Try.func46, Try.ntmps46
    go_wp2_with (first | (go_at_call 88; refine (isFactor_any _ _).mono ?_; rintro e wn ⟨rfl, rfl⟩))
    refine bodyPost_ret (v := .tuple #[.agg #[.int .i64 0, .int .i64 0, .int .i64 0, .int .i64 0, .int .i64 0, .int .i64 0], .int .i64 2]) (by simp (maxDischargeDepth := 8) [results, Try.results46, go_sem, *]) rfl ?_
    exact ⟨rfl, by (repeat' (first | (with_reducible exact Below.refl _ _) | (with_reducible refine Below.alloc ?_ ?_ _) | (with_reducible refine Below.setCell ?_ ?_ _) | (with_reducible refine Below.drew ?_) | (with_reducible refine below_drewN ?_ _) | (with_reducible assumption) | (with_reducible refine below_after (by with_reducible assumption) ?_) | go_size))⟩
  have hz : toC l p g = 0 := if_pos ⟨q1, q2, by omega, by omega⟩
  rw [hz, on0_0, on0_0, on0_0]
  
  clear hg
  have hs20 : w.heap.size < w.heap.size + 1 + 1 := (by omega); have hs30 : w.heap.size < w.heap.size + 1 + 1 + 1 := (by omega); have hs31 : w.heap.size + 1 < w.heap.size + 1 + 1 + 1 := (by omega); have hs40 : w.heap.size < w.heap.size + 1 + 1 + 1 + 1 := (by omega); have hs41 : w.heap.size + 1 < w.heap.size + 1 + 1 + 1 + 1 := (by omega); have hs42 : w.heap.size + 1 + 1 < w.heap.size + 1 + 1 + 1 + 1 := (by omega)
  go_enter Try.func46, Try.ntmps46
  go_wp2_with (first | (go_at_call 88; refine (isFactor_any _ _).mono ?_; rintro e wn ⟨rfl, rfl⟩))
  refine bodyPost_ret (v := .tuple #[.agg #[.int .i64 0, .int .i64 0, .int .i64 l, .int .i64 0, .int .i64 p, .int .i64 g], .int .i64 0]) (by simp (maxDischargeDepth := 8) [results, Try.results46, go_sem, *]) rfl ?_
  exact ⟨rfl, by (repeat' (first | (with_reducible exact Below.refl _ _) | (with_reducible refine Below.alloc ?_ ?_ _) | (with_reducible refine Below.setCell ?_ ?_ _) | (with_reducible refine Below.drew ?_) | (with_reducible refine below_drewN ?_ _) | (with_reducible assumption) | (with_reducible refine below_after (by with_reducible assumption) ?_) | go_size))⟩
set_option maxHeartbeats 4000000 in
theorem spec_TriangleOf_any (l p g : Int) (w : World) : Calls Try.prog 44 #[.agg #[.int .i64 l, .int .i64 p, .int .i64 g]] w fun e w' => e = .returned (.tuple #[.agg #[.int .i64 0, .int .i64 0, .int .i64 (on0 (toC l p g) l), .int .i64 0, .int .i64 (on0 (toC l p g) p), .int .i64 (on0 (toC l p g) g)], .int .i64 (toC l p g)]) ∧ Below w.heap.size w w' := by
  cases q1 : inB l 1 1000
  · skip
    have hz : toC l p g = 2 := if_neg (by rintro ⟨c1, c2, c3, c4⟩; first | exact absurd c1 (by rw [q1]; decide) | exact absurd c2 (by rw [q2]; decide) | omega)
    rw [hz, on0_2, on0_2, on0_2]
    have hs20 : w.heap.size < w.heap.size + 1 + 1 := (by omega); have hs30 : w.heap.size < w.heap.size + 1 + 1 + 1 := (by omega); have hs31 : w.heap.size + 1 < w.heap.size + 1 + 1 + 1 := (by omega); have hs40 : w.heap.size < w.heap.size + 1 + 1 + 1 + 1 := (by omega); have hs41 : w.heap.size + 1 < w.heap.size + 1 + 1 + 1 + 1 := (by omega); have hs42 : w.heap.size + 1 + 1 < w.heap.size + 1 + 1 + 1 + 1 := (by omega)
    go_enter Try.func44, Try.ntmps44
    go_wp2_with (first | (go_at_call 74; refine (l01In_any _ _ _ _).mono ?_; rintro e wn ⟨rfl, rfl⟩) | (go_at_call 87; refine (l04Of_any _ _ _ _).mono ?_; rintro e wn ⟨rfl, hb⟩; first | (have h2 := after_call2 hb hcl hfr hlt (by ((repeat' (first | (with_reducible exact Below.refl _ _) | (with_reducible refine Below.alloc ?_ ?_ _) | (with_reducible refine Below.setCell ?_ ?_ _) | (with_reducible refine Below.drew ?_) | (with_reducible refine below_drewN ?_ _) | (with_reducible assumption) | (with_reducible refine below_after (by with_reducible assumption) ?_) | go_size)); done)); obtain ⟨hclx, hfrx, hltx, hsz⟩ := after_call hb; (try simp only [World.size_alloc, World.size_setCell, World.size_drew] at hclx hfrx hltx hsz); (try (have hszl := Nat.lt_of_succ_le hsz)); obtain ⟨hcl, hfr, hlt⟩ := h2) | (obtain ⟨hcl, hfr, hlt, hsz⟩ := after_call hb; (try simp only [World.size_alloc, World.size_setCell, World.size_drew] at hcl hfr hlt hsz))))
    refine bodyPost_ret (v := .tuple #[.agg #[.int .i64 0, .int .i64 0, .int .i64 0, .int .i64 0, .int .i64 0, .int .i64 0], .int .i64 2]) (by simp (maxDischargeDepth := 8) [results, Try.results44, go_sem, *]) rfl ?_
    exact ⟨rfl, by (repeat' (first | (with_reducible exact Below.refl _ _) | (with_reducible refine Below.alloc ?_ ?_ _) | (with_reducible refine Below.setCell ?_ ?_ _) | (with_reducible refine Below.drew ?_) | (with_reducible refine below_drewN ?_ _) | (with_reducible assumption) | (with_reducible refine below_after (by with_reducible assumption) ?_) | go_size))⟩
  cases q2 : inB g 1 1000
  · skip
    have hz : toC l p g = 2 := if_neg (by rintro ⟨c1, c2, c3, c4⟩; first | exact absurd c1 (by rw [q1]; decide) | exact absurd c2 (by rw [q2]; decide) | omega)
    rw [hz, on0_2, on0_2, on0_2]
    have hs20 : w.heap.size < w.heap.size + 1 + 1 := (by omega); have hs30 : w.heap.size < w.heap.size + 1 + 1 + 1 := (by omega); have hs31 : w.heap.size + 1 < w.heap.size + 1 + 1 + 1 := (by omega); have hs40 : w.heap.size < w.heap.size + 1 + 1 + 1 + 1 := (by omega); have hs41 : w.heap.size + 1 < w.heap.size + 1 + 1 + 1 + 1 := (by omega); have hs42 : w.heap.size + 1 + 1 < w.heap.size + 1 + 1 + 1 + 1 := (by omega)
    go_enter Try.func44, Try.ntmps44
    go_wp2_with (first | (go_at_call 74; refine (l01In_any _ _ _ _).mono ?_; rintro e wn ⟨rfl, rfl⟩) | (go_at_call 87; refine (l04Of_any _ _ _ _).mono ?_; rintro e wn ⟨rfl, hb⟩; first | (have h2 := after_call2 hb hcl hfr hlt (by ((repeat' (first | (with_reducible exact Below.refl _ _) | (with_reducible refine Below.alloc ?_ ?_ _) | (with_reducible refine Below.setCell ?_ ?_ _) | (with_reducible refine Below.drew ?_) | (with_reducible refine below_drewN ?_ _) | (with_reducible assumption) | (with_reducible refine below_after (by with_reducible assumption) ?_) | go_size)); done)); obtain ⟨hclx, hfrx, hltx, hsz⟩ := after_call hb; (try simp only [World.size_alloc, World.size_setCell, World.size_drew] at hclx hfrx hltx hsz); (try (have hszl := Nat.lt_of_succ_le hsz)); obtain ⟨hcl, hfr, hlt⟩ := h2) | (obtain ⟨hcl, hfr, hlt, hsz⟩ := after_call hb; (try simp only [World.size_alloc, World.size_setCell, World.size_drew] at hcl hfr hlt hsz))))
    refine bodyPost_ret (v := .tuple #[.agg #[.int .i64 0, .int .i64 0, .int .i64 0, .int .i64 0, .int .i64 0, .int .i64 0], .int .i64 2]) (by simp (maxDischargeDepth := 8) [results, Try.results44, go_sem, *]) rfl ?_
    exact ⟨rfl, by (repeat' (first | (with_reducible exact Below.refl _ _) | (with_reducible refine Below.alloc ?_ ?_ _) | (with_reducible refine Below.setCell ?_ ?_ _) | (with_reducible refine Below.drew ?_) | (with_reducible refine below_drewN ?_ _) | (with_reducible assumption) | (with_reducible refine below_after (by with_reducible assumption) ?_) | go_size))⟩
  have hg := inB_iff.1 q2
  by_cases k1 : p < 0
  · skip
    have hz : toC l p g = 2 := if_neg (by rintro ⟨c1, c2, c3, c4⟩; first | exact absurd c1 (by rw [q1]; decide) | exact absurd c2 (by rw [q2]; decide) | omega)
    rw [hz, on0_2, on0_2, on0_2]
    have wg := wr (n := g - 1) (by omega) (by omega)
    have q3 : inB p 0 (g - 1) = false := inB_not.2 (by omega)
    clear hg
    have hs20 : w.heap.size < w.heap.size + 1 + 1 := (by omega); have hs30 : w.heap.size < w.heap.size + 1 + 1 + 1 := (by omega); have hs31 : w.heap.size + 1 < w.heap.size + 1 + 1 + 1 := (by omega); have hs40 : w.heap.size < w.heap.size + 1 + 1 + 1 + 1 := (by omega); have hs41 : w.heap.size + 1 < w.heap.size + 1 + 1 + 1 + 1 := (by omega); have hs42 : w.heap.size + 1 + 1 < w.heap.size + 1 + 1 + 1 + 1 := (by omega)
    go_enter Try.func44, Try.ntmps44
    go_wp2_with (first | (go_at_call 74; refine (l01In_any _ _ _ _).mono ?_; rintro e wn ⟨rfl, rfl⟩) | (go_at_call 87; refine (l04Of_any _ _ _ _).mono ?_; rintro e wn ⟨rfl, hb⟩; first | (have h2 := after_call2 hb hcl hfr hlt (by ((repeat' (first | (with_reducible exact Below.refl _ _) | (with_reducible refine Below.alloc ?_ ?_ _) | (with_reducible refine Below.setCell ?_ ?_ _) | (with_reducible refine Below.drew ?_) | (with_reducible refine below_drewN ?_ _) | (with_reducible assumption) | (with_reducible refine below_after (by with_reducible assumption) ?_) | go_size)); done)); obtain ⟨hclx, hfrx, hltx, hsz⟩ := after_call hb; (try simp only [World.size_alloc, World.size_setCell, World.size_drew] at hclx hfrx hltx hsz); (try (have hszl := Nat.lt_of_succ_le hsz)); obtain ⟨hcl, hfr, hlt⟩ := h2) | (obtain ⟨hcl, hfr, hlt, hsz⟩ := after_call hb; (try simp only [World.size_alloc, World.size_setCell, World.size_drew] at hcl hfr hlt hsz))))
    refine bodyPost_ret (v := .tuple #[.agg #[.int .i64 0, .int .i64 0, .int .i64 0, .int .i64 0, .int .i64 0, .int .i64 0], .int .i64 2]) (by simp (maxDischargeDepth := 8) [results, Try.results44, go_sem, *]) rfl ?_
    exact ⟨rfl, by (repeat' (first | (with_reducible exact Below.refl _ _) | (with_reducible refine Below.alloc ?_ ?_ _) | (with_reducible refine Below.setCell ?_ ?_ _) | (with_reducible refine Below.drew ?_) | (with_reducible refine below_drewN ?_ _) | (with_reducible assumption) | (with_reducible refine below_after (by with_reducible assumption) ?_) | go_size))⟩
  by_cases k2 : g ≤ p
  · skip
    have hz : toC l p g = 2 := if_neg (by rintro ⟨c1, c2, c3, c4⟩; first | exact absurd c1 (by rw [q1]; decide) | exact absurd c2 (by rw [q2]; decide) | omega)
    rw [hz, on0_2, on0_2, on0_2]
    have wg := wr (n := g - 1) (by omega) (by omega)
    have q3 : inB p 0 (g - 1) = false := inB_not.2 (by omega)
    clear hg
    have hs20 : w.heap.size < w.heap.size + 1 + 1 := (by omega); have hs30 : w.heap.size < w.heap.size + 1 + 1 + 1 := (by omega); have hs31 : w.heap.size + 1 < w.heap.size + 1 + 1 + 1 := (by omega); have hs40 : w.heap.size < w.heap.size + 1 + 1 + 1 + 1 := (by omega); have hs41 : w.heap.size + 1 < w.heap.size + 1 + 1 + 1 + 1 := (by omega); have hs42 : w.heap.size + 1 + 1 < w.heap.size + 1 + 1 + 1 + 1 := (by omega)
    go_enter Try.func44, Try.ntmps44
    go_wp2_with (first | (go_at_call 74; refine (l01In_any _ _ _ _).mono ?_; rintro e wn ⟨rfl, rfl⟩) | (go_at_call 87; refine (l04Of_any _ _ _ _).mono ?_; rintro e wn ⟨rfl, hb⟩; first | (have h2 := after_call2 hb hcl hfr hlt (by ((repeat' (first | (with_reducible exact Below.refl _ _) | (with_reducible refine Below.alloc ?_ ?_ _) | (with_reducible refine Below.setCell ?_ ?_ _) | (with_reducible refine Below.drew ?_) | (with_reducible refine below_drewN ?_ _) | (with_reducible assumption) | (with_reducible refine below_after (by with_reducible assumption) ?_) | go_size)); done)); obtain ⟨hclx, hfrx, hltx, hsz⟩ := after_call hb; (try simp only [World.size_alloc, World.size_setCell, World.size_drew] at hclx hfrx hltx hsz); (try (have hszl := Nat.lt_of_succ_le hsz)); obtain ⟨hcl, hfr, hlt⟩ := h2) | (obtain ⟨hcl, hfr, hlt, hsz⟩ := after_call hb; (try simp only [World.size_alloc, World.size_setCell, World.size_drew] at hcl hfr hlt hsz))))
    refine bodyPost_ret (v := .tuple #[.agg #[.int .i64 0, .int .i64 0, .int .i64 0, .int .i64 0, .int .i64 0, .int .i64 0], .int .i64 2]) (by simp (maxDischargeDepth := 8) [results, Try.results44, go_sem, *]) rfl ?_
    exact ⟨rfl, by (repeat' (first | (with_reducible exact Below.refl _ _) | (with_reducible refine Below.alloc ?_ ?_ _) | (with_reducible refine Below.setCell ?_ ?_ _) | (with_reducible refine Below.drew ?_) | (with_reducible refine below_drewN ?_ _) | (with_reducible assumption) | (with_reducible refine below_after (by with_reducible assumption) ?_) | go_size))⟩
  have hz : toC l p g = 0 := if_pos ⟨q1, q2, by omega, by omega⟩
  rw [hz, on0_0, on0_0, on0_0]
  have wg := wr (n := g - 1) (by omega) (by omega)
  have q3 : inB p 0 (g - 1) = true := inB_iff.2 (by omega)
  clear hg
  have hs20 : w.heap.size < w.heap.size + 1 + 1 := (by omega); have hs30 : w.heap.size < w.heap.size + 1 + 1 + 1 := (by omega); have hs31 : w.heap.size + 1 < w.heap.size + 1 + 1 + 1 := (by omega); have hs40 : w.heap.size < w.heap.size + 1 + 1 + 1 + 1 := (by omega); have hs41 : w.heap.size + 1 < w.heap.size + 1 + 1 + 1 + 1 := (by omega); have hs42 : w.heap.size + 1 + 1 < w.heap.size + 1 + 1 + 1 + 1 := (by omega)
  go_enter Try.func44, Try.ntmps44
  go_wp2_with (first | (go_at_call 74; refine (l01In_any _ _ _ _).mono ?_; rintro e wn ⟨rfl, rfl⟩) | (go_at_call 87; refine (l04Of_any _ _ _ _).mono ?_; rintro e wn ⟨rfl, hb⟩; first | (have h2 := after_call2 hb hcl hfr hlt (by ((repeat' (first | (with_reducible exact Below.refl _ _) | (with_reducible refine Below.alloc ?_ ?_ _) | (with_reducible refine Below.setCell ?_ ?_ _) | (with_reducible refine Below.drew ?_) | (with_reducible refine below_drewN ?_ _) | (with_reducible assumption) | (with_reducible refine below_after (by with_reducible assumption) ?_) | go_size)); done)); obtain ⟨hclx, hfrx, hltx, hsz⟩ := after_call hb; (try simp only [World.size_alloc, World.size_setCell, World.size_drew] at hclx hfrx hltx hsz); (try (have hszl := Nat.lt_of_succ_le hsz)); obtain ⟨hcl, hfr, hlt⟩ := h2) | (obtain ⟨hcl, hfr, hlt, hsz⟩ := after_call hb; (try simp only [World.size_alloc, World.size_setCell, World.size_drew] at hcl hfr hlt hsz))))
  refine bodyPost_ret (v := .tuple #[.agg #[.int .i64 0, .int .i64 0, .int .i64 l, .int .i64 0, .int .i64 p, .int .i64 g], .int .i64 0]) (by simp (maxDischargeDepth := 8) [results, Try.results44, go_sem, *]) rfl ?_
  exact ⟨rfl, by (repeat' (first | (with_reducible exact Below.refl _ _) | (with_reducible refine Below.alloc ?_ ?_ _) | (with_reducible refine Below.setCell ?_ ?_ _) | (with_reducible refine Below.drew ?_) | (with_reducible refine below_drewN ?_ _) | (with_reducible assumption) | (with_reducible refine below_after (by with_reducible assumption) ?_) | go_size))⟩
theorem isT_mul {x0 y0 x1 y1 x2 y2 k : Int} (h : isT x0 y0 x1 y1 x2 y2 = true) (hk : 1 ≤ k) : isT (k * x0) (k * y0) (k * x1) (k * y1) (k * x2) (k * y2) = (isS (k * x0) (k * y0) && isS (k * x1) (k * y1) && isS (k * x2) (k * y2)) := by
  obtain ⟨_, _, _, _, _, _, hn⟩ := isT_iff.1 h
  have hs : sd (k * x0) (k * y0) (k * x1) (k * y1) (k * x2) (k * y2) = (k * k) * sd x0 y0 x1 y1 x2 y2 := by unfold sd; grind
  have hq : areaP (k * x0, k * y0) (k * x1, k * y1) (k * x2, k * y2) ≠ 0 := by
    rw [area_sd] at *
    rw [hs]
    unfold absI at *
    have hp : 0 < k * k := Int.mul_pos (by omega) (by omega)
    have h0 : k * k * sd x0 y0 x1 y1 x2 y2 ≠ 0 := Int.mul_ne_zero (by omega) (by omega)
    omega
  unfold isT
  rw [show (areaP (k * x0, k * y0) (k * x1, k * y1) (k * x2, k * y2) != 0) = true by simpa using hq, Bool.and_true]
def mC (x0 y0 x1 y1 x2 y2 k : Int) : Int := if isT x0 y0 x1 y1 x2 y2 = true then (if inB k 1 1000 = true then (if isT (k * x0) (k * y0) (k * x1) (k * y1) (k * x2) (k * y2) = true then 0 else 3) else 2) else 1
theorem mC_no {x0 y0 x1 y1 x2 y2 : Int} (h : isT x0 y0 x1 y1 x2 y2 = false) (k : Int) : mC x0 y0 x1 y1 x2 y2 k = 1 := by unfold mC; rw [h]; rfl
theorem mC_range {x0 y0 x1 y1 x2 y2 k : Int} (h : isT x0 y0 x1 y1 x2 y2 = true) (q : inB k 1 1000 = false) : mC x0 y0 x1 y1 x2 y2 k = 2 := by unfold mC; rw [h, q]; rfl
theorem mC_limit {x0 y0 x1 y1 x2 y2 k : Int} (h : isT x0 y0 x1 y1 x2 y2 = true) (q : inB k 1 1000 = true) (r : isT (k * x0) (k * y0) (k * x1) (k * y1) (k * x2) (k * y2) = false) : mC x0 y0 x1 y1 x2 y2 k = 3 := by unfold mC; rw [h, q, r]; rfl
theorem mC_yes {x0 y0 x1 y1 x2 y2 k : Int} (h : isT x0 y0 x1 y1 x2 y2 = true) (q : inB k 1 1000 = true) (r : isT (k * x0) (k * y0) (k * x1) (k * y1) (k * x2) (k * y2) = true) : mC x0 y0 x1 y1 x2 y2 k = 0 := by unfold mC; rw [h, q, r]; rfl
theorem mul_small {k x : Int} (hk : 1 ≤ k ∧ k ≤ 1000) (hx : Sml x) : -1000000 ≤ k * x ∧ k * x ≤ 1000000 := by
  have := mul_bd (A := 1000) (B := 1000) (a := k) (b := x) (by omega) (by omega) hx.1 hx.2
  omega
theorem plusTimes_0 (x y k : Int) (w : World) (h1 : Bn x) (h2 : Bn y) (h3 : Bn k) : Calls Try.prog 90 #[.agg #[.int .i64 0, .int .i64 0], .agg #[.int .i64 x, .int .i64 y], .int .i64 k] w fun e w' => e = .returned (.agg #[.int .i64 (k * x), .int .i64 (k * y)]) ∧ Below w.heap.size w w' :=
  (plusTimes_any 0 0 x y k w ⟨by decide, by decide⟩ ⟨by decide, by decide⟩ h1 h2 h3).mono fun e w' ⟨he, hw⟩ => ⟨by rw [he]; exact ret_pt (by omega) (by omega), hw⟩
/-- A block that holds a triangle. -/
def Six (W : World) (g : Nat) (a b c d e f : Int) : Prop := (W.cell? ⟨g, 0, none⟩ = some (.int .i64 a) ∧ W.cell? ⟨g, 1, none⟩ = some (.int .i64 b) ∧ W.cell? ⟨g, 2, none⟩ = some (.int .i64 c) ∧ W.cell? ⟨g, 3, none⟩ = some (.int .i64 d) ∧ W.cell? ⟨g, 4, none⟩ = some (.int .i64 e) ∧ W.cell? ⟨g, 5, none⟩ = some (.int .i64 f)) ∧ (W.frozen? ⟨g, 0, none⟩ = false ∧ W.frozen? ⟨g, 1, none⟩ = false ∧ W.frozen? ⟨g, 2, none⟩ = false ∧ W.frozen? ⟨g, 3, none⟩ = false ∧ W.frozen? ⟨g, 4, none⟩ = false ∧ W.frozen? ⟨g, 5, none⟩ = false) ∧ g < W.heap.size
theorem Six.below {W W' : World} {g : Nat} {a b c d e f : Int} (h : Six W g a b c d e f) (hb : Below W.heap.size W W') : Six W' g a b c d e f := by
  obtain ⟨⟨h0, h1, h2, h3, h4, h5⟩, ⟨f0, f1, f2, f3, f4, f5⟩, hg⟩ := h
  have he := hb.block g hg
  have hs := hb.size
  exact ⟨⟨(World.cell?_of_block (a := ⟨g, 0, none⟩) he).trans h0, (World.cell?_of_block (a := ⟨g, 1, none⟩) he).trans h1, (World.cell?_of_block (a := ⟨g, 2, none⟩) he).trans h2, (World.cell?_of_block (a := ⟨g, 3, none⟩) he).trans h3, (World.cell?_of_block (a := ⟨g, 4, none⟩) he).trans h4, (World.cell?_of_block (a := ⟨g, 5, none⟩) he).trans h5⟩,
    ⟨(World.frozen?_of_block (a := ⟨g, 0, none⟩) he).trans f0, (World.frozen?_of_block (a := ⟨g, 1, none⟩) he).trans f1, (World.frozen?_of_block (a := ⟨g, 2, none⟩) he).trans f2, (World.frozen?_of_block (a := ⟨g, 3, none⟩) he).trans f3, (World.frozen?_of_block (a := ⟨g, 4, none⟩) he).trans f4, (World.frozen?_of_block (a := ⟨g, 5, none⟩) he).trans f5⟩, by omega⟩
theorem Six.far {W : World} {g : Nat} {a b c d e f : Int} (h : Six W g a b c d e f) (p : Addr) (v : Value) (hne : g ≠ p.block) : Six (W.setCell p v) g a b c d e f := by
  obtain ⟨⟨h0, h1, h2, h3, h4, h5⟩, ⟨f0, f1, f2, f3, f4, f5⟩, hg⟩ := h
  have he := Below.heap_setCell W p v g hne
  exact ⟨⟨(World.cell?_of_block (a := ⟨g, 0, none⟩) he).trans h0, (World.cell?_of_block (a := ⟨g, 1, none⟩) he).trans h1, (World.cell?_of_block (a := ⟨g, 2, none⟩) he).trans h2, (World.cell?_of_block (a := ⟨g, 3, none⟩) he).trans h3, (World.cell?_of_block (a := ⟨g, 4, none⟩) he).trans h4, (World.cell?_of_block (a := ⟨g, 5, none⟩) he).trans h5⟩,
    ⟨(World.frozen?_of_block (a := ⟨g, 0, none⟩) he).trans f0, (World.frozen?_of_block (a := ⟨g, 1, none⟩) he).trans f1, (World.frozen?_of_block (a := ⟨g, 2, none⟩) he).trans f2, (World.frozen?_of_block (a := ⟨g, 3, none⟩) he).trans f3, (World.frozen?_of_block (a := ⟨g, 4, none⟩) he).trans f4, (World.frozen?_of_block (a := ⟨g, 5, none⟩) he).trans f5⟩, by simpa using hg⟩
theorem Six.set0 {W : World} {g : Nat} {a b c d e f : Int} (h : Six W g a b c d e f) (x y : Int) : Six ((W.setCell ⟨g, 0, none⟩ (.int .i64 x)).setCell ⟨g, 1, none⟩ (.int .i64 y)) g x y c d e f := by
  obtain ⟨⟨h0, h1, h2, h3, h4, h5⟩, ⟨f0, f1, f2, f3, f4, f5⟩, hg⟩ := h
  refine ⟨⟨?_, ?_, ?_, ?_, ?_, ?_⟩, ⟨?_, ?_, ?_, ?_, ?_, ?_⟩, ?_⟩
  all_goals first | (go_cell; done) | (simp [*]; done)
theorem Six.set1 {W : World} {g : Nat} {a b c d e f : Int} (h : Six W g a b c d e f) (x y : Int) : Six ((W.setCell ⟨g, 2, none⟩ (.int .i64 x)).setCell ⟨g, 3, none⟩ (.int .i64 y)) g a b x y e f := by
  obtain ⟨⟨h0, h1, h2, h3, h4, h5⟩, ⟨f0, f1, f2, f3, f4, f5⟩, hg⟩ := h
  refine ⟨⟨?_, ?_, ?_, ?_, ?_, ?_⟩, ⟨?_, ?_, ?_, ?_, ?_, ?_⟩, ?_⟩
  all_goals first | (go_cell; done) | (simp [*]; done)
theorem Six.set2 {W : World} {g : Nat} {a b c d e f : Int} (h : Six W g a b c d e f) (x y : Int) : Six ((W.setCell ⟨g, 4, none⟩ (.int .i64 x)).setCell ⟨g, 5, none⟩ (.int .i64 y)) g a b c d x y := by
  obtain ⟨⟨h0, h1, h2, h3, h4, h5⟩, ⟨f0, f1, f2, f3, f4, f5⟩, hg⟩ := h
  refine ⟨⟨?_, ?_, ?_, ?_, ?_, ?_⟩, ⟨?_, ?_, ?_, ?_, ?_, ?_⟩, ?_⟩
  all_goals first | (go_cell; done) | (simp [*]; done)
theorem six_new (w : World) (a b c d e f : Int) (t : TypeId) : Six (w.alloc (.cells #[.int .i64 a, .int .i64 b, .int .i64 c, .int .i64 d, .int .i64 e, .int .i64 f] t)) w.heap.size a b c d e f := by
  refine ⟨⟨?_, ?_, ?_, ?_, ?_, ?_⟩, ⟨?_, ?_, ?_, ?_, ?_, ?_⟩, ?_⟩
  all_goals first | (go_cell; done) | (simp; done)
def kv (j : Nat) (i : Nat) (k x : Int) : Int := if i < j then k * x else x
set_option maxHeartbeats 4000000 in
theorem impl_MultipleOf_any (x0 y0 x1 y1 x2 y2 k : Int) (w : World) : Calls Try.prog 56 #[.agg #[.int .i64 x0, .int .i64 y0, .int .i64 x1, .int .i64 y1, .int .i64 x2, .int .i64 y2], .int .i64 k] w fun e w' => e = .returned (.tuple #[.agg #[.int .i64 (on0 (mC x0 y0 x1 y1 x2 y2 k) (k * x0)), .int .i64 (on0 (mC x0 y0 x1 y1 x2 y2 k) (k * y0)), .int .i64 (on0 (mC x0 y0 x1 y1 x2 y2 k) (k * x1)), .int .i64 (on0 (mC x0 y0 x1 y1 x2 y2 k) (k * y1)), .int .i64 (on0 (mC x0 y0 x1 y1 x2 y2 k) (k * x2)), .int .i64 (on0 (mC x0 y0 x1 y1 x2 y2 k) (k * y2))], .int .i64 (mC x0 y0 x1 y1 x2 y2 k)]) ∧ Below w.heap.size w w' := by
  cases h : isT x0 y0 x1 y1 x2 y2
  · rw [mC_no h, on0_1, on0_1, on0_1, on0_1, on0_1, on0_1]
    have hs20 : w.heap.size < w.heap.size + 1 + 1 := (by omega); have hs30 : w.heap.size < w.heap.size + 1 + 1 + 1 := (by omega); have hs31 : w.heap.size + 1 < w.heap.size + 1 + 1 + 1 := (by omega); have hs40 : w.heap.size < w.heap.size + 1 + 1 + 1 + 1 := (by omega); have hs41 : w.heap.size + 1 < w.heap.size + 1 + 1 + 1 + 1 := (by omega); have hs42 : w.heap.size + 1 + 1 < w.heap.size + 1 + 1 + 1 + 1 := (by omega)
    go_enter Try.func56, Try.ntmps56
    go_wp2_with (first | (go_at_call 19; refine (impl_IsTriangle_any _ _ _ _ _ _ _).mono ?_; rintro e wn ⟨rfl, hb⟩; first | (have h2 := after_call2 hb hcl hfr hlt (by ((repeat' (first | (with_reducible exact Below.refl _ _) | (with_reducible refine Below.alloc ?_ ?_ _) | (with_reducible refine Below.setCell ?_ ?_ _) | (with_reducible refine Below.drew ?_) | (with_reducible refine below_drewN ?_ _) | (with_reducible assumption) | (with_reducible refine below_after (by with_reducible assumption) ?_) | go_size)); done)); obtain ⟨hclx, hfrx, hltx, hsz⟩ := after_call hb; (try simp only [World.size_alloc, World.size_setCell, World.size_drew] at hclx hfrx hltx hsz); (try (have hszl := Nat.lt_of_succ_le hsz)); obtain ⟨hcl, hfr, hlt⟩ := h2) | (obtain ⟨hcl, hfr, hlt, hsz⟩ := after_call hb; (try simp only [World.size_alloc, World.size_setCell, World.size_drew] at hcl hfr hlt hsz))))
    refine bodyPost_ret (v := .tuple #[.agg #[.int .i64 0, .int .i64 0, .int .i64 0, .int .i64 0, .int .i64 0, .int .i64 0], .int .i64 1]) (by simp (maxDischargeDepth := 8) [results, Try.results56, go_sem, *]) rfl ?_
    exact ⟨rfl, by (repeat' (first | (with_reducible exact Below.refl _ _) | (with_reducible refine Below.alloc ?_ ?_ _) | (with_reducible refine Below.setCell ?_ ?_ _) | (with_reducible refine Below.drew ?_) | (with_reducible refine below_drewN ?_ _) | (with_reducible assumption) | (with_reducible refine below_after (by with_reducible assumption) ?_) | go_size))⟩
  cases q : inB k 1 1000
  · rw [mC_range h q, on0_2, on0_2, on0_2, on0_2, on0_2, on0_2]
    have hs20 : w.heap.size < w.heap.size + 1 + 1 := (by omega); have hs30 : w.heap.size < w.heap.size + 1 + 1 + 1 := (by omega); have hs31 : w.heap.size + 1 < w.heap.size + 1 + 1 + 1 := (by omega); have hs40 : w.heap.size < w.heap.size + 1 + 1 + 1 + 1 := (by omega); have hs41 : w.heap.size + 1 < w.heap.size + 1 + 1 + 1 + 1 := (by omega); have hs42 : w.heap.size + 1 + 1 < w.heap.size + 1 + 1 + 1 + 1 := (by omega)
    go_enter Try.func56, Try.ntmps56
    go_wp2_with (first | (go_at_call 19; refine (impl_IsTriangle_any _ _ _ _ _ _ _).mono ?_; rintro e wn ⟨rfl, hb⟩; first | (have h2 := after_call2 hb hcl hfr hlt (by ((repeat' (first | (with_reducible exact Below.refl _ _) | (with_reducible refine Below.alloc ?_ ?_ _) | (with_reducible refine Below.setCell ?_ ?_ _) | (with_reducible refine Below.drew ?_) | (with_reducible refine below_drewN ?_ _) | (with_reducible assumption) | (with_reducible refine below_after (by with_reducible assumption) ?_) | go_size)); done)); obtain ⟨hclx, hfrx, hltx, hsz⟩ := after_call hb; (try simp only [World.size_alloc, World.size_setCell, World.size_drew] at hclx hfrx hltx hsz); (try (have hszl := Nat.lt_of_succ_le hsz)); obtain ⟨hcl, hfr, hlt⟩ := h2) | (obtain ⟨hcl, hfr, hlt, hsz⟩ := after_call hb; (try simp only [World.size_alloc, World.size_setCell, World.size_drew] at hcl hfr hlt hsz))) | (go_at_call 88; refine (isFactor_any _ _).mono ?_; rintro e wn ⟨rfl, rfl⟩))
    refine bodyPost_ret (v := .tuple #[.agg #[.int .i64 0, .int .i64 0, .int .i64 0, .int .i64 0, .int .i64 0, .int .i64 0], .int .i64 2]) (by simp (maxDischargeDepth := 8) [results, Try.results56, go_sem, *]) rfl ?_
    exact ⟨rfl, by (repeat' (first | (with_reducible exact Below.refl _ _) | (with_reducible refine Below.alloc ?_ ?_ _) | (with_reducible refine Below.setCell ?_ ?_ _) | (with_reducible refine Below.drew ?_) | (with_reducible refine below_drewN ?_ _) | (with_reducible assumption) | (with_reducible refine below_after (by with_reducible assumption) ?_) | go_size))⟩
  cases r : isT (k * x0) (k * y0) (k * x1) (k * y1) (k * x2) (k * y2)
  · rw [mC_limit h q r, on0_3, on0_3, on0_3, on0_3, on0_3, on0_3]
    have hk := inB_iff.1 q
    obtain ⟨s0, s1, s2, s3, s4, s5, _⟩ := isT_iff.1 h
    have m0 := mul_small hk s0
    have m1 := mul_small hk s1
    have m2 := mul_small hk s2
    have m3 := mul_small hk s3
    have m4 := mul_small hk s4
    have m5 := mul_small hk s5
    have w0 := wr (n := k * x0) (by omega) (by omega)
    have w1 := wr (n := k * y0) (by omega) (by omega)
    have w2 := wr (n := k * x1) (by omega) (by omega)
    have w3 := wr (n := k * y1) (by omega) (by omega)
    have w4 := wr (n := k * x2) (by omega) (by omega)
    have w5 := wr (n := k * y2) (by omega) (by omega)
    have HB := Lib.hid (And.intro s0.bn (And.intro s1.bn (And.intro s2.bn (And.intro s3.bn (And.intro s4.bn s5.bn)))))
    have HK := Lib.hid (show Bn k from ⟨by omega, by omega⟩)
    have rt := isT_mul h hk.1
    rw [r] at rt
    have rt2 := rt.symm
    clear s0 s1 s2 s3 s4 s5 m0 m1 m2 m3 m4 m5 hk rt
    have i0 := ixT0
    have i1 := ixT1
    have i2 := ixT2
    have hs20 : w.heap.size < w.heap.size + 1 + 1 := (by omega); have hs30 : w.heap.size < w.heap.size + 1 + 1 + 1 := (by omega); have hs31 : w.heap.size + 1 < w.heap.size + 1 + 1 + 1 := (by omega); have hs40 : w.heap.size < w.heap.size + 1 + 1 + 1 + 1 := (by omega); have hs41 : w.heap.size + 1 < w.heap.size + 1 + 1 + 1 + 1 := (by omega); have hs42 : w.heap.size + 1 + 1 < w.heap.size + 1 + 1 + 1 + 1 := (by omega)
    go_enter Try.func56, Try.ntmps56
    go_wp2_with (first | (go_at_call 19; refine (impl_IsTriangle_any _ _ _ _ _ _ _).mono ?_; rintro e wn ⟨rfl, hb⟩; first | (have h2 := after_call2 hb hcl hfr hlt (by ((repeat' (first | (with_reducible exact Below.refl _ _) | (with_reducible refine Below.alloc ?_ ?_ _) | (with_reducible refine Below.setCell ?_ ?_ _) | (with_reducible refine Below.drew ?_) | (with_reducible refine below_drewN ?_ _) | (with_reducible assumption) | (with_reducible refine below_after (by with_reducible assumption) ?_) | go_size)); done)); obtain ⟨hclx, hfrx, hltx, hsz⟩ := after_call hb; (try simp only [World.size_alloc, World.size_setCell, World.size_drew] at hclx hfrx hltx hsz); (try (have hszl := Nat.lt_of_succ_le hsz)); obtain ⟨hcl, hfr, hlt⟩ := h2) | (obtain ⟨hcl, hfr, hlt, hsz⟩ := after_call hb; (try simp only [World.size_alloc, World.size_setCell, World.size_drew] at hcl hfr hlt hsz))) | (go_at_call 88; refine (isFactor_any _ _).mono ?_; rintro e wn ⟨rfl, rfl⟩))
    go_loopw [17] (fun i wr => ∃ j : Nat, j ≤ 3 ∧ i = .int .i64 j ∧ Six wr w.heap.size (kv j 0 k x0) (kv j 0 k y0) (kv j 1 k x1) (kv j 1 k y1) (kv j 2 k x2) (kv j 2 k y2) ∧ Six wr (w.heap.size + 1) 0 0 0 0 0 0 ∧ Below w.heap.size w wr ∧ w.heap.size + 2 ≤ wr.heap.size) (fun i _ => 3 - (intOf i).toNat)
    case atStart => exact ⟨0, by omega, rfl, by show Six _ _ x0 y0 x1 y1 x2 y2; exact Six.below (six_new w x0 y0 x1 y1 x2 y2 27) (by (repeat' (first | (with_reducible exact Below.refl _ _) | (with_reducible refine Below.alloc ?_ ?_ _) | (with_reducible refine Below.setCell ?_ ?_ _) | (with_reducible refine Below.drew ?_) | (with_reducible refine below_drewN ?_ _) | (with_reducible assumption) | (with_reducible refine below_after (by with_reducible assumption) ?_) | go_size))), Six.below (by have h6 := six_new (w.alloc (.cells #[.int .i64 x0, .int .i64 y0, .int .i64 x1, .int .i64 y1, .int .i64 x2, .int .i64 y2] 27)) 0 0 0 0 0 0 27; rw [World.size_alloc] at h6; exact h6) (by (repeat' (first | (with_reducible exact Below.refl _ _) | (with_reducible refine Below.alloc ?_ ?_ _) | (with_reducible refine Below.setCell ?_ ?_ _) | (with_reducible refine Below.drew ?_) | (with_reducible refine below_drewN ?_ _) | (with_reducible assumption) | (with_reducible refine below_after (by with_reducible assumption) ?_) | go_size))), by (repeat' (first | (with_reducible exact Below.refl _ _) | (with_reducible refine Below.alloc ?_ ?_ _) | (with_reducible refine Below.setCell ?_ ?_ _) | (with_reducible refine Below.drew ?_) | (with_reducible refine below_drewN ?_ _) | (with_reducible assumption) | (with_reducible refine below_after (by with_reducible assumption) ?_) | go_size)), by simp only [World.size_alloc, World.size_drew, World.size_setCell] at *; omega⟩
    case round =>
      obtain ⟨j, hj, rfl, hsix, hz6, hbel, hsz2⟩ := hrel
      obtain ⟨⟨z0, z1, z2, z3, z4, z5⟩, ⟨y0', y1', y2', y3', y4', y5'⟩, hzg⟩ := id hz6
      (repeat (first | clear hb | clear hcl | clear hfr | clear hlt | clear hclx | clear hfrx | clear hltx))
      have hc : j = 0 ∨ j = 1 ∨ j = 2 ∨ j = 3 := by omega
      rcases hc with rfl | rfl | rfl | rfl
      · have hsix : Six wr w.heap.size x0 y0 x1 y1 x2 y2 := hsix
        obtain ⟨⟨c0, c1, c2, c3, c4, c5⟩, ⟨f0, f1, f2, f3, f4, f5⟩, hg⟩ := id hsix
        go_wp2_with (first | (go_at_call 90; refine (plusTimes_0 _ _ _ _ (by first | exact HB.out.1 | exact HB.out.2.2.1 | exact HB.out.2.2.2.2.1) (by first | exact HB.out.2.1 | exact HB.out.2.2.2.1 | exact HB.out.2.2.2.2.2) HK.out).mono ?_; rintro e wn ⟨rfl, hb⟩; first | (have h2 := after_call2 hb hcl hfr hlt (by ((repeat' (first | (with_reducible exact Below.refl _ _) | (with_reducible refine Below.alloc ?_ ?_ _) | (with_reducible refine Below.setCell ?_ ?_ _) | (with_reducible refine Below.drew ?_) | (with_reducible refine below_drewN ?_ _) | (with_reducible assumption) | (with_reducible refine below_after (by with_reducible assumption) ?_) | go_size)); done)); obtain ⟨hclx, hfrx, hltx, hsz⟩ := after_call hb; (try simp only [World.size_alloc, World.size_setCell, World.size_drew] at hclx hfrx hltx hsz); (try (have hszl := Nat.lt_of_succ_le hsz)); obtain ⟨hcl, hfr, hlt⟩ := h2) | (obtain ⟨hcl, hfr, hlt, hsz⟩ := after_call hb; (try simp only [World.size_alloc, World.size_setCell, World.size_drew] at hcl hfr hlt hsz))))
        go_roundw
        case rel => exact ⟨1, by omega, by go_num, Six.set0 (hsix.below (by (repeat' (first | (with_reducible exact Below.refl _ _) | (with_reducible refine Below.alloc ?_ ?_ _) | (with_reducible refine Below.setCell ?_ ?_ _) | (with_reducible refine Below.drew ?_) | (with_reducible refine below_drewN ?_ _) | (with_reducible assumption) | (with_reducible refine below_after (by with_reducible assumption) ?_) | go_size)))) (k * x0) (k * y0), ((hz6.below (by (repeat' (first | (with_reducible exact Below.refl _ _) | (with_reducible refine Below.alloc ?_ ?_ _) | (with_reducible refine Below.setCell ?_ ?_ _) | (with_reducible refine Below.drew ?_) | (with_reducible refine below_drewN ?_ _) | (with_reducible assumption) | (with_reducible refine below_after (by with_reducible assumption) ?_) | go_size)))).far _ _ (by show w.heap.size + 1 ≠ w.heap.size; omega)).far _ _ (by show w.heap.size + 1 ≠ w.heap.size; omega), by (repeat' (first | (with_reducible exact Below.refl _ _) | (with_reducible refine Below.alloc ?_ ?_ _) | (with_reducible refine Below.setCell ?_ ?_ _) | (with_reducible refine Below.drew ?_) | (with_reducible refine below_drewN ?_ _) | (with_reducible assumption) | (with_reducible refine below_after (by with_reducible assumption) ?_) | go_size)), by simp only [World.size_alloc, World.size_drew, World.size_setCell] at *; omega⟩
        case measure => simp [intOf]
      · have hsix : Six wr w.heap.size (k * x0) (k * y0) x1 y1 x2 y2 := hsix
        obtain ⟨⟨c0, c1, c2, c3, c4, c5⟩, ⟨f0, f1, f2, f3, f4, f5⟩, hg⟩ := id hsix
        go_wp2_with (first | (go_at_call 90; refine (plusTimes_0 _ _ _ _ (by first | exact HB.out.1 | exact HB.out.2.2.1 | exact HB.out.2.2.2.2.1) (by first | exact HB.out.2.1 | exact HB.out.2.2.2.1 | exact HB.out.2.2.2.2.2) HK.out).mono ?_; rintro e wn ⟨rfl, hb⟩; first | (have h2 := after_call2 hb hcl hfr hlt (by ((repeat' (first | (with_reducible exact Below.refl _ _) | (with_reducible refine Below.alloc ?_ ?_ _) | (with_reducible refine Below.setCell ?_ ?_ _) | (with_reducible refine Below.drew ?_) | (with_reducible refine below_drewN ?_ _) | (with_reducible assumption) | (with_reducible refine below_after (by with_reducible assumption) ?_) | go_size)); done)); obtain ⟨hclx, hfrx, hltx, hsz⟩ := after_call hb; (try simp only [World.size_alloc, World.size_setCell, World.size_drew] at hclx hfrx hltx hsz); (try (have hszl := Nat.lt_of_succ_le hsz)); obtain ⟨hcl, hfr, hlt⟩ := h2) | (obtain ⟨hcl, hfr, hlt, hsz⟩ := after_call hb; (try simp only [World.size_alloc, World.size_setCell, World.size_drew] at hcl hfr hlt hsz))))
        go_roundw
        case rel => exact ⟨2, by omega, by go_num, Six.set1 (hsix.below (by (repeat' (first | (with_reducible exact Below.refl _ _) | (with_reducible refine Below.alloc ?_ ?_ _) | (with_reducible refine Below.setCell ?_ ?_ _) | (with_reducible refine Below.drew ?_) | (with_reducible refine below_drewN ?_ _) | (with_reducible assumption) | (with_reducible refine below_after (by with_reducible assumption) ?_) | go_size)))) (k * x1) (k * y1), ((hz6.below (by (repeat' (first | (with_reducible exact Below.refl _ _) | (with_reducible refine Below.alloc ?_ ?_ _) | (with_reducible refine Below.setCell ?_ ?_ _) | (with_reducible refine Below.drew ?_) | (with_reducible refine below_drewN ?_ _) | (with_reducible assumption) | (with_reducible refine below_after (by with_reducible assumption) ?_) | go_size)))).far _ _ (by show w.heap.size + 1 ≠ w.heap.size; omega)).far _ _ (by show w.heap.size + 1 ≠ w.heap.size; omega), by (repeat' (first | (with_reducible exact Below.refl _ _) | (with_reducible refine Below.alloc ?_ ?_ _) | (with_reducible refine Below.setCell ?_ ?_ _) | (with_reducible refine Below.drew ?_) | (with_reducible refine below_drewN ?_ _) | (with_reducible assumption) | (with_reducible refine below_after (by with_reducible assumption) ?_) | go_size)), by simp only [World.size_alloc, World.size_drew, World.size_setCell] at *; omega⟩
        case measure => simp [intOf]
      · have hsix : Six wr w.heap.size (k * x0) (k * y0) (k * x1) (k * y1) x2 y2 := hsix
        obtain ⟨⟨c0, c1, c2, c3, c4, c5⟩, ⟨f0, f1, f2, f3, f4, f5⟩, hg⟩ := id hsix
        go_wp2_with (first | (go_at_call 90; refine (plusTimes_0 _ _ _ _ (by first | exact HB.out.1 | exact HB.out.2.2.1 | exact HB.out.2.2.2.2.1) (by first | exact HB.out.2.1 | exact HB.out.2.2.2.1 | exact HB.out.2.2.2.2.2) HK.out).mono ?_; rintro e wn ⟨rfl, hb⟩; first | (have h2 := after_call2 hb hcl hfr hlt (by ((repeat' (first | (with_reducible exact Below.refl _ _) | (with_reducible refine Below.alloc ?_ ?_ _) | (with_reducible refine Below.setCell ?_ ?_ _) | (with_reducible refine Below.drew ?_) | (with_reducible refine below_drewN ?_ _) | (with_reducible assumption) | (with_reducible refine below_after (by with_reducible assumption) ?_) | go_size)); done)); obtain ⟨hclx, hfrx, hltx, hsz⟩ := after_call hb; (try simp only [World.size_alloc, World.size_setCell, World.size_drew] at hclx hfrx hltx hsz); (try (have hszl := Nat.lt_of_succ_le hsz)); obtain ⟨hcl, hfr, hlt⟩ := h2) | (obtain ⟨hcl, hfr, hlt, hsz⟩ := after_call hb; (try simp only [World.size_alloc, World.size_setCell, World.size_drew] at hcl hfr hlt hsz))))
        go_roundw
        case rel => exact ⟨3, by omega, by go_num, Six.set2 (hsix.below (by (repeat' (first | (with_reducible exact Below.refl _ _) | (with_reducible refine Below.alloc ?_ ?_ _) | (with_reducible refine Below.setCell ?_ ?_ _) | (with_reducible refine Below.drew ?_) | (with_reducible refine below_drewN ?_ _) | (with_reducible assumption) | (with_reducible refine below_after (by with_reducible assumption) ?_) | go_size)))) (k * x2) (k * y2), ((hz6.below (by (repeat' (first | (with_reducible exact Below.refl _ _) | (with_reducible refine Below.alloc ?_ ?_ _) | (with_reducible refine Below.setCell ?_ ?_ _) | (with_reducible refine Below.drew ?_) | (with_reducible refine below_drewN ?_ _) | (with_reducible assumption) | (with_reducible refine below_after (by with_reducible assumption) ?_) | go_size)))).far _ _ (by show w.heap.size + 1 ≠ w.heap.size; omega)).far _ _ (by show w.heap.size + 1 ≠ w.heap.size; omega), by (repeat' (first | (with_reducible exact Below.refl _ _) | (with_reducible refine Below.alloc ?_ ?_ _) | (with_reducible refine Below.setCell ?_ ?_ _) | (with_reducible refine Below.drew ?_) | (with_reducible refine below_drewN ?_ _) | (with_reducible assumption) | (with_reducible refine below_after (by with_reducible assumption) ?_) | go_size)), by simp only [World.size_alloc, World.size_drew, World.size_setCell] at *; omega⟩
        case measure => simp [intOf]
      · have hsix : Six wr w.heap.size (k * x0) (k * y0) (k * x1) (k * y1) (k * x2) (k * y2) := hsix
        obtain ⟨⟨c0, c1, c2, c3, c4, c5⟩, ⟨f0, f1, f2, f3, f4, f5⟩, hg⟩ := id hsix
        go_wp2_with (first | (go_at_call 64; refine (isSmall_any _ _ _ _ _ _ _).mono ?_; rintro e wn ⟨rfl, hb⟩; first | (have h2 := after_call2 hb hcl hfr hlt (by ((repeat' (first | (with_reducible exact Below.refl _ _) | (with_reducible refine Below.alloc ?_ ?_ _) | (with_reducible refine Below.setCell ?_ ?_ _) | (with_reducible refine Below.drew ?_) | (with_reducible refine below_drewN ?_ _) | (with_reducible assumption) | (with_reducible refine below_after (by with_reducible assumption) ?_) | go_size)); done)); obtain ⟨hclx, hfrx, hltx, hsz⟩ := after_call hb; (try simp only [World.size_alloc, World.size_setCell, World.size_drew] at hclx hfrx hltx hsz); (try (have hszl := Nat.lt_of_succ_le hsz)); obtain ⟨hcl, hfr, hlt⟩ := h2) | (obtain ⟨hcl, hfr, hlt, hsz⟩ := after_call hb; (try simp only [World.size_alloc, World.size_setCell, World.size_drew] at hcl hfr hlt hsz))))
        refine bodyPost_ret (v := .tuple #[.agg #[.int .i64 0, .int .i64 0, .int .i64 0, .int .i64 0, .int .i64 0, .int .i64 0], .int .i64 3]) (by simp (maxDischargeDepth := 8) [results, Try.results56, go_sem, *]) rfl ?_
        exact ⟨rfl, by (repeat' (first | (with_reducible exact Below.refl _ _) | (with_reducible refine Below.alloc ?_ ?_ _) | (with_reducible refine Below.setCell ?_ ?_ _) | (with_reducible refine Below.drew ?_) | (with_reducible refine below_drewN ?_ _) | (with_reducible assumption) | (with_reducible refine below_after (by with_reducible assumption) ?_) | go_size))⟩
  · rw [mC_yes h q r, on0_0, on0_0, on0_0, on0_0, on0_0, on0_0]
    have hk := inB_iff.1 q
    obtain ⟨s0, s1, s2, s3, s4, s5, _⟩ := isT_iff.1 h
    have m0 := mul_small hk s0
    have m1 := mul_small hk s1
    have m2 := mul_small hk s2
    have m3 := mul_small hk s3
    have m4 := mul_small hk s4
    have m5 := mul_small hk s5
    have w0 := wr (n := k * x0) (by omega) (by omega)
    have w1 := wr (n := k * y0) (by omega) (by omega)
    have w2 := wr (n := k * x1) (by omega) (by omega)
    have w3 := wr (n := k * y1) (by omega) (by omega)
    have w4 := wr (n := k * x2) (by omega) (by omega)
    have w5 := wr (n := k * y2) (by omega) (by omega)
    have HB := Lib.hid (And.intro s0.bn (And.intro s1.bn (And.intro s2.bn (And.intro s3.bn (And.intro s4.bn s5.bn)))))
    have HK := Lib.hid (show Bn k from ⟨by omega, by omega⟩)
    have rt := isT_mul h hk.1
    rw [r] at rt
    have rt2 := rt.symm
    clear s0 s1 s2 s3 s4 s5 m0 m1 m2 m3 m4 m5 hk rt
    have i0 := ixT0
    have i1 := ixT1
    have i2 := ixT2
    have hs20 : w.heap.size < w.heap.size + 1 + 1 := (by omega); have hs30 : w.heap.size < w.heap.size + 1 + 1 + 1 := (by omega); have hs31 : w.heap.size + 1 < w.heap.size + 1 + 1 + 1 := (by omega); have hs40 : w.heap.size < w.heap.size + 1 + 1 + 1 + 1 := (by omega); have hs41 : w.heap.size + 1 < w.heap.size + 1 + 1 + 1 + 1 := (by omega); have hs42 : w.heap.size + 1 + 1 < w.heap.size + 1 + 1 + 1 + 1 := (by omega)
    go_enter Try.func56, Try.ntmps56
    go_wp2_with (first | (go_at_call 19; refine (impl_IsTriangle_any _ _ _ _ _ _ _).mono ?_; rintro e wn ⟨rfl, hb⟩; first | (have h2 := after_call2 hb hcl hfr hlt (by ((repeat' (first | (with_reducible exact Below.refl _ _) | (with_reducible refine Below.alloc ?_ ?_ _) | (with_reducible refine Below.setCell ?_ ?_ _) | (with_reducible refine Below.drew ?_) | (with_reducible refine below_drewN ?_ _) | (with_reducible assumption) | (with_reducible refine below_after (by with_reducible assumption) ?_) | go_size)); done)); obtain ⟨hclx, hfrx, hltx, hsz⟩ := after_call hb; (try simp only [World.size_alloc, World.size_setCell, World.size_drew] at hclx hfrx hltx hsz); (try (have hszl := Nat.lt_of_succ_le hsz)); obtain ⟨hcl, hfr, hlt⟩ := h2) | (obtain ⟨hcl, hfr, hlt, hsz⟩ := after_call hb; (try simp only [World.size_alloc, World.size_setCell, World.size_drew] at hcl hfr hlt hsz))) | (go_at_call 88; refine (isFactor_any _ _).mono ?_; rintro e wn ⟨rfl, rfl⟩))
    go_loopw [17] (fun i wr => ∃ j : Nat, j ≤ 3 ∧ i = .int .i64 j ∧ Six wr w.heap.size (kv j 0 k x0) (kv j 0 k y0) (kv j 1 k x1) (kv j 1 k y1) (kv j 2 k x2) (kv j 2 k y2) ∧ Six wr (w.heap.size + 1) 0 0 0 0 0 0 ∧ Below w.heap.size w wr ∧ w.heap.size + 2 ≤ wr.heap.size) (fun i _ => 3 - (intOf i).toNat)
    case atStart => exact ⟨0, by omega, rfl, by show Six _ _ x0 y0 x1 y1 x2 y2; exact Six.below (six_new w x0 y0 x1 y1 x2 y2 27) (by (repeat' (first | (with_reducible exact Below.refl _ _) | (with_reducible refine Below.alloc ?_ ?_ _) | (with_reducible refine Below.setCell ?_ ?_ _) | (with_reducible refine Below.drew ?_) | (with_reducible refine below_drewN ?_ _) | (with_reducible assumption) | (with_reducible refine below_after (by with_reducible assumption) ?_) | go_size))), Six.below (by have h6 := six_new (w.alloc (.cells #[.int .i64 x0, .int .i64 y0, .int .i64 x1, .int .i64 y1, .int .i64 x2, .int .i64 y2] 27)) 0 0 0 0 0 0 27; rw [World.size_alloc] at h6; exact h6) (by (repeat' (first | (with_reducible exact Below.refl _ _) | (with_reducible refine Below.alloc ?_ ?_ _) | (with_reducible refine Below.setCell ?_ ?_ _) | (with_reducible refine Below.drew ?_) | (with_reducible refine below_drewN ?_ _) | (with_reducible assumption) | (with_reducible refine below_after (by with_reducible assumption) ?_) | go_size))), by (repeat' (first | (with_reducible exact Below.refl _ _) | (with_reducible refine Below.alloc ?_ ?_ _) | (with_reducible refine Below.setCell ?_ ?_ _) | (with_reducible refine Below.drew ?_) | (with_reducible refine below_drewN ?_ _) | (with_reducible assumption) | (with_reducible refine below_after (by with_reducible assumption) ?_) | go_size)), by simp only [World.size_alloc, World.size_drew, World.size_setCell] at *; omega⟩
    case round =>
      obtain ⟨j, hj, rfl, hsix, hz6, hbel, hsz2⟩ := hrel
      obtain ⟨⟨z0, z1, z2, z3, z4, z5⟩, ⟨y0', y1', y2', y3', y4', y5'⟩, hzg⟩ := id hz6
      (repeat (first | clear hb | clear hcl | clear hfr | clear hlt | clear hclx | clear hfrx | clear hltx))
      have hc : j = 0 ∨ j = 1 ∨ j = 2 ∨ j = 3 := by omega
      rcases hc with rfl | rfl | rfl | rfl
      · have hsix : Six wr w.heap.size x0 y0 x1 y1 x2 y2 := hsix
        obtain ⟨⟨c0, c1, c2, c3, c4, c5⟩, ⟨f0, f1, f2, f3, f4, f5⟩, hg⟩ := id hsix
        go_wp2_with (first | (go_at_call 90; refine (plusTimes_0 _ _ _ _ (by first | exact HB.out.1 | exact HB.out.2.2.1 | exact HB.out.2.2.2.2.1) (by first | exact HB.out.2.1 | exact HB.out.2.2.2.1 | exact HB.out.2.2.2.2.2) HK.out).mono ?_; rintro e wn ⟨rfl, hb⟩; first | (have h2 := after_call2 hb hcl hfr hlt (by ((repeat' (first | (with_reducible exact Below.refl _ _) | (with_reducible refine Below.alloc ?_ ?_ _) | (with_reducible refine Below.setCell ?_ ?_ _) | (with_reducible refine Below.drew ?_) | (with_reducible refine below_drewN ?_ _) | (with_reducible assumption) | (with_reducible refine below_after (by with_reducible assumption) ?_) | go_size)); done)); obtain ⟨hclx, hfrx, hltx, hsz⟩ := after_call hb; (try simp only [World.size_alloc, World.size_setCell, World.size_drew] at hclx hfrx hltx hsz); (try (have hszl := Nat.lt_of_succ_le hsz)); obtain ⟨hcl, hfr, hlt⟩ := h2) | (obtain ⟨hcl, hfr, hlt, hsz⟩ := after_call hb; (try simp only [World.size_alloc, World.size_setCell, World.size_drew] at hcl hfr hlt hsz))))
        go_roundw
        case rel => exact ⟨1, by omega, by go_num, Six.set0 (hsix.below (by (repeat' (first | (with_reducible exact Below.refl _ _) | (with_reducible refine Below.alloc ?_ ?_ _) | (with_reducible refine Below.setCell ?_ ?_ _) | (with_reducible refine Below.drew ?_) | (with_reducible refine below_drewN ?_ _) | (with_reducible assumption) | (with_reducible refine below_after (by with_reducible assumption) ?_) | go_size)))) (k * x0) (k * y0), ((hz6.below (by (repeat' (first | (with_reducible exact Below.refl _ _) | (with_reducible refine Below.alloc ?_ ?_ _) | (with_reducible refine Below.setCell ?_ ?_ _) | (with_reducible refine Below.drew ?_) | (with_reducible refine below_drewN ?_ _) | (with_reducible assumption) | (with_reducible refine below_after (by with_reducible assumption) ?_) | go_size)))).far _ _ (by show w.heap.size + 1 ≠ w.heap.size; omega)).far _ _ (by show w.heap.size + 1 ≠ w.heap.size; omega), by (repeat' (first | (with_reducible exact Below.refl _ _) | (with_reducible refine Below.alloc ?_ ?_ _) | (with_reducible refine Below.setCell ?_ ?_ _) | (with_reducible refine Below.drew ?_) | (with_reducible refine below_drewN ?_ _) | (with_reducible assumption) | (with_reducible refine below_after (by with_reducible assumption) ?_) | go_size)), by simp only [World.size_alloc, World.size_drew, World.size_setCell] at *; omega⟩
        case measure => simp [intOf]
      · have hsix : Six wr w.heap.size (k * x0) (k * y0) x1 y1 x2 y2 := hsix
        obtain ⟨⟨c0, c1, c2, c3, c4, c5⟩, ⟨f0, f1, f2, f3, f4, f5⟩, hg⟩ := id hsix
        go_wp2_with (first | (go_at_call 90; refine (plusTimes_0 _ _ _ _ (by first | exact HB.out.1 | exact HB.out.2.2.1 | exact HB.out.2.2.2.2.1) (by first | exact HB.out.2.1 | exact HB.out.2.2.2.1 | exact HB.out.2.2.2.2.2) HK.out).mono ?_; rintro e wn ⟨rfl, hb⟩; first | (have h2 := after_call2 hb hcl hfr hlt (by ((repeat' (first | (with_reducible exact Below.refl _ _) | (with_reducible refine Below.alloc ?_ ?_ _) | (with_reducible refine Below.setCell ?_ ?_ _) | (with_reducible refine Below.drew ?_) | (with_reducible refine below_drewN ?_ _) | (with_reducible assumption) | (with_reducible refine below_after (by with_reducible assumption) ?_) | go_size)); done)); obtain ⟨hclx, hfrx, hltx, hsz⟩ := after_call hb; (try simp only [World.size_alloc, World.size_setCell, World.size_drew] at hclx hfrx hltx hsz); (try (have hszl := Nat.lt_of_succ_le hsz)); obtain ⟨hcl, hfr, hlt⟩ := h2) | (obtain ⟨hcl, hfr, hlt, hsz⟩ := after_call hb; (try simp only [World.size_alloc, World.size_setCell, World.size_drew] at hcl hfr hlt hsz))))
        go_roundw
        case rel => exact ⟨2, by omega, by go_num, Six.set1 (hsix.below (by (repeat' (first | (with_reducible exact Below.refl _ _) | (with_reducible refine Below.alloc ?_ ?_ _) | (with_reducible refine Below.setCell ?_ ?_ _) | (with_reducible refine Below.drew ?_) | (with_reducible refine below_drewN ?_ _) | (with_reducible assumption) | (with_reducible refine below_after (by with_reducible assumption) ?_) | go_size)))) (k * x1) (k * y1), ((hz6.below (by (repeat' (first | (with_reducible exact Below.refl _ _) | (with_reducible refine Below.alloc ?_ ?_ _) | (with_reducible refine Below.setCell ?_ ?_ _) | (with_reducible refine Below.drew ?_) | (with_reducible refine below_drewN ?_ _) | (with_reducible assumption) | (with_reducible refine below_after (by with_reducible assumption) ?_) | go_size)))).far _ _ (by show w.heap.size + 1 ≠ w.heap.size; omega)).far _ _ (by show w.heap.size + 1 ≠ w.heap.size; omega), by (repeat' (first | (with_reducible exact Below.refl _ _) | (with_reducible refine Below.alloc ?_ ?_ _) | (with_reducible refine Below.setCell ?_ ?_ _) | (with_reducible refine Below.drew ?_) | (with_reducible refine below_drewN ?_ _) | (with_reducible assumption) | (with_reducible refine below_after (by with_reducible assumption) ?_) | go_size)), by simp only [World.size_alloc, World.size_drew, World.size_setCell] at *; omega⟩
        case measure => simp [intOf]
      · have hsix : Six wr w.heap.size (k * x0) (k * y0) (k * x1) (k * y1) x2 y2 := hsix
        obtain ⟨⟨c0, c1, c2, c3, c4, c5⟩, ⟨f0, f1, f2, f3, f4, f5⟩, hg⟩ := id hsix
        go_wp2_with (first | (go_at_call 90; refine (plusTimes_0 _ _ _ _ (by first | exact HB.out.1 | exact HB.out.2.2.1 | exact HB.out.2.2.2.2.1) (by first | exact HB.out.2.1 | exact HB.out.2.2.2.1 | exact HB.out.2.2.2.2.2) HK.out).mono ?_; rintro e wn ⟨rfl, hb⟩; first | (have h2 := after_call2 hb hcl hfr hlt (by ((repeat' (first | (with_reducible exact Below.refl _ _) | (with_reducible refine Below.alloc ?_ ?_ _) | (with_reducible refine Below.setCell ?_ ?_ _) | (with_reducible refine Below.drew ?_) | (with_reducible refine below_drewN ?_ _) | (with_reducible assumption) | (with_reducible refine below_after (by with_reducible assumption) ?_) | go_size)); done)); obtain ⟨hclx, hfrx, hltx, hsz⟩ := after_call hb; (try simp only [World.size_alloc, World.size_setCell, World.size_drew] at hclx hfrx hltx hsz); (try (have hszl := Nat.lt_of_succ_le hsz)); obtain ⟨hcl, hfr, hlt⟩ := h2) | (obtain ⟨hcl, hfr, hlt, hsz⟩ := after_call hb; (try simp only [World.size_alloc, World.size_setCell, World.size_drew] at hcl hfr hlt hsz))))
        go_roundw
        case rel => exact ⟨3, by omega, by go_num, Six.set2 (hsix.below (by (repeat' (first | (with_reducible exact Below.refl _ _) | (with_reducible refine Below.alloc ?_ ?_ _) | (with_reducible refine Below.setCell ?_ ?_ _) | (with_reducible refine Below.drew ?_) | (with_reducible refine below_drewN ?_ _) | (with_reducible assumption) | (with_reducible refine below_after (by with_reducible assumption) ?_) | go_size)))) (k * x2) (k * y2), ((hz6.below (by (repeat' (first | (with_reducible exact Below.refl _ _) | (with_reducible refine Below.alloc ?_ ?_ _) | (with_reducible refine Below.setCell ?_ ?_ _) | (with_reducible refine Below.drew ?_) | (with_reducible refine below_drewN ?_ _) | (with_reducible assumption) | (with_reducible refine below_after (by with_reducible assumption) ?_) | go_size)))).far _ _ (by show w.heap.size + 1 ≠ w.heap.size; omega)).far _ _ (by show w.heap.size + 1 ≠ w.heap.size; omega), by (repeat' (first | (with_reducible exact Below.refl _ _) | (with_reducible refine Below.alloc ?_ ?_ _) | (with_reducible refine Below.setCell ?_ ?_ _) | (with_reducible refine Below.drew ?_) | (with_reducible refine below_drewN ?_ _) | (with_reducible assumption) | (with_reducible refine below_after (by with_reducible assumption) ?_) | go_size)), by simp only [World.size_alloc, World.size_drew, World.size_setCell] at *; omega⟩
        case measure => simp [intOf]
      · have hsix : Six wr w.heap.size (k * x0) (k * y0) (k * x1) (k * y1) (k * x2) (k * y2) := hsix
        obtain ⟨⟨c0, c1, c2, c3, c4, c5⟩, ⟨f0, f1, f2, f3, f4, f5⟩, hg⟩ := id hsix
        go_wp2_with (first | (go_at_call 64; refine (isSmall_any _ _ _ _ _ _ _).mono ?_; rintro e wn ⟨rfl, hb⟩; first | (have h2 := after_call2 hb hcl hfr hlt (by ((repeat' (first | (with_reducible exact Below.refl _ _) | (with_reducible refine Below.alloc ?_ ?_ _) | (with_reducible refine Below.setCell ?_ ?_ _) | (with_reducible refine Below.drew ?_) | (with_reducible refine below_drewN ?_ _) | (with_reducible assumption) | (with_reducible refine below_after (by with_reducible assumption) ?_) | go_size)); done)); obtain ⟨hclx, hfrx, hltx, hsz⟩ := after_call hb; (try simp only [World.size_alloc, World.size_setCell, World.size_drew] at hclx hfrx hltx hsz); (try (have hszl := Nat.lt_of_succ_le hsz)); obtain ⟨hcl, hfr, hlt⟩ := h2) | (obtain ⟨hcl, hfr, hlt, hsz⟩ := after_call hb; (try simp only [World.size_alloc, World.size_setCell, World.size_drew] at hcl hfr hlt hsz))))
        refine bodyPost_ret (v := .tuple #[.agg #[.int .i64 (k * x0), .int .i64 (k * y0), .int .i64 (k * x1), .int .i64 (k * y1), .int .i64 (k * x2), .int .i64 (k * y2)], .int .i64 0]) (by simp (maxDischargeDepth := 8) [results, Try.results56, go_sem, *]) rfl ?_
        exact ⟨rfl, by (repeat' (first | (with_reducible exact Below.refl _ _) | (with_reducible refine Below.alloc ?_ ?_ _) | (with_reducible refine Below.setCell ?_ ?_ _) | (with_reducible refine Below.drew ?_) | (with_reducible refine below_drewN ?_ _) | (with_reducible assumption) | (with_reducible refine below_after (by with_reducible assumption) ?_) | go_size))⟩
set_option maxHeartbeats 4000000 in
theorem spec_MultipleOf_any (x0 y0 x1 y1 x2 y2 k : Int) (w : World) : Calls Try.prog 55 #[.agg #[.int .i64 x0, .int .i64 y0, .int .i64 x1, .int .i64 y1, .int .i64 x2, .int .i64 y2], .int .i64 k] w fun e w' => e = .returned (.tuple #[.agg #[.int .i64 (on0 (mC x0 y0 x1 y1 x2 y2 k) (k * x0)), .int .i64 (on0 (mC x0 y0 x1 y1 x2 y2 k) (k * y0)), .int .i64 (on0 (mC x0 y0 x1 y1 x2 y2 k) (k * x1)), .int .i64 (on0 (mC x0 y0 x1 y1 x2 y2 k) (k * y1)), .int .i64 (on0 (mC x0 y0 x1 y1 x2 y2 k) (k * x2)), .int .i64 (on0 (mC x0 y0 x1 y1 x2 y2 k) (k * y2))], .int .i64 (mC x0 y0 x1 y1 x2 y2 k)]) ∧ Below w.heap.size w w' := by
  cases h : isT x0 y0 x1 y1 x2 y2
  · rw [mC_no h, on0_1, on0_1, on0_1, on0_1, on0_1, on0_1]
    have hs20 : w.heap.size < w.heap.size + 1 + 1 := (by omega); have hs30 : w.heap.size < w.heap.size + 1 + 1 + 1 := (by omega); have hs31 : w.heap.size + 1 < w.heap.size + 1 + 1 + 1 := (by omega); have hs40 : w.heap.size < w.heap.size + 1 + 1 + 1 + 1 := (by omega); have hs41 : w.heap.size + 1 < w.heap.size + 1 + 1 + 1 + 1 := (by omega); have hs42 : w.heap.size + 1 + 1 < w.heap.size + 1 + 1 + 1 + 1 := (by omega)
    go_enter Try.func55, Try.ntmps55
    go_wp2_with (first | (go_at_call 62; refine (l04Is_any _ _ _ _ _ _ _).mono ?_; rintro e wn ⟨rfl, hb⟩; first | (have h2 := after_call2 hb hcl hfr hlt (by ((repeat' (first | (with_reducible exact Below.refl _ _) | (with_reducible refine Below.alloc ?_ ?_ _) | (with_reducible refine Below.setCell ?_ ?_ _) | (with_reducible refine Below.drew ?_) | (with_reducible refine below_drewN ?_ _) | (with_reducible assumption) | (with_reducible refine below_after (by with_reducible assumption) ?_) | go_size)); done)); obtain ⟨hclx, hfrx, hltx, hsz⟩ := after_call hb; (try simp only [World.size_alloc, World.size_setCell, World.size_drew] at hclx hfrx hltx hsz); (try (have hszl := Nat.lt_of_succ_le hsz)); obtain ⟨hcl, hfr, hlt⟩ := h2) | (obtain ⟨hcl, hfr, hlt, hsz⟩ := after_call hb; (try simp only [World.size_alloc, World.size_setCell, World.size_drew] at hcl hfr hlt hsz))))
    refine bodyPost_ret (v := .tuple #[.agg #[.int .i64 0, .int .i64 0, .int .i64 0, .int .i64 0, .int .i64 0, .int .i64 0], .int .i64 1]) (by simp (maxDischargeDepth := 8) [results, Try.results55, go_sem, *]) rfl ?_
    exact ⟨rfl, by (repeat' (first | (with_reducible exact Below.refl _ _) | (with_reducible refine Below.alloc ?_ ?_ _) | (with_reducible refine Below.setCell ?_ ?_ _) | (with_reducible refine Below.drew ?_) | (with_reducible refine below_drewN ?_ _) | (with_reducible assumption) | (with_reducible refine below_after (by with_reducible assumption) ?_) | go_size))⟩
  cases q : inB k 1 1000
  · rw [mC_range h q, on0_2, on0_2, on0_2, on0_2, on0_2, on0_2]
    have hs20 : w.heap.size < w.heap.size + 1 + 1 := (by omega); have hs30 : w.heap.size < w.heap.size + 1 + 1 + 1 := (by omega); have hs31 : w.heap.size + 1 < w.heap.size + 1 + 1 + 1 := (by omega); have hs40 : w.heap.size < w.heap.size + 1 + 1 + 1 + 1 := (by omega); have hs41 : w.heap.size + 1 < w.heap.size + 1 + 1 + 1 + 1 := (by omega); have hs42 : w.heap.size + 1 + 1 < w.heap.size + 1 + 1 + 1 + 1 := (by omega)
    go_enter Try.func55, Try.ntmps55
    go_wp2_with (first | (go_at_call 62; refine (l04Is_any _ _ _ _ _ _ _).mono ?_; rintro e wn ⟨rfl, hb⟩; first | (have h2 := after_call2 hb hcl hfr hlt (by ((repeat' (first | (with_reducible exact Below.refl _ _) | (with_reducible refine Below.alloc ?_ ?_ _) | (with_reducible refine Below.setCell ?_ ?_ _) | (with_reducible refine Below.drew ?_) | (with_reducible refine below_drewN ?_ _) | (with_reducible assumption) | (with_reducible refine below_after (by with_reducible assumption) ?_) | go_size)); done)); obtain ⟨hclx, hfrx, hltx, hsz⟩ := after_call hb; (try simp only [World.size_alloc, World.size_setCell, World.size_drew] at hclx hfrx hltx hsz); (try (have hszl := Nat.lt_of_succ_le hsz)); obtain ⟨hcl, hfr, hlt⟩ := h2) | (obtain ⟨hcl, hfr, hlt, hsz⟩ := after_call hb; (try simp only [World.size_alloc, World.size_setCell, World.size_drew] at hcl hfr hlt hsz))) | (go_at_call 74; refine (l01In_any _ _ _ _).mono ?_; rintro e wn ⟨rfl, rfl⟩))
    refine bodyPost_ret (v := .tuple #[.agg #[.int .i64 0, .int .i64 0, .int .i64 0, .int .i64 0, .int .i64 0, .int .i64 0], .int .i64 2]) (by simp (maxDischargeDepth := 8) [results, Try.results55, go_sem, *]) rfl ?_
    exact ⟨rfl, by (repeat' (first | (with_reducible exact Below.refl _ _) | (with_reducible refine Below.alloc ?_ ?_ _) | (with_reducible refine Below.setCell ?_ ?_ _) | (with_reducible refine Below.drew ?_) | (with_reducible refine below_drewN ?_ _) | (with_reducible assumption) | (with_reducible refine below_after (by with_reducible assumption) ?_) | go_size))⟩
  cases r : isT (k * x0) (k * y0) (k * x1) (k * y1) (k * x2) (k * y2)
  · rw [mC_limit h q r, on0_3, on0_3, on0_3, on0_3, on0_3, on0_3]
    have hk := inB_iff.1 q
    obtain ⟨s0, s1, s2, s3, s4, s5, _⟩ := isT_iff.1 h
    have m0 := mul_small hk s0
    have m1 := mul_small hk s1
    have m2 := mul_small hk s2
    have m3 := mul_small hk s3
    have m4 := mul_small hk s4
    have m5 := mul_small hk s5
    have w0 := wr (n := k * x0) (by omega) (by omega)
    have w1 := wr (n := k * y0) (by omega) (by omega)
    have w2 := wr (n := k * x1) (by omega) (by omega)
    have w3 := wr (n := k * y1) (by omega) (by omega)
    have w4 := wr (n := k * x2) (by omega) (by omega)
    have w5 := wr (n := k * y2) (by omega) (by omega)
    have HB := Lib.hid (And.intro s0.bn (And.intro s1.bn (And.intro s2.bn (And.intro s3.bn (And.intro s4.bn s5.bn)))))
    have HK := Lib.hid (show Bn k from ⟨by omega, by omega⟩)
    have rt := isT_mul h hk.1
    rw [r] at rt
    have rt2 := rt.symm
    clear s0 s1 s2 s3 s4 s5 m0 m1 m2 m3 m4 m5 hk rt
    have i0 := ixT0
    have i1 := ixT1
    have i2 := ixT2
    have hs20 : w.heap.size < w.heap.size + 1 + 1 := (by omega); have hs30 : w.heap.size < w.heap.size + 1 + 1 + 1 := (by omega); have hs31 : w.heap.size + 1 < w.heap.size + 1 + 1 + 1 := (by omega); have hs40 : w.heap.size < w.heap.size + 1 + 1 + 1 + 1 := (by omega); have hs41 : w.heap.size + 1 < w.heap.size + 1 + 1 + 1 + 1 := (by omega); have hs42 : w.heap.size + 1 + 1 < w.heap.size + 1 + 1 + 1 + 1 := (by omega)
    go_enter Try.func55, Try.ntmps55
    go_wp2_with (first | (go_at_call 62; refine (l04Is_any _ _ _ _ _ _ _).mono ?_; rintro e wn ⟨rfl, hb⟩; first | (have h2 := after_call2 hb hcl hfr hlt (by ((repeat' (first | (with_reducible exact Below.refl _ _) | (with_reducible refine Below.alloc ?_ ?_ _) | (with_reducible refine Below.setCell ?_ ?_ _) | (with_reducible refine Below.drew ?_) | (with_reducible refine below_drewN ?_ _) | (with_reducible assumption) | (with_reducible refine below_after (by with_reducible assumption) ?_) | go_size)); done)); obtain ⟨hclx, hfrx, hltx, hsz⟩ := after_call hb; (try simp only [World.size_alloc, World.size_setCell, World.size_drew] at hclx hfrx hltx hsz); (try (have hszl := Nat.lt_of_succ_le hsz)); obtain ⟨hcl, hfr, hlt⟩ := h2) | (obtain ⟨hcl, hfr, hlt, hsz⟩ := after_call hb; (try simp only [World.size_alloc, World.size_setCell, World.size_drew] at hcl hfr hlt hsz))) | (go_at_call 74; refine (l01In_any _ _ _ _).mono ?_; rintro e wn ⟨rfl, rfl⟩))
    refine wp_loop_rounds 4 ?_
    rw [rounds_succ]
    go_wp2_with fail
    go_region
    go_wp2
    rw [rounds_succ]
    go_wp2_with fail
    go_region
    go_wp2
    rw [rounds_succ]
    go_wp2_with fail
    go_region
    go_wp2
    rw [rounds_succ]
    go_wp2_with (first | (go_at_call 62; refine (l04Is_any _ _ _ _ _ _ _).mono ?_; rintro e wn ⟨rfl, hb⟩; first | (have h2 := after_call2 hb hcl hfr hlt (by ((repeat' (first | (with_reducible exact Below.refl _ _) | (with_reducible refine Below.alloc ?_ ?_ _) | (with_reducible refine Below.setCell ?_ ?_ _) | (with_reducible refine Below.drew ?_) | (with_reducible refine below_drewN ?_ _) | (with_reducible assumption) | (with_reducible refine below_after (by with_reducible assumption) ?_) | go_size)); done)); obtain ⟨hclx, hfrx, hltx, hsz⟩ := after_call hb; (try simp only [World.size_alloc, World.size_setCell, World.size_drew] at hclx hfrx hltx hsz); (try (have hszl := Nat.lt_of_succ_le hsz)); obtain ⟨hcl, hfr, hlt⟩ := h2) | (obtain ⟨hcl, hfr, hlt, hsz⟩ := after_call hb; (try simp only [World.size_alloc, World.size_setCell, World.size_drew] at hcl hfr hlt hsz))))
    refine bodyPost_ret (v := .tuple #[.agg #[.int .i64 0, .int .i64 0, .int .i64 0, .int .i64 0, .int .i64 0, .int .i64 0], .int .i64 3]) (by simp (maxDischargeDepth := 8) [results, Try.results55, go_sem, *]) rfl ?_
    exact ⟨rfl, by (repeat' (first | (with_reducible exact Below.refl _ _) | (with_reducible refine Below.alloc ?_ ?_ _) | (with_reducible refine Below.setCell ?_ ?_ _) | (with_reducible refine Below.drew ?_) | (with_reducible refine below_drewN ?_ _) | (with_reducible assumption) | (with_reducible refine below_after (by with_reducible assumption) ?_) | go_size))⟩
  · rw [mC_yes h q r, on0_0, on0_0, on0_0, on0_0, on0_0, on0_0]
    have hk := inB_iff.1 q
    obtain ⟨s0, s1, s2, s3, s4, s5, _⟩ := isT_iff.1 h
    have m0 := mul_small hk s0
    have m1 := mul_small hk s1
    have m2 := mul_small hk s2
    have m3 := mul_small hk s3
    have m4 := mul_small hk s4
    have m5 := mul_small hk s5
    have w0 := wr (n := k * x0) (by omega) (by omega)
    have w1 := wr (n := k * y0) (by omega) (by omega)
    have w2 := wr (n := k * x1) (by omega) (by omega)
    have w3 := wr (n := k * y1) (by omega) (by omega)
    have w4 := wr (n := k * x2) (by omega) (by omega)
    have w5 := wr (n := k * y2) (by omega) (by omega)
    have HB := Lib.hid (And.intro s0.bn (And.intro s1.bn (And.intro s2.bn (And.intro s3.bn (And.intro s4.bn s5.bn)))))
    have HK := Lib.hid (show Bn k from ⟨by omega, by omega⟩)
    have rt := isT_mul h hk.1
    rw [r] at rt
    have rt2 := rt.symm
    clear s0 s1 s2 s3 s4 s5 m0 m1 m2 m3 m4 m5 hk rt
    have i0 := ixT0
    have i1 := ixT1
    have i2 := ixT2
    have hs20 : w.heap.size < w.heap.size + 1 + 1 := (by omega); have hs30 : w.heap.size < w.heap.size + 1 + 1 + 1 := (by omega); have hs31 : w.heap.size + 1 < w.heap.size + 1 + 1 + 1 := (by omega); have hs40 : w.heap.size < w.heap.size + 1 + 1 + 1 + 1 := (by omega); have hs41 : w.heap.size + 1 < w.heap.size + 1 + 1 + 1 + 1 := (by omega); have hs42 : w.heap.size + 1 + 1 < w.heap.size + 1 + 1 + 1 + 1 := (by omega)
    go_enter Try.func55, Try.ntmps55
    go_wp2_with (first | (go_at_call 62; refine (l04Is_any _ _ _ _ _ _ _).mono ?_; rintro e wn ⟨rfl, hb⟩; first | (have h2 := after_call2 hb hcl hfr hlt (by ((repeat' (first | (with_reducible exact Below.refl _ _) | (with_reducible refine Below.alloc ?_ ?_ _) | (with_reducible refine Below.setCell ?_ ?_ _) | (with_reducible refine Below.drew ?_) | (with_reducible refine below_drewN ?_ _) | (with_reducible assumption) | (with_reducible refine below_after (by with_reducible assumption) ?_) | go_size)); done)); obtain ⟨hclx, hfrx, hltx, hsz⟩ := after_call hb; (try simp only [World.size_alloc, World.size_setCell, World.size_drew] at hclx hfrx hltx hsz); (try (have hszl := Nat.lt_of_succ_le hsz)); obtain ⟨hcl, hfr, hlt⟩ := h2) | (obtain ⟨hcl, hfr, hlt, hsz⟩ := after_call hb; (try simp only [World.size_alloc, World.size_setCell, World.size_drew] at hcl hfr hlt hsz))) | (go_at_call 74; refine (l01In_any _ _ _ _).mono ?_; rintro e wn ⟨rfl, rfl⟩))
    refine wp_loop_rounds 4 ?_
    rw [rounds_succ]
    go_wp2_with fail
    go_region
    go_wp2
    rw [rounds_succ]
    go_wp2_with fail
    go_region
    go_wp2
    rw [rounds_succ]
    go_wp2_with fail
    go_region
    go_wp2
    rw [rounds_succ]
    go_wp2_with (first | (go_at_call 62; refine (l04Is_any _ _ _ _ _ _ _).mono ?_; rintro e wn ⟨rfl, hb⟩; first | (have h2 := after_call2 hb hcl hfr hlt (by ((repeat' (first | (with_reducible exact Below.refl _ _) | (with_reducible refine Below.alloc ?_ ?_ _) | (with_reducible refine Below.setCell ?_ ?_ _) | (with_reducible refine Below.drew ?_) | (with_reducible refine below_drewN ?_ _) | (with_reducible assumption) | (with_reducible refine below_after (by with_reducible assumption) ?_) | go_size)); done)); obtain ⟨hclx, hfrx, hltx, hsz⟩ := after_call hb; (try simp only [World.size_alloc, World.size_setCell, World.size_drew] at hclx hfrx hltx hsz); (try (have hszl := Nat.lt_of_succ_le hsz)); obtain ⟨hcl, hfr, hlt⟩ := h2) | (obtain ⟨hcl, hfr, hlt, hsz⟩ := after_call hb; (try simp only [World.size_alloc, World.size_setCell, World.size_drew] at hcl hfr hlt hsz))))
    refine bodyPost_ret (v := .tuple #[.agg #[.int .i64 (k * x0), .int .i64 (k * y0), .int .i64 (k * x1), .int .i64 (k * y1), .int .i64 (k * x2), .int .i64 (k * y2)], .int .i64 0]) (by simp (maxDischargeDepth := 8) [results, Try.results55, go_sem, *]) rfl ?_
    exact ⟨rfl, by (repeat' (first | (with_reducible exact Below.refl _ _) | (with_reducible refine Below.alloc ?_ ?_ _) | (with_reducible refine Below.setCell ?_ ?_ _) | (with_reducible refine Below.drew ?_) | (with_reducible refine below_drewN ?_ _) | (with_reducible assumption) | (with_reducible refine below_after (by with_reducible assumption) ?_) | go_size))⟩
end Go.Proofs.Ytcgaikedbhdbgaa
