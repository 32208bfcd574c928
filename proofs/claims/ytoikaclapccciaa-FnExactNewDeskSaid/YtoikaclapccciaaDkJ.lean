/-
  Chapter 11's desks: copied and compared, and what a desk is, in the program and in the model (own work).
-/
import Derived.Test.YtoikaclapccciaaDkI
import Derived.Test.YtoikaclapccciaaBkD
import Derived.Deep.Cut
namespace Go.Proofs.Ytoikaclapccciaa
open Go.ChangeShapes Go.WideShapes Go.ChangeAt Go.RowKit
set_option linter.unusedVariables false
set_option linter.unusedSimpArgs false
set_option maxRecDepth 100000

theorem eqInt64A2_d (x y : Int) (w : World) : Calls Try.prog 22 #[.agg #[.int .i64 x, .int .i64 y], .agg #[.int .i64 x, .int .i64 y]] w fun e w' => e = .returned (.bool true) ∧ Below w.heap.size w w' := by
  have hs20 : w.heap.size < w.heap.size + 1 + 1 := (by omega)
  go_enter Try.func22, Try.ntmps22
  go_wp2
  refine wp_loop_rounds 3 ?_
  rw [rounds_succ]
  go_wp2
  go_quiet (fail)
  go_wp2
  rw [rounds_succ]
  go_wp2
  go_quiet (fail)
  go_wp2
  rw [rounds_succ]
  go_wp2
  go_ret
  exact ⟨rfl, by (repeat' (first | (with_reducible exact Below.refl _ _) | (with_reducible refine Below.alloc ?_ ?_ _) | (with_reducible refine Below.setCell ?_ ?_ _) | (with_reducible refine Below.drew ?_) | (with_reducible refine below_drewN ?_ _) | (with_reducible assumption) | (with_reducible refine below_after (by with_reducible assumption) ?_) | go_size))⟩
theorem eqMatrix_d (a b c d : Int) (w : World) : Calls Try.prog 13 #[.agg #[.int .i64 a, .int .i64 b, .int .i64 c, .int .i64 d], .agg #[.int .i64 a, .int .i64 b, .int .i64 c, .int .i64 d]] w fun e w' => e = .returned (.bool true) ∧ Below w.heap.size w w' := by
  have hs20 : w.heap.size < w.heap.size + 1 + 1 := (by omega)
  go_enter Try.func13, Try.ntmps13
  go_wp2
  refine wp_loop_rounds 3 ?_
  rw [rounds_succ]
  go_wp2
  go_region_held3 (fun W => W.cell? ⟨w.heap.size, 0, none⟩ = some (.int .i64 a) ∧ W.cell? ⟨w.heap.size, 1, none⟩ = some (.int .i64 b) ∧ W.cell? ⟨w.heap.size, 2, none⟩ = some (.int .i64 c) ∧ W.cell? ⟨w.heap.size, 3, none⟩ = some (.int .i64 d) ∧ W.cell? ⟨w.heap.size + 1, 0, none⟩ = some (.int .i64 a) ∧ W.cell? ⟨w.heap.size + 1, 1, none⟩ = some (.int .i64 b) ∧ W.cell? ⟨w.heap.size + 1, 2, none⟩ = some (.int .i64 c) ∧ W.cell? ⟨w.heap.size + 1, 3, none⟩ = some (.int .i64 d) ∧ w.heap.size < W.heap.size ∧ w.heap.size + 1 < W.heap.size) (first | (go_keep; done) | ((repeat' apply And.intro) <;> first | (go_keep; done) | (go_cell; done) | (refine (Below.cell (B := w.heap.size + 1 + 1) ?_ ?_).trans ?_; focus (repeat' (first | (with_reducible refine Below.alloc ?_ ?_ _) | (with_reducible refine Below.setCell ?_ ?_ _) | (with_reducible refine Below.drew ?_) | (with_reducible exact Below.refl _ _) | (first | omega | (simp only [World.size_alloc, World.size_drew, World.size_setCell]; omega) | (simp; omega)))); focus (first | omega | (simp only [World.size_alloc, World.size_drew, World.size_setCell]; omega) | (simp; omega)); first | (go_keep; done) | ((refine (Below.cell (by with_reducible assumption) ?_).trans ?_) <;> first | (go_keep; done) | (first | omega | (simp only [World.size_alloc, World.size_drew, World.size_setCell]; omega) | (simp; omega)))) | ((refine (Below.cell (by with_reducible assumption) ?_).trans ?_) <;> first | (go_keep; done) | (simp only [World.size_alloc, World.size_drew, World.size_setCell]; omega) | omega) | (simp only [World.size_alloc, World.size_drew, World.size_setCell]; omega) | omega)) (first | (go_at_call 22; refine (eqInt64A2_d _ _ _).mono ?_; rintro e wn ⟨rfl, hb⟩; first | (have h2 := after_call2 hb hcl hfr hlt (by ((repeat' (first | (with_reducible exact Below.refl _ _) | (with_reducible refine Below.alloc ?_ ?_ _) | (with_reducible refine Below.setCell ?_ ?_ _) | (with_reducible refine Below.drew ?_) | (with_reducible refine below_drewN ?_ _) | (with_reducible assumption) | (with_reducible refine below_after (by with_reducible assumption) ?_) | go_size)); done)); obtain ⟨hclx, hfrx, hltx, hsz⟩ := after_call hb; (try simp only [World.size_alloc, World.size_setCell, World.size_drew] at hclx hfrx hltx hsz); (try (have hszl := Nat.lt_of_succ_le hsz)); obtain ⟨hcl, hfr, hlt⟩ := h2) | (obtain ⟨hcl, hfr, hlt, hsz⟩ := after_call hb; (try simp only [World.size_alloc, World.size_setCell, World.size_drew] at hcl hfr hlt hsz))))
  go_wp2
  rw [rounds_succ]
  go_wp2
  go_region_held3 (fun W => W.cell? ⟨w.heap.size, 0, none⟩ = some (.int .i64 a) ∧ W.cell? ⟨w.heap.size, 1, none⟩ = some (.int .i64 b) ∧ W.cell? ⟨w.heap.size, 2, none⟩ = some (.int .i64 c) ∧ W.cell? ⟨w.heap.size, 3, none⟩ = some (.int .i64 d) ∧ W.cell? ⟨w.heap.size + 1, 0, none⟩ = some (.int .i64 a) ∧ W.cell? ⟨w.heap.size + 1, 1, none⟩ = some (.int .i64 b) ∧ W.cell? ⟨w.heap.size + 1, 2, none⟩ = some (.int .i64 c) ∧ W.cell? ⟨w.heap.size + 1, 3, none⟩ = some (.int .i64 d) ∧ w.heap.size < W.heap.size ∧ w.heap.size + 1 < W.heap.size) (first | (go_keep; done) | ((repeat' apply And.intro) <;> first | (go_keep; done) | (go_cell; done) | (refine (Below.cell (B := w.heap.size + 1 + 1) ?_ ?_).trans ?_; focus (repeat' (first | (with_reducible refine Below.alloc ?_ ?_ _) | (with_reducible refine Below.setCell ?_ ?_ _) | (with_reducible refine Below.drew ?_) | (with_reducible exact Below.refl _ _) | (first | omega | (simp only [World.size_alloc, World.size_drew, World.size_setCell]; omega) | (simp; omega)))); focus (first | omega | (simp only [World.size_alloc, World.size_drew, World.size_setCell]; omega) | (simp; omega)); first | (go_keep; done) | ((refine (Below.cell (by with_reducible assumption) ?_).trans ?_) <;> first | (go_keep; done) | (first | omega | (simp only [World.size_alloc, World.size_drew, World.size_setCell]; omega) | (simp; omega)))) | ((refine (Below.cell (by with_reducible assumption) ?_).trans ?_) <;> first | (go_keep; done) | (simp only [World.size_alloc, World.size_drew, World.size_setCell]; omega) | omega) | (simp only [World.size_alloc, World.size_drew, World.size_setCell]; omega) | omega)) (first | (go_at_call 22; refine (eqInt64A2_d _ _ _).mono ?_; rintro e wn ⟨rfl, hb⟩; first | (have h2 := after_call2 hb hcl hfr hlt (by ((repeat' (first | (with_reducible exact Below.refl _ _) | (with_reducible refine Below.alloc ?_ ?_ _) | (with_reducible refine Below.setCell ?_ ?_ _) | (with_reducible refine Below.drew ?_) | (with_reducible refine below_drewN ?_ _) | (with_reducible assumption) | (with_reducible refine below_after (by with_reducible assumption) ?_) | go_size)); done)); obtain ⟨hclx, hfrx, hltx, hsz⟩ := after_call hb; (try simp only [World.size_alloc, World.size_setCell, World.size_drew] at hclx hfrx hltx hsz); (try (have hszl := Nat.lt_of_succ_le hsz)); obtain ⟨hcl, hfr, hlt⟩ := h2) | (obtain ⟨hcl, hfr, hlt, hsz⟩ := after_call hb; (try simp only [World.size_alloc, World.size_setCell, World.size_drew] at hcl hfr hlt hsz))))
  go_wp2
  rw [rounds_succ]
  go_wp2
  go_ret
  exact ⟨rfl, by (repeat' (first | (with_reducible exact Below.refl _ _) | (with_reducible refine Below.alloc ?_ ?_ _) | (with_reducible refine Below.setCell ?_ ?_ _) | (with_reducible refine Below.drew ?_) | (with_reducible refine below_drewN ?_ _) | (with_reducible assumption) | (with_reducible refine below_after (by with_reducible assumption) ?_) | go_size))⟩
def isDk (x0 x1 x2 x3 x4 x5 x6 x7 x8 x9 x10 : Int) : Bool := isPt (x0, x1) && isPt (x2, x3) && isMx x4 x5 x6 x7 && isFm x8 x9 x10
set_option maxHeartbeats 800000 in
theorem eqDesk_same (x0 x1 x2 x3 x4 x5 x6 x7 x8 x9 x10 : Int) (w : World) : Calls Try.prog 7 #[.agg #[.int .i64 x0, .int .i64 x1, .int .i64 x2, .int .i64 x3, .int .i64 x4, .int .i64 x5, .int .i64 x6, .int .i64 x7, .int .i64 x8, .int .i64 x9, .int .i64 x10], .agg #[.int .i64 x0, .int .i64 x1, .int .i64 x2, .int .i64 x3, .int .i64 x4, .int .i64 x5, .int .i64 x6, .int .i64 x7, .int .i64 x8, .int .i64 x9, .int .i64 x10]] w fun e w' => e = .returned (.bool true) ∧ Below w.heap.size w w' := by
  have hs20 : w.heap.size < w.heap.size + 1 + 1 := (by omega)
  go_enter Try.func7, Try.ntmps7
  go_wp2_with (first | (go_at_call 12; refine (eqPoint_same _ _ _).mono ?_; rintro e wn ⟨rfl, hb⟩; first | (have h2 := after_call2 hb hcl hfr hlt (by ((repeat' (first | (with_reducible exact Below.refl _ _) | (with_reducible refine Below.alloc ?_ ?_ _) | (with_reducible refine Below.setCell ?_ ?_ _) | (with_reducible refine Below.drew ?_) | (with_reducible refine below_drewN ?_ _) | (with_reducible assumption) | (with_reducible refine below_after (by with_reducible assumption) ?_) | go_size)); done)); obtain ⟨hclx, hfrx, hltx, hsz⟩ := after_call hb; (try simp only [World.size_alloc, World.size_setCell, World.size_drew] at hclx hfrx hltx hsz); (try (have hszl := Nat.lt_of_succ_le hsz)); obtain ⟨hcl, hfr, hlt⟩ := h2) | (obtain ⟨hcl, hfr, hlt, hsz⟩ := after_call hb; (try simp only [World.size_alloc, World.size_setCell, World.size_drew] at hcl hfr hlt hsz))) | (go_at_call 13; refine (eqMatrix_d _ _ _ _ _).mono ?_; rintro e wn ⟨rfl, hb⟩; first | (have h2 := after_call2 hb hcl hfr hlt (by ((repeat' (first | (with_reducible exact Below.refl _ _) | (with_reducible refine Below.alloc ?_ ?_ _) | (with_reducible refine Below.setCell ?_ ?_ _) | (with_reducible refine Below.drew ?_) | (with_reducible refine below_drewN ?_ _) | (with_reducible assumption) | (with_reducible refine below_after (by with_reducible assumption) ?_) | go_size)); done)); obtain ⟨hclx, hfrx, hltx, hsz⟩ := after_call hb; (try simp only [World.size_alloc, World.size_setCell, World.size_drew] at hclx hfrx hltx hsz); (try (have hszl := Nat.lt_of_succ_le hsz)); obtain ⟨hcl, hfr, hlt⟩ := h2) | (obtain ⟨hcl, hfr, hlt, hsz⟩ := after_call hb; (try simp only [World.size_alloc, World.size_setCell, World.size_drew] at hcl hfr hlt hsz))) | (go_at_call 14; refine (eqForm_at _ _ _ _).mono ?_; rintro e wn ⟨rfl, hb⟩; first | (have h2 := after_call2 hb hcl hfr hlt (by ((repeat' (first | (with_reducible exact Below.refl _ _) | (with_reducible refine Below.alloc ?_ ?_ _) | (with_reducible refine Below.setCell ?_ ?_ _) | (with_reducible refine Below.drew ?_) | (with_reducible refine below_drewN ?_ _) | (with_reducible assumption) | (with_reducible refine below_after (by with_reducible assumption) ?_) | go_size)); done)); obtain ⟨hclx, hfrx, hltx, hsz⟩ := after_call hb; (try simp only [World.size_alloc, World.size_setCell, World.size_drew] at hclx hfrx hltx hsz); (try (have hszl := Nat.lt_of_succ_le hsz)); obtain ⟨hcl, hfr, hlt⟩ := h2) | (obtain ⟨hcl, hfr, hlt, hsz⟩ := after_call hb; (try simp only [World.size_alloc, World.size_setCell, World.size_drew] at hcl hfr hlt hsz))))
  go_ret
  exact ⟨rfl, by (repeat' (first | (with_reducible exact Below.refl _ _) | (with_reducible refine Below.alloc ?_ ?_ _) | (with_reducible refine Below.setCell ?_ ?_ _) | (with_reducible refine Below.drew ?_) | (with_reducible refine below_drewN ?_ _) | (with_reducible assumption) | (with_reducible refine below_after (by with_reducible assumption) ?_) | go_size))⟩
set_option maxHeartbeats 1600000 in
theorem toDesk_any (x0 x1 x2 x3 x4 x5 x6 x7 x8 x9 x10 : Int) (w : World) : Calls Try.prog 9 #[.agg #[.int .i64 x0, .int .i64 x1, .int .i64 x2, .int .i64 x3, .int .i64 x4, .int .i64 x5, .int .i64 x6, .int .i64 x7, .int .i64 x8, .int .i64 x9, .int .i64 x10]] w fun e w' => e = .returned (.agg #[.int .i64 x0, .int .i64 x1, .int .i64 x2, .int .i64 x3, .int .i64 x4, .int .i64 x5, .int .i64 x6, .int .i64 x7, .int .i64 x8, .int .i64 x9, .int .i64 x10]) ∧ Below w.heap.size w w' := by
  obtain ⟨GA, hG⟩ : ∃ G, w.heap.size = G := ⟨_, rfl⟩
  have HG := Lib.hid hG
  go_enter Try.func9, Try.ntmps9
  go_upto_region 2 with fail
  obtain ⟨w0, hw0⟩ : ∃ w0, w0 = (((w.alloc (.cells #[.int .i64 x0, .int .i64 x1, .int .i64 x2, .int .i64 x3, .int .i64 x4, .int .i64 x5, .int .i64 x6, .int .i64 x7, .int .i64 x8, .int .i64 x9, .int .i64 x10] 35)).alloc (.cells #[.int .i64 0, .int .i64 0, .int .i64 0, .int .i64 0, .int .i64 0, .int .i64 0, .int .i64 0, .int .i64 0, .int .i64 0, .int .i64 0, .int .i64 0] 29)).alloc (.cells #[.int .i64 0, .int .i64 0, .int .i64 0, .int .i64 0, .int .i64 0, .int .i64 0, .int .i64 0, .int .i64 0, .int .i64 0, .int .i64 0, .int .i64 0] 29)) := ⟨_, rfl⟩
  rw [← hw0]
  have HA : Hid (Bk11 w0 GA x0 x1 x2 x3 x4 x5 x6 x7 x8 x9 x10) := by
    have h := (bk11_new w x0 x1 x2 x3 x4 x5 x6 x7 x8 x9 x10 35).below (W' := (((w.alloc (.cells #[.int .i64 x0, .int .i64 x1, .int .i64 x2, .int .i64 x3, .int .i64 x4, .int .i64 x5, .int .i64 x6, .int .i64 x7, .int .i64 x8, .int .i64 x9, .int .i64 x10] 35)).alloc (.cells #[.int .i64 0, .int .i64 0, .int .i64 0, .int .i64 0, .int .i64 0, .int .i64 0, .int .i64 0, .int .i64 0, .int .i64 0, .int .i64 0, .int .i64 0] 29)).alloc (.cells #[.int .i64 0, .int .i64 0, .int .i64 0, .int .i64 0, .int .i64 0, .int .i64 0, .int .i64 0, .int .i64 0, .int .i64 0, .int .i64 0, .int .i64 0] 29))) (by (repeat' (first | (with_reducible exact Below.refl _ _) | (with_reducible refine Below.alloc ?_ ?_ _) | (with_reducible refine Below.setCell ?_ ?_ _) | (with_reducible refine Below.drew ?_) | (with_reducible refine below_drewN ?_ _) | (with_reducible assumption) | (with_reducible refine below_after (by with_reducible assumption) ?_) | go_size)))
    (try simp only [World.size_alloc] at h)
    rw [hG] at h
    rw [hw0]; exact h
  have HR : Hid (Bk11 w0 (GA + 1) 0 0 0 0 0 0 0 0 0 0 0) := by
    have h := (bk11_new (w.alloc (.cells #[.int .i64 x0, .int .i64 x1, .int .i64 x2, .int .i64 x3, .int .i64 x4, .int .i64 x5, .int .i64 x6, .int .i64 x7, .int .i64 x8, .int .i64 x9, .int .i64 x10] 35)) 0 0 0 0 0 0 0 0 0 0 0 29).below (W' := (((w.alloc (.cells #[.int .i64 x0, .int .i64 x1, .int .i64 x2, .int .i64 x3, .int .i64 x4, .int .i64 x5, .int .i64 x6, .int .i64 x7, .int .i64 x8, .int .i64 x9, .int .i64 x10] 35)).alloc (.cells #[.int .i64 0, .int .i64 0, .int .i64 0, .int .i64 0, .int .i64 0, .int .i64 0, .int .i64 0, .int .i64 0, .int .i64 0, .int .i64 0, .int .i64 0] 29)).alloc (.cells #[.int .i64 0, .int .i64 0, .int .i64 0, .int .i64 0, .int .i64 0, .int .i64 0, .int .i64 0, .int .i64 0, .int .i64 0, .int .i64 0, .int .i64 0] 29))) (by (repeat' (first | (with_reducible exact Below.refl _ _) | (with_reducible refine Below.alloc ?_ ?_ _) | (with_reducible refine Below.setCell ?_ ?_ _) | (with_reducible refine Below.drew ?_) | (with_reducible refine below_drewN ?_ _) | (with_reducible assumption) | (with_reducible refine below_after (by with_reducible assumption) ?_) | go_size)))
    (try simp only [World.size_alloc] at h)
    rw [hG] at h
    rw [hw0]; exact h
  have HT : Hid (Bk11 w0 (GA + 1 + 1) 0 0 0 0 0 0 0 0 0 0 0) := by
    have h := (bk11_new ((w.alloc (.cells #[.int .i64 x0, .int .i64 x1, .int .i64 x2, .int .i64 x3, .int .i64 x4, .int .i64 x5, .int .i64 x6, .int .i64 x7, .int .i64 x8, .int .i64 x9, .int .i64 x10] 35)).alloc (.cells #[.int .i64 0, .int .i64 0, .int .i64 0, .int .i64 0, .int .i64 0, .int .i64 0, .int .i64 0, .int .i64 0, .int .i64 0, .int .i64 0, .int .i64 0] 29)) 0 0 0 0 0 0 0 0 0 0 0 29).below (W' := (((w.alloc (.cells #[.int .i64 x0, .int .i64 x1, .int .i64 x2, .int .i64 x3, .int .i64 x4, .int .i64 x5, .int .i64 x6, .int .i64 x7, .int .i64 x8, .int .i64 x9, .int .i64 x10] 35)).alloc (.cells #[.int .i64 0, .int .i64 0, .int .i64 0, .int .i64 0, .int .i64 0, .int .i64 0, .int .i64 0, .int .i64 0, .int .i64 0, .int .i64 0, .int .i64 0] 29)).alloc (.cells #[.int .i64 0, .int .i64 0, .int .i64 0, .int .i64 0, .int .i64 0, .int .i64 0, .int .i64 0, .int .i64 0, .int .i64 0, .int .i64 0, .int .i64 0] 29))) (by (repeat' (first | (with_reducible exact Below.refl _ _) | (with_reducible refine Below.alloc ?_ ?_ _) | (with_reducible refine Below.setCell ?_ ?_ _) | (with_reducible refine Below.drew ?_) | (with_reducible refine below_drewN ?_ _) | (with_reducible assumption) | (with_reducible refine below_after (by with_reducible assumption) ?_) | go_size)))
    (try simp only [World.size_alloc] at h)
    rw [hG] at h
    rw [hw0]; exact h
  have HB : Hid (Below w.heap.size w w0) := by show Below w.heap.size w w0; rw [hw0]; (repeat' (first | (with_reducible exact Below.refl _ _) | (with_reducible refine Below.alloc ?_ ?_ _) | (with_reducible refine Below.setCell ?_ ?_ _) | (with_reducible refine Below.drew ?_) | (with_reducible refine below_drewN ?_ _) | (with_reducible assumption) | (with_reducible refine below_after (by with_reducible assumption) ?_) | go_size))
  clear hw0
  obtain ⟨GT, hGT⟩ : ∃ g, GA + 1 + 1 = g := ⟨_, rfl⟩
  rw [hGT] at HT ⊢
  obtain ⟨GR, hGR⟩ : ∃ g, GA + 1 = g := ⟨_, rfl⟩
  rw [hGR] at HR ⊢
  have le_A : w.heap.size ≤ GA := by omega
  have le_R : w.heap.size ≤ GR := by omega
  have ne_R_A : GR ≠ GA := by omega
  have ne_A_R : GA ≠ GR := by omega
  have le_T : w.heap.size ≤ GT := by omega
  have ne_T_A : GT ≠ GA := by omega
  have ne_A_T : GA ≠ GT := by omega
  have ne_T_R : GT ≠ GR := by omega
  have ne_R_T : GR ≠ GT := by omega
  clear hGR hGT
  obtain ⟨⟨qA0, qA1, qA2, qA3, qA4, qA5, qA6, qA7, qA8, qA9, qA10⟩, ⟨fA0, fA1, fA2, fA3, fA4, fA5, fA6, fA7, fA8, fA9, fA10⟩, zA⟩ := HA.out
  obtain ⟨⟨qR0, qR1, qR2, qR3, qR4, qR5, qR6, qR7, qR8, qR9, qR10⟩, ⟨fR0, fR1, fR2, fR3, fR4, fR5, fR6, fR7, fR8, fR9, fR10⟩, zR⟩ := HR.out
  obtain ⟨⟨qT0, qT1, qT2, qT3, qT4, qT5, qT6, qT7, qT8, qT9, qT10⟩, ⟨fT0, fT1, fT2, fT3, fT4, fT5, fT6, fT7, fT8, fT9, fT10⟩, zT⟩ := HT.out
  go_wp2_with fail
  go_at_call 16
  refine (toPoint_any _ _ _).mono ?_
  rintro e w1 ⟨rfl, hb⟩
  clear qA0 fA0 qA1 fA1 qA2 fA2 qA3 fA3 qA4 fA4 qA5 fA5 qA6 fA6 qA7 fA7 qA8 fA8 qA9 fA9 qA10 fA10 zA qR0 fR0 qR1 fR1 qR2 fR2 qR3 fR3 qR4 fR4 qR5 fR5 qR6 fR6 qR7 fR7 qR8 fR8 qR9 fR9 qR10 fR10 zR qT0 fT0 qT1 fT1 qT2 fT2 qT3 fT3 qT4 fT4 qT5 fT5 qT6 fT6 qT7 fT7 qT8 fT8 qT9 fT9 qT10 fT10 zT
  have HA := Lib.hid (HA.out.below hb)
  have HR := Lib.hid (HR.out.below hb)
  have HT := Lib.hid (HT.out.below hb)
  have HB := Lib.hid (below_after hb HB.out)
  clear hb
  obtain ⟨⟨qA0, qA1, qA2, qA3, qA4, qA5, qA6, qA7, qA8, qA9, qA10⟩, ⟨fA0, fA1, fA2, fA3, fA4, fA5, fA6, fA7, fA8, fA9, fA10⟩, zA⟩ := HA.out
  obtain ⟨⟨qR0, qR1, qR2, qR3, qR4, qR5, qR6, qR7, qR8, qR9, qR10⟩, ⟨fR0, fR1, fR2, fR3, fR4, fR5, fR6, fR7, fR8, fR9, fR10⟩, zR⟩ := HR.out
  obtain ⟨⟨qT0, qT1, qT2, qT3, qT4, qT5, qT6, qT7, qT8, qT9, qT10⟩, ⟨fT0, fT1, fT2, fT3, fT4, fT5, fT6, fT7, fT8, fT9, fT10⟩, zT⟩ := HT.out
  go_upto_region 3 with fail
  obtain ⟨w2, hw2⟩ : ∃ wx, wx = ((w1.setCell ⟨GT, 0, none⟩ (.int .i64 x0)).setCell ⟨GT, 1, none⟩ (.int .i64 x1)) := ⟨_, rfl⟩
  rw [← hw2]
  clear qA0 fA0 qA1 fA1 qA2 fA2 qA3 fA3 qA4 fA4 qA5 fA5 qA6 fA6 qA7 fA7 qA8 fA8 qA9 fA9 qA10 fA10 zA qR0 fR0 qR1 fR1 qR2 fR2 qR3 fR3 qR4 fR4 qR5 fR5 qR6 fR6 qR7 fR7 qR8 fR8 qR9 fR9 qR10 fR10 zR qT0 fT0 qT1 fT1 qT2 fT2 qT3 fT3 qT4 fT4 qT5 fT5 qT6 fT6 qT7 fT7 qT8 fT8 qT9 fT9 qT10 fT10 zT
  have HA := Lib.hid ((HA.out.far ⟨GT, 0, none⟩ (.int .i64 x0) (by show GA ≠ GT; exact ne_A_T)).far ⟨GT, 1, none⟩ (.int .i64 x1) (by show GA ≠ GT; exact ne_A_T))
  have HR := Lib.hid ((HR.out.far ⟨GT, 0, none⟩ (.int .i64 x0) (by show GR ≠ GT; exact ne_R_T)).far ⟨GT, 1, none⟩ (.int .i64 x1) (by show GR ≠ GT; exact ne_R_T))
  have HT := Lib.hid ((HT.out.set0 x0).set1 x1)
  have HB := Lib.hid (Below.setCell (Below.setCell HB.out (p := ⟨GT, 0, none⟩) le_T (.int .i64 x0)) (p := ⟨GT, 1, none⟩) le_T (.int .i64 x1))
  rw [← hw2] at HA HR HT HB
  clear hw2
  obtain ⟨⟨qA0, qA1, qA2, qA3, qA4, qA5, qA6, qA7, qA8, qA9, qA10⟩, ⟨fA0, fA1, fA2, fA3, fA4, fA5, fA6, fA7, fA8, fA9, fA10⟩, zA⟩ := HA.out
  obtain ⟨⟨qR0, qR1, qR2, qR3, qR4, qR5, qR6, qR7, qR8, qR9, qR10⟩, ⟨fR0, fR1, fR2, fR3, fR4, fR5, fR6, fR7, fR8, fR9, fR10⟩, zR⟩ := HR.out
  obtain ⟨⟨qT0, qT1, qT2, qT3, qT4, qT5, qT6, qT7, qT8, qT9, qT10⟩, ⟨fT0, fT1, fT2, fT3, fT4, fT5, fT6, fT7, fT8, fT9, fT10⟩, zT⟩ := HT.out
  go_wp2_with fail
  go_at_call 16
  refine (toPoint_any _ _ _).mono ?_
  rintro e w3 ⟨rfl, hb⟩
  clear qA0 fA0 qA1 fA1 qA2 fA2 qA3 fA3 qA4 fA4 qA5 fA5 qA6 fA6 qA7 fA7 qA8 fA8 qA9 fA9 qA10 fA10 zA qR0 fR0 qR1 fR1 qR2 fR2 qR3 fR3 qR4 fR4 qR5 fR5 qR6 fR6 qR7 fR7 qR8 fR8 qR9 fR9 qR10 fR10 zR qT0 fT0 qT1 fT1 qT2 fT2 qT3 fT3 qT4 fT4 qT5 fT5 qT6 fT6 qT7 fT7 qT8 fT8 qT9 fT9 qT10 fT10 zT
  have HA := Lib.hid (HA.out.below hb)
  have HR := Lib.hid (HR.out.below hb)
  have HT := Lib.hid (HT.out.below hb)
  have HB := Lib.hid (below_after hb HB.out)
  clear hb
  obtain ⟨⟨qA0, qA1, qA2, qA3, qA4, qA5, qA6, qA7, qA8, qA9, qA10⟩, ⟨fA0, fA1, fA2, fA3, fA4, fA5, fA6, fA7, fA8, fA9, fA10⟩, zA⟩ := HA.out
  obtain ⟨⟨qR0, qR1, qR2, qR3, qR4, qR5, qR6, qR7, qR8, qR9, qR10⟩, ⟨fR0, fR1, fR2, fR3, fR4, fR5, fR6, fR7, fR8, fR9, fR10⟩, zR⟩ := HR.out
  obtain ⟨⟨qT0, qT1, qT2, qT3, qT4, qT5, qT6, qT7, qT8, qT9, qT10⟩, ⟨fT0, fT1, fT2, fT3, fT4, fT5, fT6, fT7, fT8, fT9, fT10⟩, zT⟩ := HT.out
  go_upto_region 4 with fail
  obtain ⟨w4, hw4⟩ : ∃ wx, wx = ((w3.setCell ⟨GT, 2, none⟩ (.int .i64 x2)).setCell ⟨GT, 3, none⟩ (.int .i64 x3)) := ⟨_, rfl⟩
  rw [← hw4]
  clear qA0 fA0 qA1 fA1 qA2 fA2 qA3 fA3 qA4 fA4 qA5 fA5 qA6 fA6 qA7 fA7 qA8 fA8 qA9 fA9 qA10 fA10 zA qR0 fR0 qR1 fR1 qR2 fR2 qR3 fR3 qR4 fR4 qR5 fR5 qR6 fR6 qR7 fR7 qR8 fR8 qR9 fR9 qR10 fR10 zR qT0 fT0 qT1 fT1 qT2 fT2 qT3 fT3 qT4 fT4 qT5 fT5 qT6 fT6 qT7 fT7 qT8 fT8 qT9 fT9 qT10 fT10 zT
  have HA := Lib.hid ((HA.out.far ⟨GT, 2, none⟩ (.int .i64 x2) (by show GA ≠ GT; exact ne_A_T)).far ⟨GT, 3, none⟩ (.int .i64 x3) (by show GA ≠ GT; exact ne_A_T))
  have HR := Lib.hid ((HR.out.far ⟨GT, 2, none⟩ (.int .i64 x2) (by show GR ≠ GT; exact ne_R_T)).far ⟨GT, 3, none⟩ (.int .i64 x3) (by show GR ≠ GT; exact ne_R_T))
  have HT := Lib.hid ((HT.out.set2 x2).set3 x3)
  have HB := Lib.hid (Below.setCell (Below.setCell HB.out (p := ⟨GT, 2, none⟩) le_T (.int .i64 x2)) (p := ⟨GT, 3, none⟩) le_T (.int .i64 x3))
  rw [← hw4] at HA HR HT HB
  clear hw4
  obtain ⟨⟨qA0, qA1, qA2, qA3, qA4, qA5, qA6, qA7, qA8, qA9, qA10⟩, ⟨fA0, fA1, fA2, fA3, fA4, fA5, fA6, fA7, fA8, fA9, fA10⟩, zA⟩ := HA.out
  obtain ⟨⟨qR0, qR1, qR2, qR3, qR4, qR5, qR6, qR7, qR8, qR9, qR10⟩, ⟨fR0, fR1, fR2, fR3, fR4, fR5, fR6, fR7, fR8, fR9, fR10⟩, zR⟩ := HR.out
  obtain ⟨⟨qT0, qT1, qT2, qT3, qT4, qT5, qT6, qT7, qT8, qT9, qT10⟩, ⟨fT0, fT1, fT2, fT3, fT4, fT5, fT6, fT7, fT8, fT9, fT10⟩, zT⟩ := HT.out
  go_wp2_with fail
  go_at_call 17
  refine (toMatrix_any _ _ _ _ _).mono ?_
  rintro e w5 ⟨rfl, hb⟩
  clear qA0 fA0 qA1 fA1 qA2 fA2 qA3 fA3 qA4 fA4 qA5 fA5 qA6 fA6 qA7 fA7 qA8 fA8 qA9 fA9 qA10 fA10 zA qR0 fR0 qR1 fR1 qR2 fR2 qR3 fR3 qR4 fR4 qR5 fR5 qR6 fR6 qR7 fR7 qR8 fR8 qR9 fR9 qR10 fR10 zR qT0 fT0 qT1 fT1 qT2 fT2 qT3 fT3 qT4 fT4 qT5 fT5 qT6 fT6 qT7 fT7 qT8 fT8 qT9 fT9 qT10 fT10 zT
  have HA := Lib.hid (HA.out.below hb)
  have HR := Lib.hid (HR.out.below hb)
  have HT := Lib.hid (HT.out.below hb)
  have HB := Lib.hid (below_after hb HB.out)
  clear hb
  obtain ⟨⟨qA0, qA1, qA2, qA3, qA4, qA5, qA6, qA7, qA8, qA9, qA10⟩, ⟨fA0, fA1, fA2, fA3, fA4, fA5, fA6, fA7, fA8, fA9, fA10⟩, zA⟩ := HA.out
  obtain ⟨⟨qR0, qR1, qR2, qR3, qR4, qR5, qR6, qR7, qR8, qR9, qR10⟩, ⟨fR0, fR1, fR2, fR3, fR4, fR5, fR6, fR7, fR8, fR9, fR10⟩, zR⟩ := HR.out
  obtain ⟨⟨qT0, qT1, qT2, qT3, qT4, qT5, qT6, qT7, qT8, qT9, qT10⟩, ⟨fT0, fT1, fT2, fT3, fT4, fT5, fT6, fT7, fT8, fT9, fT10⟩, zT⟩ := HT.out
  go_upto_region 5 with fail
  obtain ⟨w6, hw6⟩ : ∃ wx, wx = ((((w5.setCell ⟨GT, 4, none⟩ (.int .i64 x4)).setCell ⟨GT, 5, none⟩ (.int .i64 x5)).setCell ⟨GT, 6, none⟩ (.int .i64 x6)).setCell ⟨GT, 7, none⟩ (.int .i64 x7)) := ⟨_, rfl⟩
  rw [← hw6]
  clear qA0 fA0 qA1 fA1 qA2 fA2 qA3 fA3 qA4 fA4 qA5 fA5 qA6 fA6 qA7 fA7 qA8 fA8 qA9 fA9 qA10 fA10 zA qR0 fR0 qR1 fR1 qR2 fR2 qR3 fR3 qR4 fR4 qR5 fR5 qR6 fR6 qR7 fR7 qR8 fR8 qR9 fR9 qR10 fR10 zR qT0 fT0 qT1 fT1 qT2 fT2 qT3 fT3 qT4 fT4 qT5 fT5 qT6 fT6 qT7 fT7 qT8 fT8 qT9 fT9 qT10 fT10 zT
  have HA := Lib.hid ((((HA.out.far ⟨GT, 4, none⟩ (.int .i64 x4) (by show GA ≠ GT; exact ne_A_T)).far ⟨GT, 5, none⟩ (.int .i64 x5) (by show GA ≠ GT; exact ne_A_T)).far ⟨GT, 6, none⟩ (.int .i64 x6) (by show GA ≠ GT; exact ne_A_T)).far ⟨GT, 7, none⟩ (.int .i64 x7) (by show GA ≠ GT; exact ne_A_T))
  have HR := Lib.hid ((((HR.out.far ⟨GT, 4, none⟩ (.int .i64 x4) (by show GR ≠ GT; exact ne_R_T)).far ⟨GT, 5, none⟩ (.int .i64 x5) (by show GR ≠ GT; exact ne_R_T)).far ⟨GT, 6, none⟩ (.int .i64 x6) (by show GR ≠ GT; exact ne_R_T)).far ⟨GT, 7, none⟩ (.int .i64 x7) (by show GR ≠ GT; exact ne_R_T))
  have HT := Lib.hid ((((HT.out.set4 x4).set5 x5).set6 x6).set7 x7)
  have HB := Lib.hid (Below.setCell (Below.setCell (Below.setCell (Below.setCell HB.out (p := ⟨GT, 4, none⟩) le_T (.int .i64 x4)) (p := ⟨GT, 5, none⟩) le_T (.int .i64 x5)) (p := ⟨GT, 6, none⟩) le_T (.int .i64 x6)) (p := ⟨GT, 7, none⟩) le_T (.int .i64 x7))
  rw [← hw6] at HA HR HT HB
  clear hw6
  obtain ⟨⟨qA0, qA1, qA2, qA3, qA4, qA5, qA6, qA7, qA8, qA9, qA10⟩, ⟨fA0, fA1, fA2, fA3, fA4, fA5, fA6, fA7, fA8, fA9, fA10⟩, zA⟩ := HA.out
  obtain ⟨⟨qR0, qR1, qR2, qR3, qR4, qR5, qR6, qR7, qR8, qR9, qR10⟩, ⟨fR0, fR1, fR2, fR3, fR4, fR5, fR6, fR7, fR8, fR9, fR10⟩, zR⟩ := HR.out
  obtain ⟨⟨qT0, qT1, qT2, qT3, qT4, qT5, qT6, qT7, qT8, qT9, qT10⟩, ⟨fT0, fT1, fT2, fT3, fT4, fT5, fT6, fT7, fT8, fT9, fT10⟩, zT⟩ := HT.out
  go_wp2_with fail
  go_at_call 18
  refine (toForm_at _ _ _ _).mono ?_
  rintro e w7 ⟨rfl, hb⟩
  clear qA0 fA0 qA1 fA1 qA2 fA2 qA3 fA3 qA4 fA4 qA5 fA5 qA6 fA6 qA7 fA7 qA8 fA8 qA9 fA9 qA10 fA10 zA qR0 fR0 qR1 fR1 qR2 fR2 qR3 fR3 qR4 fR4 qR5 fR5 qR6 fR6 qR7 fR7 qR8 fR8 qR9 fR9 qR10 fR10 zR qT0 fT0 qT1 fT1 qT2 fT2 qT3 fT3 qT4 fT4 qT5 fT5 qT6 fT6 qT7 fT7 qT8 fT8 qT9 fT9 qT10 fT10 zT
  have HA := Lib.hid (HA.out.below hb)
  have HR := Lib.hid (HR.out.below hb)
  have HT := Lib.hid (HT.out.below hb)
  have HB := Lib.hid (below_after hb HB.out)
  clear hb
  obtain ⟨⟨qA0, qA1, qA2, qA3, qA4, qA5, qA6, qA7, qA8, qA9, qA10⟩, ⟨fA0, fA1, fA2, fA3, fA4, fA5, fA6, fA7, fA8, fA9, fA10⟩, zA⟩ := HA.out
  obtain ⟨⟨qR0, qR1, qR2, qR3, qR4, qR5, qR6, qR7, qR8, qR9, qR10⟩, ⟨fR0, fR1, fR2, fR3, fR4, fR5, fR6, fR7, fR8, fR9, fR10⟩, zR⟩ := HR.out
  obtain ⟨⟨qT0, qT1, qT2, qT3, qT4, qT5, qT6, qT7, qT8, qT9, qT10⟩, ⟨fT0, fT1, fT2, fT3, fT4, fT5, fT6, fT7, fT8, fT9, fT10⟩, zT⟩ := HT.out
  go_upto_region 6 with fail
  obtain ⟨w8, hw8⟩ : ∃ wx, wx = (((w7.setCell ⟨GT, 8, none⟩ (.int .i64 x8)).setCell ⟨GT, 9, none⟩ (.int .i64 x9)).setCell ⟨GT, 10, none⟩ (.int .i64 x10)) := ⟨_, rfl⟩
  rw [← hw8]
  clear qA0 fA0 qA1 fA1 qA2 fA2 qA3 fA3 qA4 fA4 qA5 fA5 qA6 fA6 qA7 fA7 qA8 fA8 qA9 fA9 qA10 fA10 zA qR0 fR0 qR1 fR1 qR2 fR2 qR3 fR3 qR4 fR4 qR5 fR5 qR6 fR6 qR7 fR7 qR8 fR8 qR9 fR9 qR10 fR10 zR qT0 fT0 qT1 fT1 qT2 fT2 qT3 fT3 qT4 fT4 qT5 fT5 qT6 fT6 qT7 fT7 qT8 fT8 qT9 fT9 qT10 fT10 zT
  have HA := Lib.hid (((HA.out.far ⟨GT, 8, none⟩ (.int .i64 x8) (by show GA ≠ GT; exact ne_A_T)).far ⟨GT, 9, none⟩ (.int .i64 x9) (by show GA ≠ GT; exact ne_A_T)).far ⟨GT, 10, none⟩ (.int .i64 x10) (by show GA ≠ GT; exact ne_A_T))
  have HR := Lib.hid (((HR.out.far ⟨GT, 8, none⟩ (.int .i64 x8) (by show GR ≠ GT; exact ne_R_T)).far ⟨GT, 9, none⟩ (.int .i64 x9) (by show GR ≠ GT; exact ne_R_T)).far ⟨GT, 10, none⟩ (.int .i64 x10) (by show GR ≠ GT; exact ne_R_T))
  have HT := Lib.hid (((HT.out.set8 x8).set9 x9).set10 x10)
  have HB := Lib.hid (Below.setCell (Below.setCell (Below.setCell HB.out (p := ⟨GT, 8, none⟩) le_T (.int .i64 x8)) (p := ⟨GT, 9, none⟩) le_T (.int .i64 x9)) (p := ⟨GT, 10, none⟩) le_T (.int .i64 x10))
  rw [← hw8] at HA HR HT HB
  clear hw8
  obtain ⟨⟨qA0, qA1, qA2, qA3, qA4, qA5, qA6, qA7, qA8, qA9, qA10⟩, ⟨fA0, fA1, fA2, fA3, fA4, fA5, fA6, fA7, fA8, fA9, fA10⟩, zA⟩ := HA.out
  obtain ⟨⟨qR0, qR1, qR2, qR3, qR4, qR5, qR6, qR7, qR8, qR9, qR10⟩, ⟨fR0, fR1, fR2, fR3, fR4, fR5, fR6, fR7, fR8, fR9, fR10⟩, zR⟩ := HR.out
  obtain ⟨⟨qT0, qT1, qT2, qT3, qT4, qT5, qT6, qT7, qT8, qT9, qT10⟩, ⟨fT0, fT1, fT2, fT3, fT4, fT5, fT6, fT7, fT8, fT9, fT10⟩, zT⟩ := HT.out
  obtain ⟨⟨qA0, qA1, qA2, qA3, qA4, qA5, qA6, qA7, qA8, qA9, qA10⟩, ⟨fA0, fA1, fA2, fA3, fA4, fA5, fA6, fA7, fA8, fA9, fA10⟩, zA⟩ := HA.out
  obtain ⟨⟨qR0, qR1, qR2, qR3, qR4, qR5, qR6, qR7, qR8, qR9, qR10⟩, ⟨fR0, fR1, fR2, fR3, fR4, fR5, fR6, fR7, fR8, fR9, fR10⟩, zR⟩ := HR.out
  obtain ⟨⟨qT0, qT1, qT2, qT3, qT4, qT5, qT6, qT7, qT8, qT9, qT10⟩, ⟨fT0, fT1, fT2, fT3, fT4, fT5, fT6, fT7, fT8, fT9, fT10⟩, zT⟩ := HT.out
  go_wp2_with fail
  refine bodyPost_ret (v := .agg #[.int .i64 x0, .int .i64 x1, .int .i64 x2, .int .i64 x3, .int .i64 x4, .int .i64 x5, .int .i64 x6, .int .i64 x7, .int .i64 x8, .int .i64 x9, .int .i64 x10]) (by simp (maxDischargeDepth := 8) [results, Try.results9, go_sem, *]) rfl ?_
  have hb := HB.out
  exact ⟨rfl, by (repeat' (first | (with_reducible exact Below.refl _ _) | (with_reducible refine Below.alloc ?_ ?_ _) | (with_reducible refine Below.setCell ?_ ?_ _) | (with_reducible refine Below.drew ?_) | (with_reducible refine below_drewN ?_ _) | (with_reducible assumption) | (with_reducible refine below_after (by with_reducible assumption) ?_) | go_size))⟩
set_option maxHeartbeats 1600000 in
theorem l11Is_any (x0 x1 x2 x3 x4 x5 x6 x7 x8 x9 x10 : Int) (w : World) : Calls Try.prog 15 #[.agg #[.int .i64 x0, .int .i64 x1, .int .i64 x2, .int .i64 x3, .int .i64 x4, .int .i64 x5, .int .i64 x6, .int .i64 x7, .int .i64 x8, .int .i64 x9, .int .i64 x10]] w fun e w' => e = .returned (.bool (isDk x0 x1 x2 x3 x4 x5 x6 x7 x8 x9 x10)) ∧ Below w.heap.size w w' := by
  unfold isDk
  cases h0 : isPt (x0, x1)
  · skip
    have HQ0 := Lib.hid (fun w => l01Is_any x0 x1 w)
    rw [h0] at HQ0
    clear h0
    obtain ⟨GD, hG⟩ : ∃ G, w.heap.size = G := ⟨_, rfl⟩
    have HG := Lib.hid hG
    go_enter Try.func15, Try.ntmps15
    go_upto_region 1 with fail
    obtain ⟨w0, hw0⟩ : ∃ w0, w0 = (w.alloc (.cells #[.int .i64 x0, .int .i64 x1, .int .i64 x2, .int .i64 x3, .int .i64 x4, .int .i64 x5, .int .i64 x6, .int .i64 x7, .int .i64 x8, .int .i64 x9, .int .i64 x10] 29)) := ⟨_, rfl⟩
    rw [← hw0]
    have HD : Hid (Bk11 w0 GD x0 x1 x2 x3 x4 x5 x6 x7 x8 x9 x10) := by
      have h := (bk11_new w x0 x1 x2 x3 x4 x5 x6 x7 x8 x9 x10 29).below (W' := (w.alloc (.cells #[.int .i64 x0, .int .i64 x1, .int .i64 x2, .int .i64 x3, .int .i64 x4, .int .i64 x5, .int .i64 x6, .int .i64 x7, .int .i64 x8, .int .i64 x9, .int .i64 x10] 29))) (by (repeat' (first | (with_reducible exact Below.refl _ _) | (with_reducible refine Below.alloc ?_ ?_ _) | (with_reducible refine Below.setCell ?_ ?_ _) | (with_reducible refine Below.drew ?_) | (with_reducible refine below_drewN ?_ _) | (with_reducible assumption) | (with_reducible refine below_after (by with_reducible assumption) ?_) | go_size)))
      (try simp only [World.size_alloc] at h)
      rw [hG] at h
      rw [hw0]; exact h
    have HB : Hid (Below w.heap.size w w0) := by show Below w.heap.size w w0; rw [hw0]; (repeat' (first | (with_reducible exact Below.refl _ _) | (with_reducible refine Below.alloc ?_ ?_ _) | (with_reducible refine Below.setCell ?_ ?_ _) | (with_reducible refine Below.drew ?_) | (with_reducible refine below_drewN ?_ _) | (with_reducible assumption) | (with_reducible refine below_after (by with_reducible assumption) ?_) | go_size))
    clear hw0
    have le_D : w.heap.size ≤ GD := by omega
    obtain ⟨⟨qD0, qD1, qD2, qD3, qD4, qD5, qD6, qD7, qD8, qD9, qD10⟩, ⟨fD0, fD1, fD2, fD3, fD4, fD5, fD6, fD7, fD8, fD9, fD10⟩, zD⟩ := HD.out
    go_wp2_with fail
    go_at_call 23
    refine (HQ0.out _).mono ?_
    rintro e w1 ⟨rfl, hb⟩
    clear qD0 fD0 qD1 fD1 qD2 fD2 qD3 fD3 qD4 fD4 qD5 fD5 qD6 fD6 qD7 fD7 qD8 fD8 qD9 fD9 qD10 fD10 zD
    have HD := Lib.hid (HD.out.below hb)
    have HB := Lib.hid (below_after hb HB.out)
    clear hb
    obtain ⟨⟨qD0, qD1, qD2, qD3, qD4, qD5, qD6, qD7, qD8, qD9, qD10⟩, ⟨fD0, fD1, fD2, fD3, fD4, fD5, fD6, fD7, fD8, fD9, fD10⟩, zD⟩ := HD.out
    go_wp2_with fail
    refine bodyPost_ret (v := .bool false) (by simp (maxDischargeDepth := 8) [results, Try.results15, go_sem, *]) rfl ?_
    have hb := HB.out
    exact ⟨rfl, hb⟩
  · skip
    cases h1 : isPt (x2, x3)
    · skip
      have HQ0 := Lib.hid (fun w => l01Is_any x0 x1 w)
      rw [h0] at HQ0
      have HQ1 := Lib.hid (fun w => l01Is_any x2 x3 w)
      rw [h1] at HQ1
      clear h0 h1
      obtain ⟨GD, hG⟩ : ∃ G, w.heap.size = G := ⟨_, rfl⟩
      have HG := Lib.hid hG
      go_enter Try.func15, Try.ntmps15
      go_upto_region 1 with fail
      obtain ⟨w0, hw0⟩ : ∃ w0, w0 = (w.alloc (.cells #[.int .i64 x0, .int .i64 x1, .int .i64 x2, .int .i64 x3, .int .i64 x4, .int .i64 x5, .int .i64 x6, .int .i64 x7, .int .i64 x8, .int .i64 x9, .int .i64 x10] 29)) := ⟨_, rfl⟩
      rw [← hw0]
      have HD : Hid (Bk11 w0 GD x0 x1 x2 x3 x4 x5 x6 x7 x8 x9 x10) := by
        have h := (bk11_new w x0 x1 x2 x3 x4 x5 x6 x7 x8 x9 x10 29).below (W' := (w.alloc (.cells #[.int .i64 x0, .int .i64 x1, .int .i64 x2, .int .i64 x3, .int .i64 x4, .int .i64 x5, .int .i64 x6, .int .i64 x7, .int .i64 x8, .int .i64 x9, .int .i64 x10] 29))) (by (repeat' (first | (with_reducible exact Below.refl _ _) | (with_reducible refine Below.alloc ?_ ?_ _) | (with_reducible refine Below.setCell ?_ ?_ _) | (with_reducible refine Below.drew ?_) | (with_reducible refine below_drewN ?_ _) | (with_reducible assumption) | (with_reducible refine below_after (by with_reducible assumption) ?_) | go_size)))
        (try simp only [World.size_alloc] at h)
        rw [hG] at h
        rw [hw0]; exact h
      have HB : Hid (Below w.heap.size w w0) := by show Below w.heap.size w w0; rw [hw0]; (repeat' (first | (with_reducible exact Below.refl _ _) | (with_reducible refine Below.alloc ?_ ?_ _) | (with_reducible refine Below.setCell ?_ ?_ _) | (with_reducible refine Below.drew ?_) | (with_reducible refine below_drewN ?_ _) | (with_reducible assumption) | (with_reducible refine below_after (by with_reducible assumption) ?_) | go_size))
      clear hw0
      have le_D : w.heap.size ≤ GD := by omega
      obtain ⟨⟨qD0, qD1, qD2, qD3, qD4, qD5, qD6, qD7, qD8, qD9, qD10⟩, ⟨fD0, fD1, fD2, fD3, fD4, fD5, fD6, fD7, fD8, fD9, fD10⟩, zD⟩ := HD.out
      go_wp2_with fail
      go_at_call 23
      refine (HQ0.out _).mono ?_
      rintro e w1 ⟨rfl, hb⟩
      clear qD0 fD0 qD1 fD1 qD2 fD2 qD3 fD3 qD4 fD4 qD5 fD5 qD6 fD6 qD7 fD7 qD8 fD8 qD9 fD9 qD10 fD10 zD
      have HD := Lib.hid (HD.out.below hb)
      have HB := Lib.hid (below_after hb HB.out)
      clear hb
      obtain ⟨⟨qD0, qD1, qD2, qD3, qD4, qD5, qD6, qD7, qD8, qD9, qD10⟩, ⟨fD0, fD1, fD2, fD3, fD4, fD5, fD6, fD7, fD8, fD9, fD10⟩, zD⟩ := HD.out
      go_wp2_with fail
      go_at_call 23
      refine (HQ1.out _).mono ?_
      rintro e w2 ⟨rfl, hb⟩
      clear qD0 fD0 qD1 fD1 qD2 fD2 qD3 fD3 qD4 fD4 qD5 fD5 qD6 fD6 qD7 fD7 qD8 fD8 qD9 fD9 qD10 fD10 zD
      have HD := Lib.hid (HD.out.below hb)
      have HB := Lib.hid (below_after hb HB.out)
      clear hb
      obtain ⟨⟨qD0, qD1, qD2, qD3, qD4, qD5, qD6, qD7, qD8, qD9, qD10⟩, ⟨fD0, fD1, fD2, fD3, fD4, fD5, fD6, fD7, fD8, fD9, fD10⟩, zD⟩ := HD.out
      go_wp2_with fail
      refine bodyPost_ret (v := .bool false) (by simp (maxDischargeDepth := 8) [results, Try.results15, go_sem, *]) rfl ?_
      have hb := HB.out
      exact ⟨rfl, hb⟩
    · skip
      cases h2 : isMx x4 x5 x6 x7
      · skip
        have HQ0 := Lib.hid (fun w => l01Is_any x0 x1 w)
        rw [h0] at HQ0
        have HQ1 := Lib.hid (fun w => l01Is_any x2 x3 w)
        rw [h1] at HQ1
        have HQ2 := Lib.hid (fun w => l01Matrix_any x4 x5 x6 x7 w)
        rw [h2] at HQ2
        clear h0 h1 h2
        obtain ⟨GD, hG⟩ : ∃ G, w.heap.size = G := ⟨_, rfl⟩
        have HG := Lib.hid hG
        go_enter Try.func15, Try.ntmps15
        go_upto_region 1 with fail
        obtain ⟨w0, hw0⟩ : ∃ w0, w0 = (w.alloc (.cells #[.int .i64 x0, .int .i64 x1, .int .i64 x2, .int .i64 x3, .int .i64 x4, .int .i64 x5, .int .i64 x6, .int .i64 x7, .int .i64 x8, .int .i64 x9, .int .i64 x10] 29)) := ⟨_, rfl⟩
        rw [← hw0]
        have HD : Hid (Bk11 w0 GD x0 x1 x2 x3 x4 x5 x6 x7 x8 x9 x10) := by
          have h := (bk11_new w x0 x1 x2 x3 x4 x5 x6 x7 x8 x9 x10 29).below (W' := (w.alloc (.cells #[.int .i64 x0, .int .i64 x1, .int .i64 x2, .int .i64 x3, .int .i64 x4, .int .i64 x5, .int .i64 x6, .int .i64 x7, .int .i64 x8, .int .i64 x9, .int .i64 x10] 29))) (by (repeat' (first | (with_reducible exact Below.refl _ _) | (with_reducible refine Below.alloc ?_ ?_ _) | (with_reducible refine Below.setCell ?_ ?_ _) | (with_reducible refine Below.drew ?_) | (with_reducible refine below_drewN ?_ _) | (with_reducible assumption) | (with_reducible refine below_after (by with_reducible assumption) ?_) | go_size)))
          (try simp only [World.size_alloc] at h)
          rw [hG] at h
          rw [hw0]; exact h
        have HB : Hid (Below w.heap.size w w0) := by show Below w.heap.size w w0; rw [hw0]; (repeat' (first | (with_reducible exact Below.refl _ _) | (with_reducible refine Below.alloc ?_ ?_ _) | (with_reducible refine Below.setCell ?_ ?_ _) | (with_reducible refine Below.drew ?_) | (with_reducible refine below_drewN ?_ _) | (with_reducible assumption) | (with_reducible refine below_after (by with_reducible assumption) ?_) | go_size))
        clear hw0
        have le_D : w.heap.size ≤ GD := by omega
        obtain ⟨⟨qD0, qD1, qD2, qD3, qD4, qD5, qD6, qD7, qD8, qD9, qD10⟩, ⟨fD0, fD1, fD2, fD3, fD4, fD5, fD6, fD7, fD8, fD9, fD10⟩, zD⟩ := HD.out
        go_wp2_with fail
        go_at_call 23
        refine (HQ0.out _).mono ?_
        rintro e w1 ⟨rfl, hb⟩
        clear qD0 fD0 qD1 fD1 qD2 fD2 qD3 fD3 qD4 fD4 qD5 fD5 qD6 fD6 qD7 fD7 qD8 fD8 qD9 fD9 qD10 fD10 zD
        have HD := Lib.hid (HD.out.below hb)
        have HB := Lib.hid (below_after hb HB.out)
        clear hb
        obtain ⟨⟨qD0, qD1, qD2, qD3, qD4, qD5, qD6, qD7, qD8, qD9, qD10⟩, ⟨fD0, fD1, fD2, fD3, fD4, fD5, fD6, fD7, fD8, fD9, fD10⟩, zD⟩ := HD.out
        go_wp2_with fail
        go_at_call 23
        refine (HQ1.out _).mono ?_
        rintro e w2 ⟨rfl, hb⟩
        clear qD0 fD0 qD1 fD1 qD2 fD2 qD3 fD3 qD4 fD4 qD5 fD5 qD6 fD6 qD7 fD7 qD8 fD8 qD9 fD9 qD10 fD10 zD
        have HD := Lib.hid (HD.out.below hb)
        have HB := Lib.hid (below_after hb HB.out)
        clear hb
        obtain ⟨⟨qD0, qD1, qD2, qD3, qD4, qD5, qD6, qD7, qD8, qD9, qD10⟩, ⟨fD0, fD1, fD2, fD3, fD4, fD5, fD6, fD7, fD8, fD9, fD10⟩, zD⟩ := HD.out
        go_wp2_with fail
        go_at_call 24
        refine (HQ2.out _).mono ?_
        rintro e w3 ⟨rfl, hb⟩
        clear qD0 fD0 qD1 fD1 qD2 fD2 qD3 fD3 qD4 fD4 qD5 fD5 qD6 fD6 qD7 fD7 qD8 fD8 qD9 fD9 qD10 fD10 zD
        have HD := Lib.hid (HD.out.below hb)
        have HB := Lib.hid (below_after hb HB.out)
        clear hb
        obtain ⟨⟨qD0, qD1, qD2, qD3, qD4, qD5, qD6, qD7, qD8, qD9, qD10⟩, ⟨fD0, fD1, fD2, fD3, fD4, fD5, fD6, fD7, fD8, fD9, fD10⟩, zD⟩ := HD.out
        go_wp2_with fail
        refine bodyPost_ret (v := .bool false) (by simp (maxDischargeDepth := 8) [results, Try.results15, go_sem, *]) rfl ?_
        have hb := HB.out
        exact ⟨rfl, hb⟩
      · skip
        cases h3 : isFm x8 x9 x10
        · skip
          have HQ0 := Lib.hid (fun w => l01Is_any x0 x1 w)
          rw [h0] at HQ0
          have HQ1 := Lib.hid (fun w => l01Is_any x2 x3 w)
          rw [h1] at HQ1
          have HQ2 := Lib.hid (fun w => l01Matrix_any x4 x5 x6 x7 w)
          rw [h2] at HQ2
          have HQ3 := Lib.hid (fun w => l06Is_any x8 x9 x10 w)
          rw [h3] at HQ3
          clear h0 h1 h2 h3
          obtain ⟨GD, hG⟩ : ∃ G, w.heap.size = G := ⟨_, rfl⟩
          have HG := Lib.hid hG
          go_enter Try.func15, Try.ntmps15
          go_upto_region 1 with fail
          obtain ⟨w0, hw0⟩ : ∃ w0, w0 = (w.alloc (.cells #[.int .i64 x0, .int .i64 x1, .int .i64 x2, .int .i64 x3, .int .i64 x4, .int .i64 x5, .int .i64 x6, .int .i64 x7, .int .i64 x8, .int .i64 x9, .int .i64 x10] 29)) := ⟨_, rfl⟩
          rw [← hw0]
          have HD : Hid (Bk11 w0 GD x0 x1 x2 x3 x4 x5 x6 x7 x8 x9 x10) := by
            have h := (bk11_new w x0 x1 x2 x3 x4 x5 x6 x7 x8 x9 x10 29).below (W' := (w.alloc (.cells #[.int .i64 x0, .int .i64 x1, .int .i64 x2, .int .i64 x3, .int .i64 x4, .int .i64 x5, .int .i64 x6, .int .i64 x7, .int .i64 x8, .int .i64 x9, .int .i64 x10] 29))) (by (repeat' (first | (with_reducible exact Below.refl _ _) | (with_reducible refine Below.alloc ?_ ?_ _) | (with_reducible refine Below.setCell ?_ ?_ _) | (with_reducible refine Below.drew ?_) | (with_reducible refine below_drewN ?_ _) | (with_reducible assumption) | (with_reducible refine below_after (by with_reducible assumption) ?_) | go_size)))
            (try simp only [World.size_alloc] at h)
            rw [hG] at h
            rw [hw0]; exact h
          have HB : Hid (Below w.heap.size w w0) := by show Below w.heap.size w w0; rw [hw0]; (repeat' (first | (with_reducible exact Below.refl _ _) | (with_reducible refine Below.alloc ?_ ?_ _) | (with_reducible refine Below.setCell ?_ ?_ _) | (with_reducible refine Below.drew ?_) | (with_reducible refine below_drewN ?_ _) | (with_reducible assumption) | (with_reducible refine below_after (by with_reducible assumption) ?_) | go_size))
          clear hw0
          have le_D : w.heap.size ≤ GD := by omega
          obtain ⟨⟨qD0, qD1, qD2, qD3, qD4, qD5, qD6, qD7, qD8, qD9, qD10⟩, ⟨fD0, fD1, fD2, fD3, fD4, fD5, fD6, fD7, fD8, fD9, fD10⟩, zD⟩ := HD.out
          go_wp2_with fail
          go_at_call 23
          refine (HQ0.out _).mono ?_
          rintro e w1 ⟨rfl, hb⟩
          clear qD0 fD0 qD1 fD1 qD2 fD2 qD3 fD3 qD4 fD4 qD5 fD5 qD6 fD6 qD7 fD7 qD8 fD8 qD9 fD9 qD10 fD10 zD
          have HD := Lib.hid (HD.out.below hb)
          have HB := Lib.hid (below_after hb HB.out)
          clear hb
          obtain ⟨⟨qD0, qD1, qD2, qD3, qD4, qD5, qD6, qD7, qD8, qD9, qD10⟩, ⟨fD0, fD1, fD2, fD3, fD4, fD5, fD6, fD7, fD8, fD9, fD10⟩, zD⟩ := HD.out
          go_wp2_with fail
          go_at_call 23
          refine (HQ1.out _).mono ?_
          rintro e w2 ⟨rfl, hb⟩
          clear qD0 fD0 qD1 fD1 qD2 fD2 qD3 fD3 qD4 fD4 qD5 fD5 qD6 fD6 qD7 fD7 qD8 fD8 qD9 fD9 qD10 fD10 zD
          have HD := Lib.hid (HD.out.below hb)
          have HB := Lib.hid (below_after hb HB.out)
          clear hb
          obtain ⟨⟨qD0, qD1, qD2, qD3, qD4, qD5, qD6, qD7, qD8, qD9, qD10⟩, ⟨fD0, fD1, fD2, fD3, fD4, fD5, fD6, fD7, fD8, fD9, fD10⟩, zD⟩ := HD.out
          go_wp2_with fail
          go_at_call 24
          refine (HQ2.out _).mono ?_
          rintro e w3 ⟨rfl, hb⟩
          clear qD0 fD0 qD1 fD1 qD2 fD2 qD3 fD3 qD4 fD4 qD5 fD5 qD6 fD6 qD7 fD7 qD8 fD8 qD9 fD9 qD10 fD10 zD
          have HD := Lib.hid (HD.out.below hb)
          have HB := Lib.hid (below_after hb HB.out)
          clear hb
          obtain ⟨⟨qD0, qD1, qD2, qD3, qD4, qD5, qD6, qD7, qD8, qD9, qD10⟩, ⟨fD0, fD1, fD2, fD3, fD4, fD5, fD6, fD7, fD8, fD9, fD10⟩, zD⟩ := HD.out
          go_wp2_with fail
          go_at_call 25
          refine (HQ3.out _).mono ?_
          rintro e w4 ⟨rfl, hb⟩
          clear qD0 fD0 qD1 fD1 qD2 fD2 qD3 fD3 qD4 fD4 qD5 fD5 qD6 fD6 qD7 fD7 qD8 fD8 qD9 fD9 qD10 fD10 zD
          have HD := Lib.hid (HD.out.below hb)
          have HB := Lib.hid (below_after hb HB.out)
          clear hb
          obtain ⟨⟨qD0, qD1, qD2, qD3, qD4, qD5, qD6, qD7, qD8, qD9, qD10⟩, ⟨fD0, fD1, fD2, fD3, fD4, fD5, fD6, fD7, fD8, fD9, fD10⟩, zD⟩ := HD.out
          go_wp2_with fail
          refine bodyPost_ret (v := .bool false) (by simp (maxDischargeDepth := 8) [results, Try.results15, go_sem, *]) rfl ?_
          have hb := HB.out
          exact ⟨rfl, hb⟩
        · skip
          have HQ0 := Lib.hid (fun w => l01Is_any x0 x1 w)
          rw [h0] at HQ0
          have HQ1 := Lib.hid (fun w => l01Is_any x2 x3 w)
          rw [h1] at HQ1
          have HQ2 := Lib.hid (fun w => l01Matrix_any x4 x5 x6 x7 w)
          rw [h2] at HQ2
          have HQ3 := Lib.hid (fun w => l06Is_any x8 x9 x10 w)
          rw [h3] at HQ3
          clear h0 h1 h2 h3
          obtain ⟨GD, hG⟩ : ∃ G, w.heap.size = G := ⟨_, rfl⟩
          have HG := Lib.hid hG
          go_enter Try.func15, Try.ntmps15
          go_upto_region 1 with fail
          obtain ⟨w0, hw0⟩ : ∃ w0, w0 = (w.alloc (.cells #[.int .i64 x0, .int .i64 x1, .int .i64 x2, .int .i64 x3, .int .i64 x4, .int .i64 x5, .int .i64 x6, .int .i64 x7, .int .i64 x8, .int .i64 x9, .int .i64 x10] 29)) := ⟨_, rfl⟩
          rw [← hw0]
          have HD : Hid (Bk11 w0 GD x0 x1 x2 x3 x4 x5 x6 x7 x8 x9 x10) := by
            have h := (bk11_new w x0 x1 x2 x3 x4 x5 x6 x7 x8 x9 x10 29).below (W' := (w.alloc (.cells #[.int .i64 x0, .int .i64 x1, .int .i64 x2, .int .i64 x3, .int .i64 x4, .int .i64 x5, .int .i64 x6, .int .i64 x7, .int .i64 x8, .int .i64 x9, .int .i64 x10] 29))) (by (repeat' (first | (with_reducible exact Below.refl _ _) | (with_reducible refine Below.alloc ?_ ?_ _) | (with_reducible refine Below.setCell ?_ ?_ _) | (with_reducible refine Below.drew ?_) | (with_reducible refine below_drewN ?_ _) | (with_reducible assumption) | (with_reducible refine below_after (by with_reducible assumption) ?_) | go_size)))
            (try simp only [World.size_alloc] at h)
            rw [hG] at h
            rw [hw0]; exact h
          have HB : Hid (Below w.heap.size w w0) := by show Below w.heap.size w w0; rw [hw0]; (repeat' (first | (with_reducible exact Below.refl _ _) | (with_reducible refine Below.alloc ?_ ?_ _) | (with_reducible refine Below.setCell ?_ ?_ _) | (with_reducible refine Below.drew ?_) | (with_reducible refine below_drewN ?_ _) | (with_reducible assumption) | (with_reducible refine below_after (by with_reducible assumption) ?_) | go_size))
          clear hw0
          have le_D : w.heap.size ≤ GD := by omega
          obtain ⟨⟨qD0, qD1, qD2, qD3, qD4, qD5, qD6, qD7, qD8, qD9, qD10⟩, ⟨fD0, fD1, fD2, fD3, fD4, fD5, fD6, fD7, fD8, fD9, fD10⟩, zD⟩ := HD.out
          go_wp2_with fail
          go_at_call 23
          refine (HQ0.out _).mono ?_
          rintro e w1 ⟨rfl, hb⟩
          clear qD0 fD0 qD1 fD1 qD2 fD2 qD3 fD3 qD4 fD4 qD5 fD5 qD6 fD6 qD7 fD7 qD8 fD8 qD9 fD9 qD10 fD10 zD
          have HD := Lib.hid (HD.out.below hb)
          have HB := Lib.hid (below_after hb HB.out)
          clear hb
          obtain ⟨⟨qD0, qD1, qD2, qD3, qD4, qD5, qD6, qD7, qD8, qD9, qD10⟩, ⟨fD0, fD1, fD2, fD3, fD4, fD5, fD6, fD7, fD8, fD9, fD10⟩, zD⟩ := HD.out
          go_wp2_with fail
          go_at_call 23
          refine (HQ1.out _).mono ?_
          rintro e w2 ⟨rfl, hb⟩
          clear qD0 fD0 qD1 fD1 qD2 fD2 qD3 fD3 qD4 fD4 qD5 fD5 qD6 fD6 qD7 fD7 qD8 fD8 qD9 fD9 qD10 fD10 zD
          have HD := Lib.hid (HD.out.below hb)
          have HB := Lib.hid (below_after hb HB.out)
          clear hb
          obtain ⟨⟨qD0, qD1, qD2, qD3, qD4, qD5, qD6, qD7, qD8, qD9, qD10⟩, ⟨fD0, fD1, fD2, fD3, fD4, fD5, fD6, fD7, fD8, fD9, fD10⟩, zD⟩ := HD.out
          go_wp2_with fail
          go_at_call 24
          refine (HQ2.out _).mono ?_
          rintro e w3 ⟨rfl, hb⟩
          clear qD0 fD0 qD1 fD1 qD2 fD2 qD3 fD3 qD4 fD4 qD5 fD5 qD6 fD6 qD7 fD7 qD8 fD8 qD9 fD9 qD10 fD10 zD
          have HD := Lib.hid (HD.out.below hb)
          have HB := Lib.hid (below_after hb HB.out)
          clear hb
          obtain ⟨⟨qD0, qD1, qD2, qD3, qD4, qD5, qD6, qD7, qD8, qD9, qD10⟩, ⟨fD0, fD1, fD2, fD3, fD4, fD5, fD6, fD7, fD8, fD9, fD10⟩, zD⟩ := HD.out
          go_wp2_with fail
          go_at_call 25
          refine (HQ3.out _).mono ?_
          rintro e w4 ⟨rfl, hb⟩
          clear qD0 fD0 qD1 fD1 qD2 fD2 qD3 fD3 qD4 fD4 qD5 fD5 qD6 fD6 qD7 fD7 qD8 fD8 qD9 fD9 qD10 fD10 zD
          have HD := Lib.hid (HD.out.below hb)
          have HB := Lib.hid (below_after hb HB.out)
          clear hb
          obtain ⟨⟨qD0, qD1, qD2, qD3, qD4, qD5, qD6, qD7, qD8, qD9, qD10⟩, ⟨fD0, fD1, fD2, fD3, fD4, fD5, fD6, fD7, fD8, fD9, fD10⟩, zD⟩ := HD.out
          go_wp2_with fail
          refine bodyPost_ret (v := .bool true) (by simp (maxDischargeDepth := 8) [results, Try.results15, go_sem, *]) rfl ?_
          have hb := HB.out
          exact ⟨rfl, hb⟩
theorem arePoints2_any (x0 y0 x1 y1 : Int) (b cap : Nat) (w : World) (hb : b < w.heap.size) (c0 : w.cell? ⟨b, 0, none⟩ = some (.int .i64 x0)) (d0 : w.cell? ⟨b, 1, none⟩ = some (.int .i64 y0)) (c1 : w.cell? ⟨b, 2, none⟩ = some (.int .i64 x1)) (d1 : w.cell? ⟨b, 3, none⟩ = some (.int .i64 y1)) :
    Calls Try.prog 19 #[.slice (some ⟨b, 0, none⟩) 2 cap] w fun e w' => e = .returned (.bool (isPt (x0, y0) && isPt (x1, y1))) ∧ Below w.heap.size w w' := by
  cases h : (isPt (x0, y0) && isPt (x1, y1))
  · exact arePoints2_no x0 y0 x1 y1 b cap w hb c0 d0 c1 d1 h
  · simp only [Bool.and_eq_true] at h
    exact arePoints2_yes x0 y0 x1 y1 b cap w hb c0 d0 c1 d1 h.1 h.2
set_option maxHeartbeats 1600000 in
theorem impl_IsDesk_any (x0 x1 x2 x3 x4 x5 x6 x7 x8 x9 x10 : Int) (w : World) : Calls Try.prog 10 #[.agg #[.int .i64 x0, .int .i64 x1, .int .i64 x2, .int .i64 x3, .int .i64 x4, .int .i64 x5, .int .i64 x6, .int .i64 x7, .int .i64 x8, .int .i64 x9, .int .i64 x10]] w fun e w' => e = .returned (.bool (isDk x0 x1 x2 x3 x4 x5 x6 x7 x8 x9 x10)) ∧ Below w.heap.size w w' := by
  unfold isDk
  cases h0 : (isPt (x0, x1) && isPt (x2, x3))
  · skip
    have HQ0 := Lib.hid (fun b cap w hb c0 d0 c1 d1 => arePoints2_any x0 x1 x2 x3 b cap w hb c0 d0 c1 d1)
    rw [h0] at HQ0
    clear h0
    obtain ⟨GD, hG⟩ : ∃ G, w.heap.size = G := ⟨_, rfl⟩
    have HG := Lib.hid hG
    go_enter Try.func10, Try.ntmps10
    go_upto_region 1 with fail
    obtain ⟨w0, hw0⟩ : ∃ w0, w0 = (w.alloc (.cells #[.int .i64 x0, .int .i64 x1, .int .i64 x2, .int .i64 x3, .int .i64 x4, .int .i64 x5, .int .i64 x6, .int .i64 x7, .int .i64 x8, .int .i64 x9, .int .i64 x10] 29)) := ⟨_, rfl⟩
    rw [← hw0]
    have HD : Hid (Bk11 w0 GD x0 x1 x2 x3 x4 x5 x6 x7 x8 x9 x10) := by
      have h := (bk11_new w x0 x1 x2 x3 x4 x5 x6 x7 x8 x9 x10 29).below (W' := (w.alloc (.cells #[.int .i64 x0, .int .i64 x1, .int .i64 x2, .int .i64 x3, .int .i64 x4, .int .i64 x5, .int .i64 x6, .int .i64 x7, .int .i64 x8, .int .i64 x9, .int .i64 x10] 29))) (by (repeat' (first | (with_reducible exact Below.refl _ _) | (with_reducible refine Below.alloc ?_ ?_ _) | (with_reducible refine Below.setCell ?_ ?_ _) | (with_reducible refine Below.drew ?_) | (with_reducible refine below_drewN ?_ _) | (with_reducible assumption) | (with_reducible refine below_after (by with_reducible assumption) ?_) | go_size)))
      (try simp only [World.size_alloc] at h)
      rw [hG] at h
      rw [hw0]; exact h
    have HB : Hid (Below w.heap.size w w0) := by show Below w.heap.size w w0; rw [hw0]; (repeat' (first | (with_reducible exact Below.refl _ _) | (with_reducible refine Below.alloc ?_ ?_ _) | (with_reducible refine Below.setCell ?_ ?_ _) | (with_reducible refine Below.drew ?_) | (with_reducible refine below_drewN ?_ _) | (with_reducible assumption) | (with_reducible refine below_after (by with_reducible assumption) ?_) | go_size))
    clear hw0
    have le_D : w.heap.size ≤ GD := by omega
    obtain ⟨⟨qD0, qD1, qD2, qD3, qD4, qD5, qD6, qD7, qD8, qD9, qD10⟩, ⟨fD0, fD1, fD2, fD3, fD4, fD5, fD6, fD7, fD8, fD9, fD10⟩, zD⟩ := HD.out
    go_wp2_with fail
    go_at_call 19
    refine (HQ0.out _ _ _ (by go_size) (by go_cell) (by go_cell) (by go_cell) (by go_cell)).mono ?_
    rintro e w1 ⟨rfl, hb⟩
    clear qD0 fD0 qD1 fD1 qD2 fD2 qD3 fD3 qD4 fD4 qD5 fD5 qD6 fD6 qD7 fD7 qD8 fD8 qD9 fD9 qD10 fD10 zD
    have HD := Lib.hid ((HD.out.below ((Below.refl _ _).alloc (Nat.le_refl _) (.cells #[.int .i64 x0, .int .i64 x1, .int .i64 x2, .int .i64 x3] _))).below hb)
    have HB := Lib.hid (below_after hb (Below.alloc HB.out HB.out.size _))
    clear hb
    obtain ⟨⟨qD0, qD1, qD2, qD3, qD4, qD5, qD6, qD7, qD8, qD9, qD10⟩, ⟨fD0, fD1, fD2, fD3, fD4, fD5, fD6, fD7, fD8, fD9, fD10⟩, zD⟩ := HD.out
    go_wp2_with fail
    refine bodyPost_ret (v := .bool false) (by simp (maxDischargeDepth := 8) [results, Try.results10, go_sem, *]) rfl ?_
    have hb := HB.out
    exact ⟨rfl, hb⟩
  · skip
    cases h1 : isMx x4 x5 x6 x7
    · skip
      have HQ0 := Lib.hid (fun b cap w hb c0 d0 c1 d1 => arePoints2_any x0 x1 x2 x3 b cap w hb c0 d0 c1 d1)
      rw [h0] at HQ0
      have HQ1 := Lib.hid (fun w => impl_IsMatrix_any x4 x5 x6 x7 w)
      rw [h1] at HQ1
      clear h0 h1
      obtain ⟨GD, hG⟩ : ∃ G, w.heap.size = G := ⟨_, rfl⟩
      have HG := Lib.hid hG
      go_enter Try.func10, Try.ntmps10
      go_upto_region 1 with fail
      obtain ⟨w0, hw0⟩ : ∃ w0, w0 = (w.alloc (.cells #[.int .i64 x0, .int .i64 x1, .int .i64 x2, .int .i64 x3, .int .i64 x4, .int .i64 x5, .int .i64 x6, .int .i64 x7, .int .i64 x8, .int .i64 x9, .int .i64 x10] 29)) := ⟨_, rfl⟩
      rw [← hw0]
      have HD : Hid (Bk11 w0 GD x0 x1 x2 x3 x4 x5 x6 x7 x8 x9 x10) := by
        have h := (bk11_new w x0 x1 x2 x3 x4 x5 x6 x7 x8 x9 x10 29).below (W' := (w.alloc (.cells #[.int .i64 x0, .int .i64 x1, .int .i64 x2, .int .i64 x3, .int .i64 x4, .int .i64 x5, .int .i64 x6, .int .i64 x7, .int .i64 x8, .int .i64 x9, .int .i64 x10] 29))) (by (repeat' (first | (with_reducible exact Below.refl _ _) | (with_reducible refine Below.alloc ?_ ?_ _) | (with_reducible refine Below.setCell ?_ ?_ _) | (with_reducible refine Below.drew ?_) | (with_reducible refine below_drewN ?_ _) | (with_reducible assumption) | (with_reducible refine below_after (by with_reducible assumption) ?_) | go_size)))
        (try simp only [World.size_alloc] at h)
        rw [hG] at h
        rw [hw0]; exact h
      have HB : Hid (Below w.heap.size w w0) := by show Below w.heap.size w w0; rw [hw0]; (repeat' (first | (with_reducible exact Below.refl _ _) | (with_reducible refine Below.alloc ?_ ?_ _) | (with_reducible refine Below.setCell ?_ ?_ _) | (with_reducible refine Below.drew ?_) | (with_reducible refine below_drewN ?_ _) | (with_reducible assumption) | (with_reducible refine below_after (by with_reducible assumption) ?_) | go_size))
      clear hw0
      have le_D : w.heap.size ≤ GD := by omega
      obtain ⟨⟨qD0, qD1, qD2, qD3, qD4, qD5, qD6, qD7, qD8, qD9, qD10⟩, ⟨fD0, fD1, fD2, fD3, fD4, fD5, fD6, fD7, fD8, fD9, fD10⟩, zD⟩ := HD.out
      go_wp2_with fail
      go_at_call 19
      refine (HQ0.out _ _ _ (by go_size) (by go_cell) (by go_cell) (by go_cell) (by go_cell)).mono ?_
      rintro e w1 ⟨rfl, hb⟩
      clear qD0 fD0 qD1 fD1 qD2 fD2 qD3 fD3 qD4 fD4 qD5 fD5 qD6 fD6 qD7 fD7 qD8 fD8 qD9 fD9 qD10 fD10 zD
      have HD := Lib.hid ((HD.out.below ((Below.refl _ _).alloc (Nat.le_refl _) (.cells #[.int .i64 x0, .int .i64 x1, .int .i64 x2, .int .i64 x3] _))).below hb)
      have HB := Lib.hid (below_after hb (Below.alloc HB.out HB.out.size _))
      clear hb
      obtain ⟨⟨qD0, qD1, qD2, qD3, qD4, qD5, qD6, qD7, qD8, qD9, qD10⟩, ⟨fD0, fD1, fD2, fD3, fD4, fD5, fD6, fD7, fD8, fD9, fD10⟩, zD⟩ := HD.out
      go_wp2_with fail
      go_at_call 20
      refine (HQ1.out _).mono ?_
      rintro e w1 ⟨rfl, hb⟩
      clear qD0 fD0 qD1 fD1 qD2 fD2 qD3 fD3 qD4 fD4 qD5 fD5 qD6 fD6 qD7 fD7 qD8 fD8 qD9 fD9 qD10 fD10 zD
      have HD := Lib.hid (HD.out.below hb)
      have HB := Lib.hid (below_after hb HB.out)
      clear hb
      obtain ⟨⟨qD0, qD1, qD2, qD3, qD4, qD5, qD6, qD7, qD8, qD9, qD10⟩, ⟨fD0, fD1, fD2, fD3, fD4, fD5, fD6, fD7, fD8, fD9, fD10⟩, zD⟩ := HD.out
      go_wp2_with fail
      refine bodyPost_ret (v := .bool false) (by simp (maxDischargeDepth := 8) [results, Try.results10, go_sem, *]) rfl ?_
      have hb := HB.out
      exact ⟨rfl, hb⟩
    · skip
      cases h2 : isFm x8 x9 x10
      · skip
        have HQ0 := Lib.hid (fun b cap w hb c0 d0 c1 d1 => arePoints2_any x0 x1 x2 x3 b cap w hb c0 d0 c1 d1)
        rw [h0] at HQ0
        have HQ1 := Lib.hid (fun w => impl_IsMatrix_any x4 x5 x6 x7 w)
        rw [h1] at HQ1
        have HQ2 := Lib.hid (fun w => impl_IsForm_any x8 x9 x10 w)
        rw [h2] at HQ2
        clear h0 h1 h2
        obtain ⟨GD, hG⟩ : ∃ G, w.heap.size = G := ⟨_, rfl⟩
        have HG := Lib.hid hG
        go_enter Try.func10, Try.ntmps10
        go_upto_region 1 with fail
        obtain ⟨w0, hw0⟩ : ∃ w0, w0 = (w.alloc (.cells #[.int .i64 x0, .int .i64 x1, .int .i64 x2, .int .i64 x3, .int .i64 x4, .int .i64 x5, .int .i64 x6, .int .i64 x7, .int .i64 x8, .int .i64 x9, .int .i64 x10] 29)) := ⟨_, rfl⟩
        rw [← hw0]
        have HD : Hid (Bk11 w0 GD x0 x1 x2 x3 x4 x5 x6 x7 x8 x9 x10) := by
          have h := (bk11_new w x0 x1 x2 x3 x4 x5 x6 x7 x8 x9 x10 29).below (W' := (w.alloc (.cells #[.int .i64 x0, .int .i64 x1, .int .i64 x2, .int .i64 x3, .int .i64 x4, .int .i64 x5, .int .i64 x6, .int .i64 x7, .int .i64 x8, .int .i64 x9, .int .i64 x10] 29))) (by (repeat' (first | (with_reducible exact Below.refl _ _) | (with_reducible refine Below.alloc ?_ ?_ _) | (with_reducible refine Below.setCell ?_ ?_ _) | (with_reducible refine Below.drew ?_) | (with_reducible refine below_drewN ?_ _) | (with_reducible assumption) | (with_reducible refine below_after (by with_reducible assumption) ?_) | go_size)))
          (try simp only [World.size_alloc] at h)
          rw [hG] at h
          rw [hw0]; exact h
        have HB : Hid (Below w.heap.size w w0) := by show Below w.heap.size w w0; rw [hw0]; (repeat' (first | (with_reducible exact Below.refl _ _) | (with_reducible refine Below.alloc ?_ ?_ _) | (with_reducible refine Below.setCell ?_ ?_ _) | (with_reducible refine Below.drew ?_) | (with_reducible refine below_drewN ?_ _) | (with_reducible assumption) | (with_reducible refine below_after (by with_reducible assumption) ?_) | go_size))
        clear hw0
        have le_D : w.heap.size ≤ GD := by omega
        obtain ⟨⟨qD0, qD1, qD2, qD3, qD4, qD5, qD6, qD7, qD8, qD9, qD10⟩, ⟨fD0, fD1, fD2, fD3, fD4, fD5, fD6, fD7, fD8, fD9, fD10⟩, zD⟩ := HD.out
        go_wp2_with fail
        go_at_call 19
        refine (HQ0.out _ _ _ (by go_size) (by go_cell) (by go_cell) (by go_cell) (by go_cell)).mono ?_
        rintro e w1 ⟨rfl, hb⟩
        clear qD0 fD0 qD1 fD1 qD2 fD2 qD3 fD3 qD4 fD4 qD5 fD5 qD6 fD6 qD7 fD7 qD8 fD8 qD9 fD9 qD10 fD10 zD
        have HD := Lib.hid ((HD.out.below ((Below.refl _ _).alloc (Nat.le_refl _) (.cells #[.int .i64 x0, .int .i64 x1, .int .i64 x2, .int .i64 x3] _))).below hb)
        have HB := Lib.hid (below_after hb (Below.alloc HB.out HB.out.size _))
        clear hb
        obtain ⟨⟨qD0, qD1, qD2, qD3, qD4, qD5, qD6, qD7, qD8, qD9, qD10⟩, ⟨fD0, fD1, fD2, fD3, fD4, fD5, fD6, fD7, fD8, fD9, fD10⟩, zD⟩ := HD.out
        go_wp2_with fail
        go_at_call 20
        refine (HQ1.out _).mono ?_
        rintro e w1 ⟨rfl, hb⟩
        clear qD0 fD0 qD1 fD1 qD2 fD2 qD3 fD3 qD4 fD4 qD5 fD5 qD6 fD6 qD7 fD7 qD8 fD8 qD9 fD9 qD10 fD10 zD
        have HD := Lib.hid (HD.out.below hb)
        have HB := Lib.hid (below_after hb HB.out)
        clear hb
        obtain ⟨⟨qD0, qD1, qD2, qD3, qD4, qD5, qD6, qD7, qD8, qD9, qD10⟩, ⟨fD0, fD1, fD2, fD3, fD4, fD5, fD6, fD7, fD8, fD9, fD10⟩, zD⟩ := HD.out
        go_wp2_with fail
        go_at_call 21
        refine (HQ2.out _).mono ?_
        rintro e w2 ⟨rfl, hb⟩
        clear qD0 fD0 qD1 fD1 qD2 fD2 qD3 fD3 qD4 fD4 qD5 fD5 qD6 fD6 qD7 fD7 qD8 fD8 qD9 fD9 qD10 fD10 zD
        have HD := Lib.hid (HD.out.below hb)
        have HB := Lib.hid (below_after hb HB.out)
        clear hb
        obtain ⟨⟨qD0, qD1, qD2, qD3, qD4, qD5, qD6, qD7, qD8, qD9, qD10⟩, ⟨fD0, fD1, fD2, fD3, fD4, fD5, fD6, fD7, fD8, fD9, fD10⟩, zD⟩ := HD.out
        go_wp2_with fail
        refine bodyPost_ret (v := .bool false) (by simp (maxDischargeDepth := 8) [results, Try.results10, go_sem, *]) rfl ?_
        have hb := HB.out
        exact ⟨rfl, hb⟩
      · skip
        have HQ0 := Lib.hid (fun b cap w hb c0 d0 c1 d1 => arePoints2_any x0 x1 x2 x3 b cap w hb c0 d0 c1 d1)
        rw [h0] at HQ0
        have HQ1 := Lib.hid (fun w => impl_IsMatrix_any x4 x5 x6 x7 w)
        rw [h1] at HQ1
        have HQ2 := Lib.hid (fun w => impl_IsForm_any x8 x9 x10 w)
        rw [h2] at HQ2
        clear h0 h1 h2
        obtain ⟨GD, hG⟩ : ∃ G, w.heap.size = G := ⟨_, rfl⟩
        have HG := Lib.hid hG
        go_enter Try.func10, Try.ntmps10
        go_upto_region 1 with fail
        obtain ⟨w0, hw0⟩ : ∃ w0, w0 = (w.alloc (.cells #[.int .i64 x0, .int .i64 x1, .int .i64 x2, .int .i64 x3, .int .i64 x4, .int .i64 x5, .int .i64 x6, .int .i64 x7, .int .i64 x8, .int .i64 x9, .int .i64 x10] 29)) := ⟨_, rfl⟩
        rw [← hw0]
        have HD : Hid (Bk11 w0 GD x0 x1 x2 x3 x4 x5 x6 x7 x8 x9 x10) := by
          have h := (bk11_new w x0 x1 x2 x3 x4 x5 x6 x7 x8 x9 x10 29).below (W' := (w.alloc (.cells #[.int .i64 x0, .int .i64 x1, .int .i64 x2, .int .i64 x3, .int .i64 x4, .int .i64 x5, .int .i64 x6, .int .i64 x7, .int .i64 x8, .int .i64 x9, .int .i64 x10] 29))) (by (repeat' (first | (with_reducible exact Below.refl _ _) | (with_reducible refine Below.alloc ?_ ?_ _) | (with_reducible refine Below.setCell ?_ ?_ _) | (with_reducible refine Below.drew ?_) | (with_reducible refine below_drewN ?_ _) | (with_reducible assumption) | (with_reducible refine below_after (by with_reducible assumption) ?_) | go_size)))
          (try simp only [World.size_alloc] at h)
          rw [hG] at h
          rw [hw0]; exact h
        have HB : Hid (Below w.heap.size w w0) := by show Below w.heap.size w w0; rw [hw0]; (repeat' (first | (with_reducible exact Below.refl _ _) | (with_reducible refine Below.alloc ?_ ?_ _) | (with_reducible refine Below.setCell ?_ ?_ _) | (with_reducible refine Below.drew ?_) | (with_reducible refine below_drewN ?_ _) | (with_reducible assumption) | (with_reducible refine below_after (by with_reducible assumption) ?_) | go_size))
        clear hw0
        have le_D : w.heap.size ≤ GD := by omega
        obtain ⟨⟨qD0, qD1, qD2, qD3, qD4, qD5, qD6, qD7, qD8, qD9, qD10⟩, ⟨fD0, fD1, fD2, fD3, fD4, fD5, fD6, fD7, fD8, fD9, fD10⟩, zD⟩ := HD.out
        go_wp2_with fail
        go_at_call 19
        refine (HQ0.out _ _ _ (by go_size) (by go_cell) (by go_cell) (by go_cell) (by go_cell)).mono ?_
        rintro e w1 ⟨rfl, hb⟩
        clear qD0 fD0 qD1 fD1 qD2 fD2 qD3 fD3 qD4 fD4 qD5 fD5 qD6 fD6 qD7 fD7 qD8 fD8 qD9 fD9 qD10 fD10 zD
        have HD := Lib.hid ((HD.out.below ((Below.refl _ _).alloc (Nat.le_refl _) (.cells #[.int .i64 x0, .int .i64 x1, .int .i64 x2, .int .i64 x3] _))).below hb)
        have HB := Lib.hid (below_after hb (Below.alloc HB.out HB.out.size _))
        clear hb
        obtain ⟨⟨qD0, qD1, qD2, qD3, qD4, qD5, qD6, qD7, qD8, qD9, qD10⟩, ⟨fD0, fD1, fD2, fD3, fD4, fD5, fD6, fD7, fD8, fD9, fD10⟩, zD⟩ := HD.out
        go_wp2_with fail
        go_at_call 20
        refine (HQ1.out _).mono ?_
        rintro e w1 ⟨rfl, hb⟩
        clear qD0 fD0 qD1 fD1 qD2 fD2 qD3 fD3 qD4 fD4 qD5 fD5 qD6 fD6 qD7 fD7 qD8 fD8 qD9 fD9 qD10 fD10 zD
        have HD := Lib.hid (HD.out.below hb)
        have HB := Lib.hid (below_after hb HB.out)
        clear hb
        obtain ⟨⟨qD0, qD1, qD2, qD3, qD4, qD5, qD6, qD7, qD8, qD9, qD10⟩, ⟨fD0, fD1, fD2, fD3, fD4, fD5, fD6, fD7, fD8, fD9, fD10⟩, zD⟩ := HD.out
        go_wp2_with fail
        go_at_call 21
        refine (HQ2.out _).mono ?_
        rintro e w2 ⟨rfl, hb⟩
        clear qD0 fD0 qD1 fD1 qD2 fD2 qD3 fD3 qD4 fD4 qD5 fD5 qD6 fD6 qD7 fD7 qD8 fD8 qD9 fD9 qD10 fD10 zD
        have HD := Lib.hid (HD.out.below hb)
        have HB := Lib.hid (below_after hb HB.out)
        clear hb
        obtain ⟨⟨qD0, qD1, qD2, qD3, qD4, qD5, qD6, qD7, qD8, qD9, qD10⟩, ⟨fD0, fD1, fD2, fD3, fD4, fD5, fD6, fD7, fD8, fD9, fD10⟩, zD⟩ := HD.out
        go_wp2_with fail
        refine bodyPost_ret (v := .bool true) (by simp (maxDischargeDepth := 8) [results, Try.results10, go_sem, *]) rfl ?_
        have hb := HB.out
        exact ⟨rfl, hb⟩
theorem spec_IsDesk_any (x0 x1 x2 x3 x4 x5 x6 x7 x8 x9 x10 : Int) (w : World) : Calls Try.prog 8 #[.agg #[.int .i64 x0, .int .i64 x1, .int .i64 x2, .int .i64 x3, .int .i64 x4, .int .i64 x5, .int .i64 x6, .int .i64 x7, .int .i64 x8, .int .i64 x9, .int .i64 x10]] w fun e w' => e = .returned (.bool (isDk x0 x1 x2 x3 x4 x5 x6 x7 x8 x9 x10)) ∧ Below w.heap.size w w' := by
  go_enter Try.func8, Try.ntmps8
  go_wp2_with (first | (go_at_call 15; refine (l11Is_any _ _ _ _ _ _ _ _ _ _ _ _).mono ?_; rintro e wn ⟨rfl, hb⟩; first | (have h2 := after_call2 hb hcl hfr hlt (by ((repeat' (first | (with_reducible exact Below.refl _ _) | (with_reducible refine Below.alloc ?_ ?_ _) | (with_reducible refine Below.setCell ?_ ?_ _) | (with_reducible refine Below.drew ?_) | (with_reducible refine below_drewN ?_ _) | (with_reducible assumption) | (with_reducible refine below_after (by with_reducible assumption) ?_) | go_size)); done)); obtain ⟨hclx, hfrx, hltx, hsz⟩ := after_call hb; (try simp only [World.size_alloc, World.size_setCell, World.size_drew] at hclx hfrx hltx hsz); (try (have hszl := Nat.lt_of_succ_le hsz)); obtain ⟨hcl, hfr, hlt⟩ := h2) | (obtain ⟨hcl, hfr, hlt, hsz⟩ := after_call hb; (try simp only [World.size_alloc, World.size_setCell, World.size_drew] at hcl hfr hlt hsz))))
  go_ret
  exact ⟨rfl, by (repeat' (first | (with_reducible exact Below.refl _ _) | (with_reducible refine Below.alloc ?_ ?_ _) | (with_reducible refine Below.setCell ?_ ?_ _) | (with_reducible refine Below.drew ?_) | (with_reducible refine below_drewN ?_ _) | (with_reducible assumption) | (with_reducible refine below_after (by with_reducible assumption) ?_) | go_size))⟩
end Go.Proofs.Ytoikaclapccciaa
