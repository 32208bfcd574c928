/-
  The least one of shapes (own work).
-/
import Derived.Test.YtcgaikedbhdbgaaTri3
import Derived.Test.YtcgaikedbhdbgaaPtL
namespace Go.Proofs.Ytcgaikedbhdbgaa
open Go.ChangeShapes Go.WideShapes Go.ChangeAt Go.RowKit
set_option linter.unusedVariables false
set_option maxRecDepth 100000
set_option linter.unusedSimpArgs false
set_option maxRecDepth 100000

/-- A shape of the area A by its key: Length times 10000000 and Place; Height is A / Length. -/
def enL (k : Int) : Int := k / 10000000
def enP (k : Int) : Int := k % 10000000
def enH (A k : Int) : Int := A.tdiv (k / 10000000)
def cmpK (x y : Int) : Int := if x < y then -1 else if y < x then 1 else 0
theorem cmpK_lt {x y : Int} (h : x < y) : cmpK x y = -1 := if_pos h
theorem cmpK_gt {x y : Int} (h : y < x) : cmpK x y = 1 := by unfold cmpK; rw [if_neg (by omega), if_pos h]
theorem cmpK_eq (x : Int) : cmpK x x = 0 := by unfold cmpK; rw [if_neg (by omega), if_neg (by omega)]
theorem cmpK_neg (x y : Int) : decide (cmpK x y < 0) = decide (x < y) := by
  rw [Bool.eq_iff_iff]
  simp only [decide_eq_true_eq]
  unfold cmpK
  split
  · omega
  · split <;> omega
theorem isNaN_any (x : Int) (w : World) : Calls Try.prog 113 #[.int .i64 x] w fun e w' => e = .returned (.bool false) ∧ w = w' := by
  go_enter Try.func113, Try.ntmps113
  go_wp2
  go_ret
  exact ⟨by simp, rfl⟩
theorem compare_any (x y : Int) (w : World) : Calls Try.prog 107 #[.int .i64 x, .int .i64 y] w fun e w' => e = .returned (.int .i64 (cmpK x y)) ∧ w = w' := by
  by_cases h : x < y
  · rw [cmpK_lt h]
    go_enter Try.func107, Try.ntmps107
    go_wp2_with (first | (go_at_call 113; refine (isNaN_any _ _).mono ?_; rintro e wn ⟨rfl, rfl⟩))
    go_ret
    exact ⟨rfl, rfl⟩
  · by_cases h2 : y < x
    · rw [cmpK_gt h2]
      go_enter Try.func107, Try.ntmps107
      go_wp2_with (first | (go_at_call 113; refine (isNaN_any _ _).mono ?_; rintro e wn ⟨rfl, rfl⟩))
      go_ret
      exact ⟨rfl, rfl⟩
    · obtain rfl : x = y := by omega
      rw [cmpK_eq]
      go_enter Try.func107, Try.ntmps107
      go_wp2_with (first | (go_at_call 113; refine (isNaN_any _ _).mono ?_; rintro e wn ⟨rfl, rfl⟩))
      go_ret
      exact ⟨rfl, rfl⟩
def orI (a b : Int) : Int := if a = 0 then b else a
theorem or_two (a b : Int) (g : Nat) (w : World) (h0 : w.cell? ⟨g, 0, none⟩ = some (.int .i64 a)) (h1 : w.cell? ⟨g, 1, none⟩ = some (.int .i64 b)) (hg : g < w.heap.size) : Calls Try.prog 106 #[.slice (some ⟨g, 0, none⟩) 2 2] w fun e w' => e = .returned (.int .i64 (orI a b)) ∧ w = w' := by
  by_cases ha : a = 0
  · subst ha
    have e : orI 0 b = b := rfl
    rw [e]
    by_cases hb : b = 0
    · subst hb
      go_enter Try.func106, Try.ntmps106
      go_wp2
      refine wp_loop_rounds 3 ?_
      rw [rounds_succ]
      go_wp2
      rw [rounds_succ]
      go_wp2
      rw [rounds_succ]
      go_wp2
      go_ret
      exact ⟨rfl, rfl⟩
    · go_enter Try.func106, Try.ntmps106
      go_wp2
      refine wp_loop_rounds 3 ?_
      rw [rounds_succ]
      go_wp2
      rw [rounds_succ]
      go_wp2
      go_ret
      exact ⟨rfl, rfl⟩
  · have e : orI a b = a := if_neg ha
    rw [e]
    go_enter Try.func106, Try.ntmps106
    go_wp2
    refine wp_loop_rounds 3 ?_
    rw [rounds_succ]
    go_wp2
    go_ret
    exact ⟨rfl, rfl⟩
theorem orI_cmp {x y : Int} (hx : 0 ≤ x) (hy : 0 ≤ y) : orI (cmpK (enL x) (enL y)) (cmpK (enP x) (enP y)) = cmpK x y := by
  rcases Int.lt_trichotomy (enL x) (enL y) with h | h | h
  · rw [cmpK_lt h, cmpK_lt (show x < y by unfold enL at h; omega)]
    rfl
  · rw [h, cmpK_eq]
    show cmpK (enP x) (enP y) = _
    rcases Int.lt_trichotomy (enP x) (enP y) with k | k | k
    · rw [cmpK_lt k, cmpK_lt (show x < y by unfold enL at h; unfold enP at k; omega)]
    · rw [k, cmpK_eq, show x = y by (unfold enL at h; unfold enP at k; omega), cmpK_eq]
    · rw [cmpK_gt k, cmpK_gt (show y < x by unfold enL at h; unfold enP at k; omega)]
  · rw [cmpK_gt h, cmpK_gt (show y < x by unfold enL at h; omega)]
    rfl
set_option maxHeartbeats 1600000 in
theorem compareShapes_any (A x y : Int) (w : World) (hx : 0 ≤ x) (hy : 0 ≤ y) : Calls Try.prog 86 #[.agg #[.int .i64 (enL x), .int .i64 (enP x), .int .i64 (enH A x)], .agg #[.int .i64 (enL y), .int .i64 (enP y), .int .i64 (enH A y)]] w fun e w' => e = .returned (.int .i64 (cmpK x y)) ∧ Below w.heap.size w w' := by
  rw [← orI_cmp hx hy]
  clear hx hy
  generalize enL x = lx
  generalize enP x = px
  generalize enH A x = gx
  generalize enL y = ly
  generalize enP y = py
  generalize enH A y = gy
  have hs20 : w.heap.size < w.heap.size + 1 + 1 := (by omega); have hs30 : w.heap.size < w.heap.size + 1 + 1 + 1 := (by omega); have hs31 : w.heap.size + 1 < w.heap.size + 1 + 1 + 1 := (by omega)
  go_enter Try.func86, Try.ntmps86
  go_wp2_with fail
  refine wp_region_held_drew (S := fun W => W.cell? ⟨w.heap.size, 0, none⟩ = some (.int .i64 lx) ∧ W.cell? ⟨w.heap.size, 1, none⟩ = some (.int .i64 px) ∧ W.cell? ⟨w.heap.size, 2, none⟩ = some (.int .i64 gx) ∧ W.cell? ⟨w.heap.size + 1, 0, none⟩ = some (.int .i64 ly) ∧ W.cell? ⟨w.heap.size + 1, 1, none⟩ = some (.int .i64 py) ∧ W.cell? ⟨w.heap.size + 1, 2, none⟩ = some (.int .i64 gy) ∧ w.heap.size < W.heap.size ∧ w.heap.size + 1 < W.heap.size) (by kernel_rfl) ?_ (fun hHeld => ?_); focus ((try dsimp only); (first | (go_keep; done) | ((repeat' apply And.intro) <;> first | (go_keep; done) | (go_cell; done) | (refine (Below.cell (B := w.heap.size + 1 + 1) ?_ ?_).trans ?_; focus (repeat' (first | (with_reducible refine Below.alloc ?_ ?_ _) | (with_reducible refine Below.setCell ?_ ?_ _) | (with_reducible refine Below.drew ?_) | (with_reducible exact Below.refl _ _) | (first | omega | (simp only [World.size_alloc, World.size_drew, World.size_setCell]; omega) | (simp; omega)))); focus (first | omega | (simp only [World.size_alloc, World.size_drew, World.size_setCell]; omega) | (simp; omega)); first | (go_keep; done) | ((refine (Below.cell (by with_reducible assumption) ?_).trans ?_) <;> first | (go_keep; done) | (first | omega | (simp only [World.size_alloc, World.size_drew, World.size_setCell]; omega) | (simp; omega)))) | ((refine (Below.cell (by with_reducible assumption) ?_).trans ?_) <;> first | (go_keep; done) | (simp only [World.size_alloc, World.size_drew, World.size_setCell]; omega) | omega) | (simp only [World.size_alloc, World.size_drew, World.size_setCell]; omega) | omega)))
  (refine wpAnyH_take (i := 0) (v := ?_) rfl (by kernel_rfl) (by kernel_rfl) (by kernel_rfl) (fun _ _ _ h => h) (Or.inl ⟨rfl, ?_⟩) (by assumption) ?_; rotate_left; focus (intro w hSw; (try dsimp only at hSw); go_simp; try (with_reducible rfl))); (try simp only [Act.put, List.getElem_toArray, List.getElem_cons_succ, List.getElem_cons_zero, List.setIfInBounds_toArray, List.set_cons_zero, List.set_cons_succ])
  (refine wpAnyH_take (i := 1) (v := ?_) rfl (by kernel_rfl) (by kernel_rfl) (by kernel_rfl) (fun _ _ _ h => h) (Or.inl ⟨rfl, ?_⟩) (by assumption) ?_; rotate_left; focus (intro w hSw; (try dsimp only at hSw); go_simp; try (with_reducible rfl))); (try simp only [Act.put, List.getElem_toArray, List.getElem_cons_succ, List.getElem_cons_zero, List.setIfInBounds_toArray, List.set_cons_zero, List.set_cons_succ])
  (refine wpAnyH_take (i := 2) (v := ?_) rfl (by kernel_rfl) (by kernel_rfl) (by kernel_rfl) (fun _ _ _ h => h) (Or.inl ⟨rfl, ?_⟩) (by assumption) ?_; rotate_left; focus (intro w hSw; (try dsimp only at hSw); go_simp; try (with_reducible rfl))); (try simp only [Act.put, List.getElem_toArray, List.getElem_cons_succ, List.getElem_cons_zero, List.setIfInBounds_toArray, List.set_cons_zero, List.set_cons_succ])
  (refine wpAnyH_take (i := 3) (v := ?_) rfl (by kernel_rfl) (by kernel_rfl) (by kernel_rfl) (fun _ _ _ h => h) (Or.inl ⟨rfl, ?_⟩) (by assumption) ?_; rotate_left; focus (intro w hSw; (try dsimp only at hSw); go_simp; try (with_reducible rfl))); (try simp only [Act.put, List.getElem_toArray, List.getElem_cons_succ, List.getElem_cons_zero, List.setIfInBounds_toArray, List.set_cons_zero, List.set_cons_succ])
  (refine wpAnyH_take (i := 5) (v := ?_) rfl (by kernel_rfl) (by kernel_rfl) (by kernel_rfl) (fun _ _ _ h => h) (Or.inl ⟨rfl, ?_⟩) (by assumption) ?_; rotate_left; focus (intro w hSw; (try dsimp only at hSw); go_simp; try (with_reducible rfl))); (try simp only [Act.put, List.getElem_toArray, List.getElem_cons_succ, List.getElem_cons_zero, List.setIfInBounds_toArray, List.set_cons_zero, List.set_cons_succ])
  (refine wpAnyH_take (i := 6) (v := ?_) rfl (by kernel_rfl) (by kernel_rfl) (by kernel_rfl) (fun _ _ _ h => h) (Or.inl ⟨rfl, ?_⟩) (by assumption) ?_; rotate_left; focus (intro w hSw; (try dsimp only at hSw); go_simp; try (with_reducible rfl))); (try simp only [Act.put, List.getElem_toArray, List.getElem_cons_succ, List.getElem_cons_zero, List.setIfInBounds_toArray, List.set_cons_zero, List.set_cons_succ])
  (refine wpAnyH_take (i := 7) (v := ?_) rfl (by kernel_rfl) (by kernel_rfl) (by kernel_rfl) (fun _ _ _ h => h) (Or.inl ⟨rfl, ?_⟩) (by assumption) ?_; rotate_left; focus (intro w hSw; (try dsimp only at hSw); go_simp; try (with_reducible rfl))); (try simp only [Act.put, List.getElem_toArray, List.getElem_cons_succ, List.getElem_cons_zero, List.setIfInBounds_toArray, List.set_cons_zero, List.set_cons_succ])
  (refine wpAnyH_take (i := 8) (v := ?_) rfl (by kernel_rfl) (by kernel_rfl) (by kernel_rfl) (fun _ _ _ h => h) (Or.inl ⟨rfl, ?_⟩) (by assumption) ?_; rotate_left; focus (intro w hSw; (try dsimp only at hSw); go_simp; try (with_reducible rfl))); (try simp only [Act.put, List.getElem_toArray, List.getElem_cons_succ, List.getElem_cons_zero, List.setIfInBounds_toArray, List.set_cons_zero, List.set_cons_succ])
  (refine wpAnyH_ready (rs := [4]) (by kernel_rfl) (by simp) ?_; refine AllReadyH.cons rfl (fun K hK => ?_) AllReadyH.nil; go_simp; (go_at_call 107; refine (compare_any _ _ _).mono ?_; rintro e wn ⟨rfl, rfl⟩); refine hK.out _ _ ?_ (fun hHeld2 => ?_); focus ((try dsimp only); (first | (go_keep; done) | ((repeat' apply And.intro) <;> first | (go_keep; done) | (go_cell; done) | (refine (Below.cell (B := w.heap.size + 1 + 1) ?_ ?_).trans ?_; focus (repeat' (first | (with_reducible refine Below.alloc ?_ ?_ _) | (with_reducible refine Below.setCell ?_ ?_ _) | (with_reducible refine Below.drew ?_) | (with_reducible exact Below.refl _ _) | (first | omega | (simp only [World.size_alloc, World.size_drew, World.size_setCell]; omega) | (simp; omega)))); focus (first | omega | (simp only [World.size_alloc, World.size_drew, World.size_setCell]; omega) | (simp; omega)); first | (go_keep; done) | ((refine (Below.cell (by with_reducible assumption) ?_).trans ?_) <;> first | (go_keep; done) | (first | omega | (simp only [World.size_alloc, World.size_drew, World.size_setCell]; omega) | (simp; omega)))) | ((refine (Below.cell (by with_reducible assumption) ?_).trans ?_) <;> first | (go_keep; done) | (simp only [World.size_alloc, World.size_drew, World.size_setCell]; omega) | omega) | (simp only [World.size_alloc, World.size_drew, World.size_setCell]; omega) | omega)))); (clear hHeld; rename _ => hHeld; clear hK K); (try simp only [Act.put, List.getElem_toArray, List.getElem_cons_succ, List.getElem_cons_zero, List.setIfInBounds_toArray, List.set_cons_zero, List.set_cons_succ])
  (refine wpAnyH_ready (rs := [9]) (by kernel_rfl) (by simp) ?_; refine AllReadyH.cons rfl (fun K hK => ?_) AllReadyH.nil; go_simp; (go_at_call 107; refine (compare_any _ _ _).mono ?_; rintro e wn ⟨rfl, rfl⟩); refine hK.out _ _ ?_ (fun hHeld2 => ?_); focus ((try dsimp only); (first | (go_keep; done) | ((repeat' apply And.intro) <;> first | (go_keep; done) | (go_cell; done) | (refine (Below.cell (B := w.heap.size + 1 + 1) ?_ ?_).trans ?_; focus (repeat' (first | (with_reducible refine Below.alloc ?_ ?_ _) | (with_reducible refine Below.setCell ?_ ?_ _) | (with_reducible refine Below.drew ?_) | (with_reducible exact Below.refl _ _) | (first | omega | (simp only [World.size_alloc, World.size_drew, World.size_setCell]; omega) | (simp; omega)))); focus (first | omega | (simp only [World.size_alloc, World.size_drew, World.size_setCell]; omega) | (simp; omega)); first | (go_keep; done) | ((refine (Below.cell (by with_reducible assumption) ?_).trans ?_) <;> first | (go_keep; done) | (first | omega | (simp only [World.size_alloc, World.size_drew, World.size_setCell]; omega) | (simp; omega)))) | ((refine (Below.cell (by with_reducible assumption) ?_).trans ?_) <;> first | (go_keep; done) | (simp only [World.size_alloc, World.size_drew, World.size_setCell]; omega) | omega) | (simp only [World.size_alloc, World.size_drew, World.size_setCell]; omega) | omega)))); (clear hHeld; rename _ => hHeld; clear hK K); (try simp only [Act.put, List.getElem_toArray, List.getElem_cons_succ, List.getElem_cons_zero, List.setIfInBounds_toArray, List.set_cons_zero, List.set_cons_succ])
  refine wpAnyH_ready (rs := [10]) (by kernel_rfl) (by simp) ?_; refine AllReadyH.cons rfl (fun K hK => ?_) AllReadyH.nil; go_simp; (refine hK.out _ _ ?_ (fun hHeld2 => ?_); focus ((try dsimp only); (first | (go_keep; done) | ((repeat' apply And.intro) <;> first | (go_keep; done) | (go_cell; done) | (refine (Below.cell (B := w.heap.size + 1 + 1) ?_ ?_).trans ?_; focus (repeat' (first | (with_reducible refine Below.alloc ?_ ?_ _) | (with_reducible refine Below.setCell ?_ ?_ _) | (with_reducible refine Below.drew ?_) | (with_reducible exact Below.refl _ _) | (first | omega | (simp only [World.size_alloc, World.size_drew, World.size_setCell]; omega) | (simp; omega)))); focus (first | omega | (simp only [World.size_alloc, World.size_drew, World.size_setCell]; omega) | (simp; omega)); first | (go_keep; done) | ((refine (Below.cell (by with_reducible assumption) ?_).trans ?_) <;> first | (go_keep; done) | (first | omega | (simp only [World.size_alloc, World.size_drew, World.size_setCell]; omega) | (simp; omega)))) | ((refine (Below.cell (by with_reducible assumption) ?_).trans ?_) <;> first | (go_keep; done) | (simp only [World.size_alloc, World.size_drew, World.size_setCell]; omega) | omega) | (simp only [World.size_alloc, World.size_drew, World.size_setCell]; omega) | omega)))); (clear hHeld; rename _ => hHeld; clear hK K); (try simp only [Act.put, List.getElem_toArray, List.getElem_cons_succ, List.getElem_cons_zero, List.setIfInBounds_toArray, List.set_cons_zero, List.set_cons_succ])
  refine wpAnyH_ready (rs := [11]) (by kernel_rfl) (by simp) ?_; refine AllReadyH.cons rfl (fun K hK => ?_) AllReadyH.nil; go_simp; (go_at_call 106; refine (or_two (cmpK lx ly) (cmpK px py) _ _ (by first | go_cell | simp) (by first | go_cell | simp) (by first | go_size | simp)).mono ?_; rintro e wn ⟨rfl, rfl⟩); (refine hK.out _ _ ?_ (fun hHeld2 => ?_); focus ((try dsimp only); (first | (go_keep; done) | ((repeat' apply And.intro) <;> first | (go_keep; done) | (go_cell; done) | (refine (Below.cell (B := w.heap.size + 1 + 1) ?_ ?_).trans ?_; focus (repeat' (first | (with_reducible refine Below.alloc ?_ ?_ _) | (with_reducible refine Below.setCell ?_ ?_ _) | (with_reducible refine Below.drew ?_) | (with_reducible exact Below.refl _ _) | (first | omega | (simp only [World.size_alloc, World.size_drew, World.size_setCell]; omega) | (simp; omega)))); focus (first | omega | (simp only [World.size_alloc, World.size_drew, World.size_setCell]; omega) | (simp; omega)); first | (go_keep; done) | ((refine (Below.cell (by with_reducible assumption) ?_).trans ?_) <;> first | (go_keep; done) | (first | omega | (simp only [World.size_alloc, World.size_drew, World.size_setCell]; omega) | (simp; omega)))) | ((refine (Below.cell (by with_reducible assumption) ?_).trans ?_) <;> first | (go_keep; done) | (simp only [World.size_alloc, World.size_drew, World.size_setCell]; omega) | omega) | (simp only [World.size_alloc, World.size_drew, World.size_setCell]; omega) | omega)))); (clear hHeld; rename _ => hHeld; clear hK K); (try simp only [Act.put, List.getElem_toArray, List.getElem_cons_succ, List.getElem_cons_zero, List.setIfInBounds_toArray, List.set_cons_zero, List.set_cons_succ])
  (refine wpAnyH_take (i := 12) (v := ?_) rfl (by kernel_rfl) (by kernel_rfl) (by kernel_rfl) (fun _ _ _ h => h) (Or.inl ⟨rfl, ?_⟩) (by assumption) ?_; rotate_left; focus (intro w hSw; (try dsimp only at hSw); go_simp; try (with_reducible rfl))); (try simp only [Act.put, List.getElem_toArray, List.getElem_cons_succ, List.getElem_cons_zero, List.setIfInBounds_toArray, List.set_cons_zero, List.set_cons_succ])
  refine wpAnyH_done (by kernel_rfl) ?_ _
  go_wp2
  go_ret
  exact ⟨rfl, by (repeat' (first | (with_reducible exact Below.refl _ _) | (with_reducible refine Below.alloc ?_ ?_ _) | (with_reducible refine Below.setCell ?_ ?_ _) | (with_reducible refine Below.drew ?_) | (with_reducible refine below_drewN ?_ _) | (with_reducible assumption) | (with_reducible refine below_after (by with_reducible assumption) ?_) | go_size))⟩
theorem l04Before_any (A x y : Int) (w : World) (hx : 0 ≤ x) (hy : 0 ≤ y) : Calls Try.prog 105 #[.agg #[.int .i64 (enL x), .int .i64 (enP x), .int .i64 (enH A x)], .agg #[.int .i64 (enL y), .int .i64 (enP y), .int .i64 (enH A y)]] w fun e w' => e = .returned (.bool (decide (x < y))) ∧ Below w.heap.size w w' := by
  by_cases h1 : enL x = enL y
  · have hq : enH A x = enH A y := by unfold enH; unfold enL at h1; rw [h1]
    rw [hq]
    by_cases h2 : enP x = enP y
    · have he : x = y := by unfold enL at h1; unfold enP at h2; omega
      subst he
      clear hx hy hq h1 h2
      generalize enL x = lx
      generalize enP x = px
      generalize enH A x = gx
      have hs20 : w.heap.size < w.heap.size + 1 + 1 := (by omega)
      go_enter Try.func105, Try.ntmps105
      go_wp2
      go_ret
      exact ⟨by simp, by (repeat' (first | (with_reducible exact Below.refl _ _) | (with_reducible refine Below.alloc ?_ ?_ _) | (with_reducible refine Below.setCell ?_ ?_ _) | (with_reducible refine Below.drew ?_) | (with_reducible refine below_drewN ?_ _) | (with_reducible assumption) | (with_reducible refine below_after (by with_reducible assumption) ?_) | go_size))⟩
    · have he : decide (x < y) = decide (enP x < enP y) := by
        rw [Bool.eq_iff_iff]; simp only [decide_eq_true_eq]; unfold enL at h1; unfold enP at *; omega
      rw [he, h1]
      clear hx hy hq h1 he
      generalize enL y = ly
      generalize enP x = px at *
      generalize enP y = py at *
      generalize enH A y = gy
      have hs20 : w.heap.size < w.heap.size + 1 + 1 := (by omega)
      go_enter Try.func105, Try.ntmps105
      go_wp2
      go_ret
      exact ⟨rfl, by (repeat' (first | (with_reducible exact Below.refl _ _) | (with_reducible refine Below.alloc ?_ ?_ _) | (with_reducible refine Below.setCell ?_ ?_ _) | (with_reducible refine Below.drew ?_) | (with_reducible refine below_drewN ?_ _) | (with_reducible assumption) | (with_reducible refine below_after (by with_reducible assumption) ?_) | go_size))⟩
  · have he : decide (x < y) = decide (enL x < enL y) := by
      rw [Bool.eq_iff_iff]; simp only [decide_eq_true_eq]; unfold enL at *; omega
    rw [he]
    clear hx hy he
    generalize enL x = lx at *
    generalize enL y = ly at *
    generalize enP x = px
    generalize enP y = py
    generalize enH A x = gx
    generalize enH A y = gy
    have hs20 : w.heap.size < w.heap.size + 1 + 1 := (by omega)
    go_enter Try.func105, Try.ntmps105
    go_wp2
    go_ret
    exact ⟨rfl, by (repeat' (first | (with_reducible exact Below.refl _ _) | (with_reducible refine Below.alloc ?_ ?_ _) | (with_reducible refine Below.setCell ?_ ?_ _) | (with_reducible refine Below.drew ?_) | (with_reducible refine below_drewN ?_ _) | (with_reducible assumption) | (with_reducible refine below_after (by with_reducible assumption) ?_) | go_size))⟩
/-- A list of n shapes that lies in blocks from B on. -/
def OwnS (B : Nat) (w : World) (v : Value) (n : Nat) (zs : List Int) : Prop := w.ownsRow B 49 3 v n (zs.map (Value.int .i64))
theorem OwnS.below {B : Nat} {w w' : World} {v : Value} {n : Nat} {zs : List Int} (h : OwnS B w v n zs) (hb : Below w.heap.size w w') : OwnS B w' v n zs := own_below h hb
theorem OwnS.len {B : Nat} {w : World} {v : Value} {n : Nat} {zs : List Int} (h : OwnS B w v n zs) : zs.length = n * 3 := by
  have := h.1
  rwa [List.length_map] at this
def flatS (A : Int) (ks : List Int) : List Int := ks.flatMap fun k => [enL k, enP k, enH A k]
theorem flatS_len (A : Int) (ks : List Int) : (flatS A ks).length = ks.length * 3 := by
  induction ks with
  | nil => rfl
  | cons p l ih =>
    have : flatS A (p :: l) = enL p :: enP p :: enH A p :: flatS A l := rfl
    rw [this, List.length_cons, List.length_cons, List.length_cons, List.length_cons, ih]; omega
theorem flatS_append (A : Int) (a b : List Int) : flatS A (a ++ b) = flatS A a ++ flatS A b := by simp [flatS]
theorem flatS_get (A : Int) : ∀ (ks : List Int) (k : Nat), k < ks.length → (flatS A ks).getD (k * 3) 0 = enL (ks.getD k 0) ∧ (flatS A ks).getD (k * 3 + 1) 0 = enP (ks.getD k 0) ∧ (flatS A ks).getD (k * 3 + 2) 0 = enH A (ks.getD k 0)
  | [], k, h => absurd h (by simp)
  | x :: l, 0, _ => ⟨rfl, rfl, rfl⟩
  | x :: l, k + 1, h => by
    have ih := flatS_get A l k (by simpa using h)
    have e : flatS A (x :: l) = enL x :: enP x :: enH A x :: flatS A l := rfl
    rw [e, show (k + 1) * 3 = k * 3 + 1 + 1 + 1 by omega]
    simpa using ih
theorem info_sh : (Try.prog.info? 49).map (fun i => (i.zero, i.size, i.bytes)) = some (some (.agg #[.int .i64 0, .int .i64 0, .int .i64 0]), 3, 24) := by kernel_rfl
theorem own_viewS {B : Nat} {w : World} {v : Value} {n : Nat} {zs : List Int} (h : OwnS B w v n zs) :
    ∃ (a : Option Addr) (cap : Nat), v = .slice a n cap ∧ (0 < n → ∃ g, a = some ⟨g, 0, none⟩ ∧ B ≤ g ∧ g < w.heap.size ∧ (∀ j, j < n * 3 → w.cell? ⟨g, j, none⟩ = some (.int .i64 (zs.getD j 0)))) := by
  have h0 := h
  have hl := h.len
  rcases h.2 with ⟨rfl, hn⟩ | ⟨g, cap, cur, rfl, hb, hg, _⟩
  · exact ⟨none, 0, by rw [hn], fun hp => by omega⟩
  · refine ⟨some ⟨g, 0, none⟩, cap, rfl, fun _ => ⟨g, rfl, hb, (Array.getElem?_eq_some_iff.1 hg).1, fun j hj => ?_⟩⟩
    have := World.ownsRow.cellAt h0 j (by omega)
    have hj2 : j < zs.length := by omega
    rw [this, List.getElem?_map, List.getElem?_eq_getElem hj2]
    simp [List.getD, hj2]
/-- A block that holds a shape. -/
def Sc (W : World) (g : Nat) (l p q : Int) : Prop := W.cell? ⟨g, 0, none⟩ = some (.int .i64 l) ∧ W.cell? ⟨g, 1, none⟩ = some (.int .i64 p) ∧ W.cell? ⟨g, 2, none⟩ = some (.int .i64 q) ∧ W.frozen? ⟨g, 0, none⟩ = false ∧ W.frozen? ⟨g, 1, none⟩ = false ∧ W.frozen? ⟨g, 2, none⟩ = false ∧ g < W.heap.size
theorem Sc.below {W W' : World} {g : Nat} {l p q : Int} (h : Sc W g l p q) (hb : Below W.heap.size W W') : Sc W' g l p q := by
  obtain ⟨h0, h1, h2, f0, f1, f2, hg⟩ := h
  have he := hb.block g hg
  have hs := hb.size
  exact ⟨(World.cell?_of_block (a := ⟨g, 0, none⟩) he).trans h0, (World.cell?_of_block (a := ⟨g, 1, none⟩) he).trans h1, (World.cell?_of_block (a := ⟨g, 2, none⟩) he).trans h2, (World.frozen?_of_block (a := ⟨g, 0, none⟩) he).trans f0, (World.frozen?_of_block (a := ⟨g, 1, none⟩) he).trans f1, (World.frozen?_of_block (a := ⟨g, 2, none⟩) he).trans f2, by omega⟩
theorem Sc.far {W : World} {g : Nat} {l p q : Int} (h : Sc W g l p q) (a : Addr) (v : Value) (hne : g ≠ a.block) : Sc (W.setCell a v) g l p q := by
  obtain ⟨h0, h1, h2, f0, f1, f2, hg⟩ := h
  have he := Below.heap_setCell W a v g hne
  exact ⟨(World.cell?_of_block (a := ⟨g, 0, none⟩) he).trans h0, (World.cell?_of_block (a := ⟨g, 1, none⟩) he).trans h1, (World.cell?_of_block (a := ⟨g, 2, none⟩) he).trans h2, (World.frozen?_of_block (a := ⟨g, 0, none⟩) he).trans f0, (World.frozen?_of_block (a := ⟨g, 1, none⟩) he).trans f1, (World.frozen?_of_block (a := ⟨g, 2, none⟩) he).trans f2, by simpa using hg⟩
theorem Sc.set {W : World} {g : Nat} {l p q : Int} (h : Sc W g l p q) (a b c : Int) : Sc (((W.setCell ⟨g, 0, none⟩ (.int .i64 a)).setCell ⟨g, 1, none⟩ (.int .i64 b)).setCell ⟨g, 2, none⟩ (.int .i64 c)) g a b c := by
  obtain ⟨h0, h1, h2, f0, f1, f2, hg⟩ := h
  refine ⟨?_, ?_, ?_, ?_, ?_, ?_, ?_⟩
  all_goals first | (go_cell; done) | (simp [*]; done)
/-- The least key of the first k + 1 ones. -/
def minN (ks : List Int) : Nat → Int
  | 0 => ks.getD 0 0
  | k + 1 => min (minN ks k) (ks.getD (k + 1) 0)
theorem minN_ge {ks : List Int} (h : ∀ i, i < ks.length → 0 ≤ ks.getD i 0) : ∀ k, k < ks.length → 0 ≤ minN ks k
  | 0, hk => h 0 hk
  | k + 1, hk => by
    have := minN_ge h k (by omega)
    have := h (k + 1) hk
    unfold minN; omega
set_option maxHeartbeats 4000000 in
theorem minFunc_own (A : Int) (ks : List Int) (B : Nat) (v : Value) (w : World) (ho : OwnS B w v ks.length (flatS A ks)) (hn : 1 ≤ ks.length) (hx : ks.length ≤ 1000) (hge : ∀ i, i < ks.length → 0 ≤ ks.getD i 0) :
    Calls Try.prog 85 #[v, .func (.func 86) #[] #[]] w fun e w' => e = .returned (.agg #[.int .i64 (enL (minN ks (ks.length - 1))), .int .i64 (enP (minN ks (ks.length - 1))), .int .i64 (enH A (minN ks (ks.length - 1)))]) ∧ Below w.heap.size w w' := by
  obtain ⟨a, cap, rfl, f⟩ := own_viewS ho
  obtain ⟨g, rfl, _, hg, hc⟩ := f (by omega)
  clear ho f
  obtain ⟨n, hN⟩ : ∃ n, ks.length = n := ⟨_, rfl⟩
  have HCx : Hid (∀ j, j < n → w.cell? ⟨g, j * 3, none⟩ = some (.int .i64 (enL (ks.getD j 0))) ∧ w.cell? ⟨g, j * 3 + 1, none⟩ = some (.int .i64 (enP (ks.getD j 0))) ∧ w.cell? ⟨g, j * 3 + 2, none⟩ = some (.int .i64 (enH A (ks.getD j 0)))) := by
    intro j hj
    obtain ⟨e0, e1, e2⟩ := flatS_get A ks j (by omega)
    exact ⟨(hc _ (by omega)).trans (by rw [e0]), (hc _ (by omega)).trans (by rw [e1]), (hc _ (by omega)).trans (by rw [e2])⟩
  have HGE : Hid (∀ i, i < n → 0 ≤ ks.getD i 0) := by intro i hi; exact hge i (by omega)
  have HMN : Hid (∀ k, k < n → 0 ≤ minN ks k) := by intro k hk; exact minN_ge hge k (by omega)
  rw [hN] at hn hx ⊢
  obtain ⟨c0, c1, c2⟩ := HCx.out 0 (by omega)
  rw [show 0 * 3 = 0 from rfl] at c0 c1 c2
  rw [show 0 + 1 = 1 from rfl] at c1
  rw [show 0 + 2 = 2 from rfl] at c2
  have hl1 : ¬ ((n : Int) < 1) := by omega
  have hl2 : (0 : Int) < (n : Int) := by omega
  have hlen : ((n : Nat) : Int) = (n : Int) := rfl
  have HN := Lib.hid hN
  clear hc hge hN
  have hs20 : w.heap.size < w.heap.size + 1 + 1 := (by omega); have hs30 : w.heap.size < w.heap.size + 1 + 1 + 1 := (by omega); have hs31 : w.heap.size + 1 < w.heap.size + 1 + 1 + 1 := (by omega)
  go_enter Try.func85, Try.ntmps85
  go_wp2
  go_loopw [6] (fun i wr => ∃ k : Nat, 1 ≤ k ∧ k ≤ n ∧ i = .int .i64 k ∧ Sc wr (w.heap.size + 1) (enL (minN ks (k - 1))) (enP (minN ks (k - 1))) (enH A (minN ks (k - 1))) ∧ Sc wr w.heap.size 0 0 0 ∧ Below w.heap.size w wr) (fun i _ => n - (intOf i).toNat)
  case atStart => exact ⟨1, by omega, by omega, rfl, by refine ⟨?_, ?_, ?_, ?_, ?_, ?_, ?_⟩ <;> first | go_cell | go_size | simp [minN], by refine ⟨?_, ?_, ?_, ?_, ?_, ?_, ?_⟩ <;> first | go_cell | go_size | simp, by (repeat' (first | (with_reducible exact Below.refl _ _) | (with_reducible refine Below.alloc ?_ ?_ _) | (with_reducible refine Below.setCell ?_ ?_ _) | (with_reducible refine Below.drew ?_) | (with_reducible refine below_drewN ?_ _) | (with_reducible assumption) | (with_reducible refine below_after (by with_reducible assumption) ?_) | go_size))⟩
  case round =>
    obtain ⟨k, hk1, hk, rfl, hsc, hrz, hbel⟩ := hrel
    obtain ⟨z0, z1, z2, y0, y1, y2, hzg⟩ := id hrz
    obtain ⟨s0, s1, s2, f0, f1, f2, hsg⟩ := id hsc
    by_cases hlt : k < n
    · have i0 : (0 : Int) ≤ (k : Int) := by omega
      have i1 : (k : Int) < (n : Int) := by omega
      obtain ⟨d0, d1, d2⟩ := HCx.out k hlt
      have e0 := (hbel.cell (p := ⟨g, k * 3, none⟩) hg).trans d0
      have e1 := (hbel.cell (p := ⟨g, k * 3 + 1, none⟩) hg).trans d1
      have e2 := (hbel.cell (p := ⟨g, k * 3 + 2, none⟩) hg).trans d2
      have hx0 := HGE.out k hlt
      have hm0 := HMN.out (k - 1) (by omega)
      have hst : minN ks k = min (minN ks (k - 1)) (ks.getD k 0) := by
        obtain ⟨j, rfl⟩ : ∃ j, k = j + 1 := ⟨k - 1, by omega⟩
        rfl
      obtain ⟨x, hx⟩ : ∃ x, ks.getD k 0 = x := ⟨_, rfl⟩
      obtain ⟨m, hm⟩ : ∃ m, minN ks (k - 1) = m := ⟨_, rfl⟩
      rw [hx] at e0 e1 e2 hx0 hst
      rw [hm] at hm0 hst hsc s0 s1 s2
      clear hx hm d0 d1 d2 c0 c1 c2
      have HX := Lib.hid (And.intro hx0 hm0)
      have HS := Lib.hid hst
      clear hx0 hm0 hst
      by_cases hq : x < m
      · have hqd : decide (cmpK x m < 0) = true := by rw [cmpK_neg]; simpa using hq
        have hqi : cmpK x m < 0 := by simpa using hqd
        have HQ := Lib.hid hq
        clear hq
        go_wp2
        go_region_with (go_at_call 86; refine (compareShapes_any A x m _ HX.out.1 HX.out.2).mono ?_; rintro e wn ⟨rfl, hbn⟩)
        all_goals
          have hbw : Below wr.heap.size wr wn := by (repeat' (first | (with_reducible exact Below.refl _ _) | (with_reducible refine Below.alloc ?_ ?_ _) | (with_reducible refine Below.setCell ?_ ?_ _) | (with_reducible refine Below.drew ?_) | (with_reducible refine below_drewN ?_ _) | (with_reducible assumption) | (with_reducible refine below_after (by with_reducible assumption) ?_) | go_size))
          have hgr : g < wr.heap.size := by have := hbel.size; omega
          have e0 := (hbw.cell (p := ⟨g, k * 3, none⟩) hgr).trans e0
          have e1 := (hbw.cell (p := ⟨g, k * 3 + 1, none⟩) hgr).trans e1
          have e2 := (hbw.cell (p := ⟨g, k * 3 + 2, none⟩) hgr).trans e2
          obtain ⟨s0, s1, s2, f0, f1, f2, hsg⟩ := hsc.below hbw
          go_wp2
          go_roundw
          case rel => exact ⟨k + 1, by omega, by omega, by go_num, by rw [show k + 1 - 1 = k by omega, HS.out, Int.min_eq_right (Int.le_of_lt HQ.out)]; exact (hsc.below (by (repeat' (first | (with_reducible exact Below.refl _ _) | (with_reducible refine Below.alloc ?_ ?_ _) | (with_reducible refine Below.setCell ?_ ?_ _) | (with_reducible refine Below.drew ?_) | (with_reducible refine below_drewN ?_ _) | (with_reducible assumption) | (with_reducible refine below_after (by with_reducible assumption) ?_) | go_size)))).set _ _ _, (((hrz.below (by (repeat' (first | (with_reducible exact Below.refl _ _) | (with_reducible refine Below.alloc ?_ ?_ _) | (with_reducible refine Below.setCell ?_ ?_ _) | (with_reducible refine Below.drew ?_) | (with_reducible refine below_drewN ?_ _) | (with_reducible assumption) | (with_reducible refine below_after (by with_reducible assumption) ?_) | go_size)))).far _ _ (by show w.heap.size ≠ w.heap.size + 1; omega)).far _ _ (by show w.heap.size ≠ w.heap.size + 1; omega)).far _ _ (by show w.heap.size ≠ w.heap.size + 1; omega), by (repeat' (first | (with_reducible exact Below.refl _ _) | (with_reducible refine Below.alloc ?_ ?_ _) | (with_reducible refine Below.setCell ?_ ?_ _) | (with_reducible refine Below.drew ?_) | (with_reducible refine below_drewN ?_ _) | (with_reducible assumption) | (with_reducible refine below_after (by with_reducible assumption) ?_) | go_size))⟩
          case measure => simp [intOf]; omega
      · have hqd : decide (cmpK x m < 0) = false := by rw [cmpK_neg]; simpa using hq
        have hqi : ¬ cmpK x m < 0 := by simpa using hqd
        have HQ := Lib.hid (Int.not_lt.1 hq)
        clear hq
        go_wp2
        go_region_with (go_at_call 86; refine (compareShapes_any A x m _ HX.out.1 HX.out.2).mono ?_; rintro e wn ⟨rfl, hbn⟩)
        all_goals
          go_wp2
          go_roundw
          case rel => exact ⟨k + 1, by omega, by omega, by go_num, by rw [show k + 1 - 1 = k by omega, HS.out, Int.min_eq_left HQ.out]; exact hsc.below (by (repeat' (first | (with_reducible exact Below.refl _ _) | (with_reducible refine Below.alloc ?_ ?_ _) | (with_reducible refine Below.setCell ?_ ?_ _) | (with_reducible refine Below.drew ?_) | (with_reducible refine below_drewN ?_ _) | (with_reducible assumption) | (with_reducible refine below_after (by with_reducible assumption) ?_) | go_size))), hrz.below (by (repeat' (first | (with_reducible exact Below.refl _ _) | (with_reducible refine Below.alloc ?_ ?_ _) | (with_reducible refine Below.setCell ?_ ?_ _) | (with_reducible refine Below.drew ?_) | (with_reducible refine below_drewN ?_ _) | (with_reducible assumption) | (with_reducible refine below_after (by with_reducible assumption) ?_) | go_size))), by (repeat' (first | (with_reducible exact Below.refl _ _) | (with_reducible refine Below.alloc ?_ ?_ _) | (with_reducible refine Below.setCell ?_ ?_ _) | (with_reducible refine Below.drew ?_) | (with_reducible refine below_drewN ?_ _) | (with_reducible assumption) | (with_reducible refine below_after (by with_reducible assumption) ?_) | go_size))⟩
          case measure => simp [intOf]; omega
    · obtain rfl : k = n := by omega
      clear hlt c0 c1 c2
      go_wp2
      refine bodyPost_ret (v := .agg #[.int .i64 (enL (minN ks (k - 1))), .int .i64 (enP (minN ks (k - 1))), .int .i64 (enH A (minN ks (k - 1)))]) (by simp (maxDischargeDepth := 8) [results, Try.results85, go_sem, *]) rfl ?_
      exact ⟨rfl, by (repeat' (first | (with_reducible exact Below.refl _ _) | (with_reducible refine Below.alloc ?_ ?_ _) | (with_reducible refine Below.setCell ?_ ?_ _) | (with_reducible refine Below.drew ?_) | (with_reducible refine below_drewN ?_ _) | (with_reducible assumption) | (with_reducible refine below_after (by with_reducible assumption) ?_) | go_size))⟩
end Go.Proofs.Ytcgaikedbhdbgaa
