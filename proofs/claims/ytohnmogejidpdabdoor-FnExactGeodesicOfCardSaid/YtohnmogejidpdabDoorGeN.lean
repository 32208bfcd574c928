/-
  The next fraction on a geodesic: its numbers, and the program's function (own work).
-/
import Derived.Test.YtohnmogejidpdabDoorFdM
import Derived.Test.YtohnmogejidpdabDoorFdL
import Derived.Test.YtohnmogejidpdabDoorPar
import Derived.Deep.DeepCutAuto
namespace Go.Proofs.YtohnmogejidpdabDoor
open Go.ChangeShapes Go.WideShapes Go.ChangeAt Go.RowKit
set_option linter.unusedVariables false
set_option maxRecDepth 100000
set_option linter.unusedSimpArgs false
set_option maxRecDepth 100000

theorem par_up {a b x y A : Int} (hA : 0 ≤ A) (ha : a ≤ A) (hy : 0 ≤ y) (hyb : y ≤ b) (hb : 2 ≤ b) (h : b * x ≤ a * y + 1) : x ≤ A := by
  rcases Int.lt_or_le A x with k | k
  · have h1 : b * (A + 1) ≤ b * x := Int.mul_le_mul_of_nonneg_left (by omega) (by omega)
    have h2 : a * y ≤ A * y := Int.mul_le_mul_of_nonneg_right ha hy
    have h3 : A * y ≤ A * b := Int.mul_le_mul_of_nonneg_left hyb hA
    rw [Int.mul_add, Int.mul_one, Int.mul_comm b A] at h1
    omega
  · exact k
theorem par_small {a b x y : Int} (h1 : -1000000 ≤ a) (h2 : a ≤ 1000000) (hy : 0 ≤ y) (hyb : y ≤ b) (hb : 2 ≤ b) (h : a * y - b * x = 1 ∨ a * y - b * x = -1) : -1000000 ≤ x ∧ x ≤ 1000000 := by
  refine ⟨?_, par_up (by decide) h2 hy hyb hb (by omega)⟩
  have := par_up (a := -a) (x := -x) (A := 1000000) (by decide) (by omega) hy hyb hb (by rw [Int.mul_neg, Int.neg_mul]; omega)
  omega
theorem isFr_of {x y : Int} (h1 : -1000000 ≤ x ∧ x ≤ 1000000) (h2 : 1 ≤ y ∧ y ≤ 1000000) (hg : Int.gcd x y = 1) : isFr x y = true := by
  unfold isFr isPr isPt gcdI
  simp only [Bool.and_eq_true, crd_iff, beq_iff_eq, Bool.or_eq_true, decide_eq_true_eq]
  refine ⟨⟨⟨h1, by omega⟩, by rw [hg]; rfl⟩, .inl (by omega)⟩
theorem pl_fr {a b : Int} (hF : isFr a b = true) (hb : 2 ≤ b) : isFr (plX a b) (plY a b) = true ∧ isFr (a - plX a b) (b - plY a b) = true ∧ 1 ≤ plY a b ∧ plY a b < b := by
  obtain ⟨_, _, y1, y2, hd⟩ := pl_bd hF hb
  have c1 := isPt_c1 (isFr_pt hF)
  have c2 := isPt_c2 (isFr_pt hF)
  generalize plX a b = X at *
  generalize plY a b = Y at *
  have hd2 : a * (b - Y) - b * (a - X) = -1 := by rw [Int.mul_sub, Int.mul_sub, Int.mul_comm b a]; omega
  refine ⟨isFr_of (par_small c1.1 c1.2 (by omega) (by omega) hb (.inl hd)) ⟨y1, by omega⟩ (gcd_one_of (s := -b) (t := a) (by rw [Int.neg_mul]; omega)),
    isFr_of (par_small c1.1 c1.2 (by omega) (by omega) hb (.inr hd2)) ⟨by omega, by omega⟩ (gcd_one_of (s := b) (t := -a) (by rw [Int.neg_mul]; omega)), y1, y2⟩
/-- The fraction behind (a, b) on the geodesic from it to 1 / 0. -/
def nxX (a b : Int) : Int := if b = 1 then 1 else if lvl (a - plX a b) (b - plY a b) < lvl (plX a b) (plY a b) then a - plX a b else plX a b
def nxY (a b : Int) : Int := if b = 1 then 0 else if lvl (a - plX a b) (b - plY a b) < lvl (plX a b) (plY a b) then b - plY a b else plY a b
theorem nx_one (a : Int) : nxX a 1 = 1 ∧ nxY a 1 = 0 := by unfold nxX nxY; rw [if_pos rfl, if_pos rfl]; exact ⟨rfl, rfl⟩
theorem nx_fr {a b : Int} (hF : isFr a b = true) (hb : 2 ≤ b) : isFr (nxX a b) (nxY a b) = true ∧ 1 ≤ nxY a b ∧ nxY a b < b := by
  obtain ⟨h1, h2, h3, h4⟩ := pl_fr hF hb
  have hb1 : ¬ b = 1 := by omega
  unfold nxX nxY
  by_cases hl : lvl (a - plX a b) (b - plY a b) < lvl (plX a b) (plY a b)
  · rw [if_neg hb1, if_neg hb1, if_pos hl, if_pos hl]
    exact ⟨h2, by omega, by omega⟩
  · rw [if_neg hb1, if_neg hb1, if_neg hl, if_neg hl]
    exact ⟨h1, h3, h4⟩
set_option maxHeartbeats 3200000 in
theorem next_any (a b : Int) (w : World) (hF : isFr a b = true) (hb : 1 ≤ b) :
    Calls Tryd.prog 35 #[.agg #[.int .i64 a, .int .i64 b]] w fun e w' => e = .returned (.agg #[.int .i64 (nxX a b), .int .i64 (nxY a b)]) ∧ Below w.heap.size w w' := by
  by_cases h1 : b = 1
  · subst h1
    rw [(nx_one a).1, (nx_one a).2]
    clear hF hb
    have hs20 : w.heap.size < w.heap.size + 1 + 1 := (by omega); have hs30 : w.heap.size < w.heap.size + 1 + 1 + 1 := (by omega); have hs31 : w.heap.size + 1 < w.heap.size + 1 + 1 + 1 := (by omega); have hs40 : w.heap.size < w.heap.size + 1 + 1 + 1 + 1 := (by omega); have hs41 : w.heap.size + 1 < w.heap.size + 1 + 1 + 1 + 1 := (by omega); have hs42 : w.heap.size + 1 + 1 < w.heap.size + 1 + 1 + 1 + 1 := (by omega)
    go_enter Tryd.func35, Tryd.ntmps35
    go_wp2_with fail
    refine bodyPost_ret (v := .agg #[.int .i64 1, .int .i64 0]) (by simp (maxDischargeDepth := 8) [results, Tryd.results35, go_sem, *]) rfl ?_
    exact ⟨rfl, by (repeat' (first | (with_reducible exact Below.refl _ _) | (with_reducible refine Below.alloc ?_ ?_ _) | (with_reducible refine Below.setCell ?_ ?_ _) | (with_reducible refine Below.drew ?_) | (with_reducible refine below_drewN ?_ _) | (with_reducible assumption) | (with_reducible refine below_after (by with_reducible assumption) ?_) | go_size))⟩
  · have h1b : (b == 1) = false := by simpa using h1
    obtain ⟨k1, k2, k3, k4⟩ := pl_fr hF (by omega)
    have HP := Lib.hid (fun w => parentsOf_any a b w hF (by omega))
    have c1 := isPt_c1 (isFr_pt k1)
    have c2 := isPt_c2 (isFr_pt k1)
    have d1 := isPt_c1 (isFr_pt k2)
    have d2 := isPt_c2 (isFr_pt k2)
    have HLL := Lib.hid (fun w => levelOf_any (plX a b) (plY a b) w (by omega) c2.2 c1.1 c1.2)
    have HLR := Lib.hid (fun w => levelOf_any (a - plX a b) (b - plY a b) w (by omega) d2.2 d1.1 d1.2)
    have HE : Hid ((lvl (a - plX a b) (b - plY a b) < lvl (plX a b) (plY a b) → nxX a b = a - plX a b ∧ nxY a b = b - plY a b) ∧ (¬ lvl (a - plX a b) (b - plY a b) < lvl (plX a b) (plY a b) → nxX a b = plX a b ∧ nxY a b = plY a b)) := by
      unfold nxX nxY
      rw [if_neg h1, if_neg h1]
      exact ⟨fun h => by rw [if_pos h, if_pos h]; exact ⟨rfl, rfl⟩, fun h => by rw [if_neg h, if_neg h]; exact ⟨rfl, rfl⟩⟩
    generalize lvl (a - plX a b) (b - plY a b) = R1 at *
    generalize lvl (plX a b) (plY a b) = L1 at *
    generalize nxX a b = NX at *
    generalize nxY a b = NY at *
    generalize plX a b = X at *
    generalize plY a b = Y at *
    clear k1 k2 k3 k4 c1 c2 d1 d2 hF hb
    have hs20 : w.heap.size < w.heap.size + 1 + 1 := (by omega); have hs30 : w.heap.size < w.heap.size + 1 + 1 + 1 := (by omega); have hs31 : w.heap.size + 1 < w.heap.size + 1 + 1 + 1 := (by omega); have hs40 : w.heap.size < w.heap.size + 1 + 1 + 1 + 1 := (by omega); have hs41 : w.heap.size + 1 < w.heap.size + 1 + 1 + 1 + 1 := (by omega); have hs42 : w.heap.size + 1 + 1 < w.heap.size + 1 + 1 + 1 + 1 := (by omega)
    go_enter Tryd.func35, Tryd.ntmps35
    go_wp2_with fail
    go_at_call 57
    refine (HP.out _).mono ?_
    rintro e w1 ⟨rfl, hb1⟩
    have HB1 : Hid (Below w.heap.size w w1) := below_after hb1 (by (repeat' (first | (with_reducible exact Below.refl _ _) | (with_reducible refine Below.alloc ?_ ?_ _) | (with_reducible refine Below.setCell ?_ ?_ _) | (with_reducible refine Below.drew ?_) | (with_reducible refine below_drewN ?_ _) | (with_reducible assumption) | (with_reducible refine below_after (by with_reducible assumption) ?_) | go_size)))
    have HQ : Hid (w1.cell? ⟨w.heap.size + 1, 0, none⟩ = some (.int .i64 0) ∧ w1.cell? ⟨w.heap.size + 1, 1, none⟩ = some (.int .i64 0) ∧ w1.frozen? ⟨w.heap.size + 1, 0, none⟩ = false ∧ w1.frozen? ⟨w.heap.size + 1, 1, none⟩ = false ∧ w.heap.size + 1 < w1.heap.size) := by
      refine ⟨(hb1.cell (p := ⟨w.heap.size + 1, 0, none⟩) (by simp <;> omega)).trans (by go_cell), (hb1.cell (p := ⟨w.heap.size + 1, 1, none⟩) (by simp <;> omega)).trans (by go_cell), ?_, ?_, ?_⟩
      · rw [(bcell hb1).2 _ _ (by simp <;> omega)]; go_cell
      · rw [(bcell hb1).2 _ _ (by simp <;> omega)]; go_cell
      · have := hb1.size; simp at this; omega
    clear hb1
    go_upto_region 4 with fail
    obtain ⟨wB, hwB⟩ : ∃ wB, wB = (w1.alloc (.cells #[.int .i64 X, .int .i64 Y] 23)).alloc (.cells #[.int .i64 (a - X), .int .i64 (b - Y)] 23) := ⟨_, rfl⟩
    rw [← hwB]
    have hz1 := HB1.out.size
    have HBW : Hid (Below w.heap.size w wB) := by
      show Below w.heap.size w wB
      have h := HB1.out
      rw [hwB]; (repeat' (first | (with_reducible exact Below.refl _ _) | (with_reducible refine Below.alloc ?_ ?_ _) | (with_reducible refine Below.setCell ?_ ?_ _) | (with_reducible refine Below.drew ?_) | (with_reducible refine below_drewN ?_ _) | (with_reducible assumption) | (with_reducible refine below_after (by with_reducible assumption) ?_) | go_size))
    have HX : Hid (∀ W, Below wB.heap.size wB W → W.cell? ⟨w1.heap.size, 0, none⟩ = some (.int .i64 X) ∧ W.cell? ⟨w1.heap.size, 1, none⟩ = some (.int .i64 Y) ∧ W.cell? ⟨w1.heap.size + 1, 0, none⟩ = some (.int .i64 (a - X)) ∧ W.cell? ⟨w1.heap.size + 1, 1, none⟩ = some (.int .i64 (b - Y)) ∧ W.cell? ⟨w.heap.size + 1, 0, none⟩ = some (.int .i64 0) ∧ W.cell? ⟨w.heap.size + 1, 1, none⟩ = some (.int .i64 0) ∧ W.frozen? ⟨w.heap.size + 1, 0, none⟩ = false ∧ W.frozen? ⟨w.heap.size + 1, 1, none⟩ = false ∧ w.heap.size + 1 < W.heap.size ∧ w1.heap.size + 1 < W.heap.size) := by
      intro W hW
      obtain ⟨q0, q1, q2, q3, qz⟩ := HQ.out
      have hzB : wB.heap.size = w1.heap.size + 1 + 1 := by rw [hwB]; simp
      have hzW := hW.size
      have hb1 : Below w1.heap.size w1 W := below_after hW (by rw [hwB]; (repeat' (first | (with_reducible exact Below.refl _ _) | (with_reducible refine Below.alloc ?_ ?_ _) | (with_reducible refine Below.setCell ?_ ?_ _) | (with_reducible refine Below.drew ?_) | (with_reducible refine below_drewN ?_ _) | (with_reducible assumption) | (with_reducible refine below_after (by with_reducible assumption) ?_) | go_size)))
      refine ⟨(hW.cell (p := ⟨w1.heap.size, 0, none⟩) (by show w1.heap.size < _; omega)).trans (by rw [hwB]; go_cell), (hW.cell (p := ⟨w1.heap.size, 1, none⟩) (by show w1.heap.size < _; omega)).trans (by rw [hwB]; go_cell), (hW.cell (p := ⟨w1.heap.size + 1, 0, none⟩) (by show w1.heap.size + 1 < _; omega)).trans (by rw [hwB]; go_cell), (hW.cell (p := ⟨w1.heap.size + 1, 1, none⟩) (by show w1.heap.size + 1 < _; omega)).trans (by rw [hwB]; go_cell), (hb1.cell (p := ⟨w.heap.size + 1, 0, none⟩) qz).trans q0, (hb1.cell (p := ⟨w.heap.size + 1, 1, none⟩) qz).trans q1, (hb1.frozen (p := ⟨w.heap.size + 1, 0, none⟩) qz).trans q2, (hb1.frozen (p := ⟨w.heap.size + 1, 1, none⟩) qz).trans q3, by omega, by omega⟩
    clear hwB
    refine wp_region_held_drew (S := fun W => Below wB.heap.size wB W) (by kernel_rfl) ?_ (fun hHeld => ?_); focus ((try dsimp only); exact (Below.refl _ _).drew)
    have hHeld : Below wB.heap.size wB _ := hHeld
    obtain ⟨wD, hwD⟩ : ∃ wD, wB.drew = wD := ⟨_, rfl⟩
    rw [hwD] at hHeld ⊢
    clear hwD
    (refine wpAnyH_take (i := 0) (v := ?_) rfl (by kernel_rfl) (by kernel_rfl) (by kernel_rfl) (fun _ _ _ h => h) (Or.inl ⟨rfl, ?_⟩) (by assumption) ?_; rotate_left; focus (intro W hSw; (try dsimp only at hSw); obtain ⟨p0, p1, p2, p3, f0, f1, f2, f3, q0, q1⟩ := HX.out _ hSw; go_simp; try (with_reducible rfl))); (try simp only [Act.put, List.getElem_toArray, List.getElem_cons_succ, List.getElem_cons_zero, List.setIfInBounds_toArray, List.set_cons_zero, List.set_cons_succ])
    (refine wpAnyH_take (i := 2) (v := ?_) rfl (by kernel_rfl) (by kernel_rfl) (by kernel_rfl) (fun _ _ _ h => h) (Or.inl ⟨rfl, ?_⟩) (by assumption) ?_; rotate_left; focus (intro W hSw; (try dsimp only at hSw); obtain ⟨p0, p1, p2, p3, f0, f1, f2, f3, q0, q1⟩ := HX.out _ hSw; go_simp; try (with_reducible rfl))); (try simp only [Act.put, List.getElem_toArray, List.getElem_cons_succ, List.getElem_cons_zero, List.setIfInBounds_toArray, List.set_cons_zero, List.set_cons_succ])
    refine wpAnyH_ready (rs := [1]) (by kernel_rfl) (by simp) ?_; refine AllReadyH.cons rfl (fun K hK => ?_) AllReadyH.nil
    go_simp; (go_at_call 58; refine (HLR.out _).mono ?_; rintro en yw0 ⟨rfl, hb2⟩); refine hK.out _ _ (below_after hb2 hHeld) (fun hHeld2 => ?_); clear hb2; (clear hHeld; rename _ => hHeld; clear hK K; have hHeld : Below wB.heap.size wB _ := hHeld); (try simp only [Act.put, List.getElem_toArray, List.getElem_cons_succ, List.getElem_cons_zero, List.setIfInBounds_toArray, List.set_cons_zero, List.set_cons_succ])
    refine wpAnyH_ready (rs := [3]) (by kernel_rfl) (by simp) ?_; refine AllReadyH.cons rfl (fun K hK => ?_) AllReadyH.nil
    go_simp; (go_at_call 58; refine (HLL.out _).mono ?_; rintro en yw1 ⟨rfl, hb2⟩); refine hK.out _ _ (below_after hb2 hHeld) (fun hHeld2 => ?_); clear hb2; (clear hHeld; rename _ => hHeld; clear hK K; have hHeld : Below wB.heap.size wB _ := hHeld); (try simp only [Act.put, List.getElem_toArray, List.getElem_cons_succ, List.getElem_cons_zero, List.setIfInBounds_toArray, List.set_cons_zero, List.set_cons_succ])
    (refine wpAnyH_take (i := 4) (v := ?_) rfl (by kernel_rfl) (by kernel_rfl) (by kernel_rfl) (fun _ _ _ h => h) (Or.inl ⟨rfl, ?_⟩) (by assumption) ?_; rotate_left; focus (intro W hSw; (try dsimp only at hSw); obtain ⟨p0, p1, p2, p3, f0, f1, f2, f3, q0, q1⟩ := HX.out _ hSw; go_simp; try (with_reducible rfl))); (try simp only [Act.put, List.getElem_toArray, List.getElem_cons_succ, List.getElem_cons_zero, List.setIfInBounds_toArray, List.set_cons_zero, List.set_cons_succ])
    refine wpAnyH_done (by kernel_rfl) ?_ _
    obtain ⟨p0, p1, p2, p3, f0, f1, f2, f3, q0, q1⟩ := HX.out _ hHeld
    have hbF := below_after hHeld HBW.out
    have hzF := hbF.size
    clear hHeld
    by_cases hlt : R1 < L1
    · have hd : decide (R1 < L1) = true := by simpa using hlt
      obtain ⟨rfl, rfl⟩ := HE.out.1 (by omega)
      go_wp2_with fail
      refine bodyPost_ret (v := .agg #[.int .i64 (a - X), .int .i64 (b - Y)]) (by simp (maxDischargeDepth := 8) [results, Tryd.results35, go_sem, *]) rfl ?_
      exact ⟨rfl, by (repeat' (first | (with_reducible exact Below.refl _ _) | (with_reducible refine Below.alloc ?_ ?_ _) | (with_reducible refine Below.setCell ?_ ?_ _) | (with_reducible refine Below.drew ?_) | (with_reducible refine below_drewN ?_ _) | (with_reducible assumption) | (with_reducible refine below_after (by with_reducible assumption) ?_) | go_size))⟩
    · have hd : decide (R1 < L1) = false := by simpa using hlt
      go_wp2_with fail
      refine bodyPost_ret (v := .agg #[.int .i64 X, .int .i64 Y]) (by simp (maxDischargeDepth := 8) [results, Tryd.results35, go_sem, *]) rfl ?_
      obtain ⟨e1, e2⟩ := HE.out.2 (by omega)
      exact ⟨by rw [e1, e2], by (repeat' (first | (with_reducible exact Below.refl _ _) | (with_reducible refine Below.alloc ?_ ?_ _) | (with_reducible refine Below.setCell ?_ ?_ _) | (with_reducible refine Below.drew ?_) | (with_reducible refine below_drewN ?_ _) | (with_reducible assumption) | (with_reducible refine below_after (by with_reducible assumption) ?_) | go_size))⟩
end Go.Proofs.YtohnmogejidpdabDoor
