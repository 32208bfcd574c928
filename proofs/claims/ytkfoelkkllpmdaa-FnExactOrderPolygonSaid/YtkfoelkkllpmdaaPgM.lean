/-
  The model's sums over the sides of a polygon, and its code for lists (own work).
-/
import Derived.Test.YtkfoelkkllpmdaaPgQ
import Derived.BigRegion
import Derived.Deep.DeepCutAuto
namespace Go.Proofs.Ytkfoelkkllpmdaa
open Go.ChangeShapes Go.WideShapes Go.ChangeAt Go.RowKit
set_option linter.unusedVariables false
set_option maxRecDepth 100000
set_option linter.unusedSimpArgs false
set_option maxRecDepth 100000

theorem sg_step (f : Nat → Int) (k : Nat) : sg f (k + 1) = sg f k + f k := rfl
set_option maxHeartbeats 4000000 in
theorem l09Area_some (ps : List (Int × Int)) (m g cap : Nat) (w : World) (hps : ps.length = m) (h3 : 3 ≤ m) (hm : m ≤ 12) (hg : g < w.heap.size) (hc : PtCells w g 0 ps) (hin : inC ps = true) :
    Calls Try.prog 64 #[.slice (some ⟨g, 0, none⟩) m cap] w fun e w' => e = .returned (.int .i64 (areaL ps)) ∧ Below w.heap.size w w' := by
  have HBD := Lib.hid (fun k => dvL_bd hin (by omega) k)
  have HPT := Lib.hid (fun k => inC_pt hin (show 0 < ps.length by omega) k)
  have HPS := Lib.hid hps
  have HC := Lib.hid hc
  have HF : Hid (areaL ps = sg (dvL ps) m) := by show _ = _; unfold areaL; rw [hps]
  have HSB : Hid (∀ k, k ≤ m → -2000000000 ≤ sg (dvL ps) k ∧ sg (dvL ps) k ≤ 2000000000) := fun k hk => by
    have := sg_bd (f := dvL ps) (A := 2000000) k (fun j _ => HBD.out j)
    omega
  rw [HF.out]
  clear hc hin
  go_enter Try.func64, Try.ntmps64
  go_wp2_with fail
  go_loopw [3, 4] (fun t3 t4 wr => ∃ (j : Nat), t3 = .int .i64 (sg (dvL ps) j) ∧ t4 = .int .i64 (j : Int) ∧ j ≤ m ∧ Below w.heap.size w wr) (fun _ t4 _ => m - (intOf t4).toNat)
  case atStart => exact ⟨0, rfl, rfl, by omega, Below.refl _ _⟩
  case round =>
    obtain ⟨j, rfl, rfl, hj, hB⟩ := hrel
    by_cases hjm : j < m
    · have hpl := HPS.out
      have HST : Hid (sg (dvL ps) (j + 1) = sg (dvL ps) j + dvL ps j) := rfl
      obtain ⟨b1, b2⟩ := HSB.out j (by omega)
      obtain ⟨d1, d2⟩ := HBD.out j
      have HCALL : Hid (∀ w, Calls Try.prog 108 #[vP (pl ps j), vP (pl ps (j + 1))] w fun e w' => e = .returned (.int .i64 (dvL ps j)) ∧ Below w.heap.size w w') := fun w => l01Det_any _ _ _ _ w (isPt_bn1 (HPT.out j)) (isPt_bn2 (HPT.out j)) (isPt_bn1 (HPT.out (j + 1))) (isPt_bn2 (HPT.out (j + 1)))
      unfold vP at HCALL
      obtain ⟨X0, X1, hX⟩ : ∃ x y, pl ps j = (x, y) := ⟨_, _, rfl⟩
      obtain ⟨Y0, Y1, hY⟩ : ∃ x y, pl ps (j + 1) = (x, y) := ⟨_, _, rfl⟩
      have hk := Nat.mod_lt (j + 1) (show 0 < m by omega)
      have hqm : ((j : Int) + 1).tmod (m : Int) = (((j + 1) % m : Nat) : Int) := by rw [Int.tmod_eq_emod_of_nonneg (by omega)]; exact_mod_cast rfl
      obtain ⟨K, hK⟩ : ∃ K, (j + 1) % m = K := ⟨_, rfl⟩
      rw [hK] at hqm hk
      have HCL : Hid (∀ W, Below wr.heap.size wr W → W.cell? ⟨g, j * 2, none⟩ = some (.int .i64 X0) ∧ W.cell? ⟨g, j * 2 + 1, none⟩ = some (.int .i64 X1) ∧ W.cell? ⟨g, K * 2, none⟩ = some (.int .i64 Y0) ∧ W.cell? ⟨g, K * 2 + 1, none⟩ = some (.int .i64 Y1)) := by
        intro W hW
        have hc2 := ptCells_kept HC.out ((below_after hW hB).block g hg)
        have a0 := hc2 j (by omega)
        have a1 := hc2 K (by omega)
        have e0 : ps.getD j (0, 0) = (X0, X1) := by rw [← hX, pl_lt (by omega)]
        have e1 : ps.getD K (0, 0) = (Y0, Y1) := by rw [← hY]; unfold pl; rw [hpl, hK]
        rw [e0, Nat.zero_add] at a0
        rw [e1, Nat.zero_add] at a1
        exact ⟨a0.1, a0.2, a1.1, a1.2⟩
      rw [hX, hY] at HCALL
      have q1 : (0 : Int) ≤ (j : Int) := by omega
      have q3 : (j : Int) < (m : Int) := by omega
      have q4 : (K : Int) < (m : Int) := by omega
      have q5 : (0 : Int) ≤ (K : Int) := by omega
      have q9 : ¬ m = 0 := by omega
      have qa : IntKind.i64.wrap ((j : Int) + 1) = (j : Int) + 1 := by rw [IntKind.wrap_i64]; omega
      obtain ⟨D, hD⟩ : ∃ D, dvL ps j = D := ⟨_, rfl⟩
      obtain ⟨C, hC⟩ : ∃ C, sg (dvL ps) j = C := ⟨_, rfl⟩
      rw [hD] at HCALL HST d1 d2
      rw [hC] at HST b1 b2 ⊢
      have qw : IntKind.i64.wrap (C + D) = C + D := by rw [IntKind.wrap_i64]; omega
      have HBW := Lib.hid hB
      clear hX hY hK hB hD hC
      go_wp2_with fail
      refine wp_region_held_drew (S := fun W => Below wr.heap.size wr W) (by kernel_rfl) ?_ (fun hHeld => ?_); focus ((try dsimp only); exact (Below.refl _ _).drew)
      have hHeld : Below wr.heap.size wr _ := hHeld
      obtain ⟨wD, hwD⟩ : ∃ wD, wr.drew = wD := ⟨_, rfl⟩
      rw [hwD] at hHeld ⊢
      clear hwD
      (refine wpAnyH_take (i := 0) (v := ?_) rfl (by kernel_rfl) (by kernel_rfl) (by kernel_rfl) (fun _ _ _ h => h) (Or.inl ⟨rfl, ?_⟩) (by assumption) ?_; rotate_left; focus (intro W hSw; (try dsimp only at hSw); obtain ⟨i0, i1, i2, i3⟩ := HCL.out _ hSw; go_simp; try (with_reducible rfl))); (try simp only [Act.put, List.getElem_toArray, List.getElem_cons_succ, List.getElem_cons_zero, List.setIfInBounds_toArray, List.set_cons_zero, List.set_cons_succ])
      (refine wpAnyH_take (i := 1) (v := ?_) rfl (by kernel_rfl) (by kernel_rfl) (by kernel_rfl) (fun _ _ _ h => h) (Or.inl ⟨rfl, ?_⟩) (by assumption) ?_; rotate_left; focus (intro W hSw; (try dsimp only at hSw); obtain ⟨i0, i1, i2, i3⟩ := HCL.out _ hSw; go_simp; try (with_reducible rfl))); (try simp only [Act.put, List.getElem_toArray, List.getElem_cons_succ, List.getElem_cons_zero, List.setIfInBounds_toArray, List.set_cons_zero, List.set_cons_succ])
      (refine wpAnyH_take (i := 2) (v := ?_) rfl (by kernel_rfl) (by kernel_rfl) (by kernel_rfl) (fun _ _ _ h => h) (Or.inl ⟨rfl, ?_⟩) (by assumption) ?_; rotate_left; focus (intro W hSw; (try dsimp only at hSw); obtain ⟨i0, i1, i2, i3⟩ := HCL.out _ hSw; go_simp; try (with_reducible rfl))); (try simp only [Act.put, List.getElem_toArray, List.getElem_cons_succ, List.getElem_cons_zero, List.setIfInBounds_toArray, List.set_cons_zero, List.set_cons_succ])
      (refine wpAnyH_take (i := 3) (v := ?_) rfl (by kernel_rfl) (by kernel_rfl) (by kernel_rfl) (fun _ _ _ h => h) (Or.inl ⟨rfl, ?_⟩) (by assumption) ?_; rotate_left; focus (intro W hSw; (try dsimp only at hSw); obtain ⟨i0, i1, i2, i3⟩ := HCL.out _ hSw; go_simp; try (with_reducible rfl))); (try simp only [Act.put, List.getElem_toArray, List.getElem_cons_succ, List.getElem_cons_zero, List.setIfInBounds_toArray, List.set_cons_zero, List.set_cons_succ])
      (refine wpAnyH_take (i := 4) (v := ?_) rfl (by kernel_rfl) (by kernel_rfl) (by kernel_rfl) (fun _ _ _ h => h) (Or.inl ⟨rfl, ?_⟩) (by assumption) ?_; rotate_left; focus (intro W hSw; (try dsimp only at hSw); obtain ⟨i0, i1, i2, i3⟩ := HCL.out _ hSw; go_simp; try (with_reducible rfl))); (try simp only [Act.put, List.getElem_toArray, List.getElem_cons_succ, List.getElem_cons_zero, List.setIfInBounds_toArray, List.set_cons_zero, List.set_cons_succ])
      (refine wpAnyH_take (i := 5) (v := ?_) rfl (by kernel_rfl) (by kernel_rfl) (by kernel_rfl) (fun _ _ _ h => h) (Or.inl ⟨rfl, ?_⟩) (by assumption) ?_; rotate_left; focus (intro W hSw; (try dsimp only at hSw); obtain ⟨i0, i1, i2, i3⟩ := HCL.out _ hSw; go_simp; try (with_reducible rfl))); (try simp only [Act.put, List.getElem_toArray, List.getElem_cons_succ, List.getElem_cons_zero, List.setIfInBounds_toArray, List.set_cons_zero, List.set_cons_succ])
      (refine wpAnyH_take (i := 6) (v := ?_) rfl (by kernel_rfl) (by kernel_rfl) (by kernel_rfl) (fun _ _ _ h => h) (Or.inl ⟨rfl, ?_⟩) (by assumption) ?_; rotate_left; focus (intro W hSw; (try dsimp only at hSw); obtain ⟨i0, i1, i2, i3⟩ := HCL.out _ hSw; go_simp; try (with_reducible rfl))); (try simp only [Act.put, List.getElem_toArray, List.getElem_cons_succ, List.getElem_cons_zero, List.setIfInBounds_toArray, List.set_cons_zero, List.set_cons_succ])
      (refine wpAnyH_take (i := 7) (v := ?_) rfl (by kernel_rfl) (by kernel_rfl) (by kernel_rfl) (fun _ _ _ h => h) (Or.inl ⟨rfl, ?_⟩) (by assumption) ?_; rotate_left; focus (intro W hSw; (try dsimp only at hSw); obtain ⟨i0, i1, i2, i3⟩ := HCL.out _ hSw; go_simp; try (with_reducible rfl))); (try simp only [Act.put, List.getElem_toArray, List.getElem_cons_succ, List.getElem_cons_zero, List.setIfInBounds_toArray, List.set_cons_zero, List.set_cons_succ])
      (refine wpAnyH_take (i := 8) (v := ?_) rfl (by kernel_rfl) (by kernel_rfl) (by kernel_rfl) (fun _ _ _ h => h) (Or.inl ⟨rfl, ?_⟩) (by assumption) ?_; rotate_left; focus (intro W hSw; (try dsimp only at hSw); obtain ⟨i0, i1, i2, i3⟩ := HCL.out _ hSw; go_simp; try (with_reducible rfl))); (try simp only [Act.put, List.getElem_toArray, List.getElem_cons_succ, List.getElem_cons_zero, List.setIfInBounds_toArray, List.set_cons_zero, List.set_cons_succ])
      (refine wpAnyH_take (i := 9) (v := ?_) rfl (by kernel_rfl) (by kernel_rfl) (by kernel_rfl) (fun _ _ _ h => h) (Or.inl ⟨rfl, ?_⟩) (by assumption) ?_; rotate_left; focus (intro W hSw; (try dsimp only at hSw); obtain ⟨i0, i1, i2, i3⟩ := HCL.out _ hSw; go_simp; try (with_reducible rfl))); (try simp only [Act.put, List.getElem_toArray, List.getElem_cons_succ, List.getElem_cons_zero, List.setIfInBounds_toArray, List.set_cons_zero, List.set_cons_succ])
      (refine wpAnyH_take (i := 10) (v := ?_) rfl (by kernel_rfl) (by kernel_rfl) (by kernel_rfl) (fun _ _ _ h => h) (Or.inl ⟨rfl, ?_⟩) (by assumption) ?_; rotate_left; focus (intro W hSw; (try dsimp only at hSw); obtain ⟨i0, i1, i2, i3⟩ := HCL.out _ hSw; go_simp; try (with_reducible rfl))); (try simp only [Act.put, List.getElem_toArray, List.getElem_cons_succ, List.getElem_cons_zero, List.setIfInBounds_toArray, List.set_cons_zero, List.set_cons_succ])
      (refine wpAnyH_take (i := 11) (v := ?_) rfl (by kernel_rfl) (by kernel_rfl) (by kernel_rfl) (fun _ _ _ h => h) (Or.inl ⟨rfl, ?_⟩) (by assumption) ?_; rotate_left; focus (intro W hSw; (try dsimp only at hSw); obtain ⟨i0, i1, i2, i3⟩ := HCL.out _ hSw; go_simp; try (with_reducible rfl))); (try simp only [Act.put, List.getElem_toArray, List.getElem_cons_succ, List.getElem_cons_zero, List.setIfInBounds_toArray, List.set_cons_zero, List.set_cons_succ])
      (refine wpAnyH_take (i := 12) (v := ?_) rfl (by kernel_rfl) (by kernel_rfl) (by kernel_rfl) (fun _ _ _ h => h) (Or.inl ⟨rfl, ?_⟩) (by assumption) ?_; rotate_left; focus (intro W hSw; (try dsimp only at hSw); obtain ⟨i0, i1, i2, i3⟩ := HCL.out _ hSw; go_simp; try (with_reducible rfl))); (try simp only [Act.put, List.getElem_toArray, List.getElem_cons_succ, List.getElem_cons_zero, List.setIfInBounds_toArray, List.set_cons_zero, List.set_cons_succ])
      refine wpAnyH_ready (rs := [13]) (by kernel_rfl) (by simp) ?_; refine AllReadyH.cons rfl (fun K hK => ?_) AllReadyH.nil
      go_simp; (go_at_call 108; refine (HCALL.out _).mono ?_; rintro en yw0 ⟨rfl, hb2⟩); refine hK.out _ _ (below_after hb2 hHeld) (fun hHeld2 => ?_); clear hb2; (clear hHeld; rename _ => hHeld; clear hK K; have hHeld : Below wr.heap.size wr _ := hHeld); (try simp only [Act.put, List.getElem_toArray, List.getElem_cons_succ, List.getElem_cons_zero, List.setIfInBounds_toArray, List.set_cons_zero, List.set_cons_succ])
      (refine wpAnyH_take (i := 14) (v := ?_) rfl (by kernel_rfl) (by kernel_rfl) (by kernel_rfl) (fun _ _ _ h => h) (Or.inl ⟨rfl, ?_⟩) (by assumption) ?_; rotate_left; focus (intro W hSw; (try dsimp only at hSw); obtain ⟨i0, i1, i2, i3⟩ := HCL.out _ hSw; go_simp; try (with_reducible rfl))); (try simp only [Act.put, List.getElem_toArray, List.getElem_cons_succ, List.getElem_cons_zero, List.setIfInBounds_toArray, List.set_cons_zero, List.set_cons_succ])
      (refine wpAnyH_take (i := 15) (v := ?_) rfl (by kernel_rfl) (by kernel_rfl) (by kernel_rfl) (fun _ _ _ h => h) (Or.inl ⟨rfl, ?_⟩) (by assumption) ?_; rotate_left; focus (intro W hSw; (try dsimp only at hSw); obtain ⟨i0, i1, i2, i3⟩ := HCL.out _ hSw; go_simp; try (with_reducible rfl))); (try simp only [Act.put, List.getElem_toArray, List.getElem_cons_succ, List.getElem_cons_zero, List.setIfInBounds_toArray, List.set_cons_zero, List.set_cons_succ])
      refine wpAnyH_done (by kernel_rfl) ?_ _
      have hBn := below_after hHeld HBW.out
      clear hHeld HBW HCL hqm
      go_wp2_with fail
      go_roundw
      case rel => exact ⟨j + 1, by rw [HST.out], by go_num, by omega, hBn⟩
      case measure => simp only [intOf]; omega
    · obtain rfl : j = m := by omega
      have q1 : ¬ (j : Int) < (j : Int) := by omega
      obtain ⟨C, hC⟩ : ∃ C, sg (dvL ps) j = C := ⟨_, rfl⟩
      rw [hC]
      go_wp2_with fail
      refine bodyPost_ret (v := .int .i64 C) (by simp (maxDischargeDepth := 8) [results, Try.results64, go_sem, *]) rfl ?_
      exact ⟨rfl, hB⟩
set_option maxHeartbeats 4000000 in
theorem l09Border_some (ps : List (Int × Int)) (m g cap : Nat) (w : World) (hps : ps.length = m) (h3 : 3 ≤ m) (hm : m ≤ 12) (hg : g < w.heap.size) (hc : PtCells w g 0 ps) (hin : inC ps = true) :
    Calls Try.prog 67 #[.slice (some ⟨g, 0, none⟩) m cap] w fun e w' => e = .returned (.int .i64 (bordL ps)) ∧ Below w.heap.size w w' := by
  have HBD := Lib.hid (fun k => gcL_bd2 hin (by omega) k)
  have HPT := Lib.hid (fun k => inC_pt hin (show 0 < ps.length by omega) k)
  have HPS := Lib.hid hps
  have HC := Lib.hid hc
  have HF : Hid (bordL ps = sg (gcL ps) m) := by show _ = _; unfold bordL; rw [hps]
  have HSB : Hid (∀ k, k ≤ m → -2000000000 ≤ sg (gcL ps) k ∧ sg (gcL ps) k ≤ 2000000000) := fun k hk => by
    have := sg_bd (f := gcL ps) (A := 2000000) k (fun j _ => HBD.out j)
    omega
  rw [HF.out]
  clear hc hin
  go_enter Try.func67, Try.ntmps67
  go_wp2_with fail
  go_loopw [3, 4] (fun t3 t4 wr => ∃ (j : Nat), t3 = .int .i64 (sg (gcL ps) j) ∧ t4 = .int .i64 (j : Int) ∧ j ≤ m ∧ Below w.heap.size w wr) (fun _ t4 _ => m - (intOf t4).toNat)
  case atStart => exact ⟨0, rfl, rfl, by omega, Below.refl _ _⟩
  case round =>
    obtain ⟨j, rfl, rfl, hj, hB⟩ := hrel
    by_cases hjm : j < m
    · have hpl := HPS.out
      have HST : Hid (sg (gcL ps) (j + 1) = sg (gcL ps) j + gcL ps j) := rfl
      obtain ⟨b1, b2⟩ := HSB.out j (by omega)
      obtain ⟨d1, d2⟩ := HBD.out j
      have HCALL : Hid (∀ w, Calls Try.prog 109 #[vP (pl ps j), vP (pl ps (j + 1))] w fun e w' => e = .returned (.int .i64 (gcL ps j)) ∧ Below w.heap.size w w') := fun w => l01Length_any _ _ _ _ w (isPt_bn1 (HPT.out j)) (isPt_bn2 (HPT.out j)) (isPt_bn1 (HPT.out (j + 1))) (isPt_bn2 (HPT.out (j + 1)))
      unfold vP at HCALL
      obtain ⟨X0, X1, hX⟩ : ∃ x y, pl ps j = (x, y) := ⟨_, _, rfl⟩
      obtain ⟨Y0, Y1, hY⟩ : ∃ x y, pl ps (j + 1) = (x, y) := ⟨_, _, rfl⟩
      have hk := Nat.mod_lt (j + 1) (show 0 < m by omega)
      have hqm : ((j : Int) + 1).tmod (m : Int) = (((j + 1) % m : Nat) : Int) := by rw [Int.tmod_eq_emod_of_nonneg (by omega)]; exact_mod_cast rfl
      obtain ⟨K, hK⟩ : ∃ K, (j + 1) % m = K := ⟨_, rfl⟩
      rw [hK] at hqm hk
      have HCL : Hid (∀ W, Below wr.heap.size wr W → W.cell? ⟨g, j * 2, none⟩ = some (.int .i64 X0) ∧ W.cell? ⟨g, j * 2 + 1, none⟩ = some (.int .i64 X1) ∧ W.cell? ⟨g, K * 2, none⟩ = some (.int .i64 Y0) ∧ W.cell? ⟨g, K * 2 + 1, none⟩ = some (.int .i64 Y1)) := by
        intro W hW
        have hc2 := ptCells_kept HC.out ((below_after hW hB).block g hg)
        have a0 := hc2 j (by omega)
        have a1 := hc2 K (by omega)
        have e0 : ps.getD j (0, 0) = (X0, X1) := by rw [← hX, pl_lt (by omega)]
        have e1 : ps.getD K (0, 0) = (Y0, Y1) := by rw [← hY]; unfold pl; rw [hpl, hK]
        rw [e0, Nat.zero_add] at a0
        rw [e1, Nat.zero_add] at a1
        exact ⟨a0.1, a0.2, a1.1, a1.2⟩
      rw [hX, hY] at HCALL
      have q1 : (0 : Int) ≤ (j : Int) := by omega
      have q3 : (j : Int) < (m : Int) := by omega
      have q4 : (K : Int) < (m : Int) := by omega
      have q5 : (0 : Int) ≤ (K : Int) := by omega
      have q9 : ¬ m = 0 := by omega
      have qa : IntKind.i64.wrap ((j : Int) + 1) = (j : Int) + 1 := by rw [IntKind.wrap_i64]; omega
      obtain ⟨D, hD⟩ : ∃ D, gcL ps j = D := ⟨_, rfl⟩
      obtain ⟨C, hC⟩ : ∃ C, sg (gcL ps) j = C := ⟨_, rfl⟩
      rw [hD] at HCALL HST d1 d2
      rw [hC] at HST b1 b2 ⊢
      have qw : IntKind.i64.wrap (C + D) = C + D := by rw [IntKind.wrap_i64]; omega
      have HBW := Lib.hid hB
      clear hX hY hK hB hD hC
      go_wp2_with fail
      refine wp_region_held_drew (S := fun W => Below wr.heap.size wr W) (by kernel_rfl) ?_ (fun hHeld => ?_); focus ((try dsimp only); exact (Below.refl _ _).drew)
      have hHeld : Below wr.heap.size wr _ := hHeld
      obtain ⟨wD, hwD⟩ : ∃ wD, wr.drew = wD := ⟨_, rfl⟩
      rw [hwD] at hHeld ⊢
      clear hwD
      (refine wpAnyH_take (i := 0) (v := ?_) rfl (by kernel_rfl) (by kernel_rfl) (by kernel_rfl) (fun _ _ _ h => h) (Or.inl ⟨rfl, ?_⟩) (by assumption) ?_; rotate_left; focus (intro W hSw; (try dsimp only at hSw); obtain ⟨i0, i1, i2, i3⟩ := HCL.out _ hSw; go_simp; try (with_reducible rfl))); (try simp only [Act.put, List.getElem_toArray, List.getElem_cons_succ, List.getElem_cons_zero, List.setIfInBounds_toArray, List.set_cons_zero, List.set_cons_succ])
      (refine wpAnyH_take (i := 1) (v := ?_) rfl (by kernel_rfl) (by kernel_rfl) (by kernel_rfl) (fun _ _ _ h => h) (Or.inl ⟨rfl, ?_⟩) (by assumption) ?_; rotate_left; focus (intro W hSw; (try dsimp only at hSw); obtain ⟨i0, i1, i2, i3⟩ := HCL.out _ hSw; go_simp; try (with_reducible rfl))); (try simp only [Act.put, List.getElem_toArray, List.getElem_cons_succ, List.getElem_cons_zero, List.setIfInBounds_toArray, List.set_cons_zero, List.set_cons_succ])
      (refine wpAnyH_take (i := 2) (v := ?_) rfl (by kernel_rfl) (by kernel_rfl) (by kernel_rfl) (fun _ _ _ h => h) (Or.inl ⟨rfl, ?_⟩) (by assumption) ?_; rotate_left; focus (intro W hSw; (try dsimp only at hSw); obtain ⟨i0, i1, i2, i3⟩ := HCL.out _ hSw; go_simp; try (with_reducible rfl))); (try simp only [Act.put, List.getElem_toArray, List.getElem_cons_succ, List.getElem_cons_zero, List.setIfInBounds_toArray, List.set_cons_zero, List.set_cons_succ])
      (refine wpAnyH_take (i := 3) (v := ?_) rfl (by kernel_rfl) (by kernel_rfl) (by kernel_rfl) (fun _ _ _ h => h) (Or.inl ⟨rfl, ?_⟩) (by assumption) ?_; rotate_left; focus (intro W hSw; (try dsimp only at hSw); obtain ⟨i0, i1, i2, i3⟩ := HCL.out _ hSw; go_simp; try (with_reducible rfl))); (try simp only [Act.put, List.getElem_toArray, List.getElem_cons_succ, List.getElem_cons_zero, List.setIfInBounds_toArray, List.set_cons_zero, List.set_cons_succ])
      (refine wpAnyH_take (i := 4) (v := ?_) rfl (by kernel_rfl) (by kernel_rfl) (by kernel_rfl) (fun _ _ _ h => h) (Or.inl ⟨rfl, ?_⟩) (by assumption) ?_; rotate_left; focus (intro W hSw; (try dsimp only at hSw); obtain ⟨i0, i1, i2, i3⟩ := HCL.out _ hSw; go_simp; try (with_reducible rfl))); (try simp only [Act.put, List.getElem_toArray, List.getElem_cons_succ, List.getElem_cons_zero, List.setIfInBounds_toArray, List.set_cons_zero, List.set_cons_succ])
      (refine wpAnyH_take (i := 5) (v := ?_) rfl (by kernel_rfl) (by kernel_rfl) (by kernel_rfl) (fun _ _ _ h => h) (Or.inl ⟨rfl, ?_⟩) (by assumption) ?_; rotate_left; focus (intro W hSw; (try dsimp only at hSw); obtain ⟨i0, i1, i2, i3⟩ := HCL.out _ hSw; go_simp; try (with_reducible rfl))); (try simp only [Act.put, List.getElem_toArray, List.getElem_cons_succ, List.getElem_cons_zero, List.setIfInBounds_toArray, List.set_cons_zero, List.set_cons_succ])
      (refine wpAnyH_take (i := 6) (v := ?_) rfl (by kernel_rfl) (by kernel_rfl) (by kernel_rfl) (fun _ _ _ h => h) (Or.inl ⟨rfl, ?_⟩) (by assumption) ?_; rotate_left; focus (intro W hSw; (try dsimp only at hSw); obtain ⟨i0, i1, i2, i3⟩ := HCL.out _ hSw; go_simp; try (with_reducible rfl))); (try simp only [Act.put, List.getElem_toArray, List.getElem_cons_succ, List.getElem_cons_zero, List.setIfInBounds_toArray, List.set_cons_zero, List.set_cons_succ])
      (refine wpAnyH_take (i := 7) (v := ?_) rfl (by kernel_rfl) (by kernel_rfl) (by kernel_rfl) (fun _ _ _ h => h) (Or.inl ⟨rfl, ?_⟩) (by assumption) ?_; rotate_left; focus (intro W hSw; (try dsimp only at hSw); obtain ⟨i0, i1, i2, i3⟩ := HCL.out _ hSw; go_simp; try (with_reducible rfl))); (try simp only [Act.put, List.getElem_toArray, List.getElem_cons_succ, List.getElem_cons_zero, List.setIfInBounds_toArray, List.set_cons_zero, List.set_cons_succ])
      (refine wpAnyH_take (i := 8) (v := ?_) rfl (by kernel_rfl) (by kernel_rfl) (by kernel_rfl) (fun _ _ _ h => h) (Or.inl ⟨rfl, ?_⟩) (by assumption) ?_; rotate_left; focus (intro W hSw; (try dsimp only at hSw); obtain ⟨i0, i1, i2, i3⟩ := HCL.out _ hSw; go_simp; try (with_reducible rfl))); (try simp only [Act.put, List.getElem_toArray, List.getElem_cons_succ, List.getElem_cons_zero, List.setIfInBounds_toArray, List.set_cons_zero, List.set_cons_succ])
      (refine wpAnyH_take (i := 9) (v := ?_) rfl (by kernel_rfl) (by kernel_rfl) (by kernel_rfl) (fun _ _ _ h => h) (Or.inl ⟨rfl, ?_⟩) (by assumption) ?_; rotate_left; focus (intro W hSw; (try dsimp only at hSw); obtain ⟨i0, i1, i2, i3⟩ := HCL.out _ hSw; go_simp; try (with_reducible rfl))); (try simp only [Act.put, List.getElem_toArray, List.getElem_cons_succ, List.getElem_cons_zero, List.setIfInBounds_toArray, List.set_cons_zero, List.set_cons_succ])
      (refine wpAnyH_take (i := 10) (v := ?_) rfl (by kernel_rfl) (by kernel_rfl) (by kernel_rfl) (fun _ _ _ h => h) (Or.inl ⟨rfl, ?_⟩) (by assumption) ?_; rotate_left; focus (intro W hSw; (try dsimp only at hSw); obtain ⟨i0, i1, i2, i3⟩ := HCL.out _ hSw; go_simp; try (with_reducible rfl))); (try simp only [Act.put, List.getElem_toArray, List.getElem_cons_succ, List.getElem_cons_zero, List.setIfInBounds_toArray, List.set_cons_zero, List.set_cons_succ])
      (refine wpAnyH_take (i := 11) (v := ?_) rfl (by kernel_rfl) (by kernel_rfl) (by kernel_rfl) (fun _ _ _ h => h) (Or.inl ⟨rfl, ?_⟩) (by assumption) ?_; rotate_left; focus (intro W hSw; (try dsimp only at hSw); obtain ⟨i0, i1, i2, i3⟩ := HCL.out _ hSw; go_simp; try (with_reducible rfl))); (try simp only [Act.put, List.getElem_toArray, List.getElem_cons_succ, List.getElem_cons_zero, List.setIfInBounds_toArray, List.set_cons_zero, List.set_cons_succ])
      (refine wpAnyH_take (i := 12) (v := ?_) rfl (by kernel_rfl) (by kernel_rfl) (by kernel_rfl) (fun _ _ _ h => h) (Or.inl ⟨rfl, ?_⟩) (by assumption) ?_; rotate_left; focus (intro W hSw; (try dsimp only at hSw); obtain ⟨i0, i1, i2, i3⟩ := HCL.out _ hSw; go_simp; try (with_reducible rfl))); (try simp only [Act.put, List.getElem_toArray, List.getElem_cons_succ, List.getElem_cons_zero, List.setIfInBounds_toArray, List.set_cons_zero, List.set_cons_succ])
      refine wpAnyH_ready (rs := [13]) (by kernel_rfl) (by simp) ?_; refine AllReadyH.cons rfl (fun K hK => ?_) AllReadyH.nil
      go_simp; (go_at_call 109; refine (HCALL.out _).mono ?_; rintro en yw0 ⟨rfl, hb2⟩); refine hK.out _ _ (below_after hb2 hHeld) (fun hHeld2 => ?_); clear hb2; (clear hHeld; rename _ => hHeld; clear hK K; have hHeld : Below wr.heap.size wr _ := hHeld); (try simp only [Act.put, List.getElem_toArray, List.getElem_cons_succ, List.getElem_cons_zero, List.setIfInBounds_toArray, List.set_cons_zero, List.set_cons_succ])
      (refine wpAnyH_take (i := 14) (v := ?_) rfl (by kernel_rfl) (by kernel_rfl) (by kernel_rfl) (fun _ _ _ h => h) (Or.inl ⟨rfl, ?_⟩) (by assumption) ?_; rotate_left; focus (intro W hSw; (try dsimp only at hSw); obtain ⟨i0, i1, i2, i3⟩ := HCL.out _ hSw; go_simp; try (with_reducible rfl))); (try simp only [Act.put, List.getElem_toArray, List.getElem_cons_succ, List.getElem_cons_zero, List.setIfInBounds_toArray, List.set_cons_zero, List.set_cons_succ])
      (refine wpAnyH_take (i := 15) (v := ?_) rfl (by kernel_rfl) (by kernel_rfl) (by kernel_rfl) (fun _ _ _ h => h) (Or.inl ⟨rfl, ?_⟩) (by assumption) ?_; rotate_left; focus (intro W hSw; (try dsimp only at hSw); obtain ⟨i0, i1, i2, i3⟩ := HCL.out _ hSw; go_simp; try (with_reducible rfl))); (try simp only [Act.put, List.getElem_toArray, List.getElem_cons_succ, List.getElem_cons_zero, List.setIfInBounds_toArray, List.set_cons_zero, List.set_cons_succ])
      refine wpAnyH_done (by kernel_rfl) ?_ _
      have hBn := below_after hHeld HBW.out
      clear hHeld HBW HCL hqm
      go_wp2_with fail
      go_roundw
      case rel => exact ⟨j + 1, by rw [HST.out], by go_num, by omega, hBn⟩
      case measure => simp only [intOf]; omega
    · obtain rfl : j = m := by omega
      have q1 : ¬ (j : Int) < (j : Int) := by omega
      obtain ⟨C, hC⟩ : ∃ C, sg (gcL ps) j = C := ⟨_, rfl⟩
      rw [hC]
      go_wp2_with fail
      refine bodyPost_ret (v := .int .i64 C) (by simp (maxDischargeDepth := 8) [results, Try.results67, go_sem, *]) rfl ?_
      exact ⟨rfl, hB⟩
def cdP (ps : List (Int × Int)) : Int := if isP ps = true then 0 else 1
theorem cdP_yes {ps : List (Int × Int)} (h : isP ps = true) : cdP ps = 0 := if_pos h
theorem cdP_no {ps : List (Int × Int)} (h : isP ps = false) : cdP ps = 1 := if_neg (by rw [h]; decide)
theorem l09Code_one (a : Option Addr) (n cap b c : Nat) (ps : List (Int × Int)) (w : World) (h : LV w a n ps) (hb : b < w.heap.size) (hc : w.cell? ⟨b, 0, none⟩ = some (.slice a n cap)) :
    Calls Try.prog 61 #[.slice (some ⟨b, 0, none⟩) 1 c] w fun e w' => e = .returned (.int .i64 (cdP ps)) ∧ Below w.heap.size w w' := by
  have HLV := Lib.hid h
  have HC := Lib.hid hc
  clear h hc
  go_enter Try.func61, Try.ntmps61
  go_wp2_with fail
  go_loopw [3] (fun t3 wr => ∃ (j : Nat), t3 = .int .i64 (j : Int) ∧ j ≤ 1 ∧ (j = 1 → isP ps = true) ∧ Below w.heap.size w wr) (fun t3 _ => 1 - (intOf t3).toNat)
  case atStart => exact ⟨0, rfl, by omega, fun h => by omega, Below.refl _ _⟩
  case round =>
    obtain ⟨j, rfl, hj, hP, hB⟩ := hrel
    by_cases hjm : j < 1
    · obtain rfl : j = 0 := by omega
      have c0 := (hB.cell (p := ⟨b, 0, none⟩) hb).trans HC.out
      have HI := Lib.hid (l09Is_any a n cap ps wr (HLV.out.below hB))
      cases hp : isP ps
      · rw [hp] at HI
        have HR : Hid (cdP ps = 1) := cdP_no hp
        clear hP
        go_wp2_with (go_at_call 52; refine HI.out.mono ?_; rintro e w1 ⟨rfl, hb1⟩)
        go_ret
        exact ⟨by rw [HR.out]; rfl, below_after hb1 hB⟩
      · rw [hp] at HI
        clear hP
        go_wp2_with (go_at_call 52; refine HI.out.mono ?_; rintro e w1 ⟨rfl, hb1⟩)
        go_roundw
        case rel => exact ⟨1, by go_num, by omega, fun _ => (by first | exact hp | trivial), below_after hb1 hB⟩
        case measure => simp only [intOf]; omega
    · obtain rfl : j = 1 := by omega
      have HR : Hid (cdP ps = 0) := cdP_yes (hP rfl)
      clear hP
      go_wp2_with fail
      go_ret
      exact ⟨by rw [HR.out]; rfl, hB⟩
end Go.Proofs.Ytkfoelkkllpmdaa
