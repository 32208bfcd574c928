/-
  The model's reading of a polygon (own work).
-/
import Derived.Test.YtmjhejmkmdgikaaPgF
import Derived.Test.YtmjhejmkmdgikaaBlk
import Derived.BigRegion
import Derived.Deep.DeepCutAuto
import Derived.Deep.Cut
namespace Go.Proofs.Ytmjhejmkmdgikaa
open Go.ChangeShapes Go.WideShapes Go.ChangeAt Go.RowKit
set_option linter.unusedVariables false
set_option maxRecDepth 100000
set_option linter.unusedSimpArgs false

theorem l01In_b (n l h : Int) (w : World) : Calls Try.prog 62 #[.int .i64 n, .int .i64 l, .int .i64 h] w fun e w' => e = .returned (.bool (inB n l h)) ∧ Below w.heap.size w w' :=
  (l01In_any n l h w).mono fun e w' h => ⟨h.1, by rw [← h.2]; exact Below.refl _ _⟩
/-- 1 where a side goes down ahead of one that goes up. -/
def ind1 (ps : List (Int × Int)) (i : Nat) : Int := if ¬ Up (eg (pl ps) i) ∧ Up (eg (pl ps) (i + 1)) then 1 else 0
theorem hlf_1 (a : Int × Int) : hlf a = 1 ↔ ¬ Up a := by unfold hlf; split <;> simp_all
theorem hlf_0 (a : Int × Int) : hlf a = 0 ↔ Up a := by unfold hlf; split <;> simp_all
theorem ind1_eq (ps : List (Int × Int)) (i : Nat) : ind1 ps i = if hlf (eg (pl ps) i) = 1 ∧ hlf (eg (pl ps) (i + 1)) = 0 then 1 else 0 := by
  unfold ind1
  simp only [hlf_1, hlf_0]
/-- The model's loop from corner i on, with t passages before. -/
def isL (ps : List (Int × Int)) : Nat → Nat → Int → Bool
  | 0, _, t => decide (t = 1)
  | f + 1, i, t => isS (pl ps i).1 (pl ps i).2 && isPt (pl ps (i + 1)) && isPt (pl ps (i + 2)) && decide (0 < dv (eg (pl ps) i) (eg (pl ps) (i + 1))) && isL ps f (i + 1) (t + ind1 ps i)
section
variable {ps : List (Int × Int)} {m j : Nat} {t : Int} (h : j < m)
include h
theorem isL_at : isL ps (m - j) j t = (isS (pl ps j).1 (pl ps j).2 && isPt (pl ps (j + 1)) && isPt (pl ps (j + 2)) && decide (0 < dv (eg (pl ps) j) (eg (pl ps) (j + 1))) && isL ps (m - (j + 1)) (j + 1) (t + ind1 ps j)) := by
  rw [show m - j = (m - (j + 1)) + 1 by omega]; rfl
theorem isL_a0 (k : isS (pl ps j).1 (pl ps j).2 = false) : isL ps (m - j) j t = false := by rw [isL_at h, k]; rfl
theorem isL_b0 (k : isPt (pl ps (j + 1)) = false) : isL ps (m - j) j t = false := by rw [isL_at h, k]; simp
theorem isL_c0 (k : isPt (pl ps (j + 2)) = false) : isL ps (m - j) j t = false := by rw [isL_at h, k]; simp
theorem isL_d0 (k : ¬ 0 < dv (eg (pl ps) j) (eg (pl ps) (j + 1))) : isL ps (m - j) j t = false := by rw [isL_at h, decide_eq_false k]; simp
theorem isL_go (k1 : isS (pl ps j).1 (pl ps j).2 = true) (k2 : isPt (pl ps (j + 1)) = true) (k3 : isPt (pl ps (j + 2)) = true) (k4 : 0 < dv (eg (pl ps) j) (eg (pl ps) (j + 1))) : isL ps (m - j) j t = isL ps (m - (j + 1)) (j + 1) (t + ind1 ps j) := by
  rw [isL_at h, k1, k2, k3, decide_eq_true k4]; rfl
end
def isP (ps : List (Int × Int)) : Bool := decide (3 ≤ ps.length) && decide (ps.length ≤ 12) && isL ps ps.length 0 0
set_option maxRecDepth 100000 in
set_option maxHeartbeats 8000000 in
theorem l09Is_some (ps : List (Int × Int)) (m g cap : Nat) (w : World) (hps : ps.length = m) (h3 : 3 ≤ m) (hm : m ≤ 12) (hg : g < w.heap.size) (hc : PtCells w g 0 ps) :
    Calls Try.prog 95 #[.slice (some ⟨g, 0, none⟩) m cap] w fun e w' => e = .returned (.bool (isL ps m 0 0)) ∧ Below w.heap.size w w' := by
  obtain ⟨R, hR⟩ : ∃ R, isL ps m 0 0 = R := ⟨_, rfl⟩
  rw [hR]
  have HPS := Lib.hid hps
  have HC := Lib.hid hc
  have HR0 := Lib.hid hR
  have n3 : ¬ (m : Int) < 3 := by omega
  have n12 : ¬ (12 : Int) < (m : Int) := by omega
  clear hc hR
  go_enter Try.func95, Try.ntmps95
  go_wp2_with fail
  go_loopw [4, 5] (fun t4 t5 wr => ∃ (j : Nat) (t : Int), t4 = .int .i64 t ∧ t5 = .int .i64 (j : Int) ∧ j ≤ m ∧ (0 ≤ t ∧ t ≤ j) ∧ isL ps (m - j) j t = R ∧ Below w.heap.size w wr) (fun _ t5 _ => m - (intOf t5).toNat)
  case atStart => exact ⟨0, 0, rfl, rfl, by omega, ⟨by omega, by omega⟩, HR0.out, Below.refl _ _⟩
  case round =>
    obtain ⟨j, t, rfl, rfl, hj, ht, hRj, hB⟩ := hrel
    by_cases hjm : j < m
    · have hpl := HPS.out
      have HR := Lib.hid hRj
      have HLE := Lib.hid hjm
      obtain ⟨X0, X1, hX⟩ : ∃ x y, pl ps j = (x, y) := ⟨_, _, rfl⟩
      obtain ⟨Y0, Y1, hY⟩ : ∃ x y, pl ps (j + 1) = (x, y) := ⟨_, _, rfl⟩
      obtain ⟨Z0, Z1, hZ⟩ : ∃ x y, pl ps (j + 2) = (x, y) := ⟨_, _, rfl⟩
      have hk := Nat.mod_lt (j + 1) (show 0 < m by omega)
      have hk2 := Nat.mod_lt (j + 2) (show 0 < m by omega)
      have hqm : ((j : Int) + 1).tmod (m : Int) = (((j + 1) % m : Nat) : Int) := by rw [Int.tmod_eq_emod_of_nonneg (by omega)]; exact_mod_cast rfl
      have hqn : ((j : Int) + 2).tmod (m : Int) = (((j + 2) % m : Nat) : Int) := by rw [Int.tmod_eq_emod_of_nonneg (by omega)]; exact_mod_cast rfl
      obtain ⟨K, hK⟩ : ∃ K, (j + 1) % m = K := ⟨_, rfl⟩
      obtain ⟨L, hL⟩ : ∃ K, (j + 2) % m = K := ⟨_, rfl⟩
      rw [hK] at hqm hk
      rw [hL] at hqn hk2
      have HCL : Hid (∀ W, Below wr.heap.size wr W → W.cell? ⟨g, j * 2, none⟩ = some (.int .i64 X0) ∧ W.cell? ⟨g, j * 2 + 1, none⟩ = some (.int .i64 X1) ∧ W.cell? ⟨g, K * 2, none⟩ = some (.int .i64 Y0) ∧ W.cell? ⟨g, K * 2 + 1, none⟩ = some (.int .i64 Y1) ∧ W.cell? ⟨g, L * 2, none⟩ = some (.int .i64 Z0) ∧ W.cell? ⟨g, L * 2 + 1, none⟩ = some (.int .i64 Z1)) := by
        intro W hW
        have hc2 := ptCells_kept HC.out ((below_after hW hB).block g hg)
        have a0 := hc2 j (by omega)
        have a1 := hc2 K (by omega)
        have a2 := hc2 L (by omega)
        have e0 : ps.getD j (0, 0) = (X0, X1) := by rw [← hX, pl_lt (by omega)]
        have e1 : ps.getD K (0, 0) = (Y0, Y1) := by rw [← hY]; unfold pl; rw [hpl, hK]
        have e2 : ps.getD L (0, 0) = (Z0, Z1) := by rw [← hZ]; unfold pl; rw [hpl, hL]
        rw [e0, Nat.zero_add] at a0
        rw [e1, Nat.zero_add] at a1
        rw [e2, Nat.zero_add] at a2
        exact ⟨a0.1, a0.2, a1.1, a1.2, a2.1, a2.2⟩
      have HE0 := Lib.hid hX
      have HE1 := Lib.hid hY
      have HE2 := Lib.hid hZ
      have q1 : (0 : Int) ≤ (j : Int) := by omega
      have q3 : (j : Int) < (m : Int) := by omega
      have q4 : (K : Int) < (m : Int) := by omega
      have q5 : (0 : Int) ≤ (K : Int) := by omega
      have q6 : (L : Int) < (m : Int) := by omega
      have q7 : (0 : Int) ≤ (L : Int) := by omega
      have q9 : ¬ m = 0 := by omega
      have qa : IntKind.i64.wrap ((j : Int) + 1) = (j : Int) + 1 := by rw [IntKind.wrap_i64]; omega
      have qb : IntKind.i64.wrap ((j : Int) + 2) = (j : Int) + 2 := by rw [IntKind.wrap_i64]; omega
      have HBW := Lib.hid hB
      clear hX hY hZ hK hL hRj hB
      go_wp2_with fail
      go_cut [6, 7, 8] (fun v6 v7 v8 wx => ∃ GA GB GC, v6 = .pointer (some ⟨GA, 0, none⟩) ∧ v7 = .pointer (some ⟨GB, 0, none⟩) ∧ v8 = .pointer (some ⟨GC, 0, none⟩) ∧ Bk2 wx GA X0 X1 ∧ Bk2 wx GB Y0 Y1 ∧ Bk2 wx GC Z0 Z1 ∧ Below wr.heap.size wr wx)
      case first =>
          refine wp_region_held_drew (S := fun W => Below wr.heap.size wr W) (by kernel_rfl) ?_ (fun hHeld => ?_); focus ((try dsimp only); exact (Below.refl _ _).drew)
          have hHeld : Below wr.heap.size wr _ := hHeld
          obtain ⟨wD, hwD⟩ : ∃ wD, wr.drew = wD := ⟨_, rfl⟩
          rw [hwD] at hHeld ⊢
          clear hwD
          (refine wpAnyH_take (i := 0) (v := ?_) rfl (by kernel_rfl) (by kernel_rfl) (by kernel_rfl) (fun _ _ _ h => h) (Or.inl ⟨rfl, ?_⟩) (by assumption) ?_; rotate_left; focus (intro W hSw; (try dsimp only at hSw); obtain ⟨i0, i1, i2, i3, i4, i5⟩ := HCL.out _ hSw; go_simp; try (with_reducible rfl))); (try simp only [Act.put, List.getElem_toArray, List.getElem_cons_succ, List.getElem_cons_zero, List.setIfInBounds_toArray, List.set_cons_zero, List.set_cons_succ])
          (refine wpAnyH_take (i := 1) (v := ?_) rfl (by kernel_rfl) (by kernel_rfl) (by kernel_rfl) (fun _ _ _ h => h) (Or.inl ⟨rfl, ?_⟩) (by assumption) ?_; rotate_left; focus (intro W hSw; (try dsimp only at hSw); obtain ⟨i0, i1, i2, i3, i4, i5⟩ := HCL.out _ hSw; go_simp; try (with_reducible rfl))); (try simp only [Act.put, List.getElem_toArray, List.getElem_cons_succ, List.getElem_cons_zero, List.setIfInBounds_toArray, List.set_cons_zero, List.set_cons_succ])
          (refine wpAnyH_take (i := 2) (v := ?_) rfl (by kernel_rfl) (by kernel_rfl) (by kernel_rfl) (fun _ _ _ h => h) (Or.inl ⟨rfl, ?_⟩) (by assumption) ?_; rotate_left; focus (intro W hSw; (try dsimp only at hSw); obtain ⟨i0, i1, i2, i3, i4, i5⟩ := HCL.out _ hSw; go_simp; try (with_reducible rfl))); (try simp only [Act.put, List.getElem_toArray, List.getElem_cons_succ, List.getElem_cons_zero, List.setIfInBounds_toArray, List.set_cons_zero, List.set_cons_succ])
          (refine wpAnyH_take (i := 3) (v := ?_) rfl (by kernel_rfl) (by kernel_rfl) (by kernel_rfl) (fun _ _ _ h => h) (Or.inl ⟨rfl, ?_⟩) (by assumption) ?_; rotate_left; focus (intro W hSw; (try dsimp only at hSw); obtain ⟨i0, i1, i2, i3, i4, i5⟩ := HCL.out _ hSw; go_simp; try (with_reducible rfl))); (try simp only [Act.put, List.getElem_toArray, List.getElem_cons_succ, List.getElem_cons_zero, List.setIfInBounds_toArray, List.set_cons_zero, List.set_cons_succ])
          (refine wpAnyH_take (i := 4) (v := ?_) rfl (by kernel_rfl) (by kernel_rfl) (by kernel_rfl) (fun _ _ _ h => h) (Or.inl ⟨rfl, ?_⟩) (by assumption) ?_; rotate_left; focus (intro W hSw; (try dsimp only at hSw); obtain ⟨i0, i1, i2, i3, i4, i5⟩ := HCL.out _ hSw; go_simp; try (with_reducible rfl))); (try simp only [Act.put, List.getElem_toArray, List.getElem_cons_succ, List.getElem_cons_zero, List.setIfInBounds_toArray, List.set_cons_zero, List.set_cons_succ])
          (refine wpAnyH_take (i := 5) (v := ?_) rfl (by kernel_rfl) (by kernel_rfl) (by kernel_rfl) (fun _ _ _ h => h) (Or.inl ⟨rfl, ?_⟩) (by assumption) ?_; rotate_left; focus (intro W hSw; (try dsimp only at hSw); obtain ⟨i0, i1, i2, i3, i4, i5⟩ := HCL.out _ hSw; go_simp; try (with_reducible rfl))); (try simp only [Act.put, List.getElem_toArray, List.getElem_cons_succ, List.getElem_cons_zero, List.setIfInBounds_toArray, List.set_cons_zero, List.set_cons_succ])
          (refine wpAnyH_take (i := 6) (v := ?_) rfl (by kernel_rfl) (by kernel_rfl) (by kernel_rfl) (fun _ _ _ h => h) (Or.inl ⟨rfl, ?_⟩) (by assumption) ?_; rotate_left; focus (intro W hSw; (try dsimp only at hSw); obtain ⟨i0, i1, i2, i3, i4, i5⟩ := HCL.out _ hSw; go_simp; try (with_reducible rfl))); (try simp only [Act.put, List.getElem_toArray, List.getElem_cons_succ, List.getElem_cons_zero, List.setIfInBounds_toArray, List.set_cons_zero, List.set_cons_succ])
          (refine wpAnyH_take (i := 7) (v := ?_) rfl (by kernel_rfl) (by kernel_rfl) (by kernel_rfl) (fun _ _ _ h => h) (Or.inl ⟨rfl, ?_⟩) (by assumption) ?_; rotate_left; focus (intro W hSw; (try dsimp only at hSw); obtain ⟨i0, i1, i2, i3, i4, i5⟩ := HCL.out _ hSw; go_simp; try (with_reducible rfl))); (try simp only [Act.put, List.getElem_toArray, List.getElem_cons_succ, List.getElem_cons_zero, List.setIfInBounds_toArray, List.set_cons_zero, List.set_cons_succ])
          (refine wpAnyH_take (i := 8) (v := ?_) rfl (by kernel_rfl) (by kernel_rfl) (by kernel_rfl) (fun _ _ _ h => h) (Or.inl ⟨rfl, ?_⟩) (by assumption) ?_; rotate_left; focus (intro W hSw; (try dsimp only at hSw); obtain ⟨i0, i1, i2, i3, i4, i5⟩ := HCL.out _ hSw; go_simp; try (with_reducible rfl))); (try simp only [Act.put, List.getElem_toArray, List.getElem_cons_succ, List.getElem_cons_zero, List.setIfInBounds_toArray, List.set_cons_zero, List.set_cons_succ])
          (refine wpAnyH_take (i := 9) (v := ?_) rfl (by kernel_rfl) (by kernel_rfl) (by kernel_rfl) (fun _ _ _ h => h) (Or.inl ⟨rfl, ?_⟩) (by assumption) ?_; rotate_left; focus (intro W hSw; (try dsimp only at hSw); obtain ⟨i0, i1, i2, i3, i4, i5⟩ := HCL.out _ hSw; go_simp; try (with_reducible rfl))); (try simp only [Act.put, List.getElem_toArray, List.getElem_cons_succ, List.getElem_cons_zero, List.setIfInBounds_toArray, List.set_cons_zero, List.set_cons_succ])
          (refine wpAnyH_take (i := 10) (v := ?_) rfl (by kernel_rfl) (by kernel_rfl) (by kernel_rfl) (fun _ _ _ h => h) (Or.inl ⟨rfl, ?_⟩) (by assumption) ?_; rotate_left; focus (intro W hSw; (try dsimp only at hSw); obtain ⟨i0, i1, i2, i3, i4, i5⟩ := HCL.out _ hSw; go_simp; try (with_reducible rfl))); (try simp only [Act.put, List.getElem_toArray, List.getElem_cons_succ, List.getElem_cons_zero, List.setIfInBounds_toArray, List.set_cons_zero, List.set_cons_succ])
          (refine wpAnyH_take (i := 11) (v := ?_) rfl (by kernel_rfl) (by kernel_rfl) (by kernel_rfl) (fun _ _ _ h => h) (Or.inl ⟨rfl, ?_⟩) (by assumption) ?_; rotate_left; focus (intro W hSw; (try dsimp only at hSw); obtain ⟨i0, i1, i2, i3, i4, i5⟩ := HCL.out _ hSw; go_simp; try (with_reducible rfl))); (try simp only [Act.put, List.getElem_toArray, List.getElem_cons_succ, List.getElem_cons_zero, List.setIfInBounds_toArray, List.set_cons_zero, List.set_cons_succ])
          (refine wpAnyH_take (i := 12) (v := ?_) rfl (by kernel_rfl) (by kernel_rfl) (by kernel_rfl) (fun _ _ _ h => h) (Or.inl ⟨rfl, ?_⟩) (by assumption) ?_; rotate_left; focus (intro W hSw; (try dsimp only at hSw); obtain ⟨i0, i1, i2, i3, i4, i5⟩ := HCL.out _ hSw; go_simp; try (with_reducible rfl))); (try simp only [Act.put, List.getElem_toArray, List.getElem_cons_succ, List.getElem_cons_zero, List.setIfInBounds_toArray, List.set_cons_zero, List.set_cons_succ])
          (refine wpAnyH_take (i := 13) (v := ?_) rfl (by kernel_rfl) (by kernel_rfl) (by kernel_rfl) (fun _ _ _ h => h) (Or.inl ⟨rfl, ?_⟩) (by assumption) ?_; rotate_left; focus (intro W hSw; (try dsimp only at hSw); obtain ⟨i0, i1, i2, i3, i4, i5⟩ := HCL.out _ hSw; go_simp; try (with_reducible rfl))); (try simp only [Act.put, List.getElem_toArray, List.getElem_cons_succ, List.getElem_cons_zero, List.setIfInBounds_toArray, List.set_cons_zero, List.set_cons_succ])
          (refine wpAnyH_take (i := 14) (v := ?_) rfl (by kernel_rfl) (by kernel_rfl) (by kernel_rfl) (fun _ _ _ h => h) (Or.inl ⟨rfl, ?_⟩) (by assumption) ?_; rotate_left; focus (intro W hSw; (try dsimp only at hSw); obtain ⟨i0, i1, i2, i3, i4, i5⟩ := HCL.out _ hSw; go_simp; try (with_reducible rfl))); (try simp only [Act.put, List.getElem_toArray, List.getElem_cons_succ, List.getElem_cons_zero, List.setIfInBounds_toArray, List.set_cons_zero, List.set_cons_succ])
          (refine wpAnyH_take (i := 15) (v := ?_) rfl (by kernel_rfl) (by kernel_rfl) (by kernel_rfl) (fun _ _ _ h => h) (Or.inl ⟨rfl, ?_⟩) (by assumption) ?_; rotate_left; focus (intro W hSw; (try dsimp only at hSw); obtain ⟨i0, i1, i2, i3, i4, i5⟩ := HCL.out _ hSw; go_simp; try (with_reducible rfl))); (try simp only [Act.put, List.getElem_toArray, List.getElem_cons_succ, List.getElem_cons_zero, List.setIfInBounds_toArray, List.set_cons_zero, List.set_cons_succ])
          (refine wpAnyH_take (i := 16) (v := ?_) rfl (by kernel_rfl) (by kernel_rfl) (by kernel_rfl) (fun _ _ _ h => h) (Or.inl ⟨rfl, ?_⟩) (by assumption) ?_; rotate_left; focus (intro W hSw; (try dsimp only at hSw); obtain ⟨i0, i1, i2, i3, i4, i5⟩ := HCL.out _ hSw; go_simp; try (with_reducible rfl))); (try simp only [Act.put, List.getElem_toArray, List.getElem_cons_succ, List.getElem_cons_zero, List.setIfInBounds_toArray, List.set_cons_zero, List.set_cons_succ])
          (refine wpAnyH_take (i := 17) (v := ?_) rfl (by kernel_rfl) (by kernel_rfl) (by kernel_rfl) (fun _ _ _ h => h) (Or.inl ⟨rfl, ?_⟩) (by assumption) ?_; rotate_left; focus (intro W hSw; (try dsimp only at hSw); obtain ⟨i0, i1, i2, i3, i4, i5⟩ := HCL.out _ hSw; go_simp; try (with_reducible rfl))); (try simp only [Act.put, List.getElem_toArray, List.getElem_cons_succ, List.getElem_cons_zero, List.setIfInBounds_toArray, List.set_cons_zero, List.set_cons_succ])
          refine wpAnyH_ready (rs := [18, 19, 20]) (by kernel_rfl) (by simp) ?_; refine AllReadyH.cons rfl (fun K hK => ?_) (AllReadyH.cons rfl (fun K hK => ?_) (AllReadyH.cons rfl (fun K hK => ?_) AllReadyH.nil))
          · skip
            go_simp; obtain ⟨GA, hGA⟩ : ∃ G, wD.heap.size = G := ⟨_, rfl⟩; have le_A : wr.heap.size ≤ GA := by rw [← hGA]; exact Below.size hHeld
            have HA : Hid (Bk2 (wD.alloc (.cells #[.int .i64 0, .int .i64 0] 32)) GA 0 0) := by rw [← hGA]; exact bk2_new wD 0 0 _
            refine hK.out _ _ (Below.alloc hHeld (Below.size hHeld) _) (fun hHeld2 => ?_); (clear hHeld; rename _ => hHeld; clear hK K; have hHeld : Below wr.heap.size wr _ := hHeld); (try simp only [Act.put, List.getElem_toArray, List.getElem_cons_succ, List.getElem_cons_zero, List.setIfInBounds_toArray, List.set_cons_zero, List.set_cons_succ])
            rw [hGA]; clear hGA; obtain ⟨yw0, hwx⟩ : ∃ wx, wD.alloc (.cells #[.int .i64 0, .int .i64 0] 32) = wx := ⟨_, rfl⟩; rw [hwx] at HA hHeld ⊢; clear hwx
            refine wpAnyH_ready (rs := [19, 20]) (by kernel_rfl) (by simp) ?_; refine AllReadyH.cons rfl (fun K hK => ?_) (AllReadyH.cons rfl (fun K hK => ?_) AllReadyH.nil)
            · skip
              go_simp; obtain ⟨GY, hGY⟩ : ∃ G, yw0.heap.size = G := ⟨_, rfl⟩; have le_Y : wr.heap.size ≤ GY := by rw [← hGY]; exact Below.size hHeld
              have ne_Y_A : GY ≠ GA := by have := HA.out.2.2; omega
              have ne_A_Y : GA ≠ GY := Ne.symm ne_Y_A
              have HA := Lib.hid (HA.out.below ((Below.refl _ _).alloc (Nat.le_refl _) (.cells #[.int .i64 0, .int .i64 0] 32))); skip
              have HY : Hid (Bk2 (yw0.alloc (.cells #[.int .i64 0, .int .i64 0] 32)) GY 0 0) := by rw [← hGY]; exact bk2_new yw0 0 0 _
              refine hK.out _ _ (Below.alloc hHeld (Below.size hHeld) _) (fun hHeld2 => ?_); (clear hHeld; rename _ => hHeld; clear hK K; have hHeld : Below wr.heap.size wr _ := hHeld); (try simp only [Act.put, List.getElem_toArray, List.getElem_cons_succ, List.getElem_cons_zero, List.setIfInBounds_toArray, List.set_cons_zero, List.set_cons_succ])
              rw [hGY]; clear hGY; obtain ⟨yw1, hwx⟩ : ∃ wx, yw0.alloc (.cells #[.int .i64 0, .int .i64 0] 32) = wx := ⟨_, rfl⟩; rw [hwx] at HA HY hHeld ⊢; clear hwx
              refine wpAnyH_ready (rs := [20]) (by kernel_rfl) (by simp) ?_; refine AllReadyH.cons rfl (fun K hK => ?_) AllReadyH.nil
              go_simp; obtain ⟨GZ, hGZ⟩ : ∃ G, yw1.heap.size = G := ⟨_, rfl⟩; have le_Z : wr.heap.size ≤ GZ := by rw [← hGZ]; exact Below.size hHeld
              have ne_Z_A : GZ ≠ GA := by have := HA.out.2.2; omega
              have ne_A_Z : GA ≠ GZ := Ne.symm ne_Z_A
              have ne_Z_Y : GZ ≠ GY := by have := HY.out.2.2; omega
              have ne_Y_Z : GY ≠ GZ := Ne.symm ne_Z_Y
              have HA := Lib.hid (HA.out.below ((Below.refl _ _).alloc (Nat.le_refl _) (.cells #[.int .i64 0, .int .i64 0] 32))); have HY := Lib.hid (HY.out.below ((Below.refl _ _).alloc (Nat.le_refl _) (.cells #[.int .i64 0, .int .i64 0] 32))); skip
              have HZ : Hid (Bk2 (yw1.alloc (.cells #[.int .i64 0, .int .i64 0] 32)) GZ 0 0) := by rw [← hGZ]; exact bk2_new yw1 0 0 _
              refine hK.out _ _ (Below.alloc hHeld (Below.size hHeld) _) (fun hHeld2 => ?_); (clear hHeld; rename _ => hHeld; clear hK K; have hHeld : Below wr.heap.size wr _ := hHeld); (try simp only [Act.put, List.getElem_toArray, List.getElem_cons_succ, List.getElem_cons_zero, List.setIfInBounds_toArray, List.set_cons_zero, List.set_cons_succ])
              rw [hGZ]; clear hGZ; obtain ⟨yw2, hwx⟩ : ∃ wx, yw1.alloc (.cells #[.int .i64 0, .int .i64 0] 32) = wx := ⟨_, rfl⟩; rw [hwx] at HA HY HZ hHeld ⊢; clear hwx
              refine wpAnyH_ready (rs := [21]) (by kernel_rfl) (by simp) ?_; refine AllReadyH.cons rfl (fun K hK => ?_) AllReadyH.nil
              obtain ⟨⟨a0, a1⟩, ⟨f0, f1⟩, az⟩ := HA.out; go_simp; clear a0 f0 a1 f1 az
              have HY := Lib.hid ((HY.out.far ⟨GA, 0, none⟩ (.int .i64 X0) (by show GY ≠ GA; exact ne_Y_A)).far ⟨GA, 1, none⟩ (.int .i64 X1) (by show GY ≠ GA; exact ne_Y_A))
              have HZ := Lib.hid ((HZ.out.far ⟨GA, 0, none⟩ (.int .i64 X0) (by show GZ ≠ GA; exact ne_Z_A)).far ⟨GA, 1, none⟩ (.int .i64 X1) (by show GZ ≠ GA; exact ne_Z_A))
              have HA := Lib.hid ((HA.out.set0 X0).set1 X1)
              refine hK.out _ _ (Below.setCell (Below.setCell hHeld (p := ⟨GA, 0, none⟩) le_A _) (p := ⟨GA, 1, none⟩) le_A _) (fun hHeld2 => ?_); (clear hHeld; rename _ => hHeld; clear hK K; have hHeld : Below wr.heap.size wr _ := hHeld); (try simp only [Act.put, List.getElem_toArray, List.getElem_cons_succ, List.getElem_cons_zero, List.setIfInBounds_toArray, List.set_cons_zero, List.set_cons_succ])
              obtain ⟨yw3, hwx⟩ : ∃ wx, (yw2.setCell ⟨GA, 0, none⟩ (.int .i64 X0)).setCell ⟨GA, 1, none⟩ (.int .i64 X1) = wx := ⟨_, rfl⟩; rw [hwx] at HA HY HZ hHeld ⊢; clear hwx
              refine wpAnyH_ready (rs := [22]) (by kernel_rfl) (by simp) ?_; refine AllReadyH.cons rfl (fun K hK => ?_) AllReadyH.nil
              obtain ⟨⟨a0, a1⟩, ⟨f0, f1⟩, az⟩ := HY.out; go_simp; clear a0 f0 a1 f1 az
              have HA := Lib.hid ((HA.out.far ⟨GY, 0, none⟩ (.int .i64 Y0) (by show GA ≠ GY; exact ne_A_Y)).far ⟨GY, 1, none⟩ (.int .i64 Y1) (by show GA ≠ GY; exact ne_A_Y))
              have HZ := Lib.hid ((HZ.out.far ⟨GY, 0, none⟩ (.int .i64 Y0) (by show GZ ≠ GY; exact ne_Z_Y)).far ⟨GY, 1, none⟩ (.int .i64 Y1) (by show GZ ≠ GY; exact ne_Z_Y))
              have HY := Lib.hid ((HY.out.set0 Y0).set1 Y1)
              refine hK.out _ _ (Below.setCell (Below.setCell hHeld (p := ⟨GY, 0, none⟩) le_Y _) (p := ⟨GY, 1, none⟩) le_Y _) (fun hHeld2 => ?_); (clear hHeld; rename _ => hHeld; clear hK K; have hHeld : Below wr.heap.size wr _ := hHeld); (try simp only [Act.put, List.getElem_toArray, List.getElem_cons_succ, List.getElem_cons_zero, List.setIfInBounds_toArray, List.set_cons_zero, List.set_cons_succ])
              obtain ⟨yw4, hwx⟩ : ∃ wx, (yw3.setCell ⟨GY, 0, none⟩ (.int .i64 Y0)).setCell ⟨GY, 1, none⟩ (.int .i64 Y1) = wx := ⟨_, rfl⟩; rw [hwx] at HA HY HZ hHeld ⊢; clear hwx
              refine wpAnyH_ready (rs := [23]) (by kernel_rfl) (by simp) ?_; refine AllReadyH.cons rfl (fun K hK => ?_) AllReadyH.nil
              obtain ⟨⟨a0, a1⟩, ⟨f0, f1⟩, az⟩ := HZ.out; go_simp; clear a0 f0 a1 f1 az
              have HA := Lib.hid ((HA.out.far ⟨GZ, 0, none⟩ (.int .i64 Z0) (by show GA ≠ GZ; exact ne_A_Z)).far ⟨GZ, 1, none⟩ (.int .i64 Z1) (by show GA ≠ GZ; exact ne_A_Z))
              have HY := Lib.hid ((HY.out.far ⟨GZ, 0, none⟩ (.int .i64 Z0) (by show GY ≠ GZ; exact ne_Y_Z)).far ⟨GZ, 1, none⟩ (.int .i64 Z1) (by show GY ≠ GZ; exact ne_Y_Z))
              have HZ := Lib.hid ((HZ.out.set0 Z0).set1 Z1)
              refine hK.out _ _ (Below.setCell (Below.setCell hHeld (p := ⟨GZ, 0, none⟩) le_Z _) (p := ⟨GZ, 1, none⟩) le_Z _) (fun hHeld2 => ?_); (clear hHeld; rename _ => hHeld; clear hK K; have hHeld : Below wr.heap.size wr _ := hHeld); (try simp only [Act.put, List.getElem_toArray, List.getElem_cons_succ, List.getElem_cons_zero, List.setIfInBounds_toArray, List.set_cons_zero, List.set_cons_succ])
              obtain ⟨yw5, hwx⟩ : ∃ wx, (yw4.setCell ⟨GZ, 0, none⟩ (.int .i64 Z0)).setCell ⟨GZ, 1, none⟩ (.int .i64 Z1) = wx := ⟨_, rfl⟩; rw [hwx] at HA HY HZ hHeld ⊢; clear hwx
              refine wpAnyH_done (by kernel_rfl) ?_ _
              go_wp2_with fail
              go_meet
              exact ⟨GA, GY, GZ, rfl, rfl, rfl, HA.out, HY.out, HZ.out, hHeld⟩
            · skip
              go_simp; obtain ⟨GZ, hGZ⟩ : ∃ G, yw0.heap.size = G := ⟨_, rfl⟩; have le_Z : wr.heap.size ≤ GZ := by rw [← hGZ]; exact Below.size hHeld
              have ne_Z_A : GZ ≠ GA := by have := HA.out.2.2; omega
              have ne_A_Z : GA ≠ GZ := Ne.symm ne_Z_A
              have HA := Lib.hid (HA.out.below ((Below.refl _ _).alloc (Nat.le_refl _) (.cells #[.int .i64 0, .int .i64 0] 32))); skip
              have HZ : Hid (Bk2 (yw0.alloc (.cells #[.int .i64 0, .int .i64 0] 32)) GZ 0 0) := by rw [← hGZ]; exact bk2_new yw0 0 0 _
              refine hK.out _ _ (Below.alloc hHeld (Below.size hHeld) _) (fun hHeld2 => ?_); (clear hHeld; rename _ => hHeld; clear hK K; have hHeld : Below wr.heap.size wr _ := hHeld); (try simp only [Act.put, List.getElem_toArray, List.getElem_cons_succ, List.getElem_cons_zero, List.setIfInBounds_toArray, List.set_cons_zero, List.set_cons_succ])
              rw [hGZ]; clear hGZ; obtain ⟨yw1, hwx⟩ : ∃ wx, yw0.alloc (.cells #[.int .i64 0, .int .i64 0] 32) = wx := ⟨_, rfl⟩; rw [hwx] at HA HZ hHeld ⊢; clear hwx
              refine wpAnyH_ready (rs := [19]) (by kernel_rfl) (by simp) ?_; refine AllReadyH.cons rfl (fun K hK => ?_) AllReadyH.nil
              go_simp; obtain ⟨GY, hGY⟩ : ∃ G, yw1.heap.size = G := ⟨_, rfl⟩; have le_Y : wr.heap.size ≤ GY := by rw [← hGY]; exact Below.size hHeld
              have ne_Y_A : GY ≠ GA := by have := HA.out.2.2; omega
              have ne_A_Y : GA ≠ GY := Ne.symm ne_Y_A
              have ne_Y_Z : GY ≠ GZ := by have := HZ.out.2.2; omega
              have ne_Z_Y : GZ ≠ GY := Ne.symm ne_Y_Z
              have HA := Lib.hid (HA.out.below ((Below.refl _ _).alloc (Nat.le_refl _) (.cells #[.int .i64 0, .int .i64 0] 32))); have HZ := Lib.hid (HZ.out.below ((Below.refl _ _).alloc (Nat.le_refl _) (.cells #[.int .i64 0, .int .i64 0] 32))); skip
              have HY : Hid (Bk2 (yw1.alloc (.cells #[.int .i64 0, .int .i64 0] 32)) GY 0 0) := by rw [← hGY]; exact bk2_new yw1 0 0 _
              refine hK.out _ _ (Below.alloc hHeld (Below.size hHeld) _) (fun hHeld2 => ?_); (clear hHeld; rename _ => hHeld; clear hK K; have hHeld : Below wr.heap.size wr _ := hHeld); (try simp only [Act.put, List.getElem_toArray, List.getElem_cons_succ, List.getElem_cons_zero, List.setIfInBounds_toArray, List.set_cons_zero, List.set_cons_succ])
              rw [hGY]; clear hGY; obtain ⟨yw2, hwx⟩ : ∃ wx, yw1.alloc (.cells #[.int .i64 0, .int .i64 0] 32) = wx := ⟨_, rfl⟩; rw [hwx] at HA HZ HY hHeld ⊢; clear hwx
              refine wpAnyH_ready (rs := [21]) (by kernel_rfl) (by simp) ?_; refine AllReadyH.cons rfl (fun K hK => ?_) AllReadyH.nil
              obtain ⟨⟨a0, a1⟩, ⟨f0, f1⟩, az⟩ := HA.out; go_simp; clear a0 f0 a1 f1 az
              have HZ := Lib.hid ((HZ.out.far ⟨GA, 0, none⟩ (.int .i64 X0) (by show GZ ≠ GA; exact ne_Z_A)).far ⟨GA, 1, none⟩ (.int .i64 X1) (by show GZ ≠ GA; exact ne_Z_A))
              have HY := Lib.hid ((HY.out.far ⟨GA, 0, none⟩ (.int .i64 X0) (by show GY ≠ GA; exact ne_Y_A)).far ⟨GA, 1, none⟩ (.int .i64 X1) (by show GY ≠ GA; exact ne_Y_A))
              have HA := Lib.hid ((HA.out.set0 X0).set1 X1)
              refine hK.out _ _ (Below.setCell (Below.setCell hHeld (p := ⟨GA, 0, none⟩) le_A _) (p := ⟨GA, 1, none⟩) le_A _) (fun hHeld2 => ?_); (clear hHeld; rename _ => hHeld; clear hK K; have hHeld : Below wr.heap.size wr _ := hHeld); (try simp only [Act.put, List.getElem_toArray, List.getElem_cons_succ, List.getElem_cons_zero, List.setIfInBounds_toArray, List.set_cons_zero, List.set_cons_succ])
              obtain ⟨yw3, hwx⟩ : ∃ wx, (yw2.setCell ⟨GA, 0, none⟩ (.int .i64 X0)).setCell ⟨GA, 1, none⟩ (.int .i64 X1) = wx := ⟨_, rfl⟩; rw [hwx] at HA HZ HY hHeld ⊢; clear hwx
              refine wpAnyH_ready (rs := [22]) (by kernel_rfl) (by simp) ?_; refine AllReadyH.cons rfl (fun K hK => ?_) AllReadyH.nil
              obtain ⟨⟨a0, a1⟩, ⟨f0, f1⟩, az⟩ := HY.out; go_simp; clear a0 f0 a1 f1 az
              have HA := Lib.hid ((HA.out.far ⟨GY, 0, none⟩ (.int .i64 Y0) (by show GA ≠ GY; exact ne_A_Y)).far ⟨GY, 1, none⟩ (.int .i64 Y1) (by show GA ≠ GY; exact ne_A_Y))
              have HZ := Lib.hid ((HZ.out.far ⟨GY, 0, none⟩ (.int .i64 Y0) (by show GZ ≠ GY; exact ne_Z_Y)).far ⟨GY, 1, none⟩ (.int .i64 Y1) (by show GZ ≠ GY; exact ne_Z_Y))
              have HY := Lib.hid ((HY.out.set0 Y0).set1 Y1)
              refine hK.out _ _ (Below.setCell (Below.setCell hHeld (p := ⟨GY, 0, none⟩) le_Y _) (p := ⟨GY, 1, none⟩) le_Y _) (fun hHeld2 => ?_); (clear hHeld; rename _ => hHeld; clear hK K; have hHeld : Below wr.heap.size wr _ := hHeld); (try simp only [Act.put, List.getElem_toArray, List.getElem_cons_succ, List.getElem_cons_zero, List.setIfInBounds_toArray, List.set_cons_zero, List.set_cons_succ])
              obtain ⟨yw4, hwx⟩ : ∃ wx, (yw3.setCell ⟨GY, 0, none⟩ (.int .i64 Y0)).setCell ⟨GY, 1, none⟩ (.int .i64 Y1) = wx := ⟨_, rfl⟩; rw [hwx] at HA HZ HY hHeld ⊢; clear hwx
              refine wpAnyH_ready (rs := [23]) (by kernel_rfl) (by simp) ?_; refine AllReadyH.cons rfl (fun K hK => ?_) AllReadyH.nil
              obtain ⟨⟨a0, a1⟩, ⟨f0, f1⟩, az⟩ := HZ.out; go_simp; clear a0 f0 a1 f1 az
              have HA := Lib.hid ((HA.out.far ⟨GZ, 0, none⟩ (.int .i64 Z0) (by show GA ≠ GZ; exact ne_A_Z)).far ⟨GZ, 1, none⟩ (.int .i64 Z1) (by show GA ≠ GZ; exact ne_A_Z))
              have HY := Lib.hid ((HY.out.far ⟨GZ, 0, none⟩ (.int .i64 Z0) (by show GY ≠ GZ; exact ne_Y_Z)).far ⟨GZ, 1, none⟩ (.int .i64 Z1) (by show GY ≠ GZ; exact ne_Y_Z))
              have HZ := Lib.hid ((HZ.out.set0 Z0).set1 Z1)
              refine hK.out _ _ (Below.setCell (Below.setCell hHeld (p := ⟨GZ, 0, none⟩) le_Z _) (p := ⟨GZ, 1, none⟩) le_Z _) (fun hHeld2 => ?_); (clear hHeld; rename _ => hHeld; clear hK K; have hHeld : Below wr.heap.size wr _ := hHeld); (try simp only [Act.put, List.getElem_toArray, List.getElem_cons_succ, List.getElem_cons_zero, List.setIfInBounds_toArray, List.set_cons_zero, List.set_cons_succ])
              obtain ⟨yw5, hwx⟩ : ∃ wx, (yw4.setCell ⟨GZ, 0, none⟩ (.int .i64 Z0)).setCell ⟨GZ, 1, none⟩ (.int .i64 Z1) = wx := ⟨_, rfl⟩; rw [hwx] at HA HZ HY hHeld ⊢; clear hwx
              refine wpAnyH_done (by kernel_rfl) ?_ _
              go_wp2_with fail
              go_meet
              exact ⟨GA, GY, GZ, rfl, rfl, rfl, HA.out, HY.out, HZ.out, hHeld⟩
          · skip
            go_simp; obtain ⟨GY, hGY⟩ : ∃ G, wD.heap.size = G := ⟨_, rfl⟩; have le_Y : wr.heap.size ≤ GY := by rw [← hGY]; exact Below.size hHeld
            have HY : Hid (Bk2 (wD.alloc (.cells #[.int .i64 0, .int .i64 0] 32)) GY 0 0) := by rw [← hGY]; exact bk2_new wD 0 0 _
            refine hK.out _ _ (Below.alloc hHeld (Below.size hHeld) _) (fun hHeld2 => ?_); (clear hHeld; rename _ => hHeld; clear hK K; have hHeld : Below wr.heap.size wr _ := hHeld); (try simp only [Act.put, List.getElem_toArray, List.getElem_cons_succ, List.getElem_cons_zero, List.setIfInBounds_toArray, List.set_cons_zero, List.set_cons_succ])
            rw [hGY]; clear hGY; obtain ⟨yw0, hwx⟩ : ∃ wx, wD.alloc (.cells #[.int .i64 0, .int .i64 0] 32) = wx := ⟨_, rfl⟩; rw [hwx] at HY hHeld ⊢; clear hwx
            refine wpAnyH_ready (rs := [18, 20]) (by kernel_rfl) (by simp) ?_; refine AllReadyH.cons rfl (fun K hK => ?_) (AllReadyH.cons rfl (fun K hK => ?_) AllReadyH.nil)
            · skip
              go_simp; obtain ⟨GA, hGA⟩ : ∃ G, yw0.heap.size = G := ⟨_, rfl⟩; have le_A : wr.heap.size ≤ GA := by rw [← hGA]; exact Below.size hHeld
              have ne_A_Y : GA ≠ GY := by have := HY.out.2.2; omega
              have ne_Y_A : GY ≠ GA := Ne.symm ne_A_Y
              have HY := Lib.hid (HY.out.below ((Below.refl _ _).alloc (Nat.le_refl _) (.cells #[.int .i64 0, .int .i64 0] 32))); skip
              have HA : Hid (Bk2 (yw0.alloc (.cells #[.int .i64 0, .int .i64 0] 32)) GA 0 0) := by rw [← hGA]; exact bk2_new yw0 0 0 _
              refine hK.out _ _ (Below.alloc hHeld (Below.size hHeld) _) (fun hHeld2 => ?_); (clear hHeld; rename _ => hHeld; clear hK K; have hHeld : Below wr.heap.size wr _ := hHeld); (try simp only [Act.put, List.getElem_toArray, List.getElem_cons_succ, List.getElem_cons_zero, List.setIfInBounds_toArray, List.set_cons_zero, List.set_cons_succ])
              rw [hGA]; clear hGA; obtain ⟨yw1, hwx⟩ : ∃ wx, yw0.alloc (.cells #[.int .i64 0, .int .i64 0] 32) = wx := ⟨_, rfl⟩; rw [hwx] at HY HA hHeld ⊢; clear hwx
              refine wpAnyH_ready (rs := [20]) (by kernel_rfl) (by simp) ?_; refine AllReadyH.cons rfl (fun K hK => ?_) AllReadyH.nil
              go_simp; obtain ⟨GZ, hGZ⟩ : ∃ G, yw1.heap.size = G := ⟨_, rfl⟩; have le_Z : wr.heap.size ≤ GZ := by rw [← hGZ]; exact Below.size hHeld
              have ne_Z_Y : GZ ≠ GY := by have := HY.out.2.2; omega
              have ne_Y_Z : GY ≠ GZ := Ne.symm ne_Z_Y
              have ne_Z_A : GZ ≠ GA := by have := HA.out.2.2; omega
              have ne_A_Z : GA ≠ GZ := Ne.symm ne_Z_A
              have HY := Lib.hid (HY.out.below ((Below.refl _ _).alloc (Nat.le_refl _) (.cells #[.int .i64 0, .int .i64 0] 32))); have HA := Lib.hid (HA.out.below ((Below.refl _ _).alloc (Nat.le_refl _) (.cells #[.int .i64 0, .int .i64 0] 32))); skip
              have HZ : Hid (Bk2 (yw1.alloc (.cells #[.int .i64 0, .int .i64 0] 32)) GZ 0 0) := by rw [← hGZ]; exact bk2_new yw1 0 0 _
              refine hK.out _ _ (Below.alloc hHeld (Below.size hHeld) _) (fun hHeld2 => ?_); (clear hHeld; rename _ => hHeld; clear hK K; have hHeld : Below wr.heap.size wr _ := hHeld); (try simp only [Act.put, List.getElem_toArray, List.getElem_cons_succ, List.getElem_cons_zero, List.setIfInBounds_toArray, List.set_cons_zero, List.set_cons_succ])
              rw [hGZ]; clear hGZ; obtain ⟨yw2, hwx⟩ : ∃ wx, yw1.alloc (.cells #[.int .i64 0, .int .i64 0] 32) = wx := ⟨_, rfl⟩; rw [hwx] at HY HA HZ hHeld ⊢; clear hwx
              refine wpAnyH_ready (rs := [21]) (by kernel_rfl) (by simp) ?_; refine AllReadyH.cons rfl (fun K hK => ?_) AllReadyH.nil
              obtain ⟨⟨a0, a1⟩, ⟨f0, f1⟩, az⟩ := HA.out; go_simp; clear a0 f0 a1 f1 az
              have HY := Lib.hid ((HY.out.far ⟨GA, 0, none⟩ (.int .i64 X0) (by show GY ≠ GA; exact ne_Y_A)).far ⟨GA, 1, none⟩ (.int .i64 X1) (by show GY ≠ GA; exact ne_Y_A))
              have HZ := Lib.hid ((HZ.out.far ⟨GA, 0, none⟩ (.int .i64 X0) (by show GZ ≠ GA; exact ne_Z_A)).far ⟨GA, 1, none⟩ (.int .i64 X1) (by show GZ ≠ GA; exact ne_Z_A))
              have HA := Lib.hid ((HA.out.set0 X0).set1 X1)
              refine hK.out _ _ (Below.setCell (Below.setCell hHeld (p := ⟨GA, 0, none⟩) le_A _) (p := ⟨GA, 1, none⟩) le_A _) (fun hHeld2 => ?_); (clear hHeld; rename _ => hHeld; clear hK K; have hHeld : Below wr.heap.size wr _ := hHeld); (try simp only [Act.put, List.getElem_toArray, List.getElem_cons_succ, List.getElem_cons_zero, List.setIfInBounds_toArray, List.set_cons_zero, List.set_cons_succ])
              obtain ⟨yw3, hwx⟩ : ∃ wx, (yw2.setCell ⟨GA, 0, none⟩ (.int .i64 X0)).setCell ⟨GA, 1, none⟩ (.int .i64 X1) = wx := ⟨_, rfl⟩; rw [hwx] at HY HA HZ hHeld ⊢; clear hwx
              refine wpAnyH_ready (rs := [22]) (by kernel_rfl) (by simp) ?_; refine AllReadyH.cons rfl (fun K hK => ?_) AllReadyH.nil
              obtain ⟨⟨a0, a1⟩, ⟨f0, f1⟩, az⟩ := HY.out; go_simp; clear a0 f0 a1 f1 az
              have HA := Lib.hid ((HA.out.far ⟨GY, 0, none⟩ (.int .i64 Y0) (by show GA ≠ GY; exact ne_A_Y)).far ⟨GY, 1, none⟩ (.int .i64 Y1) (by show GA ≠ GY; exact ne_A_Y))
              have HZ := Lib.hid ((HZ.out.far ⟨GY, 0, none⟩ (.int .i64 Y0) (by show GZ ≠ GY; exact ne_Z_Y)).far ⟨GY, 1, none⟩ (.int .i64 Y1) (by show GZ ≠ GY; exact ne_Z_Y))
              have HY := Lib.hid ((HY.out.set0 Y0).set1 Y1)
              refine hK.out _ _ (Below.setCell (Below.setCell hHeld (p := ⟨GY, 0, none⟩) le_Y _) (p := ⟨GY, 1, none⟩) le_Y _) (fun hHeld2 => ?_); (clear hHeld; rename _ => hHeld; clear hK K; have hHeld : Below wr.heap.size wr _ := hHeld); (try simp only [Act.put, List.getElem_toArray, List.getElem_cons_succ, List.getElem_cons_zero, List.setIfInBounds_toArray, List.set_cons_zero, List.set_cons_succ])
              obtain ⟨yw4, hwx⟩ : ∃ wx, (yw3.setCell ⟨GY, 0, none⟩ (.int .i64 Y0)).setCell ⟨GY, 1, none⟩ (.int .i64 Y1) = wx := ⟨_, rfl⟩; rw [hwx] at HY HA HZ hHeld ⊢; clear hwx
              refine wpAnyH_ready (rs := [23]) (by kernel_rfl) (by simp) ?_; refine AllReadyH.cons rfl (fun K hK => ?_) AllReadyH.nil
              obtain ⟨⟨a0, a1⟩, ⟨f0, f1⟩, az⟩ := HZ.out; go_simp; clear a0 f0 a1 f1 az
              have HY := Lib.hid ((HY.out.far ⟨GZ, 0, none⟩ (.int .i64 Z0) (by show GY ≠ GZ; exact ne_Y_Z)).far ⟨GZ, 1, none⟩ (.int .i64 Z1) (by show GY ≠ GZ; exact ne_Y_Z))
              have HA := Lib.hid ((HA.out.far ⟨GZ, 0, none⟩ (.int .i64 Z0) (by show GA ≠ GZ; exact ne_A_Z)).far ⟨GZ, 1, none⟩ (.int .i64 Z1) (by show GA ≠ GZ; exact ne_A_Z))
              have HZ := Lib.hid ((HZ.out.set0 Z0).set1 Z1)
              refine hK.out _ _ (Below.setCell (Below.setCell hHeld (p := ⟨GZ, 0, none⟩) le_Z _) (p := ⟨GZ, 1, none⟩) le_Z _) (fun hHeld2 => ?_); (clear hHeld; rename _ => hHeld; clear hK K; have hHeld : Below wr.heap.size wr _ := hHeld); (try simp only [Act.put, List.getElem_toArray, List.getElem_cons_succ, List.getElem_cons_zero, List.setIfInBounds_toArray, List.set_cons_zero, List.set_cons_succ])
              obtain ⟨yw5, hwx⟩ : ∃ wx, (yw4.setCell ⟨GZ, 0, none⟩ (.int .i64 Z0)).setCell ⟨GZ, 1, none⟩ (.int .i64 Z1) = wx := ⟨_, rfl⟩; rw [hwx] at HY HA HZ hHeld ⊢; clear hwx
              refine wpAnyH_done (by kernel_rfl) ?_ _
              go_wp2_with fail
              go_meet
              exact ⟨GA, GY, GZ, rfl, rfl, rfl, HA.out, HY.out, HZ.out, hHeld⟩
            · skip
              go_simp; obtain ⟨GZ, hGZ⟩ : ∃ G, yw0.heap.size = G := ⟨_, rfl⟩; have le_Z : wr.heap.size ≤ GZ := by rw [← hGZ]; exact Below.size hHeld
              have ne_Z_Y : GZ ≠ GY := by have := HY.out.2.2; omega
              have ne_Y_Z : GY ≠ GZ := Ne.symm ne_Z_Y
              have HY := Lib.hid (HY.out.below ((Below.refl _ _).alloc (Nat.le_refl _) (.cells #[.int .i64 0, .int .i64 0] 32))); skip
              have HZ : Hid (Bk2 (yw0.alloc (.cells #[.int .i64 0, .int .i64 0] 32)) GZ 0 0) := by rw [← hGZ]; exact bk2_new yw0 0 0 _
              refine hK.out _ _ (Below.alloc hHeld (Below.size hHeld) _) (fun hHeld2 => ?_); (clear hHeld; rename _ => hHeld; clear hK K; have hHeld : Below wr.heap.size wr _ := hHeld); (try simp only [Act.put, List.getElem_toArray, List.getElem_cons_succ, List.getElem_cons_zero, List.setIfInBounds_toArray, List.set_cons_zero, List.set_cons_succ])
              rw [hGZ]; clear hGZ; obtain ⟨yw1, hwx⟩ : ∃ wx, yw0.alloc (.cells #[.int .i64 0, .int .i64 0] 32) = wx := ⟨_, rfl⟩; rw [hwx] at HY HZ hHeld ⊢; clear hwx
              refine wpAnyH_ready (rs := [18]) (by kernel_rfl) (by simp) ?_; refine AllReadyH.cons rfl (fun K hK => ?_) AllReadyH.nil
              go_simp; obtain ⟨GA, hGA⟩ : ∃ G, yw1.heap.size = G := ⟨_, rfl⟩; have le_A : wr.heap.size ≤ GA := by rw [← hGA]; exact Below.size hHeld
              have ne_A_Y : GA ≠ GY := by have := HY.out.2.2; omega
              have ne_Y_A : GY ≠ GA := Ne.symm ne_A_Y
              have ne_A_Z : GA ≠ GZ := by have := HZ.out.2.2; omega
              have ne_Z_A : GZ ≠ GA := Ne.symm ne_A_Z
              have HY := Lib.hid (HY.out.below ((Below.refl _ _).alloc (Nat.le_refl _) (.cells #[.int .i64 0, .int .i64 0] 32))); have HZ := Lib.hid (HZ.out.below ((Below.refl _ _).alloc (Nat.le_refl _) (.cells #[.int .i64 0, .int .i64 0] 32))); skip
              have HA : Hid (Bk2 (yw1.alloc (.cells #[.int .i64 0, .int .i64 0] 32)) GA 0 0) := by rw [← hGA]; exact bk2_new yw1 0 0 _
              refine hK.out _ _ (Below.alloc hHeld (Below.size hHeld) _) (fun hHeld2 => ?_); (clear hHeld; rename _ => hHeld; clear hK K; have hHeld : Below wr.heap.size wr _ := hHeld); (try simp only [Act.put, List.getElem_toArray, List.getElem_cons_succ, List.getElem_cons_zero, List.setIfInBounds_toArray, List.set_cons_zero, List.set_cons_succ])
              rw [hGA]; clear hGA; obtain ⟨yw2, hwx⟩ : ∃ wx, yw1.alloc (.cells #[.int .i64 0, .int .i64 0] 32) = wx := ⟨_, rfl⟩; rw [hwx] at HY HZ HA hHeld ⊢; clear hwx
              refine wpAnyH_ready (rs := [21]) (by kernel_rfl) (by simp) ?_; refine AllReadyH.cons rfl (fun K hK => ?_) AllReadyH.nil
              obtain ⟨⟨a0, a1⟩, ⟨f0, f1⟩, az⟩ := HA.out; go_simp; clear a0 f0 a1 f1 az
              have HY := Lib.hid ((HY.out.far ⟨GA, 0, none⟩ (.int .i64 X0) (by show GY ≠ GA; exact ne_Y_A)).far ⟨GA, 1, none⟩ (.int .i64 X1) (by show GY ≠ GA; exact ne_Y_A))
              have HZ := Lib.hid ((HZ.out.far ⟨GA, 0, none⟩ (.int .i64 X0) (by show GZ ≠ GA; exact ne_Z_A)).far ⟨GA, 1, none⟩ (.int .i64 X1) (by show GZ ≠ GA; exact ne_Z_A))
              have HA := Lib.hid ((HA.out.set0 X0).set1 X1)
              refine hK.out _ _ (Below.setCell (Below.setCell hHeld (p := ⟨GA, 0, none⟩) le_A _) (p := ⟨GA, 1, none⟩) le_A _) (fun hHeld2 => ?_); (clear hHeld; rename _ => hHeld; clear hK K; have hHeld : Below wr.heap.size wr _ := hHeld); (try simp only [Act.put, List.getElem_toArray, List.getElem_cons_succ, List.getElem_cons_zero, List.setIfInBounds_toArray, List.set_cons_zero, List.set_cons_succ])
              obtain ⟨yw3, hwx⟩ : ∃ wx, (yw2.setCell ⟨GA, 0, none⟩ (.int .i64 X0)).setCell ⟨GA, 1, none⟩ (.int .i64 X1) = wx := ⟨_, rfl⟩; rw [hwx] at HY HZ HA hHeld ⊢; clear hwx
              refine wpAnyH_ready (rs := [22]) (by kernel_rfl) (by simp) ?_; refine AllReadyH.cons rfl (fun K hK => ?_) AllReadyH.nil
              obtain ⟨⟨a0, a1⟩, ⟨f0, f1⟩, az⟩ := HY.out; go_simp; clear a0 f0 a1 f1 az
              have HZ := Lib.hid ((HZ.out.far ⟨GY, 0, none⟩ (.int .i64 Y0) (by show GZ ≠ GY; exact ne_Z_Y)).far ⟨GY, 1, none⟩ (.int .i64 Y1) (by show GZ ≠ GY; exact ne_Z_Y))
              have HA := Lib.hid ((HA.out.far ⟨GY, 0, none⟩ (.int .i64 Y0) (by show GA ≠ GY; exact ne_A_Y)).far ⟨GY, 1, none⟩ (.int .i64 Y1) (by show GA ≠ GY; exact ne_A_Y))
              have HY := Lib.hid ((HY.out.set0 Y0).set1 Y1)
              refine hK.out _ _ (Below.setCell (Below.setCell hHeld (p := ⟨GY, 0, none⟩) le_Y _) (p := ⟨GY, 1, none⟩) le_Y _) (fun hHeld2 => ?_); (clear hHeld; rename _ => hHeld; clear hK K; have hHeld : Below wr.heap.size wr _ := hHeld); (try simp only [Act.put, List.getElem_toArray, List.getElem_cons_succ, List.getElem_cons_zero, List.setIfInBounds_toArray, List.set_cons_zero, List.set_cons_succ])
              obtain ⟨yw4, hwx⟩ : ∃ wx, (yw3.setCell ⟨GY, 0, none⟩ (.int .i64 Y0)).setCell ⟨GY, 1, none⟩ (.int .i64 Y1) = wx := ⟨_, rfl⟩; rw [hwx] at HY HZ HA hHeld ⊢; clear hwx
              refine wpAnyH_ready (rs := [23]) (by kernel_rfl) (by simp) ?_; refine AllReadyH.cons rfl (fun K hK => ?_) AllReadyH.nil
              obtain ⟨⟨a0, a1⟩, ⟨f0, f1⟩, az⟩ := HZ.out; go_simp; clear a0 f0 a1 f1 az
              have HY := Lib.hid ((HY.out.far ⟨GZ, 0, none⟩ (.int .i64 Z0) (by show GY ≠ GZ; exact ne_Y_Z)).far ⟨GZ, 1, none⟩ (.int .i64 Z1) (by show GY ≠ GZ; exact ne_Y_Z))
              have HA := Lib.hid ((HA.out.far ⟨GZ, 0, none⟩ (.int .i64 Z0) (by show GA ≠ GZ; exact ne_A_Z)).far ⟨GZ, 1, none⟩ (.int .i64 Z1) (by show GA ≠ GZ; exact ne_A_Z))
              have HZ := Lib.hid ((HZ.out.set0 Z0).set1 Z1)
              refine hK.out _ _ (Below.setCell (Below.setCell hHeld (p := ⟨GZ, 0, none⟩) le_Z _) (p := ⟨GZ, 1, none⟩) le_Z _) (fun hHeld2 => ?_); (clear hHeld; rename _ => hHeld; clear hK K; have hHeld : Below wr.heap.size wr _ := hHeld); (try simp only [Act.put, List.getElem_toArray, List.getElem_cons_succ, List.getElem_cons_zero, List.setIfInBounds_toArray, List.set_cons_zero, List.set_cons_succ])
              obtain ⟨yw5, hwx⟩ : ∃ wx, (yw4.setCell ⟨GZ, 0, none⟩ (.int .i64 Z0)).setCell ⟨GZ, 1, none⟩ (.int .i64 Z1) = wx := ⟨_, rfl⟩; rw [hwx] at HY HZ HA hHeld ⊢; clear hwx
              refine wpAnyH_done (by kernel_rfl) ?_ _
              go_wp2_with fail
              go_meet
              exact ⟨GA, GY, GZ, rfl, rfl, rfl, HA.out, HY.out, HZ.out, hHeld⟩
          · skip
            go_simp; obtain ⟨GZ, hGZ⟩ : ∃ G, wD.heap.size = G := ⟨_, rfl⟩; have le_Z : wr.heap.size ≤ GZ := by rw [← hGZ]; exact Below.size hHeld
            have HZ : Hid (Bk2 (wD.alloc (.cells #[.int .i64 0, .int .i64 0] 32)) GZ 0 0) := by rw [← hGZ]; exact bk2_new wD 0 0 _
            refine hK.out _ _ (Below.alloc hHeld (Below.size hHeld) _) (fun hHeld2 => ?_); (clear hHeld; rename _ => hHeld; clear hK K; have hHeld : Below wr.heap.size wr _ := hHeld); (try simp only [Act.put, List.getElem_toArray, List.getElem_cons_succ, List.getElem_cons_zero, List.setIfInBounds_toArray, List.set_cons_zero, List.set_cons_succ])
            rw [hGZ]; clear hGZ; obtain ⟨yw0, hwx⟩ : ∃ wx, wD.alloc (.cells #[.int .i64 0, .int .i64 0] 32) = wx := ⟨_, rfl⟩; rw [hwx] at HZ hHeld ⊢; clear hwx
            refine wpAnyH_ready (rs := [18, 19]) (by kernel_rfl) (by simp) ?_; refine AllReadyH.cons rfl (fun K hK => ?_) (AllReadyH.cons rfl (fun K hK => ?_) AllReadyH.nil)
            · skip
              go_simp; obtain ⟨GA, hGA⟩ : ∃ G, yw0.heap.size = G := ⟨_, rfl⟩; have le_A : wr.heap.size ≤ GA := by rw [← hGA]; exact Below.size hHeld
              have ne_A_Z : GA ≠ GZ := by have := HZ.out.2.2; omega
              have ne_Z_A : GZ ≠ GA := Ne.symm ne_A_Z
              have HZ := Lib.hid (HZ.out.below ((Below.refl _ _).alloc (Nat.le_refl _) (.cells #[.int .i64 0, .int .i64 0] 32))); skip
              have HA : Hid (Bk2 (yw0.alloc (.cells #[.int .i64 0, .int .i64 0] 32)) GA 0 0) := by rw [← hGA]; exact bk2_new yw0 0 0 _
              refine hK.out _ _ (Below.alloc hHeld (Below.size hHeld) _) (fun hHeld2 => ?_); (clear hHeld; rename _ => hHeld; clear hK K; have hHeld : Below wr.heap.size wr _ := hHeld); (try simp only [Act.put, List.getElem_toArray, List.getElem_cons_succ, List.getElem_cons_zero, List.setIfInBounds_toArray, List.set_cons_zero, List.set_cons_succ])
              rw [hGA]; clear hGA; obtain ⟨yw1, hwx⟩ : ∃ wx, yw0.alloc (.cells #[.int .i64 0, .int .i64 0] 32) = wx := ⟨_, rfl⟩; rw [hwx] at HZ HA hHeld ⊢; clear hwx
              refine wpAnyH_ready (rs := [19]) (by kernel_rfl) (by simp) ?_; refine AllReadyH.cons rfl (fun K hK => ?_) AllReadyH.nil
              go_simp; obtain ⟨GY, hGY⟩ : ∃ G, yw1.heap.size = G := ⟨_, rfl⟩; have le_Y : wr.heap.size ≤ GY := by rw [← hGY]; exact Below.size hHeld
              have ne_Y_Z : GY ≠ GZ := by have := HZ.out.2.2; omega
              have ne_Z_Y : GZ ≠ GY := Ne.symm ne_Y_Z
              have ne_Y_A : GY ≠ GA := by have := HA.out.2.2; omega
              have ne_A_Y : GA ≠ GY := Ne.symm ne_Y_A
              have HZ := Lib.hid (HZ.out.below ((Below.refl _ _).alloc (Nat.le_refl _) (.cells #[.int .i64 0, .int .i64 0] 32))); have HA := Lib.hid (HA.out.below ((Below.refl _ _).alloc (Nat.le_refl _) (.cells #[.int .i64 0, .int .i64 0] 32))); skip
              have HY : Hid (Bk2 (yw1.alloc (.cells #[.int .i64 0, .int .i64 0] 32)) GY 0 0) := by rw [← hGY]; exact bk2_new yw1 0 0 _
              refine hK.out _ _ (Below.alloc hHeld (Below.size hHeld) _) (fun hHeld2 => ?_); (clear hHeld; rename _ => hHeld; clear hK K; have hHeld : Below wr.heap.size wr _ := hHeld); (try simp only [Act.put, List.getElem_toArray, List.getElem_cons_succ, List.getElem_cons_zero, List.setIfInBounds_toArray, List.set_cons_zero, List.set_cons_succ])
              rw [hGY]; clear hGY; obtain ⟨yw2, hwx⟩ : ∃ wx, yw1.alloc (.cells #[.int .i64 0, .int .i64 0] 32) = wx := ⟨_, rfl⟩; rw [hwx] at HZ HA HY hHeld ⊢; clear hwx
              refine wpAnyH_ready (rs := [21]) (by kernel_rfl) (by simp) ?_; refine AllReadyH.cons rfl (fun K hK => ?_) AllReadyH.nil
              obtain ⟨⟨a0, a1⟩, ⟨f0, f1⟩, az⟩ := HA.out; go_simp; clear a0 f0 a1 f1 az
              have HZ := Lib.hid ((HZ.out.far ⟨GA, 0, none⟩ (.int .i64 X0) (by show GZ ≠ GA; exact ne_Z_A)).far ⟨GA, 1, none⟩ (.int .i64 X1) (by show GZ ≠ GA; exact ne_Z_A))
              have HY := Lib.hid ((HY.out.far ⟨GA, 0, none⟩ (.int .i64 X0) (by show GY ≠ GA; exact ne_Y_A)).far ⟨GA, 1, none⟩ (.int .i64 X1) (by show GY ≠ GA; exact ne_Y_A))
              have HA := Lib.hid ((HA.out.set0 X0).set1 X1)
              refine hK.out _ _ (Below.setCell (Below.setCell hHeld (p := ⟨GA, 0, none⟩) le_A _) (p := ⟨GA, 1, none⟩) le_A _) (fun hHeld2 => ?_); (clear hHeld; rename _ => hHeld; clear hK K; have hHeld : Below wr.heap.size wr _ := hHeld); (try simp only [Act.put, List.getElem_toArray, List.getElem_cons_succ, List.getElem_cons_zero, List.setIfInBounds_toArray, List.set_cons_zero, List.set_cons_succ])
              obtain ⟨yw3, hwx⟩ : ∃ wx, (yw2.setCell ⟨GA, 0, none⟩ (.int .i64 X0)).setCell ⟨GA, 1, none⟩ (.int .i64 X1) = wx := ⟨_, rfl⟩; rw [hwx] at HZ HA HY hHeld ⊢; clear hwx
              refine wpAnyH_ready (rs := [22]) (by kernel_rfl) (by simp) ?_; refine AllReadyH.cons rfl (fun K hK => ?_) AllReadyH.nil
              obtain ⟨⟨a0, a1⟩, ⟨f0, f1⟩, az⟩ := HY.out; go_simp; clear a0 f0 a1 f1 az
              have HZ := Lib.hid ((HZ.out.far ⟨GY, 0, none⟩ (.int .i64 Y0) (by show GZ ≠ GY; exact ne_Z_Y)).far ⟨GY, 1, none⟩ (.int .i64 Y1) (by show GZ ≠ GY; exact ne_Z_Y))
              have HA := Lib.hid ((HA.out.far ⟨GY, 0, none⟩ (.int .i64 Y0) (by show GA ≠ GY; exact ne_A_Y)).far ⟨GY, 1, none⟩ (.int .i64 Y1) (by show GA ≠ GY; exact ne_A_Y))
              have HY := Lib.hid ((HY.out.set0 Y0).set1 Y1)
              refine hK.out _ _ (Below.setCell (Below.setCell hHeld (p := ⟨GY, 0, none⟩) le_Y _) (p := ⟨GY, 1, none⟩) le_Y _) (fun hHeld2 => ?_); (clear hHeld; rename _ => hHeld; clear hK K; have hHeld : Below wr.heap.size wr _ := hHeld); (try simp only [Act.put, List.getElem_toArray, List.getElem_cons_succ, List.getElem_cons_zero, List.setIfInBounds_toArray, List.set_cons_zero, List.set_cons_succ])
              obtain ⟨yw4, hwx⟩ : ∃ wx, (yw3.setCell ⟨GY, 0, none⟩ (.int .i64 Y0)).setCell ⟨GY, 1, none⟩ (.int .i64 Y1) = wx := ⟨_, rfl⟩; rw [hwx] at HZ HA HY hHeld ⊢; clear hwx
              refine wpAnyH_ready (rs := [23]) (by kernel_rfl) (by simp) ?_; refine AllReadyH.cons rfl (fun K hK => ?_) AllReadyH.nil
              obtain ⟨⟨a0, a1⟩, ⟨f0, f1⟩, az⟩ := HZ.out; go_simp; clear a0 f0 a1 f1 az
              have HA := Lib.hid ((HA.out.far ⟨GZ, 0, none⟩ (.int .i64 Z0) (by show GA ≠ GZ; exact ne_A_Z)).far ⟨GZ, 1, none⟩ (.int .i64 Z1) (by show GA ≠ GZ; exact ne_A_Z))
              have HY := Lib.hid ((HY.out.far ⟨GZ, 0, none⟩ (.int .i64 Z0) (by show GY ≠ GZ; exact ne_Y_Z)).far ⟨GZ, 1, none⟩ (.int .i64 Z1) (by show GY ≠ GZ; exact ne_Y_Z))
              have HZ := Lib.hid ((HZ.out.set0 Z0).set1 Z1)
              refine hK.out _ _ (Below.setCell (Below.setCell hHeld (p := ⟨GZ, 0, none⟩) le_Z _) (p := ⟨GZ, 1, none⟩) le_Z _) (fun hHeld2 => ?_); (clear hHeld; rename _ => hHeld; clear hK K; have hHeld : Below wr.heap.size wr _ := hHeld); (try simp only [Act.put, List.getElem_toArray, List.getElem_cons_succ, List.getElem_cons_zero, List.setIfInBounds_toArray, List.set_cons_zero, List.set_cons_succ])
              obtain ⟨yw5, hwx⟩ : ∃ wx, (yw4.setCell ⟨GZ, 0, none⟩ (.int .i64 Z0)).setCell ⟨GZ, 1, none⟩ (.int .i64 Z1) = wx := ⟨_, rfl⟩; rw [hwx] at HZ HA HY hHeld ⊢; clear hwx
              refine wpAnyH_done (by kernel_rfl) ?_ _
              go_wp2_with fail
              go_meet
              exact ⟨GA, GY, GZ, rfl, rfl, rfl, HA.out, HY.out, HZ.out, hHeld⟩
            · skip
              go_simp; obtain ⟨GY, hGY⟩ : ∃ G, yw0.heap.size = G := ⟨_, rfl⟩; have le_Y : wr.heap.size ≤ GY := by rw [← hGY]; exact Below.size hHeld
              have ne_Y_Z : GY ≠ GZ := by have := HZ.out.2.2; omega
              have ne_Z_Y : GZ ≠ GY := Ne.symm ne_Y_Z
              have HZ := Lib.hid (HZ.out.below ((Below.refl _ _).alloc (Nat.le_refl _) (.cells #[.int .i64 0, .int .i64 0] 32))); skip
              have HY : Hid (Bk2 (yw0.alloc (.cells #[.int .i64 0, .int .i64 0] 32)) GY 0 0) := by rw [← hGY]; exact bk2_new yw0 0 0 _
              refine hK.out _ _ (Below.alloc hHeld (Below.size hHeld) _) (fun hHeld2 => ?_); (clear hHeld; rename _ => hHeld; clear hK K; have hHeld : Below wr.heap.size wr _ := hHeld); (try simp only [Act.put, List.getElem_toArray, List.getElem_cons_succ, List.getElem_cons_zero, List.setIfInBounds_toArray, List.set_cons_zero, List.set_cons_succ])
              rw [hGY]; clear hGY; obtain ⟨yw1, hwx⟩ : ∃ wx, yw0.alloc (.cells #[.int .i64 0, .int .i64 0] 32) = wx := ⟨_, rfl⟩; rw [hwx] at HZ HY hHeld ⊢; clear hwx
              refine wpAnyH_ready (rs := [18]) (by kernel_rfl) (by simp) ?_; refine AllReadyH.cons rfl (fun K hK => ?_) AllReadyH.nil
              go_simp; obtain ⟨GA, hGA⟩ : ∃ G, yw1.heap.size = G := ⟨_, rfl⟩; have le_A : wr.heap.size ≤ GA := by rw [← hGA]; exact Below.size hHeld
              have ne_A_Z : GA ≠ GZ := by have := HZ.out.2.2; omega
              have ne_Z_A : GZ ≠ GA := Ne.symm ne_A_Z
              have ne_A_Y : GA ≠ GY := by have := HY.out.2.2; omega
              have ne_Y_A : GY ≠ GA := Ne.symm ne_A_Y
              have HZ := Lib.hid (HZ.out.below ((Below.refl _ _).alloc (Nat.le_refl _) (.cells #[.int .i64 0, .int .i64 0] 32))); have HY := Lib.hid (HY.out.below ((Below.refl _ _).alloc (Nat.le_refl _) (.cells #[.int .i64 0, .int .i64 0] 32))); skip
              have HA : Hid (Bk2 (yw1.alloc (.cells #[.int .i64 0, .int .i64 0] 32)) GA 0 0) := by rw [← hGA]; exact bk2_new yw1 0 0 _
              refine hK.out _ _ (Below.alloc hHeld (Below.size hHeld) _) (fun hHeld2 => ?_); (clear hHeld; rename _ => hHeld; clear hK K; have hHeld : Below wr.heap.size wr _ := hHeld); (try simp only [Act.put, List.getElem_toArray, List.getElem_cons_succ, List.getElem_cons_zero, List.setIfInBounds_toArray, List.set_cons_zero, List.set_cons_succ])
              rw [hGA]; clear hGA; obtain ⟨yw2, hwx⟩ : ∃ wx, yw1.alloc (.cells #[.int .i64 0, .int .i64 0] 32) = wx := ⟨_, rfl⟩; rw [hwx] at HZ HY HA hHeld ⊢; clear hwx
              refine wpAnyH_ready (rs := [21]) (by kernel_rfl) (by simp) ?_; refine AllReadyH.cons rfl (fun K hK => ?_) AllReadyH.nil
              obtain ⟨⟨a0, a1⟩, ⟨f0, f1⟩, az⟩ := HA.out; go_simp; clear a0 f0 a1 f1 az
              have HZ := Lib.hid ((HZ.out.far ⟨GA, 0, none⟩ (.int .i64 X0) (by show GZ ≠ GA; exact ne_Z_A)).far ⟨GA, 1, none⟩ (.int .i64 X1) (by show GZ ≠ GA; exact ne_Z_A))
              have HY := Lib.hid ((HY.out.far ⟨GA, 0, none⟩ (.int .i64 X0) (by show GY ≠ GA; exact ne_Y_A)).far ⟨GA, 1, none⟩ (.int .i64 X1) (by show GY ≠ GA; exact ne_Y_A))
              have HA := Lib.hid ((HA.out.set0 X0).set1 X1)
              refine hK.out _ _ (Below.setCell (Below.setCell hHeld (p := ⟨GA, 0, none⟩) le_A _) (p := ⟨GA, 1, none⟩) le_A _) (fun hHeld2 => ?_); (clear hHeld; rename _ => hHeld; clear hK K; have hHeld : Below wr.heap.size wr _ := hHeld); (try simp only [Act.put, List.getElem_toArray, List.getElem_cons_succ, List.getElem_cons_zero, List.setIfInBounds_toArray, List.set_cons_zero, List.set_cons_succ])
              obtain ⟨yw3, hwx⟩ : ∃ wx, (yw2.setCell ⟨GA, 0, none⟩ (.int .i64 X0)).setCell ⟨GA, 1, none⟩ (.int .i64 X1) = wx := ⟨_, rfl⟩; rw [hwx] at HZ HY HA hHeld ⊢; clear hwx
              refine wpAnyH_ready (rs := [22]) (by kernel_rfl) (by simp) ?_; refine AllReadyH.cons rfl (fun K hK => ?_) AllReadyH.nil
              obtain ⟨⟨a0, a1⟩, ⟨f0, f1⟩, az⟩ := HY.out; go_simp; clear a0 f0 a1 f1 az
              have HZ := Lib.hid ((HZ.out.far ⟨GY, 0, none⟩ (.int .i64 Y0) (by show GZ ≠ GY; exact ne_Z_Y)).far ⟨GY, 1, none⟩ (.int .i64 Y1) (by show GZ ≠ GY; exact ne_Z_Y))
              have HA := Lib.hid ((HA.out.far ⟨GY, 0, none⟩ (.int .i64 Y0) (by show GA ≠ GY; exact ne_A_Y)).far ⟨GY, 1, none⟩ (.int .i64 Y1) (by show GA ≠ GY; exact ne_A_Y))
              have HY := Lib.hid ((HY.out.set0 Y0).set1 Y1)
              refine hK.out _ _ (Below.setCell (Below.setCell hHeld (p := ⟨GY, 0, none⟩) le_Y _) (p := ⟨GY, 1, none⟩) le_Y _) (fun hHeld2 => ?_); (clear hHeld; rename _ => hHeld; clear hK K; have hHeld : Below wr.heap.size wr _ := hHeld); (try simp only [Act.put, List.getElem_toArray, List.getElem_cons_succ, List.getElem_cons_zero, List.setIfInBounds_toArray, List.set_cons_zero, List.set_cons_succ])
              obtain ⟨yw4, hwx⟩ : ∃ wx, (yw3.setCell ⟨GY, 0, none⟩ (.int .i64 Y0)).setCell ⟨GY, 1, none⟩ (.int .i64 Y1) = wx := ⟨_, rfl⟩; rw [hwx] at HZ HY HA hHeld ⊢; clear hwx
              refine wpAnyH_ready (rs := [23]) (by kernel_rfl) (by simp) ?_; refine AllReadyH.cons rfl (fun K hK => ?_) AllReadyH.nil
              obtain ⟨⟨a0, a1⟩, ⟨f0, f1⟩, az⟩ := HZ.out; go_simp; clear a0 f0 a1 f1 az
              have HY := Lib.hid ((HY.out.far ⟨GZ, 0, none⟩ (.int .i64 Z0) (by show GY ≠ GZ; exact ne_Y_Z)).far ⟨GZ, 1, none⟩ (.int .i64 Z1) (by show GY ≠ GZ; exact ne_Y_Z))
              have HA := Lib.hid ((HA.out.far ⟨GZ, 0, none⟩ (.int .i64 Z0) (by show GA ≠ GZ; exact ne_A_Z)).far ⟨GZ, 1, none⟩ (.int .i64 Z1) (by show GA ≠ GZ; exact ne_A_Z))
              have HZ := Lib.hid ((HZ.out.set0 Z0).set1 Z1)
              refine hK.out _ _ (Below.setCell (Below.setCell hHeld (p := ⟨GZ, 0, none⟩) le_Z _) (p := ⟨GZ, 1, none⟩) le_Z _) (fun hHeld2 => ?_); (clear hHeld; rename _ => hHeld; clear hK K; have hHeld : Below wr.heap.size wr _ := hHeld); (try simp only [Act.put, List.getElem_toArray, List.getElem_cons_succ, List.getElem_cons_zero, List.setIfInBounds_toArray, List.set_cons_zero, List.set_cons_succ])
              obtain ⟨yw5, hwx⟩ : ∃ wx, (yw4.setCell ⟨GZ, 0, none⟩ (.int .i64 Z0)).setCell ⟨GZ, 1, none⟩ (.int .i64 Z1) = wx := ⟨_, rfl⟩; rw [hwx] at HZ HY HA hHeld ⊢; clear hwx
              refine wpAnyH_done (by kernel_rfl) ?_ _
              go_wp2_with fail
              go_meet
              exact ⟨GA, GY, GZ, rfl, rfl, rfl, HA.out, HY.out, HZ.out, hHeld⟩
      case rest =>
        obtain ⟨GA, GY, GZ, rfl, rfl, rfl, hA, hY, hZ, hBx⟩ := hcut
        obtain ⟨w3, rfl⟩ : ∃ w2, w2 = wc := ⟨_, rfl⟩
        have HA := Lib.hid hA
        have HY := Lib.hid hY
        have HZ := Lib.hid hZ
        have HB := Lib.hid (below_after hBx HBW.out)
        clear hA hY hZ hBx HBW HCL hqm hqn HC
        obtain ⟨⟨qA0, qA1⟩, ⟨fA0, fA1⟩, zA⟩ := HA.out
        obtain ⟨⟨qY0, qY1⟩, ⟨fY0, fY1⟩, zY⟩ := HY.out
        obtain ⟨⟨qZ0, qZ1⟩, ⟨fZ0, fZ1⟩, zZ⟩ := HZ.out
        go_wp2_with fail
        go_at_call 62
        refine (l01In_b X0 (-1000) 1000 _).mono ?_
        rintro e w21 ⟨rfl, hb⟩
        clear qA0 fA0 qA1 fA1 zA qY0 fY0 qY1 fY1 zY qZ0 fZ0 qZ1 fZ1 zZ
        have HA := Lib.hid (HA.out.below hb)
        have HY := Lib.hid (HY.out.below hb)
        have HZ := Lib.hid (HZ.out.below hb)
        have HB := Lib.hid (below_after hb HB.out)
        clear hb
        cases hA0 : inB X0 (-1000) 1000
        · skip
          have HF : Hid (false = R) := by show false = R; rw [← HR.out, isL_a0 HLE.out (by rw [HE0.out, isS_in, hA0]; rfl)]
          (try rw [hA0])
          obtain ⟨⟨qA0, qA1⟩, ⟨fA0, fA1⟩, zA⟩ := HA.out
          obtain ⟨⟨qY0, qY1⟩, ⟨fY0, fY1⟩, zY⟩ := HY.out
          obtain ⟨⟨qZ0, qZ1⟩, ⟨fZ0, fZ1⟩, zZ⟩ := HZ.out
          go_wp2_with fail
          refine bodyPost_ret (v := .bool false) (by simp (maxDischargeDepth := 8) [results, Try.results95, go_sem, *]) rfl ?_
          exact ⟨by rw [← HF.out], by have hb := HB.out; (repeat' (first | (with_reducible exact Below.refl _ _) | (with_reducible refine Below.alloc ?_ ?_ _) | (with_reducible refine Below.setCell ?_ ?_ _) | (with_reducible refine Below.drew ?_) | (with_reducible refine below_drewN ?_ _) | (with_reducible assumption) | (with_reducible refine below_after (by with_reducible assumption) ?_) | go_size))⟩
        
        · skip
          (try rw [hA0])
          obtain ⟨⟨qA0, qA1⟩, ⟨fA0, fA1⟩, zA⟩ := HA.out
          obtain ⟨⟨qY0, qY1⟩, ⟨fY0, fY1⟩, zY⟩ := HY.out
          obtain ⟨⟨qZ0, qZ1⟩, ⟨fZ0, fZ1⟩, zZ⟩ := HZ.out
          go_wp2_with fail
          go_at_call 62
          refine (l01In_b X1 (-1000) 1000 _).mono ?_
          rintro e w22 ⟨rfl, hb⟩
          clear qA0 fA0 qA1 fA1 zA qY0 fY0 qY1 fY1 zY qZ0 fZ0 qZ1 fZ1 zZ
          have HA := Lib.hid (HA.out.below hb)
          have HY := Lib.hid (HY.out.below hb)
          have HZ := Lib.hid (HZ.out.below hb)
          have HB := Lib.hid (below_after hb HB.out)
          clear hb
          cases hA1 : inB X1 (-1000) 1000
          · skip
            have HF : Hid (false = R) := by show false = R; rw [← HR.out, isL_a0 HLE.out (by rw [HE0.out, isS_in, hA0, hA1]; rfl)]
            (try rw [hA1])
            obtain ⟨⟨qA0, qA1⟩, ⟨fA0, fA1⟩, zA⟩ := HA.out
            obtain ⟨⟨qY0, qY1⟩, ⟨fY0, fY1⟩, zY⟩ := HY.out
            obtain ⟨⟨qZ0, qZ1⟩, ⟨fZ0, fZ1⟩, zZ⟩ := HZ.out
            go_wp2_with fail
            refine bodyPost_ret (v := .bool false) (by simp (maxDischargeDepth := 8) [results, Try.results95, go_sem, *]) rfl ?_
            exact ⟨by rw [← HF.out], by have hb := HB.out; (repeat' (first | (with_reducible exact Below.refl _ _) | (with_reducible refine Below.alloc ?_ ?_ _) | (with_reducible refine Below.setCell ?_ ?_ _) | (with_reducible refine Below.drew ?_) | (with_reducible refine below_drewN ?_ _) | (with_reducible assumption) | (with_reducible refine below_after (by with_reducible assumption) ?_) | go_size))⟩
          
          · skip
            (try rw [hA1])
            have HS : Hid (isS X0 X1 = true) := by show _ = _; rw [isS_in, hA0, hA1]; rfl
            have HP0 : Hid (isPt (X0, X1) = true) := (isS_iff.1 HS.out).1.pt (isS_iff.1 HS.out).2
            clear hA0 hA1
            obtain ⟨⟨qA0, qA1⟩, ⟨fA0, fA1⟩, zA⟩ := HA.out
            obtain ⟨⟨qY0, qY1⟩, ⟨fY0, fY1⟩, zY⟩ := HY.out
            obtain ⟨⟨qZ0, qZ1⟩, ⟨fZ0, fZ1⟩, zZ⟩ := HZ.out
            go_wp2_with fail
            go_at_call 79
            refine (l01Is_any Y0 Y1 _).mono ?_
            rintro e w23 ⟨rfl, hb⟩
            clear qA0 fA0 qA1 fA1 zA qY0 fY0 qY1 fY1 zY qZ0 fZ0 qZ1 fZ1 zZ
            have HA := Lib.hid (HA.out.below hb)
            have HY := Lib.hid (HY.out.below hb)
            have HZ := Lib.hid (HZ.out.below hb)
            have HB := Lib.hid (below_after hb HB.out)
            clear hb
            cases hP1 : isPt (Y0, Y1)
            · skip
              have HF : Hid (false = R) := by show false = R; rw [← HR.out, isL_b0 HLE.out (by rw [HE1.out, hP1])]
              (try rw [hP1])
              obtain ⟨⟨qA0, qA1⟩, ⟨fA0, fA1⟩, zA⟩ := HA.out
              obtain ⟨⟨qY0, qY1⟩, ⟨fY0, fY1⟩, zY⟩ := HY.out
              obtain ⟨⟨qZ0, qZ1⟩, ⟨fZ0, fZ1⟩, zZ⟩ := HZ.out
              go_wp2_with fail
              refine bodyPost_ret (v := .bool false) (by simp (maxDischargeDepth := 8) [results, Try.results95, go_sem, *]) rfl ?_
              exact ⟨by rw [← HF.out], by have hb := HB.out; (repeat' (first | (with_reducible exact Below.refl _ _) | (with_reducible refine Below.alloc ?_ ?_ _) | (with_reducible refine Below.setCell ?_ ?_ _) | (with_reducible refine Below.drew ?_) | (with_reducible refine below_drewN ?_ _) | (with_reducible assumption) | (with_reducible refine below_after (by with_reducible assumption) ?_) | go_size))⟩
            
            · skip
              (try rw [hP1])
              obtain ⟨⟨qA0, qA1⟩, ⟨fA0, fA1⟩, zA⟩ := HA.out
              obtain ⟨⟨qY0, qY1⟩, ⟨fY0, fY1⟩, zY⟩ := HY.out
              obtain ⟨⟨qZ0, qZ1⟩, ⟨fZ0, fZ1⟩, zZ⟩ := HZ.out
              go_wp2_with fail
              go_at_call 79
              refine (l01Is_any Z0 Z1 _).mono ?_
              rintro e w24 ⟨rfl, hb⟩
              clear qA0 fA0 qA1 fA1 zA qY0 fY0 qY1 fY1 zY qZ0 fZ0 qZ1 fZ1 zZ
              have HA := Lib.hid (HA.out.below hb)
              have HY := Lib.hid (HY.out.below hb)
              have HZ := Lib.hid (HZ.out.below hb)
              have HB := Lib.hid (below_after hb HB.out)
              clear hb
              cases hP2 : isPt (Z0, Z1)
              · skip
                have HF : Hid (false = R) := by show false = R; rw [← HR.out, isL_c0 HLE.out (by rw [HE2.out, hP2])]
                (try rw [hP2])
                obtain ⟨⟨qA0, qA1⟩, ⟨fA0, fA1⟩, zA⟩ := HA.out
                obtain ⟨⟨qY0, qY1⟩, ⟨fY0, fY1⟩, zY⟩ := HY.out
                obtain ⟨⟨qZ0, qZ1⟩, ⟨fZ0, fZ1⟩, zZ⟩ := HZ.out
                go_wp2_with fail
                refine bodyPost_ret (v := .bool false) (by simp (maxDischargeDepth := 8) [results, Try.results95, go_sem, *]) rfl ?_
                exact ⟨by rw [← HF.out], by have hb := HB.out; (repeat' (first | (with_reducible exact Below.refl _ _) | (with_reducible refine Below.alloc ?_ ?_ _) | (with_reducible refine Below.setCell ?_ ?_ _) | (with_reducible refine Below.drew ?_) | (with_reducible refine below_drewN ?_ _) | (with_reducible assumption) | (with_reducible refine below_after (by with_reducible assumption) ?_) | go_size))⟩
              
              · skip
                (try rw [hP2])
                have HP1 := Lib.hid hP1
                have HP2 := Lib.hid hP2
                clear hP1 hP2
                obtain ⟨⟨qA0, qA1⟩, ⟨fA0, fA1⟩, zA⟩ := HA.out
                obtain ⟨⟨qY0, qY1⟩, ⟨fY0, fY1⟩, zY⟩ := HY.out
                obtain ⟨⟨qZ0, qZ1⟩, ⟨fZ0, fZ1⟩, zZ⟩ := HZ.out
                go_wp2_with fail
                go_at_call 129
                refine (l09Side_any _ _ _ _ _ _ _ HP0.out HP1.out HP2.out).mono ?_
                rintro e w25 ⟨rfl, hb⟩
                clear qA0 fA0 qA1 fA1 zA qY0 fY0 qY1 fY1 zY qZ0 fZ0 qZ1 fZ1 zZ
                have HA := Lib.hid (HA.out.below hb)
                have HY := Lib.hid (HY.out.below hb)
                have HZ := Lib.hid (HZ.out.below hb)
                have HB := Lib.hid (below_after hb HB.out)
                clear hb
                have HSD : Hid (dv (eg (pl ps) j) (eg (pl ps) (j + 1)) = dv (sbv (Y0, Y1) (X0, X1)) (sbv (Z0, Z1) (Y0, Y1))) := by show _ = _; unfold eg; rw [HE0.out, HE1.out, HE2.out]
                obtain ⟨D, hD⟩ : ∃ D, dv (sbv (Y0, Y1) (X0, X1)) (sbv (Z0, Z1) (Y0, Y1)) = D := ⟨_, rfl⟩
                rw [hD] at HSD ⊢
                clear hD
                by_cases hDp : D ≤ 0
                · skip
                  have HF : Hid (false = R) := by show false = R; rw [← HR.out, isL_d0 HLE.out (by rw [HSD.out]; omega)]
                  obtain ⟨⟨qA0, qA1⟩, ⟨fA0, fA1⟩, zA⟩ := HA.out
                  obtain ⟨⟨qY0, qY1⟩, ⟨fY0, fY1⟩, zY⟩ := HY.out
                  obtain ⟨⟨qZ0, qZ1⟩, ⟨fZ0, fZ1⟩, zZ⟩ := HZ.out
                  go_wp2_with fail
                  refine bodyPost_ret (v := .bool false) (by simp (maxDischargeDepth := 8) [results, Try.results95, go_sem, *]) rfl ?_
                  exact ⟨by rw [← HF.out], by have hb := HB.out; (repeat' (first | (with_reducible exact Below.refl _ _) | (with_reducible refine Below.alloc ?_ ?_ _) | (with_reducible refine Below.setCell ?_ ?_ _) | (with_reducible refine Below.drew ?_) | (with_reducible refine below_drewN ?_ _) | (with_reducible assumption) | (with_reducible refine below_after (by with_reducible assumption) ?_) | go_size))⟩
                
                · skip
                  have HGO : Hid (isL ps (m - (j + 1)) (j + 1) (t + ind1 ps j) = R) := by
                    show _ = R
                    rw [← HR.out, isL_go HLE.out (by rw [HE0.out]; exact HS.out) (by rw [HE1.out]; exact HP1.out) (by rw [HE2.out]; exact HP2.out) (by rw [HSD.out]; omega)]
                  have HU : Hid (ind1 ps j = if hlf (Y0 - X0, Y1 - X1) = 1 ∧ hlf (Z0 - Y0, Z1 - Y1) = 0 then 1 else 0) := by
                    show _ = _
                    rw [ind1_eq]; unfold eg sbv; rw [HE0.out, HE1.out, HE2.out]
                  have hD2 : ¬ D ≤ 0 := hDp
                  clear hDp
                  obtain ⟨⟨qA0, qA1⟩, ⟨fA0, fA1⟩, zA⟩ := HA.out
                  obtain ⟨⟨qY0, qY1⟩, ⟨fY0, fY1⟩, zY⟩ := HY.out
                  obtain ⟨⟨qZ0, qZ1⟩, ⟨fZ0, fZ1⟩, zZ⟩ := HZ.out
                  go_wp2_with fail
                  go_at_call 97
                  refine (l01Plus_minus _ _ _ _ _ (isPt_bn1 HP1.out) (isPt_bn2 HP1.out) (isPt_bn1 HP0.out) (isPt_bn2 HP0.out)).mono ?_
                  rintro e w26 ⟨rfl, hb⟩
                  clear qA0 fA0 qA1 fA1 zA qY0 fY0 qY1 fY1 zY qZ0 fZ0 qZ1 fZ1 zZ
                  have HA := Lib.hid (HA.out.below hb)
                  have HY := Lib.hid (HY.out.below hb)
                  have HZ := Lib.hid (HZ.out.below hb)
                  have HB := Lib.hid (below_after hb HB.out)
                  clear hb
                  obtain ⟨⟨qA0, qA1⟩, ⟨fA0, fA1⟩, zA⟩ := HA.out
                  obtain ⟨⟨qY0, qY1⟩, ⟨fY0, fY1⟩, zY⟩ := HY.out
                  obtain ⟨⟨qZ0, qZ1⟩, ⟨fZ0, fZ1⟩, zZ⟩ := HZ.out
                  go_wp2_with fail
                  go_at_call 130
                  refine (l09Half_any _ _ _).mono ?_
                  rintro e w27 ⟨rfl, hb⟩
                  clear qA0 fA0 qA1 fA1 zA qY0 fY0 qY1 fY1 zY qZ0 fZ0 qZ1 fZ1 zZ
                  have HA := Lib.hid (HA.out.below hb)
                  have HY := Lib.hid (HY.out.below hb)
                  have HZ := Lib.hid (HZ.out.below hb)
                  have HB := Lib.hid (below_after hb HB.out)
                  clear hb
                  by_cases hh1 : hlf (Y0 - X0, Y1 - X1) = 1
                  · skip
                    rw [hh1]
                    obtain ⟨⟨qA0, qA1⟩, ⟨fA0, fA1⟩, zA⟩ := HA.out
                    obtain ⟨⟨qY0, qY1⟩, ⟨fY0, fY1⟩, zY⟩ := HY.out
                    obtain ⟨⟨qZ0, qZ1⟩, ⟨fZ0, fZ1⟩, zZ⟩ := HZ.out
                    go_wp2_with fail
                    go_at_call 97
                    refine (l01Plus_minus _ _ _ _ _ (isPt_bn1 HP2.out) (isPt_bn2 HP2.out) (isPt_bn1 HP1.out) (isPt_bn2 HP1.out)).mono ?_
                    rintro e w28 ⟨rfl, hb⟩
                    clear qA0 fA0 qA1 fA1 zA qY0 fY0 qY1 fY1 zY qZ0 fZ0 qZ1 fZ1 zZ
                    have HA := Lib.hid (HA.out.below hb)
                    have HY := Lib.hid (HY.out.below hb)
                    have HZ := Lib.hid (HZ.out.below hb)
                    have HB := Lib.hid (below_after hb HB.out)
                    clear hb
                    obtain ⟨⟨qA0, qA1⟩, ⟨fA0, fA1⟩, zA⟩ := HA.out
                    obtain ⟨⟨qY0, qY1⟩, ⟨fY0, fY1⟩, zY⟩ := HY.out
                    obtain ⟨⟨qZ0, qZ1⟩, ⟨fZ0, fZ1⟩, zZ⟩ := HZ.out
                    go_wp2_with fail
                    go_at_call 130
                    refine (l09Half_any _ _ _).mono ?_
                    rintro e w29 ⟨rfl, hb⟩
                    clear qA0 fA0 qA1 fA1 zA qY0 fY0 qY1 fY1 zY qZ0 fZ0 qZ1 fZ1 zZ
                    have HA := Lib.hid (HA.out.below hb)
                    have HY := Lib.hid (HY.out.below hb)
                    have HZ := Lib.hid (HZ.out.below hb)
                    have HB := Lib.hid (below_after hb HB.out)
                    clear hb
                    by_cases hh2 : hlf (Z0 - Y0, Z1 - Y1) = 0
                    · skip
                      rw [hh2]
                      have hu : ind1 ps j = 1 := by rw [HU.out, if_pos ⟨hh1, hh2⟩]
                      have HG2 := HGO.out
                      rw [hu] at HG2
                      have hwt : IntKind.i64.wrap (t + 1) = t + 1 := by rw [IntKind.wrap_i64]; omega
                      obtain ⟨⟨qA0, qA1⟩, ⟨fA0, fA1⟩, zA⟩ := HA.out
                      obtain ⟨⟨qY0, qY1⟩, ⟨fY0, fY1⟩, zY⟩ := HY.out
                      obtain ⟨⟨qZ0, qZ1⟩, ⟨fZ0, fZ1⟩, zZ⟩ := HZ.out
                      go_wp2_with fail
                      go_roundw
                      case rel => exact ⟨j + 1, t + 1, rfl, by go_num, by omega, by omega, by exact HG2, by have hb := HB.out; (repeat' (first | (with_reducible exact Below.refl _ _) | (with_reducible refine Below.alloc ?_ ?_ _) | (with_reducible refine Below.setCell ?_ ?_ _) | (with_reducible refine Below.drew ?_) | (with_reducible refine below_drewN ?_ _) | (with_reducible assumption) | (with_reducible refine below_after (by with_reducible assumption) ?_) | go_size))⟩
                      case measure => simp only [intOf]; omega
                    
                    · skip
                      have hu : ind1 ps j = 0 := by rw [HU.out, if_neg (fun hh => hh2 hh.2)]
                      have HG2 := HGO.out
                      rw [hu, Int.add_zero] at HG2
                      have hb2 : (hlf (Z0 - Y0, Z1 - Y1) == 0) = false := by simpa using hh2
                      obtain ⟨⟨qA0, qA1⟩, ⟨fA0, fA1⟩, zA⟩ := HA.out
                      obtain ⟨⟨qY0, qY1⟩, ⟨fY0, fY1⟩, zY⟩ := HY.out
                      obtain ⟨⟨qZ0, qZ1⟩, ⟨fZ0, fZ1⟩, zZ⟩ := HZ.out
                      go_wp2_with fail
                      go_roundw
                      case rel => exact ⟨j + 1, t, rfl, by go_num, by omega, by omega, by exact HG2, by have hb := HB.out; (repeat' (first | (with_reducible exact Below.refl _ _) | (with_reducible refine Below.alloc ?_ ?_ _) | (with_reducible refine Below.setCell ?_ ?_ _) | (with_reducible refine Below.drew ?_) | (with_reducible refine below_drewN ?_ _) | (with_reducible assumption) | (with_reducible refine below_after (by with_reducible assumption) ?_) | go_size))⟩
                      case measure => simp only [intOf]; omega
                  
                  · skip
                    have hu : ind1 ps j = 0 := by rw [HU.out, if_neg (fun hh => hh1 hh.1)]
                    have HG2 := HGO.out
                    rw [hu, Int.add_zero] at HG2
                    have hb2 : (hlf (Y0 - X0, Y1 - X1) == 1) = false := by simpa using hh1
                    obtain ⟨⟨qA0, qA1⟩, ⟨fA0, fA1⟩, zA⟩ := HA.out
                    obtain ⟨⟨qY0, qY1⟩, ⟨fY0, fY1⟩, zY⟩ := HY.out
                    obtain ⟨⟨qZ0, qZ1⟩, ⟨fZ0, fZ1⟩, zZ⟩ := HZ.out
                    go_wp2_with fail
                    go_roundw
                    case rel => exact ⟨j + 1, t, rfl, by go_num, by omega, by omega, by exact HG2, by have hb := HB.out; (repeat' (first | (with_reducible exact Below.refl _ _) | (with_reducible refine Below.alloc ?_ ?_ _) | (with_reducible refine Below.setCell ?_ ?_ _) | (with_reducible refine Below.drew ?_) | (with_reducible refine below_drewN ?_ _) | (with_reducible assumption) | (with_reducible refine below_after (by with_reducible assumption) ?_) | go_size))⟩
                    case measure => simp only [intOf]; omega

    · obtain rfl : j = m := by omega
      have q1 : ¬ (j : Int) < (j : Int) := by omega
      rw [Nat.sub_self] at hRj
      have hRt : decide (t = 1) = R := hRj
      have hbt : (t == 1) = R := by rw [← hRt]; by_cases ht1 : t = 1 <;> simp [ht1]
      go_wp2_with fail
      refine bodyPost_ret (v := .bool R) (by simp (maxDischargeDepth := 8) [results, Try.results95, go_sem, *]) rfl ?_
      exact ⟨rfl, hB⟩
end Go.Proofs.Ytmjhejmkmdgikaa
