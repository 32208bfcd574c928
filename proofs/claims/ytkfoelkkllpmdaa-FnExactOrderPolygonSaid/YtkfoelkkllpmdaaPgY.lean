/-
  The least point of a list that is not empty (own work).
-/
import Derived.Test.YtkfoelkkllpmdaaPgX
import Derived.Test.YtkfoelkkllpmdaaBlk
import Derived.Test.YtkfoelkkllpmdaaPgS
import Derived.BigRegion
import Derived.Deep.DeepCutAuto
namespace Go.Proofs.Ytkfoelkkllpmdaa
open Go.ChangeShapes Go.WideShapes Go.ChangeAt Go.RowKit
set_option linter.unusedVariables false
set_option maxRecDepth 100000
set_option linter.unusedSimpArgs false
set_option maxRecDepth 100000

def mnL (ps : List (Int × Int)) (k : Nat) : Int × Int := lmin (ps.take k) (ps.getD 0 (0, 0))
theorem lxlt_irr (a : Int × Int) : lxlt a a = false := by simp [lxlt]
theorem mnL_one {ps : List (Int × Int)} (h : 1 ≤ ps.length) : mnL ps 1 = ps.getD 0 (0, 0) := by
  match ps, h with
  | p :: r, _ => simp [mnL, lmin, lxlt_irr]
theorem mnL_succ {ps : List (Int × Int)} {k : Nat} (h : k < ps.length) : mnL ps (k + 1) = if lxlt (ps.getD k (0, 0)) (mnL ps k) = true then ps.getD k (0, 0) else mnL ps k := by
  unfold mnL lmin
  rw [List.take_succ_eq_append_getElem h, List.foldl_append]
  simp [List.getD, h]
theorem mnL_all (ps : List (Int × Int)) : mnL ps ps.length = lmin ps (ps.getD 0 (0, 0)) := by unfold mnL; rw [List.take_length]
set_option maxHeartbeats 4000000 in
theorem minP_any (g n cap : Nat) (ps : List (Int × Int)) (w : World) (h1 : 1 ≤ n) (hn : ps.length = n) (hm : n ≤ 140737488351232) (hg : g < w.heap.size) (hc : PtCells w g 0 ps) :
    Calls Try.prog 102 #[.slice (some ⟨g, 0, none⟩) n cap, .func (.func 103) #[] #[]] w fun e w' => e = .returned (.agg #[.int .i64 (mnL ps n).1, .int .i64 (mnL ps n).2]) ∧ Below w.heap.size w w' := by
  have HC := Lib.hid hc
  have HN := Lib.hid hn
  have HM1 := Lib.hid (mnL_one (ps := ps) (by omega))
  have HMS : Hid (∀ k, k < n → mnL ps (k + 1) = if lxlt (ps.getD k (0, 0)) (mnL ps k) = true then ps.getD k (0, 0) else mnL ps k) := fun k hk => mnL_succ (by omega)
  obtain ⟨c0, c1⟩ := hc 0 (by omega)
  obtain ⟨Z0, Z1, hZ⟩ : ∃ x y, ps.getD 0 (0, 0) = (x, y) := ⟨_, _, rfl⟩
  rw [hZ] at c0 c1 HM1
  have c0 : w.cell? ⟨g, 0, none⟩ = some (.int .i64 Z0) := c0
  have c1 : w.cell? ⟨g, 1, none⟩ = some (.int .i64 Z1) := c1
  obtain ⟨V0, V1, hV⟩ : ∃ x y, mnL ps n = (x, y) := ⟨_, _, rfl⟩
  have HV := Lib.hid hV
  rw [hV]
  dsimp only
  have q0 : ¬ (n : Int) < 1 := by omega
  have q1 : (0 : Int) < (n : Int) := by omega
  clear hc hn hZ hV
  go_enter Try.func102, Try.ntmps102
  go_wp2_with fail
  go_loopw [6] (fun i wr => ∃ k : Nat, 1 ≤ k ∧ k ≤ n ∧ i = .int .i64 k ∧ Bk2 wr w.heap.size 0 0 ∧ Bk2 wr (w.heap.size + 1) (mnL ps k).1 (mnL ps k).2 ∧ Below w.heap.size w wr) (fun i _ => n - (intOf i).toNat)
  case atStart =>
    refine ⟨1, by omega, h1, by go_num, ?_, ?_, by (repeat' (first | (with_reducible exact Below.refl _ _) | (with_reducible refine Below.alloc ?_ ?_ _) | (with_reducible refine Below.setCell ?_ ?_ _) | (with_reducible refine Below.drew ?_) | (with_reducible refine below_drewN ?_ _) | (with_reducible assumption) | (with_reducible refine below_after (by with_reducible assumption) ?_) | go_size))⟩
    · exact (bk2_new w 0 0 _).below (by (repeat' (first | (with_reducible exact Below.refl _ _) | (with_reducible refine Below.alloc ?_ ?_ _) | (with_reducible refine Below.setCell ?_ ?_ _) | (with_reducible refine Below.drew ?_) | (with_reducible refine below_drewN ?_ _) | (with_reducible assumption) | (with_reducible refine below_after (by with_reducible assumption) ?_) | go_size)))
    · rw [HM1.out]
      have := bk2_new (w.alloc (.cells #[.int .i64 0, .int .i64 0] 38)) Z0 Z1 38
      simpa using this
  case round =>
    obtain ⟨k, hk1, hk, rfl, hA, hB, hbel⟩ := hrel
    have HA := Lib.hid hA
    have HB := Lib.hid hB
    have HBe := Lib.hid hbel
    have hsz := hbel.size
    by_cases hlt : k < n
    · have HS := Lib.hid (HMS.out k hlt)
      have x2 := ptCells_kept HC.out (hbel.block g hg) k (by have := HN.out; omega)
      rw [Nat.zero_add] at x2
      obtain ⟨X0, X1, hX⟩ : ∃ x y, ps.getD k (0, 0) = (x, y) := ⟨_, _, rfl⟩
      obtain ⟨M0, M1, hM⟩ : ∃ x y, mnL ps k = (x, y) := ⟨_, _, rfl⟩
      rw [hX] at x2
      rw [hX, hM] at HS
      rw [hM] at HB hB
      clear hX hM
      dsimp only at x2 HB hB
      obtain ⟨x0, x1⟩ := x2
      have gk := World.block_lt_of_cell? wr _ x0
      have HCL : Hid (∀ W, Below wr.heap.size wr W → W.cell? ⟨g, k * 2, none⟩ = some (.int .i64 X0) ∧ W.cell? ⟨g, k * 2 + 1, none⟩ = some (.int .i64 X1) ∧ W.cell? ⟨w.heap.size + 1, 0, none⟩ = some (.int .i64 M0) ∧ W.cell? ⟨w.heap.size + 1, 1, none⟩ = some (.int .i64 M1)) := fun W hW => by
        have a := HB.out.below hW
        exact ⟨(hW.cell (p := ⟨g, k * 2, none⟩) gk).trans x0, (hW.cell (p := ⟨g, k * 2 + 1, none⟩) gk).trans x1, a.1.1, a.1.2⟩
      obtain ⟨r, hr⟩ : ∃ r, cmP (X0, X1) (M0, M1) = r := ⟨_, rfl⟩
      have HCM : Hid (∀ w, Calls Try.prog 103 #[.agg #[.int .i64 X0, .int .i64 X1], .agg #[.int .i64 M0, .int .i64 M1]] w fun e w' => e = .returned (.int .i64 r) ∧ Below w.heap.size w w') := fun w => by have := cmP_any X0 X1 M0 M1 w; rwa [hr] at this
      have HR : Hid (r < 0 ↔ lxlt (X0, X1) (M0, M1) = true) := by rw [← hr]; exact cmP_lt _ _
      have q2 : (0 : Int) ≤ (k : Int) := by omega
      have q3 : (k : Int) < (n : Int) := by omega
      clear hr hA hB hbel x0 x1
      go_wp2_with fail
      go_cut [27] (fun v wx => v = .bool (decide (r < 0)) ∧ Below wr.heap.size wr wx)
      case first =>
        refine wp_region_held_drew (S := fun W => Below wr.heap.size wr W) (by kernel_rfl) ?_ (fun hHeld => ?_); focus ((try dsimp only); exact (Below.refl _ _).drew)
        have hHeld : Below wr.heap.size wr _ := hHeld
        obtain ⟨wD, hwD⟩ : ∃ wD, wr.drew = wD := ⟨_, rfl⟩
        rw [hwD] at hHeld ⊢
        clear hwD
        (refine wpAnyH_take (i := 0) (v := ?_) rfl (by kernel_rfl) (by kernel_rfl) (by kernel_rfl) (fun _ _ _ h => h) (Or.inl ⟨rfl, ?_⟩) (by assumption) ?_; rotate_left; focus (intro W hSw; (try dsimp only at hSw); obtain ⟨i0, i1, i2, i3⟩ := HCL.out _ hSw; go_simp; try (with_reducible rfl))); (try simp only [Act.put, List.getElem_toArray, List.getElem_cons_succ, List.getElem_cons_zero, List.setIfInBounds_toArray, List.set_cons_zero, List.set_cons_succ])
        (refine wpAnyH_take (i := 1) (v := ?_) rfl (by kernel_rfl) (by kernel_rfl) (by kernel_rfl) (fun _ _ _ h => h) (Or.inl ⟨rfl, ?_⟩) (by assumption) ?_; rotate_left; focus (intro W hSw; (try dsimp only at hSw); obtain ⟨i0, i1, i2, i3⟩ := HCL.out _ hSw; go_simp; try (with_reducible rfl))); (try simp only [Act.put, List.getElem_toArray, List.getElem_cons_succ, List.getElem_cons_zero, List.setIfInBounds_toArray, List.set_cons_zero, List.set_cons_succ])
        (refine wpAnyH_take (i := 2) (v := ?_) rfl (by kernel_rfl) (by kernel_rfl) (by kernel_rfl) (fun _ _ _ h => h) (Or.inl ⟨rfl, ?_⟩) (by assumption) ?_; rotate_left; focus (intro W hSw; (try dsimp only at hSw); obtain ⟨i0, i1, i2, i3⟩ := HCL.out _ hSw; go_simp; try (with_reducible rfl))); (try simp only [Act.put, List.getElem_toArray, List.getElem_cons_succ, List.getElem_cons_zero, List.setIfInBounds_toArray, List.set_cons_zero, List.set_cons_succ])
        (refine wpAnyH_take (i := 3) (v := ?_) rfl (by kernel_rfl) (by kernel_rfl) (by kernel_rfl) (fun _ _ _ h => h) (Or.inl ⟨rfl, ?_⟩) (by assumption) ?_; rotate_left; focus (intro W hSw; (try dsimp only at hSw); obtain ⟨i0, i1, i2, i3⟩ := HCL.out _ hSw; go_simp; try (with_reducible rfl))); (try simp only [Act.put, List.getElem_toArray, List.getElem_cons_succ, List.getElem_cons_zero, List.setIfInBounds_toArray, List.set_cons_zero, List.set_cons_succ])
        (refine wpAnyH_take (i := 4) (v := ?_) rfl (by kernel_rfl) (by kernel_rfl) (by kernel_rfl) (fun _ _ _ h => h) (Or.inl ⟨rfl, ?_⟩) (by assumption) ?_; rotate_left; focus (intro W hSw; (try dsimp only at hSw); obtain ⟨i0, i1, i2, i3⟩ := HCL.out _ hSw; go_simp; try (with_reducible rfl))); (try simp only [Act.put, List.getElem_toArray, List.getElem_cons_succ, List.getElem_cons_zero, List.setIfInBounds_toArray, List.set_cons_zero, List.set_cons_succ])
        (refine wpAnyH_take (i := 5) (v := ?_) rfl (by kernel_rfl) (by kernel_rfl) (by kernel_rfl) (fun _ _ _ h => h) (Or.inl ⟨rfl, ?_⟩) (by assumption) ?_; rotate_left; focus (intro W hSw; (try dsimp only at hSw); obtain ⟨i0, i1, i2, i3⟩ := HCL.out _ hSw; go_simp; try (with_reducible rfl))); (try simp only [Act.put, List.getElem_toArray, List.getElem_cons_succ, List.getElem_cons_zero, List.setIfInBounds_toArray, List.set_cons_zero, List.set_cons_succ])
        refine wpAnyH_ready (rs := [6]) (by kernel_rfl) (by simp) ?_; refine AllReadyH.cons rfl (fun K hK => ?_) AllReadyH.nil
        go_simp; (go_at_call 103; refine (HCM.out _).mono ?_; rintro en yw0 ⟨rfl, hb2⟩); refine hK.out _ _ (below_after hb2 hHeld) (fun hHeld2 => ?_); clear hb2; (clear hHeld; rename _ => hHeld; clear hK K; have hHeld : Below wr.heap.size wr _ := hHeld); (try simp only [Act.put, List.getElem_toArray, List.getElem_cons_succ, List.getElem_cons_zero, List.setIfInBounds_toArray, List.set_cons_zero, List.set_cons_succ])
        (refine wpAnyH_take (i := 7) (v := ?_) rfl (by kernel_rfl) (by kernel_rfl) (by kernel_rfl) (fun _ _ _ h => h) (Or.inl ⟨rfl, ?_⟩) (by assumption) ?_; rotate_left; focus (intro W hSw; (try dsimp only at hSw); obtain ⟨i0, i1, i2, i3⟩ := HCL.out _ hSw; go_simp; try (with_reducible rfl))); (try simp only [Act.put, List.getElem_toArray, List.getElem_cons_succ, List.getElem_cons_zero, List.setIfInBounds_toArray, List.set_cons_zero, List.set_cons_succ])
        refine wpAnyH_done (by kernel_rfl) ?_ _
        go_wp2_with fail
        go_meet
        exact ⟨rfl, hHeld⟩
      case rest =>
        obtain ⟨rfl, hBx⟩ := hcut
        obtain ⟨w3, rfl⟩ : ∃ w2, w2 = wc := ⟨_, rfl⟩
        have HA3 := Lib.hid (HA.out.below hBx)
        have HB3 := Lib.hid (HB.out.below hBx)
        have HBe3 := Lib.hid (below_after hBx HBe.out)
        obtain ⟨i0, i1, i2, i3⟩ := HCL.out _ hBx
        have hs3 := HBe3.out.size
        clear hBx HA HB HBe HCL
        by_cases hr0 : r < 0
        · have hl := HR.out.1 hr0
          rw [if_pos hl] at HS
          obtain ⟨_, ⟨f0, f1⟩, hlt3⟩ := HB3.out
          go_wp2_with fail
          go_roundw
          case rel =>
            have hbb := HBe3.out
            refine ⟨k + 1, by omega, by omega, by go_num, ?_, ?_, by (repeat' (first | (with_reducible exact Below.refl _ _) | (with_reducible refine Below.alloc ?_ ?_ _) | (with_reducible refine Below.setCell ?_ ?_ _) | (with_reducible refine Below.drew ?_) | (with_reducible refine below_drewN ?_ _) | (with_reducible assumption) | (with_reducible refine below_after (by with_reducible assumption) ?_) | go_size))⟩
            · exact (HA3.out.far ⟨w.heap.size + 1, 0, none⟩ _ (by show w.heap.size ≠ w.heap.size + 1; omega)).far ⟨w.heap.size + 1, 1, none⟩ _ (by show w.heap.size ≠ w.heap.size + 1; omega)
            · rw [HS.out]; exact (HB3.out.set0 X0).set1 X1
          case measure => simp [intOf]; omega
        · have hl : lxlt (X0, X1) (M0, M1) = false := by cases h : lxlt (X0, X1) (M0, M1) with | true => exact absurd (HR.out.2 h) hr0 | false => rfl
          have HS2 : Hid (mnL ps (k + 1) = (M0, M1)) := by show _ = _; rw [HS.out, if_neg (by rw [hl]; decide)]
          clear HS
          go_wp2_with fail
          go_roundw
          case rel => exact ⟨k + 1, by omega, by omega, by go_num, HA3.out, by rw [HS2.out]; exact HB3.out, HBe3.out⟩
          case measure => simp [intOf]; omega
    · have hkn : k = n := by omega
      subst hkn
      rw [HV.out] at hB
      dsimp only at hB
      obtain ⟨⟨b0, b1⟩, _, bl⟩ := hB
      obtain ⟨⟨a0, a1⟩, ⟨f0, f1⟩, al⟩ := hA
      have q3 : ¬ (k : Int) < (k : Int) := by omega
      go_wp2_with fail
      refine bodyPost_ret (v := .agg #[.int .i64 V0, .int .i64 V1]) (by simp (maxDischargeDepth := 8) [results, Try.results102, go_sem, *]) rfl ?_
      exact ⟨rfl, by (repeat' (first | (with_reducible exact Below.refl _ _) | (with_reducible refine Below.alloc ?_ ?_ _) | (with_reducible refine Below.setCell ?_ ?_ _) | (with_reducible refine Below.drew ?_) | (with_reducible refine below_drewN ?_ _) | (with_reducible assumption) | (with_reducible refine below_after (by with_reducible assumption) ?_) | go_size))⟩
end Go.Proofs.Ytkfoelkkllpmdaa
