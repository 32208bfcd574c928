/-
  The walk of laws.FnExactFareyDistance: for all arguments it returns true and leaves memory as it was. The two error variables hold what they hold at the start.
-/
import Derived.Test.YtcaleapedomfmaaDoorBlk
import Derived.Test.YtcaleapedomfmaaDoorNb0
import Derived.Test.YtcaleapedomfmaaDoorEq
import Derived.Deep.DeepCutAuto
namespace Go.Proofs.YtcaleapedomfmaaDoor
open Go.ChangeShapes Go.WideShapes Go.ChangeAt Go.RowKit
set_option linter.unusedVariables false
set_option maxRecDepth 100000
set_option linter.unusedSimpArgs false
set_option maxRecDepth 100000

set_option maxHeartbeats 3200000 in
theorem walkFnExactFareyDistance_any (x0 x1 x2 x3 : Int) (V c : Int) (a0 a1 : Addr) (w : World) (hs : Snt w a0 a1)
    (hS : ∀ w, Calls Tryd.prog 32 #[.agg #[.int .i64 x0, .int .i64 x1], .agg #[.int .i64 x2, .int .i64 x3]] w fun e w' => e = .returned (.tuple #[.int .i64 V, .int .i64 c]) ∧ Below w.heap.size w w')
    (hI : ∀ w, Snt w a0 a1 → Calls Tryd.prog 33 #[.agg #[.int .i64 x0, .int .i64 x1], .agg #[.int .i64 x2, .int .i64 x3]] w fun e w' => e = .returned (.tuple #[.int .i64 V, .int .i64 c]) ∧ Below w.heap.size w w') :
    Calls Tryd.prog 10 #[.agg #[.int .i64 x0, .int .i64 x1], .agg #[.int .i64 x2, .int .i64 x3]] w fun e w' => e = .returned (.bool true) ∧ Below w.heap.size w w' := by
  have HS := Lib.hid hS
  have HI := Lib.hid hI
  clear hS hI
  have hs20 : w.heap.size < w.heap.size + 1 + 1 := (by omega); have hs30 : w.heap.size < w.heap.size + 1 + 1 + 1 := (by omega); have hs31 : w.heap.size + 1 < w.heap.size + 1 + 1 + 1 := (by omega)
  go_enter Tryd.func10, Tryd.ntmps10
  go_upto_region 1 with fail
  obtain ⟨wB, hwB⟩ : ∃ wB, wB = (w.alloc (.cells #[.int .i64 x0, .int .i64 x1] 22)).alloc (.cells #[.int .i64 x2, .int .i64 x3] 22) := ⟨_, rfl⟩
  rw [← hwB]
  have HBW : Hid (Below w.heap.size w wB) := by
    show Below w.heap.size w wB
    rw [hwB]; (repeat' (first | (with_reducible exact Below.refl _ _) | (with_reducible refine Below.alloc ?_ ?_ _) | (with_reducible refine Below.setCell ?_ ?_ _) | (with_reducible refine Below.drew ?_) | (with_reducible refine below_drewN ?_ _) | (with_reducible assumption) | (with_reducible refine below_after (by with_reducible assumption) ?_) | go_size))
  have HN : Hid (Snt wB a0 a1) := hs.below HBW.out
  have hzB : wB.heap.size = w.heap.size + 1 + 1 := by rw [hwB]; simp
  have HK : Hid (∀ W', Below wB.heap.size wB W' → W'.cell? ⟨w.heap.size, 0, none⟩ = some (.int .i64 x0) ∧ W'.cell? ⟨w.heap.size, 1, none⟩ = some (.int .i64 x1) ∧ W'.cell? ⟨w.heap.size + 1, 0, none⟩ = some (.int .i64 x2) ∧ W'.cell? ⟨w.heap.size + 1, 1, none⟩ = some (.int .i64 x3)) := by
    intro W' hW
    have f0_0 : W'.cell? ⟨w.heap.size, 0, none⟩ = some (.int .i64 x0) := (hW.cell (p := ⟨w.heap.size, 0, none⟩) (by show w.heap.size < _; omega)).trans (by rw [hwB]; go_cell)
    have f0_1 : W'.cell? ⟨w.heap.size, 1, none⟩ = some (.int .i64 x1) := (hW.cell (p := ⟨w.heap.size, 1, none⟩) (by show w.heap.size < _; omega)).trans (by rw [hwB]; go_cell)
    have f1_0 : W'.cell? ⟨w.heap.size + 1, 0, none⟩ = some (.int .i64 x2) := (hW.cell (p := ⟨w.heap.size + 1, 0, none⟩) (by show w.heap.size + 1 < _; omega)).trans (by rw [hwB]; go_cell)
    have f1_1 : W'.cell? ⟨w.heap.size + 1, 1, none⟩ = some (.int .i64 x3) := (hW.cell (p := ⟨w.heap.size + 1, 1, none⟩) (by show w.heap.size + 1 < _; omega)).trans (by rw [hwB]; go_cell)
    exact ⟨f0_0, f0_1, f1_0, f1_1⟩
  clear hwB hs
  refine wp_region_held_drew (S := fun W => Below wB.heap.size wB W) (by kernel_rfl) ?_ (fun hHeld => ?_); focus ((try dsimp only); exact (Below.refl _ _).drew)
  have hHeld : Below wB.heap.size wB _ := hHeld
  obtain ⟨wD, hwD⟩ : ∃ wD, wB.drew = wD := ⟨_, rfl⟩
  rw [hwD] at hHeld ⊢
  clear hwD
  (refine wpAnyH_take (i := 0) (v := ?_) rfl (by kernel_rfl) (by kernel_rfl) (by kernel_rfl) (fun _ _ _ h => h) (Or.inl ⟨rfl, ?_⟩) (by assumption) ?_; rotate_left; focus (intro W hSw; (try dsimp only at hSw); obtain ⟨p0, p1, p2, p3⟩ := HK.out _ hSw; go_simp; try (with_reducible rfl))); (try simp only [Act.put, List.getElem_toArray, List.getElem_cons_succ, List.getElem_cons_zero, List.setIfInBounds_toArray, List.set_cons_zero, List.set_cons_succ])
  (refine wpAnyH_take (i := 2) (v := ?_) rfl (by kernel_rfl) (by kernel_rfl) (by kernel_rfl) (fun _ _ _ h => h) (Or.inl ⟨rfl, ?_⟩) (by assumption) ?_; rotate_left; focus (intro W hSw; (try dsimp only at hSw); obtain ⟨p0, p1, p2, p3⟩ := HK.out _ hSw; go_simp; try (with_reducible rfl))); (try simp only [Act.put, List.getElem_toArray, List.getElem_cons_succ, List.getElem_cons_zero, List.setIfInBounds_toArray, List.set_cons_zero, List.set_cons_succ])
  refine wpAnyH_ready (rs := [1]) (by kernel_rfl) (by simp) ?_; refine AllReadyH.cons rfl (fun K hK => ?_) AllReadyH.nil
  go_simp; (go_at_call 14; refine (toPoint_any _ _ _).mono ?_; rintro en yw0 ⟨rfl, hb2⟩); refine hK.out _ _ (below_after hb2 hHeld) (fun hHeld2 => ?_); clear hb2; (clear hHeld; rename _ => hHeld; clear hK K; have hHeld : Below wB.heap.size wB _ := hHeld); (try simp only [Act.put, List.getElem_toArray, List.getElem_cons_succ, List.getElem_cons_zero, List.setIfInBounds_toArray, List.set_cons_zero, List.set_cons_succ])
  refine wpAnyH_ready (rs := [3]) (by kernel_rfl) (by simp) ?_; refine AllReadyH.cons rfl (fun K hK => ?_) AllReadyH.nil
  go_simp; (go_at_call 14; refine (toPoint_any _ _ _).mono ?_; rintro en yw1 ⟨rfl, hb2⟩); refine hK.out _ _ (below_after hb2 hHeld) (fun hHeld2 => ?_); clear hb2; (clear hHeld; rename _ => hHeld; clear hK K; have hHeld : Below wB.heap.size wB _ := hHeld); (try simp only [Act.put, List.getElem_toArray, List.getElem_cons_succ, List.getElem_cons_zero, List.setIfInBounds_toArray, List.set_cons_zero, List.set_cons_succ])
  refine wpAnyH_ready (rs := [4]) (by kernel_rfl) (by simp) ?_; refine AllReadyH.cons rfl (fun K hK => ?_) AllReadyH.nil
  go_simp; (go_at_call 32; refine (HS.out _).mono ?_; rintro en yw2 ⟨rfl, hb2⟩); refine hK.out _ _ (below_after hb2 hHeld) (fun hHeld2 => ?_); clear hb2; (clear hHeld; rename _ => hHeld; clear hK K; have hHeld : Below wB.heap.size wB _ := hHeld); (try simp only [Act.put, List.getElem_toArray, List.getElem_cons_succ, List.getElem_cons_zero, List.setIfInBounds_toArray, List.set_cons_zero, List.set_cons_succ])
  (refine wpAnyH_take (i := 5) (v := ?_) rfl (by kernel_rfl) (by kernel_rfl) (by kernel_rfl) (fun _ _ _ h => h) (Or.inl ⟨rfl, ?_⟩) (by assumption) ?_; rotate_left; focus (intro W hSw; (try dsimp only at hSw); obtain ⟨p0, p1, p2, p3⟩ := HK.out _ hSw; go_simp; try (with_reducible rfl))); (try simp only [Act.put, List.getElem_toArray, List.getElem_cons_succ, List.getElem_cons_zero, List.setIfInBounds_toArray, List.set_cons_zero, List.set_cons_succ])
  (refine wpAnyH_take (i := 6) (v := ?_) rfl (by kernel_rfl) (by kernel_rfl) (by kernel_rfl) (fun _ _ _ h => h) (Or.inl ⟨rfl, ?_⟩) (by assumption) ?_; rotate_left; focus (intro W hSw; (try dsimp only at hSw); obtain ⟨p0, p1, p2, p3⟩ := HK.out _ hSw; go_simp; try (with_reducible rfl))); (try simp only [Act.put, List.getElem_toArray, List.getElem_cons_succ, List.getElem_cons_zero, List.setIfInBounds_toArray, List.set_cons_zero, List.set_cons_succ])
  (refine wpAnyH_take (i := 7) (v := ?_) rfl (by kernel_rfl) (by kernel_rfl) (by kernel_rfl) (fun _ _ _ h => h) (Or.inl ⟨rfl, ?_⟩) (by assumption) ?_; rotate_left; focus (intro W hSw; (try dsimp only at hSw); obtain ⟨p0, p1, p2, p3⟩ := HK.out _ hSw; go_simp; try (with_reducible rfl))); (try simp only [Act.put, List.getElem_toArray, List.getElem_cons_succ, List.getElem_cons_zero, List.setIfInBounds_toArray, List.set_cons_zero, List.set_cons_succ])
  (refine wpAnyH_take (i := 8) (v := ?_) rfl (by kernel_rfl) (by kernel_rfl) (by kernel_rfl) (fun _ _ _ h => h) (Or.inl ⟨rfl, ?_⟩) (by assumption) ?_; rotate_left; focus (intro W hSw; (try dsimp only at hSw); obtain ⟨p0, p1, p2, p3⟩ := HK.out _ hSw; go_simp; try (with_reducible rfl))); (try simp only [Act.put, List.getElem_toArray, List.getElem_cons_succ, List.getElem_cons_zero, List.setIfInBounds_toArray, List.set_cons_zero, List.set_cons_succ])
  (refine wpAnyH_take (i := 9) (v := ?_) rfl (by kernel_rfl) (by kernel_rfl) (by kernel_rfl) (fun _ _ _ h => h) (Or.inl ⟨rfl, ?_⟩) (by assumption) ?_; rotate_left; focus (intro W hSw; (try dsimp only at hSw); obtain ⟨p0, p1, p2, p3⟩ := HK.out _ hSw; go_simp; try (with_reducible rfl))); (try simp only [Act.put, List.getElem_toArray, List.getElem_cons_succ, List.getElem_cons_zero, List.setIfInBounds_toArray, List.set_cons_zero, List.set_cons_succ])
  refine wpAnyH_done (by kernel_rfl) ?_ _
  obtain ⟨w2, hw2⟩ : ∃ w2, yw2 = w2 := ⟨_, rfl⟩
  rw [hw2] at hHeld ⊢
  clear hw2
  have HB1 : Hid (Below wB.heap.size wB w2) := hHeld
  have HK2 : Hid (∀ W', Below w2.heap.size w2 W' → W'.cell? ⟨w.heap.size, 0, none⟩ = some (.int .i64 x0) ∧ W'.cell? ⟨w.heap.size, 1, none⟩ = some (.int .i64 x1) ∧ W'.cell? ⟨w.heap.size + 1, 0, none⟩ = some (.int .i64 x2) ∧ W'.cell? ⟨w.heap.size + 1, 1, none⟩ = some (.int .i64 x3)) := fun W' h => HK.out W' (below_after h HB1.out)
  have HN2 : Hid (Snt w2 a0 a1) := HN.out.below HB1.out
  clear hHeld
  go_wp2_with fail
  refine wp_region_held_drew (S := fun W => Below w2.heap.size w2 W) (by kernel_rfl) ?_ (fun hHeld => ?_); focus ((try dsimp only); exact (Below.refl _ _).drew)
  have hHeld : Below w2.heap.size w2 _ := hHeld
  obtain ⟨wE, hwE⟩ : ∃ wD, w2.drew = wD := ⟨_, rfl⟩
  rw [hwE] at hHeld ⊢
  clear hwE
  (refine wpAnyH_take (i := 0) (v := ?_) rfl (by kernel_rfl) (by kernel_rfl) (by kernel_rfl) (fun _ _ _ h => h) (Or.inl ⟨rfl, ?_⟩) (by assumption) ?_; rotate_left; focus (intro W hSw; (try dsimp only at hSw); obtain ⟨p0, p1, p2, p3⟩ := HK2.out _ hSw; go_simp; try (with_reducible rfl))); (try simp only [Act.put, List.getElem_toArray, List.getElem_cons_succ, List.getElem_cons_zero, List.setIfInBounds_toArray, List.set_cons_zero, List.set_cons_succ])
  (refine wpAnyH_take (i := 2) (v := ?_) rfl (by kernel_rfl) (by kernel_rfl) (by kernel_rfl) (fun _ _ _ h => h) (Or.inl ⟨rfl, ?_⟩) (by assumption) ?_; rotate_left; focus (intro W hSw; (try dsimp only at hSw); obtain ⟨p0, p1, p2, p3⟩ := HK2.out _ hSw; go_simp; try (with_reducible rfl))); (try simp only [Act.put, List.getElem_toArray, List.getElem_cons_succ, List.getElem_cons_zero, List.setIfInBounds_toArray, List.set_cons_zero, List.set_cons_succ])
  refine wpAnyH_ready (rs := [1]) (by kernel_rfl) (by simp) ?_; refine AllReadyH.cons rfl (fun K hK => ?_) AllReadyH.nil
  go_simp; (go_at_call 14; refine (toPoint_any _ _ _).mono ?_; rintro en ywb0 ⟨rfl, hb2⟩); refine hK.out _ _ (below_after hb2 hHeld) (fun hHeld2 => ?_); clear hb2; (clear hHeld; rename _ => hHeld; clear hK K; have hHeld : Below w2.heap.size w2 _ := hHeld); (try simp only [Act.put, List.getElem_toArray, List.getElem_cons_succ, List.getElem_cons_zero, List.setIfInBounds_toArray, List.set_cons_zero, List.set_cons_succ])
  refine wpAnyH_ready (rs := [3]) (by kernel_rfl) (by simp) ?_; refine AllReadyH.cons rfl (fun K hK => ?_) AllReadyH.nil
  go_simp; (go_at_call 14; refine (toPoint_any _ _ _).mono ?_; rintro en ywb1 ⟨rfl, hb2⟩); refine hK.out _ _ (below_after hb2 hHeld) (fun hHeld2 => ?_); clear hb2; (clear hHeld; rename _ => hHeld; clear hK K; have hHeld : Below w2.heap.size w2 _ := hHeld); (try simp only [Act.put, List.getElem_toArray, List.getElem_cons_succ, List.getElem_cons_zero, List.setIfInBounds_toArray, List.set_cons_zero, List.set_cons_succ])
  refine wpAnyH_ready (rs := [4]) (by kernel_rfl) (by simp) ?_; refine AllReadyH.cons rfl (fun K hK => ?_) AllReadyH.nil
  go_simp; (go_at_call 33; refine (HI.out _ (HN2.out.below hHeld)).mono ?_; rintro en ywb2 ⟨rfl, hb2⟩); refine hK.out _ _ (below_after hb2 hHeld) (fun hHeld2 => ?_); clear hb2; (clear hHeld; rename _ => hHeld; clear hK K; have hHeld : Below w2.heap.size w2 _ := hHeld); (try simp only [Act.put, List.getElem_toArray, List.getElem_cons_succ, List.getElem_cons_zero, List.setIfInBounds_toArray, List.set_cons_zero, List.set_cons_succ])
  (refine wpAnyH_take (i := 5) (v := ?_) rfl (by kernel_rfl) (by kernel_rfl) (by kernel_rfl) (fun _ _ _ h => h) (Or.inl ⟨rfl, ?_⟩) (by assumption) ?_; rotate_left; focus (intro W hSw; (try dsimp only at hSw); obtain ⟨p0, p1, p2, p3⟩ := HK2.out _ hSw; go_simp; try (with_reducible rfl))); (try simp only [Act.put, List.getElem_toArray, List.getElem_cons_succ, List.getElem_cons_zero, List.setIfInBounds_toArray, List.set_cons_zero, List.set_cons_succ])
  (refine wpAnyH_take (i := 6) (v := ?_) rfl (by kernel_rfl) (by kernel_rfl) (by kernel_rfl) (fun _ _ _ h => h) (Or.inl ⟨rfl, ?_⟩) (by assumption) ?_; rotate_left; focus (intro W hSw; (try dsimp only at hSw); obtain ⟨p0, p1, p2, p3⟩ := HK2.out _ hSw; go_simp; try (with_reducible rfl))); (try simp only [Act.put, List.getElem_toArray, List.getElem_cons_succ, List.getElem_cons_zero, List.setIfInBounds_toArray, List.set_cons_zero, List.set_cons_succ])
  (refine wpAnyH_take (i := 7) (v := ?_) rfl (by kernel_rfl) (by kernel_rfl) (by kernel_rfl) (fun _ _ _ h => h) (Or.inl ⟨rfl, ?_⟩) (by assumption) ?_; rotate_left; focus (intro W hSw; (try dsimp only at hSw); obtain ⟨p0, p1, p2, p3⟩ := HK2.out _ hSw; go_simp; try (with_reducible rfl))); (try simp only [Act.put, List.getElem_toArray, List.getElem_cons_succ, List.getElem_cons_zero, List.setIfInBounds_toArray, List.set_cons_zero, List.set_cons_succ])
  (refine wpAnyH_take (i := 8) (v := ?_) rfl (by kernel_rfl) (by kernel_rfl) (by kernel_rfl) (fun _ _ _ h => h) (Or.inl ⟨rfl, ?_⟩) (by assumption) ?_; rotate_left; focus (intro W hSw; (try dsimp only at hSw); obtain ⟨p0, p1, p2, p3⟩ := HK2.out _ hSw; go_simp; try (with_reducible rfl))); (try simp only [Act.put, List.getElem_toArray, List.getElem_cons_succ, List.getElem_cons_zero, List.setIfInBounds_toArray, List.set_cons_zero, List.set_cons_succ])
  (refine wpAnyH_take (i := 9) (v := ?_) rfl (by kernel_rfl) (by kernel_rfl) (by kernel_rfl) (fun _ _ _ h => h) (Or.inl ⟨rfl, ?_⟩) (by assumption) ?_; rotate_left; focus (intro W hSw; (try dsimp only at hSw); obtain ⟨p0, p1, p2, p3⟩ := HK2.out _ hSw; go_simp; try (with_reducible rfl))); (try simp only [Act.put, List.getElem_toArray, List.getElem_cons_succ, List.getElem_cons_zero, List.setIfInBounds_toArray, List.set_cons_zero, List.set_cons_succ])
  refine wpAnyH_done (by kernel_rfl) ?_ _
  have hbF : Below w.heap.size w ywb2 := below_after (below_after hHeld HB1.out) HBW.out
  clear hHeld
  go_wp2_with fail
  go_ret
  exact ⟨rfl, hbF⟩
end Go.Proofs.YtcaleapedomfmaaDoor
