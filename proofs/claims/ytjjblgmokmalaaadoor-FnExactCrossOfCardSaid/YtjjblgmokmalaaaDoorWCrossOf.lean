/-
  The walk of laws.FnExactCrossOf: for all arguments it returns true and leaves memory as it was (own work).
-/
import Derived.Test.YtjjblgmokmalaaaDoorSpW
import Derived.Test.YtjjblgmokmalaaaDoorEr8
import Derived.Test.YtjjblgmokmalaaaDoorMkE
import Derived.Deep.DeepCutAuto
namespace Go.Proofs.YtjjblgmokmalaaaDoor
open Go.ChangeShapes Go.WideShapes Go.ChangeAt Go.RowKit
set_option linter.unusedVariables false
set_option maxRecDepth 100000
set_option linter.unusedSimpArgs false
set_option maxRecDepth 100000

set_option maxHeartbeats 6400000 in
theorem walkFnExactCrossOf_any (x0 x1 x2 x3 x4 x5 c : Int) (xs : List Int) (eF : Addr) (eS : Addr) (w : World) (hF : EA w 3 eF) (hS : EA w 0 eS) (hx : xs.length ≤ 8388608)
    (hS : ∀ w, Calls Tryd.prog 14 #[.agg #[.int .i64 x0, .int .i64 x1, .int .i64 x2], .agg #[.int .i64 x3, .int .i64 x4, .int .i64 x5]] w fun e w' => ∃ v, e = .returned (.tuple #[v, .int .i64 c]) ∧ OwnE 2 w.heap.size w' v xs ∧ Below w.heap.size w w')
    (hI : ∀ w, EA w 3 eF → EA w 0 eS → Calls Tryd.prog 16 #[.agg #[.int .i64 x0, .int .i64 x1, .int .i64 x2], .agg #[.int .i64 x3, .int .i64 x4, .int .i64 x5]] w fun e w' => ∃ v, e = .returned (.tuple #[v, .int .i64 c]) ∧ OwnE 26 w.heap.size w' v xs ∧ Below w.heap.size w w') :
    Calls Tryd.prog 3 #[.agg #[.int .i64 x0, .int .i64 x1, .int .i64 x2], .agg #[.int .i64 x3, .int .i64 x4, .int .i64 x5]] w fun e w' => e = .returned (.bool true) ∧ Below w.heap.size w w' := by
  have HS := Lib.hid hS
  have HI := Lib.hid hI
  clear hS hI
  have HEF0 := Lib.hid hF
  have HES0 := Lib.hid hS
  clear hF hS
  go_enter Tryd.func3, Tryd.ntmps3
  go_upto_region 1 with fail
  obtain ⟨wB, hwB⟩ : ∃ wB, wB = (w.alloc (.cells #[.int .i64 x0, .int .i64 x1, .int .i64 x2] 22)).alloc (.cells #[.int .i64 x3, .int .i64 x4, .int .i64 x5] 22) := ⟨_, rfl⟩
  rw [← hwB]
  have HBW : Hid (Below w.heap.size w wB) := by
    show Below w.heap.size w wB
    rw [hwB]; (repeat' (first | (with_reducible exact Below.refl _ _) | (with_reducible refine Below.alloc ?_ ?_ _) | (with_reducible refine Below.setCell ?_ ?_ _) | (with_reducible refine Below.drew ?_) | (with_reducible refine below_drewN ?_ _) | (with_reducible assumption) | (with_reducible refine below_after (by with_reducible assumption) ?_) | go_size))
  have HEF : Hid (EA wB 3 eF) := HEF0.out.below HBW.out
  have HES : Hid (EA wB 0 eS) := HES0.out.below HBW.out
  have hzB : wB.heap.size = w.heap.size + 1 + 1 := by rw [hwB]; simp
  have HK : Hid (∀ W', Below wB.heap.size wB W' → W'.cell? ⟨w.heap.size, 0, none⟩ = some (.int .i64 x0) ∧ W'.cell? ⟨w.heap.size, 1, none⟩ = some (.int .i64 x1) ∧ W'.cell? ⟨w.heap.size, 2, none⟩ = some (.int .i64 x2) ∧ W'.cell? ⟨w.heap.size + 1, 0, none⟩ = some (.int .i64 x3) ∧ W'.cell? ⟨w.heap.size + 1, 1, none⟩ = some (.int .i64 x4) ∧ W'.cell? ⟨w.heap.size + 1, 2, none⟩ = some (.int .i64 x5)) := by
    intro W' hW
    have f0_0 : W'.cell? ⟨w.heap.size, 0, none⟩ = some (.int .i64 x0) := (hW.cell (p := ⟨w.heap.size, 0, none⟩) (by show w.heap.size < _; omega)).trans (by rw [hwB]; go_cell)
    have f0_1 : W'.cell? ⟨w.heap.size, 1, none⟩ = some (.int .i64 x1) := (hW.cell (p := ⟨w.heap.size, 1, none⟩) (by show w.heap.size < _; omega)).trans (by rw [hwB]; go_cell)
    have f0_2 : W'.cell? ⟨w.heap.size, 2, none⟩ = some (.int .i64 x2) := (hW.cell (p := ⟨w.heap.size, 2, none⟩) (by show w.heap.size < _; omega)).trans (by rw [hwB]; go_cell)
    have f1_0 : W'.cell? ⟨w.heap.size + 1, 0, none⟩ = some (.int .i64 x3) := (hW.cell (p := ⟨w.heap.size + 1, 0, none⟩) (by show w.heap.size + 1 < _; omega)).trans (by rw [hwB]; go_cell)
    have f1_1 : W'.cell? ⟨w.heap.size + 1, 1, none⟩ = some (.int .i64 x4) := (hW.cell (p := ⟨w.heap.size + 1, 1, none⟩) (by show w.heap.size + 1 < _; omega)).trans (by rw [hwB]; go_cell)
    have f1_2 : W'.cell? ⟨w.heap.size + 1, 2, none⟩ = some (.int .i64 x5) := (hW.cell (p := ⟨w.heap.size + 1, 2, none⟩) (by show w.heap.size + 1 < _; omega)).trans (by rw [hwB]; go_cell)
    exact ⟨f0_0, f0_1, f0_2, f1_0, f1_1, f1_2⟩
  clear hwB hzB HEF0 HES0
  have HK0 : Hid (∀ W', Below wB.heap.size wB W' → W'.cell? ⟨w.heap.size, 0, none⟩ = some (.int .i64 x0) ∧ W'.cell? ⟨w.heap.size, 1, none⟩ = some (.int .i64 x1) ∧ W'.cell? ⟨w.heap.size, 2, none⟩ = some (.int .i64 x2) ∧ W'.cell? ⟨w.heap.size + 1, 0, none⟩ = some (.int .i64 x3) ∧ W'.cell? ⟨w.heap.size + 1, 1, none⟩ = some (.int .i64 x4) ∧ W'.cell? ⟨w.heap.size + 1, 2, none⟩ = some (.int .i64 x5)) := fun W' h => HK.out W' (h)
  refine wp_region_held_drew (S := fun W => Below wB.heap.size wB W) (by kernel_rfl) ?_ (fun hHeld => ?_); focus ((try dsimp only); exact (Below.refl _ _).drew)
  have hHeld : Below wB.heap.size wB _ := hHeld
  obtain ⟨wD0, hwD⟩ : ∃ wD, wB.drew = wD := ⟨_, rfl⟩
  rw [hwD] at hHeld ⊢
  clear hwD
  (refine wpAnyH_take (i := 0) (v := ?_) rfl (by kernel_rfl) (by kernel_rfl) (by kernel_rfl) (fun _ _ _ h => h) (Or.inl ⟨rfl, ?_⟩) (by assumption) ?_; rotate_left; focus (intro W hSw; (try dsimp only at hSw); obtain ⟨p0, p1, p2, p3, p4, p5⟩ := HK0.out _ hSw; go_simp; try (with_reducible rfl))); (try simp only [Act.put, List.getElem_toArray, List.getElem_cons_succ, List.getElem_cons_zero, List.setIfInBounds_toArray, List.set_cons_zero, List.set_cons_succ])
  (refine wpAnyH_take (i := 2) (v := ?_) rfl (by kernel_rfl) (by kernel_rfl) (by kernel_rfl) (fun _ _ _ h => h) (Or.inl ⟨rfl, ?_⟩) (by assumption) ?_; rotate_left; focus (intro W hSw; (try dsimp only at hSw); obtain ⟨p0, p1, p2, p3, p4, p5⟩ := HK0.out _ hSw; go_simp; try (with_reducible rfl))); (try simp only [Act.put, List.getElem_toArray, List.getElem_cons_succ, List.getElem_cons_zero, List.setIfInBounds_toArray, List.set_cons_zero, List.set_cons_succ])
  refine wpAnyH_ready (rs := [1]) (by kernel_rfl) (by simp) ?_; refine AllReadyH.cons rfl (fun K hK => ?_) AllReadyH.nil
  go_simp; (go_at_call 15; refine (toSpot_any _ _ _ _).mono ?_; rintro en y00 ⟨rfl, hb2⟩); refine hK.out _ _ (below_after hb2 hHeld) (fun hHeld2 => ?_); clear hb2; (clear hHeld; rename _ => hHeld; clear hK K; have hHeld : Below wB.heap.size wB _ := hHeld); (try simp only [Act.put, List.getElem_toArray, List.getElem_cons_succ, List.getElem_cons_zero, List.setIfInBounds_toArray, List.set_cons_zero, List.set_cons_succ])
  refine wpAnyH_ready (rs := [3]) (by kernel_rfl) (by simp) ?_; refine AllReadyH.cons rfl (fun K hK => ?_) AllReadyH.nil
  go_simp; (go_at_call 15; refine (toSpot_any _ _ _ _).mono ?_; rintro en y01 ⟨rfl, hb2⟩); refine hK.out _ _ (below_after hb2 hHeld) (fun hHeld2 => ?_); clear hb2; (clear hHeld; rename _ => hHeld; clear hK K; have hHeld : Below wB.heap.size wB _ := hHeld); (try simp only [Act.put, List.getElem_toArray, List.getElem_cons_succ, List.getElem_cons_zero, List.setIfInBounds_toArray, List.set_cons_zero, List.set_cons_succ])
  refine wpAnyH_ready (rs := [4]) (by kernel_rfl) (by simp) ?_; refine AllReadyH.cons rfl (fun K hK => ?_) AllReadyH.nil
  go_simp
  go_at_call 14
  refine (HS.out _).mono ?_
  rintro en y0z ⟨v0, rfl, o0, b0⟩
  obtain ⟨s0, c0, rfl, _⟩ := own_viewE o0
  have hy0 := hHeld.size
  refine hK.out _ _ (below_after b0 hHeld) (fun hHeld2 => ?_); clear b0; (clear hHeld; rename _ => hHeld; clear hK K; have hHeld : Below wB.heap.size wB _ := hHeld); (try simp only [Act.put, List.getElem_toArray, List.getElem_cons_succ, List.getElem_cons_zero, List.setIfInBounds_toArray, List.set_cons_zero, List.set_cons_succ])
  (refine wpAnyH_take (i := 5) (v := ?_) rfl (by kernel_rfl) (by kernel_rfl) (by kernel_rfl) (fun _ _ _ h => h) (Or.inl ⟨rfl, ?_⟩) (by assumption) ?_; rotate_left; focus (intro W hSw; (try dsimp only at hSw); obtain ⟨p0, p1, p2, p3, p4, p5⟩ := HK0.out _ hSw; go_simp; try (with_reducible rfl))); (try simp only [Act.put, List.getElem_toArray, List.getElem_cons_succ, List.getElem_cons_zero, List.setIfInBounds_toArray, List.set_cons_zero, List.set_cons_succ])
  (refine wpAnyH_take (i := 6) (v := ?_) rfl (by kernel_rfl) (by kernel_rfl) (by kernel_rfl) (fun _ _ _ h => h) (Or.inl ⟨rfl, ?_⟩) (by assumption) ?_; rotate_left; focus (intro W hSw; (try dsimp only at hSw); obtain ⟨p0, p1, p2, p3, p4, p5⟩ := HK0.out _ hSw; go_simp; try (with_reducible rfl))); (try simp only [Act.put, List.getElem_toArray, List.getElem_cons_succ, List.getElem_cons_zero, List.setIfInBounds_toArray, List.set_cons_zero, List.set_cons_succ])
  (refine wpAnyH_take (i := 7) (v := ?_) rfl (by kernel_rfl) (by kernel_rfl) (by kernel_rfl) (fun _ _ _ h => h) (Or.inl ⟨rfl, ?_⟩) (by assumption) ?_; rotate_left; focus (intro W hSw; (try dsimp only at hSw); obtain ⟨p0, p1, p2, p3, p4, p5⟩ := HK0.out _ hSw; go_simp; try (with_reducible rfl))); (try simp only [Act.put, List.getElem_toArray, List.getElem_cons_succ, List.getElem_cons_zero, List.setIfInBounds_toArray, List.set_cons_zero, List.set_cons_succ])
  (refine wpAnyH_take (i := 8) (v := ?_) rfl (by kernel_rfl) (by kernel_rfl) (by kernel_rfl) (fun _ _ _ h => h) (Or.inl ⟨rfl, ?_⟩) (by assumption) ?_; rotate_left; focus (intro W hSw; (try dsimp only at hSw); obtain ⟨p0, p1, p2, p3, p4, p5⟩ := HK0.out _ hSw; go_simp; try (with_reducible rfl))); (try simp only [Act.put, List.getElem_toArray, List.getElem_cons_succ, List.getElem_cons_zero, List.setIfInBounds_toArray, List.set_cons_zero, List.set_cons_succ])
  (refine wpAnyH_take (i := 9) (v := ?_) rfl (by kernel_rfl) (by kernel_rfl) (by kernel_rfl) (fun _ _ _ h => h) (Or.inl ⟨rfl, ?_⟩) (by assumption) ?_; rotate_left; focus (intro W hSw; (try dsimp only at hSw); obtain ⟨p0, p1, p2, p3, p4, p5⟩ := HK0.out _ hSw; go_simp; try (with_reducible rfl))); (try simp only [Act.put, List.getElem_toArray, List.getElem_cons_succ, List.getElem_cons_zero, List.setIfInBounds_toArray, List.set_cons_zero, List.set_cons_succ])
  refine wpAnyH_done (by kernel_rfl) ?_ _
  clear HK0
  obtain ⟨w1, hw1⟩ : ∃ w1, y0z = w1 := ⟨_, rfl⟩
  rw [hw1] at hHeld o0 ⊢
  clear hw1
  have HB1 := Lib.hid hHeld
  have O0 : Hid (OwnE 2 wB.heap.size w1 (.slice s0 xs.length c0) xs) := own_up o0 hy0
  have L0 : Hid (∀ k, (Value.slice s0 xs.length c0).ownBlock = some k → k < w1.heap.size) := fun k hk => (World.ownsRow.lt o0 k hk).2
  clear o0 hy0 hHeld
  have HK1 : Hid (∀ W', Below w1.heap.size w1 W' → W'.cell? ⟨w.heap.size, 0, none⟩ = some (.int .i64 x0) ∧ W'.cell? ⟨w.heap.size, 1, none⟩ = some (.int .i64 x1) ∧ W'.cell? ⟨w.heap.size, 2, none⟩ = some (.int .i64 x2) ∧ W'.cell? ⟨w.heap.size + 1, 0, none⟩ = some (.int .i64 x3) ∧ W'.cell? ⟨w.heap.size + 1, 1, none⟩ = some (.int .i64 x4) ∧ W'.cell? ⟨w.heap.size + 1, 2, none⟩ = some (.int .i64 x5)) := fun W' h => HK.out W' (below_after h HB1.out)
  go_wp2_with fail
  refine wp_region_held_drew (S := fun W => Below w1.heap.size w1 W) (by kernel_rfl) ?_ (fun hHeld => ?_); focus ((try dsimp only); exact (Below.refl _ _).drew)
  have hHeld : Below w1.heap.size w1 _ := hHeld
  obtain ⟨wD1, hwD⟩ : ∃ wD, w1.drew = wD := ⟨_, rfl⟩
  rw [hwD] at hHeld ⊢
  clear hwD
  (refine wpAnyH_take (i := 0) (v := ?_) rfl (by kernel_rfl) (by kernel_rfl) (by kernel_rfl) (fun _ _ _ h => h) (Or.inl ⟨rfl, ?_⟩) (by assumption) ?_; rotate_left; focus (intro W hSw; (try dsimp only at hSw); obtain ⟨p0, p1, p2, p3, p4, p5⟩ := HK1.out _ hSw; go_simp; try (with_reducible rfl))); (try simp only [Act.put, List.getElem_toArray, List.getElem_cons_succ, List.getElem_cons_zero, List.setIfInBounds_toArray, List.set_cons_zero, List.set_cons_succ])
  (refine wpAnyH_take (i := 2) (v := ?_) rfl (by kernel_rfl) (by kernel_rfl) (by kernel_rfl) (fun _ _ _ h => h) (Or.inl ⟨rfl, ?_⟩) (by assumption) ?_; rotate_left; focus (intro W hSw; (try dsimp only at hSw); obtain ⟨p0, p1, p2, p3, p4, p5⟩ := HK1.out _ hSw; go_simp; try (with_reducible rfl))); (try simp only [Act.put, List.getElem_toArray, List.getElem_cons_succ, List.getElem_cons_zero, List.setIfInBounds_toArray, List.set_cons_zero, List.set_cons_succ])
  refine wpAnyH_ready (rs := [1]) (by kernel_rfl) (by simp) ?_; refine AllReadyH.cons rfl (fun K hK => ?_) AllReadyH.nil
  go_simp; (go_at_call 15; refine (toSpot_any _ _ _ _).mono ?_; rintro en y10 ⟨rfl, hb2⟩); refine hK.out _ _ (below_after hb2 hHeld) (fun hHeld2 => ?_); clear hb2; (clear hHeld; rename _ => hHeld; clear hK K; have hHeld : Below w1.heap.size w1 _ := hHeld); (try simp only [Act.put, List.getElem_toArray, List.getElem_cons_succ, List.getElem_cons_zero, List.setIfInBounds_toArray, List.set_cons_zero, List.set_cons_succ])
  refine wpAnyH_ready (rs := [3]) (by kernel_rfl) (by simp) ?_; refine AllReadyH.cons rfl (fun K hK => ?_) AllReadyH.nil
  go_simp; (go_at_call 15; refine (toSpot_any _ _ _ _).mono ?_; rintro en y11 ⟨rfl, hb2⟩); refine hK.out _ _ (below_after hb2 hHeld) (fun hHeld2 => ?_); clear hb2; (clear hHeld; rename _ => hHeld; clear hK K; have hHeld : Below w1.heap.size w1 _ := hHeld); (try simp only [Act.put, List.getElem_toArray, List.getElem_cons_succ, List.getElem_cons_zero, List.setIfInBounds_toArray, List.set_cons_zero, List.set_cons_succ])
  refine wpAnyH_ready (rs := [4]) (by kernel_rfl) (by simp) ?_; refine AllReadyH.cons rfl (fun K hK => ?_) AllReadyH.nil
  go_simp
  go_at_call 16
  refine (HI.out _ (HEF.out.below (below_after hHeld HB1.out)) (HES.out.below (below_after hHeld HB1.out))).mono ?_
  rintro en y1z ⟨v1, rfl, o1, b1⟩
  obtain ⟨s1, c1, rfl, _⟩ := own_viewE o1
  have hy1 := hHeld.size
  refine hK.out _ _ (below_after b1 hHeld) (fun hHeld2 => ?_); clear b1; (clear hHeld; rename _ => hHeld; clear hK K; have hHeld : Below w1.heap.size w1 _ := hHeld); (try simp only [Act.put, List.getElem_toArray, List.getElem_cons_succ, List.getElem_cons_zero, List.setIfInBounds_toArray, List.set_cons_zero, List.set_cons_succ])
  (refine wpAnyH_take (i := 5) (v := ?_) rfl (by kernel_rfl) (by kernel_rfl) (by kernel_rfl) (fun _ _ _ h => h) (Or.inl ⟨rfl, ?_⟩) (by assumption) ?_; rotate_left; focus (intro W hSw; (try dsimp only at hSw); obtain ⟨p0, p1, p2, p3, p4, p5⟩ := HK1.out _ hSw; go_simp; try (with_reducible rfl))); (try simp only [Act.put, List.getElem_toArray, List.getElem_cons_succ, List.getElem_cons_zero, List.setIfInBounds_toArray, List.set_cons_zero, List.set_cons_succ])
  (refine wpAnyH_take (i := 6) (v := ?_) rfl (by kernel_rfl) (by kernel_rfl) (by kernel_rfl) (fun _ _ _ h => h) (Or.inl ⟨rfl, ?_⟩) (by assumption) ?_; rotate_left; focus (intro W hSw; (try dsimp only at hSw); obtain ⟨p0, p1, p2, p3, p4, p5⟩ := HK1.out _ hSw; go_simp; try (with_reducible rfl))); (try simp only [Act.put, List.getElem_toArray, List.getElem_cons_succ, List.getElem_cons_zero, List.setIfInBounds_toArray, List.set_cons_zero, List.set_cons_succ])
  (refine wpAnyH_take (i := 7) (v := ?_) rfl (by kernel_rfl) (by kernel_rfl) (by kernel_rfl) (fun _ _ _ h => h) (Or.inl ⟨rfl, ?_⟩) (by assumption) ?_; rotate_left; focus (intro W hSw; (try dsimp only at hSw); obtain ⟨p0, p1, p2, p3, p4, p5⟩ := HK1.out _ hSw; go_simp; try (with_reducible rfl))); (try simp only [Act.put, List.getElem_toArray, List.getElem_cons_succ, List.getElem_cons_zero, List.setIfInBounds_toArray, List.set_cons_zero, List.set_cons_succ])
  (refine wpAnyH_take (i := 8) (v := ?_) rfl (by kernel_rfl) (by kernel_rfl) (by kernel_rfl) (fun _ _ _ h => h) (Or.inl ⟨rfl, ?_⟩) (by assumption) ?_; rotate_left; focus (intro W hSw; (try dsimp only at hSw); obtain ⟨p0, p1, p2, p3, p4, p5⟩ := HK1.out _ hSw; go_simp; try (with_reducible rfl))); (try simp only [Act.put, List.getElem_toArray, List.getElem_cons_succ, List.getElem_cons_zero, List.setIfInBounds_toArray, List.set_cons_zero, List.set_cons_succ])
  (refine wpAnyH_take (i := 9) (v := ?_) rfl (by kernel_rfl) (by kernel_rfl) (by kernel_rfl) (fun _ _ _ h => h) (Or.inl ⟨rfl, ?_⟩) (by assumption) ?_; rotate_left; focus (intro W hSw; (try dsimp only at hSw); obtain ⟨p0, p1, p2, p3, p4, p5⟩ := HK1.out _ hSw; go_simp; try (with_reducible rfl))); (try simp only [Act.put, List.getElem_toArray, List.getElem_cons_succ, List.getElem_cons_zero, List.setIfInBounds_toArray, List.set_cons_zero, List.set_cons_succ])
  refine wpAnyH_done (by kernel_rfl) ?_ _
  clear HK1
  obtain ⟨w2, hw2⟩ : ∃ w2, y1z = w2 := ⟨_, rfl⟩
  rw [hw2] at hHeld o1 ⊢
  clear hw2
  have bw1 := hHeld
  clear hHeld
  have HLT1 : Hid (∀ k, (Value.slice s1 xs.length c1).ownBlock = some k → w1.heap.size ≤ k) := fun k hk => by have := (World.ownsRow.lt o1 k hk).1; omega
  have O1 : Hid (OwnE 26 w1.heap.size w2 (.slice s1 xs.length c1) xs) := own_up o1 hy1
  have O0a := Lib.hid (OwnE.below O0.out bw1)
  have HB2 : Hid (Below wB.heap.size wB w2) := HB1.out.trans (bw1.mono HB1.out.size)
  clear o1 bw1 hy1
  go_wp2_with fail
  go_at_call 17
  refine (eqInt64S_sameE _ _ _ _ _ _ O1.out O0a.out (by omega)).mono ?_
  rintro e w3 ⟨rfl, b3⟩
  have O1b := Lib.hid (OwnE.below O1.out b3)
  have O0b := Lib.hid (OwnE.below O0a.out b3)
  have HB3 : Hid (Below wB.heap.size wB w3) := below_after b3 HB2.out
  have hx3 := HB1.out.size
  clear b3
  go_wp2_with fail
  go_at_call 18
  refine (markInt64S_anyE _ _ _ _ _ O1b.out (by omega) (by omega) (by omega)).mono ?_
  rintro e w4 ⟨rfl, o1c, g4⟩
  have O0c : Hid (OwnE 2 wB.heap.size w4 (.slice s0 xs.length c0) xs) := by
    refine World.ownsRow.kept O0b.out g4 ?_
    cases h0 : (Value.slice s0 xs.length c0).ownBlock with
    | none => exact .inl rfl
    | some k =>
      right
      cases h1 : (Value.slice s1 xs.length c1).ownBlock with
      | none => simp
      | some k' =>
        have a := L0.out k h0
        have b := HLT1.out k' h1
        simp; omega
  have HB4 : Hid (Below wB.heap.size wB w4) := Below.grown HB3.out g4 HB3.out.size (fun k hk => by have := HLT1.out k hk; omega)
  have O1c := Lib.hid o1c
  clear o1c g4 hx3
  go_wp2_with fail
  go_at_call 19
  refine (heldInt64S_marksE _ _ _ _ _ O1c.out (by omega) (by omega) (by omega)).mono ?_
  rintro e w5 ⟨rfl, rfl⟩
  have HK2 : Hid (∀ W', Below w4.heap.size w4 W' → W'.cell? ⟨w.heap.size, 0, none⟩ = some (.int .i64 x0) ∧ W'.cell? ⟨w.heap.size, 1, none⟩ = some (.int .i64 x1) ∧ W'.cell? ⟨w.heap.size, 2, none⟩ = some (.int .i64 x2) ∧ W'.cell? ⟨w.heap.size + 1, 0, none⟩ = some (.int .i64 x3) ∧ W'.cell? ⟨w.heap.size + 1, 1, none⟩ = some (.int .i64 x4) ∧ W'.cell? ⟨w.heap.size + 1, 2, none⟩ = some (.int .i64 x5)) := fun W' h => HK.out W' (below_after h HB4.out)
  go_wp2_with fail
  refine wp_region_held_drew (S := fun W => Below w4.heap.size w4 W) (by kernel_rfl) ?_ (fun hHeld => ?_); focus ((try dsimp only); exact (Below.refl _ _).drew)
  have hHeld : Below w4.heap.size w4 _ := hHeld
  obtain ⟨wD2, hwD⟩ : ∃ wD, w4.drew = wD := ⟨_, rfl⟩
  rw [hwD] at hHeld ⊢
  clear hwD
  (refine wpAnyH_take (i := 0) (v := ?_) rfl (by kernel_rfl) (by kernel_rfl) (by kernel_rfl) (fun _ _ _ h => h) (Or.inl ⟨rfl, ?_⟩) (by assumption) ?_; rotate_left; focus (intro W hSw; (try dsimp only at hSw); obtain ⟨p0, p1, p2, p3, p4, p5⟩ := HK2.out _ hSw; go_simp; try (with_reducible rfl))); (try simp only [Act.put, List.getElem_toArray, List.getElem_cons_succ, List.getElem_cons_zero, List.setIfInBounds_toArray, List.set_cons_zero, List.set_cons_succ])
  (refine wpAnyH_take (i := 2) (v := ?_) rfl (by kernel_rfl) (by kernel_rfl) (by kernel_rfl) (fun _ _ _ h => h) (Or.inl ⟨rfl, ?_⟩) (by assumption) ?_; rotate_left; focus (intro W hSw; (try dsimp only at hSw); obtain ⟨p0, p1, p2, p3, p4, p5⟩ := HK2.out _ hSw; go_simp; try (with_reducible rfl))); (try simp only [Act.put, List.getElem_toArray, List.getElem_cons_succ, List.getElem_cons_zero, List.setIfInBounds_toArray, List.set_cons_zero, List.set_cons_succ])
  refine wpAnyH_ready (rs := [1]) (by kernel_rfl) (by simp) ?_; refine AllReadyH.cons rfl (fun K hK => ?_) AllReadyH.nil
  go_simp; (go_at_call 15; refine (toSpot_any _ _ _ _).mono ?_; rintro en y20 ⟨rfl, hb2⟩); refine hK.out _ _ (below_after hb2 hHeld) (fun hHeld2 => ?_); clear hb2; (clear hHeld; rename _ => hHeld; clear hK K; have hHeld : Below w4.heap.size w4 _ := hHeld); (try simp only [Act.put, List.getElem_toArray, List.getElem_cons_succ, List.getElem_cons_zero, List.setIfInBounds_toArray, List.set_cons_zero, List.set_cons_succ])
  refine wpAnyH_ready (rs := [3]) (by kernel_rfl) (by simp) ?_; refine AllReadyH.cons rfl (fun K hK => ?_) AllReadyH.nil
  go_simp; (go_at_call 15; refine (toSpot_any _ _ _ _).mono ?_; rintro en y21 ⟨rfl, hb2⟩); refine hK.out _ _ (below_after hb2 hHeld) (fun hHeld2 => ?_); clear hb2; (clear hHeld; rename _ => hHeld; clear hK K; have hHeld : Below w4.heap.size w4 _ := hHeld); (try simp only [Act.put, List.getElem_toArray, List.getElem_cons_succ, List.getElem_cons_zero, List.setIfInBounds_toArray, List.set_cons_zero, List.set_cons_succ])
  refine wpAnyH_ready (rs := [4]) (by kernel_rfl) (by simp) ?_; refine AllReadyH.cons rfl (fun K hK => ?_) AllReadyH.nil
  go_simp
  go_at_call 16
  refine (HI.out _ (HEF.out.below (below_after hHeld HB4.out)) (HES.out.below (below_after hHeld HB4.out))).mono ?_
  rintro en y2z ⟨v2, rfl, o2, b2⟩
  obtain ⟨s2, c2, rfl, _⟩ := own_viewE o2
  have hy2 := hHeld.size
  refine hK.out _ _ (below_after b2 hHeld) (fun hHeld2 => ?_); clear b2; (clear hHeld; rename _ => hHeld; clear hK K; have hHeld : Below w4.heap.size w4 _ := hHeld); (try simp only [Act.put, List.getElem_toArray, List.getElem_cons_succ, List.getElem_cons_zero, List.setIfInBounds_toArray, List.set_cons_zero, List.set_cons_succ])
  (refine wpAnyH_take (i := 5) (v := ?_) rfl (by kernel_rfl) (by kernel_rfl) (by kernel_rfl) (fun _ _ _ h => h) (Or.inl ⟨rfl, ?_⟩) (by assumption) ?_; rotate_left; focus (intro W hSw; (try dsimp only at hSw); obtain ⟨p0, p1, p2, p3, p4, p5⟩ := HK2.out _ hSw; go_simp; try (with_reducible rfl))); (try simp only [Act.put, List.getElem_toArray, List.getElem_cons_succ, List.getElem_cons_zero, List.setIfInBounds_toArray, List.set_cons_zero, List.set_cons_succ])
  (refine wpAnyH_take (i := 6) (v := ?_) rfl (by kernel_rfl) (by kernel_rfl) (by kernel_rfl) (fun _ _ _ h => h) (Or.inl ⟨rfl, ?_⟩) (by assumption) ?_; rotate_left; focus (intro W hSw; (try dsimp only at hSw); obtain ⟨p0, p1, p2, p3, p4, p5⟩ := HK2.out _ hSw; go_simp; try (with_reducible rfl))); (try simp only [Act.put, List.getElem_toArray, List.getElem_cons_succ, List.getElem_cons_zero, List.setIfInBounds_toArray, List.set_cons_zero, List.set_cons_succ])
  (refine wpAnyH_take (i := 7) (v := ?_) rfl (by kernel_rfl) (by kernel_rfl) (by kernel_rfl) (fun _ _ _ h => h) (Or.inl ⟨rfl, ?_⟩) (by assumption) ?_; rotate_left; focus (intro W hSw; (try dsimp only at hSw); obtain ⟨p0, p1, p2, p3, p4, p5⟩ := HK2.out _ hSw; go_simp; try (with_reducible rfl))); (try simp only [Act.put, List.getElem_toArray, List.getElem_cons_succ, List.getElem_cons_zero, List.setIfInBounds_toArray, List.set_cons_zero, List.set_cons_succ])
  (refine wpAnyH_take (i := 8) (v := ?_) rfl (by kernel_rfl) (by kernel_rfl) (by kernel_rfl) (fun _ _ _ h => h) (Or.inl ⟨rfl, ?_⟩) (by assumption) ?_; rotate_left; focus (intro W hSw; (try dsimp only at hSw); obtain ⟨p0, p1, p2, p3, p4, p5⟩ := HK2.out _ hSw; go_simp; try (with_reducible rfl))); (try simp only [Act.put, List.getElem_toArray, List.getElem_cons_succ, List.getElem_cons_zero, List.setIfInBounds_toArray, List.set_cons_zero, List.set_cons_succ])
  (refine wpAnyH_take (i := 9) (v := ?_) rfl (by kernel_rfl) (by kernel_rfl) (by kernel_rfl) (fun _ _ _ h => h) (Or.inl ⟨rfl, ?_⟩) (by assumption) ?_; rotate_left; focus (intro W hSw; (try dsimp only at hSw); obtain ⟨p0, p1, p2, p3, p4, p5⟩ := HK2.out _ hSw; go_simp; try (with_reducible rfl))); (try simp only [Act.put, List.getElem_toArray, List.getElem_cons_succ, List.getElem_cons_zero, List.setIfInBounds_toArray, List.set_cons_zero, List.set_cons_succ])
  refine wpAnyH_done (by kernel_rfl) ?_ _
  clear HK2
  obtain ⟨w6, hw6⟩ : ∃ w6, y2z = w6 := ⟨_, rfl⟩
  rw [hw6] at hHeld o2 ⊢
  clear hw6
  have bw2 := hHeld
  clear hHeld
  have O2 := Lib.hid o2
  have O0d := Lib.hid (OwnE.below O0c.out bw2)
  have O1d := Lib.hid (OwnE.below O1c.out bw2)
  have HB6 : Hid (Below wB.heap.size wB w6) := HB4.out.trans (bw2.mono HB4.out.size)
  clear o2 bw2 hy2
  go_wp2_with fail
  go_at_call 17
  refine (eqInt64S_sameE _ _ _ _ _ _ O2.out O0d.out (by omega)).mono ?_
  rintro e w7 ⟨rfl, b7⟩
  have O1e := Lib.hid (OwnE.below O1d.out b7)
  have HB7 : Hid (Below wB.heap.size wB w7) := below_after b7 HB6.out
  clear b7
  go_wp2_with fail
  go_at_call 19
  refine (heldInt64S_marksE _ _ _ _ _ O1e.out (by omega) (by omega) (by omega)).mono ?_
  rintro e w8 ⟨rfl, rfl⟩
  go_wp2
  go_ret
  exact ⟨rfl, below_after HB7.out HBW.out⟩
end Go.Proofs.YtjjblgmokmalaaaDoor
