/-
  The walk of laws.FnExactReflectFraction: for all arguments it returns true and leaves memory as it was. The two error variables hold what they hold at the start.
-/
import Derived.Test.YtcaleapedomfmaaDoorBlk
import Derived.Test.YtcaleapedomfmaaDoorNb0
import Derived.Test.YtcaleapedomfmaaDoorEq
import Derived.Deep.DeepCutAuto
namespace Go.Proofs.YtcaleapedomfmaaDoor
open Go.ChangeShapes Go.WideShapes Go.ChangeAt Go.RowKit
set_option linter.unusedVariables false
set_option maxRecDepth 100000
set_option linter.unusedSimpArgs false
set_option maxRecDepth 100000

set_option maxHeartbeats 3200000 in
theorem walkFnExactReflectFraction_any (x0 x1 x2 x3 x4 x5 : Int) (X Y c : Int) (a0 a1 : Addr) (w : World) (hs : Snt w a0 a1)
    (hS : ∀ w, Calls Tryd.prog 21 #[.agg #[.int .i64 x0, .int .i64 x1], .agg #[.int .i64 x2, .int .i64 x3], .agg #[.int .i64 x4, .int .i64 x5]] w fun e w' => e = .returned (.tuple #[.agg #[.int .i64 X, .int .i64 Y], .int .i64 c]) ∧ Below w.heap.size w w')
    (hI : ∀ w, Snt w a0 a1 → Calls Tryd.prog 22 #[.agg #[.int .i64 x0, .int .i64 x1], .agg #[.int .i64 x2, .int .i64 x3], .agg #[.int .i64 x4, .int .i64 x5]] w fun e w' => e = .returned (.tuple #[.agg #[.int .i64 X, .int .i64 Y], .int .i64 c]) ∧ Below w.heap.size w w') :
    Calls Tryd.prog 6 #[.agg #[.int .i64 x0, .int .i64 x1], .agg #[.int .i64 x2, .int .i64 x3], .agg #[.int .i64 x4, .int .i64 x5]] w fun e w' => e = .returned (.bool true) ∧ Below w.heap.size w w' := by
  have HS := Lib.hid hS
  have HI := Lib.hid hI
  clear hS hI
  have hs20 : w.heap.size < w.heap.size + 1 + 1 := (by omega); have hs30 : w.heap.size < w.heap.size + 1 + 1 + 1 := (by omega); have hs31 : w.heap.size + 1 < w.heap.size + 1 + 1 + 1 := (by omega); have hs40 : w.heap.size < w.heap.size + 1 + 1 + 1 + 1 := (by omega); have hs41 : w.heap.size + 1 < w.heap.size + 1 + 1 + 1 + 1 := (by omega); have hs42 : w.heap.size + 1 + 1 < w.heap.size + 1 + 1 + 1 + 1 := (by omega)
  go_enter Tryd.func6, Tryd.ntmps6
  go_upto_region 1 with fail
  obtain ⟨wB, hwB⟩ : ∃ wB, wB = ((w.alloc (.cells #[.int .i64 x0, .int .i64 x1] 22)).alloc (.cells #[.int .i64 x2, .int .i64 x3] 22)).alloc (.cells #[.int .i64 x4, .int .i64 x5] 22) := ⟨_, rfl⟩
  rw [← hwB]
  have HBW : Hid (Below w.heap.size w wB) := by
    show Below w.heap.size w wB
    rw [hwB]; (repeat' (first | (with_reducible exact Below.refl _ _) | (with_reducible refine Below.alloc ?_ ?_ _) | (with_reducible refine Below.setCell ?_ ?_ _) | (with_reducible refine Below.drew ?_) | (with_reducible refine below_drewN ?_ _) | (with_reducible assumption) | (with_reducible refine below_after (by with_reducible assumption) ?_) | go_size))
  have HN : Hid (Snt wB a0 a1) := hs.below HBW.out
  have hzB : wB.heap.size = w.heap.size + 1 + 1 + 1 := by rw [hwB]; simp
  have HK : Hid (∀ W', Below wB.heap.size wB W' → W'.cell? ⟨w.heap.size, 0, none⟩ = some (.int .i64 x0) ∧ W'.cell? ⟨w.heap.size, 1, none⟩ = some (.int .i64 x1) ∧ W'.cell? ⟨w.heap.size + 1, 0, none⟩ = some (.int .i64 x2) ∧ W'.cell? ⟨w.heap.size + 1, 1, none⟩ = some (.int .i64 x3) ∧ W'.cell? ⟨w.heap.size + 1 + 1, 0, none⟩ = some (.int .i64 x4) ∧ W'.cell? ⟨w.heap.size + 1 + 1, 1, none⟩ = some (.int .i64 x5)) := by
    intro W' hW
    have f0_0 : W'.cell? ⟨w.heap.size, 0, none⟩ = some (.int .i64 x0) := (hW.cell (p := ⟨w.heap.size, 0, none⟩) (by show w.heap.size < _; omega)).trans (by rw [hwB]; go_cell)
    have f0_1 : W'.cell? ⟨w.heap.size, 1, none⟩ = some (.int .i64 x1) := (hW.cell (p := ⟨w.heap.size, 1, none⟩) (by show w.heap.size < _; omega)).trans (by rw [hwB]; go_cell)
    have f1_0 : W'.cell? ⟨w.heap.size + 1, 0, none⟩ = some (.int .i64 x2) := (hW.cell (p := ⟨w.heap.size + 1, 0, none⟩) (by show w.heap.size + 1 < _; omega)).trans (by rw [hwB]; go_cell)
    have f1_1 : W'.cell? ⟨w.heap.size + 1, 1, none⟩ = some (.int .i64 x3) := (hW.cell (p := ⟨w.heap.size + 1, 1, none⟩) (by show w.heap.size + 1 < _; omega)).trans (by rw [hwB]; go_cell)
    have f2_0 : W'.cell? ⟨w.heap.size + 1 + 1, 0, none⟩ = some (.int .i64 x4) := (hW.cell (p := ⟨w.heap.size + 1 + 1, 0, none⟩) (by show w.heap.size + 1 + 1 < _; omega)).trans (by rw [hwB]; go_cell)
    have f2_1 : W'.cell? ⟨w.heap.size + 1 + 1, 1, none⟩ = some (.int .i64 x5) := (hW.cell (p := ⟨w.heap.size + 1 + 1, 1, none⟩) (by show w.heap.size + 1 + 1 < _; omega)).trans (by rw [hwB]; go_cell)
    exact ⟨f0_0, f0_1, f1_0, f1_1, f2_0, f2_1⟩
  clear hwB hs
  go_cut [7, 8] (fun v7 v8 wx => ∃ Gs : Nat, v7 = .pointer (some ⟨Gs, 0, none⟩) ∧ v8 = .int .i64 c ∧ Bk2 wx Gs X Y ∧ Below wB.heap.size wB wx)
  case first =>
    refine wp_region_held_drew (S := fun W => Below wB.heap.size wB W) (by kernel_rfl) ?_ (fun hHeld => ?_); focus ((try dsimp only); exact (Below.refl _ _).drew)
    have hHeld : Below wB.heap.size wB _ := hHeld
    obtain ⟨wD, hwD⟩ : ∃ wD, wB.drew = wD := ⟨_, rfl⟩
    rw [hwD] at hHeld ⊢
    clear hwD
    (refine wpAnyH_take (i := 0) (v := ?_) rfl (by kernel_rfl) (by kernel_rfl) (by kernel_rfl) (fun _ _ _ h => h) (Or.inl ⟨rfl, ?_⟩) (by assumption) ?_; rotate_left; focus (intro W hSw; (try dsimp only at hSw); obtain ⟨p0, p1, p2, p3, p4, p5⟩ := HK.out _ hSw; go_simp; try (with_reducible rfl))); (try simp only [Act.put, List.getElem_toArray, List.getElem_cons_succ, List.getElem_cons_zero, List.setIfInBounds_toArray, List.set_cons_zero, List.set_cons_succ])
    (refine wpAnyH_take (i := 2) (v := ?_) rfl (by kernel_rfl) (by kernel_rfl) (by kernel_rfl) (fun _ _ _ h => h) (Or.inl ⟨rfl, ?_⟩) (by assumption) ?_; rotate_left; focus (intro W hSw; (try dsimp only at hSw); obtain ⟨p0, p1, p2, p3, p4, p5⟩ := HK.out _ hSw; go_simp; try (with_reducible rfl))); (try simp only [Act.put, List.getElem_toArray, List.getElem_cons_succ, List.getElem_cons_zero, List.setIfInBounds_toArray, List.set_cons_zero, List.set_cons_succ])
    (refine wpAnyH_take (i := 4) (v := ?_) rfl (by kernel_rfl) (by kernel_rfl) (by kernel_rfl) (fun _ _ _ h => h) (Or.inl ⟨rfl, ?_⟩) (by assumption) ?_; rotate_left; focus (intro W hSw; (try dsimp only at hSw); obtain ⟨p0, p1, p2, p3, p4, p5⟩ := HK.out _ hSw; go_simp; try (with_reducible rfl))); (try simp only [Act.put, List.getElem_toArray, List.getElem_cons_succ, List.getElem_cons_zero, List.setIfInBounds_toArray, List.set_cons_zero, List.set_cons_succ])
    refine wpAnyH_ready (rs := [1, 10]) (by kernel_rfl) (by simp) ?_; refine AllReadyH.cons rfl (fun K hK => ?_) (AllReadyH.cons rfl (fun K hK => ?_) AllReadyH.nil)
    · skip
      go_simp; (go_at_call 14; refine (toPoint_any _ _ _).mono ?_; rintro en yw0 ⟨rfl, hb2⟩); refine hK.out _ _ (below_after hb2 hHeld) (fun hHeld2 => ?_); clear hb2; (clear hHeld; rename _ => hHeld; clear hK K; have hHeld : Below wB.heap.size wB _ := hHeld); (try simp only [Act.put, List.getElem_toArray, List.getElem_cons_succ, List.getElem_cons_zero, List.setIfInBounds_toArray, List.set_cons_zero, List.set_cons_succ])
      refine wpAnyH_ready (rs := [3, 10]) (by kernel_rfl) (by simp) ?_; refine AllReadyH.cons rfl (fun K hK => ?_) (AllReadyH.cons rfl (fun K hK => ?_) AllReadyH.nil)
      · skip
        go_simp; (go_at_call 14; refine (toPoint_any _ _ _).mono ?_; rintro en yw1 ⟨rfl, hb2⟩); refine hK.out _ _ (below_after hb2 hHeld) (fun hHeld2 => ?_); clear hb2; (clear hHeld; rename _ => hHeld; clear hK K; have hHeld : Below wB.heap.size wB _ := hHeld); (try simp only [Act.put, List.getElem_toArray, List.getElem_cons_succ, List.getElem_cons_zero, List.setIfInBounds_toArray, List.set_cons_zero, List.set_cons_succ])
        refine wpAnyH_ready (rs := [5, 10]) (by kernel_rfl) (by simp) ?_; refine AllReadyH.cons rfl (fun K hK => ?_) (AllReadyH.cons rfl (fun K hK => ?_) AllReadyH.nil)
        · skip
          go_simp; (go_at_call 14; refine (toPoint_any _ _ _).mono ?_; rintro en yw2 ⟨rfl, hb2⟩); refine hK.out _ _ (below_after hb2 hHeld) (fun hHeld2 => ?_); clear hb2; (clear hHeld; rename _ => hHeld; clear hK K; have hHeld : Below wB.heap.size wB _ := hHeld); (try simp only [Act.put, List.getElem_toArray, List.getElem_cons_succ, List.getElem_cons_zero, List.setIfInBounds_toArray, List.set_cons_zero, List.set_cons_succ])
          refine wpAnyH_ready (rs := [6, 10]) (by kernel_rfl) (by simp) ?_; refine AllReadyH.cons rfl (fun K hK => ?_) (AllReadyH.cons rfl (fun K hK => ?_) AllReadyH.nil)
          · skip
            go_simp; (go_at_call 21; refine (HS.out _).mono ?_; rintro en yw3 ⟨rfl, hb2⟩); refine hK.out _ _ (below_after hb2 hHeld) (fun hHeld2 => ?_); clear hb2; (clear hHeld; rename _ => hHeld; clear hK K; have hHeld : Below wB.heap.size wB _ := hHeld); (try simp only [Act.put, List.getElem_toArray, List.getElem_cons_succ, List.getElem_cons_zero, List.setIfInBounds_toArray, List.set_cons_zero, List.set_cons_succ])
            (refine wpAnyH_take (i := 7) (v := ?_) rfl (by kernel_rfl) (by kernel_rfl) (by kernel_rfl) (fun _ _ _ h => h) (Or.inl ⟨rfl, ?_⟩) (by assumption) ?_; rotate_left; focus (intro W hSw; (try dsimp only at hSw); obtain ⟨p0, p1, p2, p3, p4, p5⟩ := HK.out _ hSw; go_simp; try (with_reducible rfl))); (try simp only [Act.put, List.getElem_toArray, List.getElem_cons_succ, List.getElem_cons_zero, List.setIfInBounds_toArray, List.set_cons_zero, List.set_cons_succ])
            (refine wpAnyH_take (i := 8) (v := ?_) rfl (by kernel_rfl) (by kernel_rfl) (by kernel_rfl) (fun _ _ _ h => h) (Or.inl ⟨rfl, ?_⟩) (by assumption) ?_; rotate_left; focus (intro W hSw; (try dsimp only at hSw); obtain ⟨p0, p1, p2, p3, p4, p5⟩ := HK.out _ hSw; go_simp; try (with_reducible rfl))); (try simp only [Act.put, List.getElem_toArray, List.getElem_cons_succ, List.getElem_cons_zero, List.setIfInBounds_toArray, List.set_cons_zero, List.set_cons_succ])
            (refine wpAnyH_take (i := 9) (v := ?_) rfl (by kernel_rfl) (by kernel_rfl) (by kernel_rfl) (fun _ _ _ h => h) (Or.inl ⟨rfl, ?_⟩) (by assumption) ?_; rotate_left; focus (intro W hSw; (try dsimp only at hSw); obtain ⟨p0, p1, p2, p3, p4, p5⟩ := HK.out _ hSw; go_simp; try (with_reducible rfl))); (try simp only [Act.put, List.getElem_toArray, List.getElem_cons_succ, List.getElem_cons_zero, List.setIfInBounds_toArray, List.set_cons_zero, List.set_cons_succ])
            refine wpAnyH_ready (rs := [10]) (by kernel_rfl) (by simp) ?_; refine AllReadyH.cons rfl (fun K hK => ?_) AllReadyH.nil
            go_simp; obtain ⟨Gs, hGs⟩ : ∃ G, yw3.heap.size = G := ⟨_, rfl⟩; have le_s : wB.heap.size ≤ Gs := by rw [← hGs]; exact Below.size hHeld
            have Hs : Hid (Bk2 (yw3.alloc (.cells #[.int .i64 0, .int .i64 0] 25)) Gs 0 0) := by rw [← hGs]; exact bk2_new yw3 0 0 _
            refine hK.out _ _ (Below.alloc hHeld (Below.size hHeld) _) (fun hHeld2 => ?_); (clear hHeld; rename _ => hHeld; clear hK K; have hHeld : Below wB.heap.size wB _ := hHeld); (try simp only [Act.put, List.getElem_toArray, List.getElem_cons_succ, List.getElem_cons_zero, List.setIfInBounds_toArray, List.set_cons_zero, List.set_cons_succ])
            rw [hGs]; clear hGs; obtain ⟨yw4, hwx⟩ : ∃ wx, yw3.alloc (.cells #[.int .i64 0, .int .i64 0] 25) = wx := ⟨_, rfl⟩; rw [hwx] at Hs hHeld ⊢; clear hwx
            refine wpAnyH_ready (rs := [11]) (by kernel_rfl) (by simp) ?_; refine AllReadyH.cons rfl (fun K hK => ?_) AllReadyH.nil
            obtain ⟨⟨a0, a1⟩, ⟨f0, f1⟩, az⟩ := Hs.out; go_simp; clear a0 f0 a1 f1 az
            have Hs := Lib.hid ((Hs.out.set0 X).set1 Y)
            refine hK.out _ _ (Below.setCell (Below.setCell hHeld (p := ⟨Gs, 0, none⟩) le_s _) (p := ⟨Gs, 1, none⟩) le_s _) (fun hHeld2 => ?_); (clear hHeld; rename _ => hHeld; clear hK K; have hHeld : Below wB.heap.size wB _ := hHeld); (try simp only [Act.put, List.getElem_toArray, List.getElem_cons_succ, List.getElem_cons_zero, List.setIfInBounds_toArray, List.set_cons_zero, List.set_cons_succ])
            obtain ⟨yw5, hwx⟩ : ∃ wx, (yw4.setCell ⟨Gs, 0, none⟩ (.int .i64 X)).setCell ⟨Gs, 1, none⟩ (.int .i64 Y) = wx := ⟨_, rfl⟩; rw [hwx] at Hs hHeld ⊢; clear hwx
            (refine wpAnyH_take (i := 12) (v := ?_) rfl (by kernel_rfl) (by kernel_rfl) (by kernel_rfl) (fun _ _ _ h => h) (Or.inl ⟨rfl, ?_⟩) (by assumption) ?_; rotate_left; focus (intro W hSw; (try dsimp only at hSw); obtain ⟨p0, p1, p2, p3, p4, p5⟩ := HK.out _ hSw; go_simp; try (with_reducible rfl))); (try simp only [Act.put, List.getElem_toArray, List.getElem_cons_succ, List.getElem_cons_zero, List.setIfInBounds_toArray, List.set_cons_zero, List.set_cons_succ])
            refine wpAnyH_done (by kernel_rfl) ?_ _
            go_wp2_with fail
            go_meet
            exact ⟨Gs, rfl, rfl, Hs.out, hHeld⟩
          · skip
            go_simp; obtain ⟨Gs, hGs⟩ : ∃ G, yw2.heap.size = G := ⟨_, rfl⟩; have le_s : wB.heap.size ≤ Gs := by rw [← hGs]; exact Below.size hHeld
            have Hs : Hid (Bk2 (yw2.alloc (.cells #[.int .i64 0, .int .i64 0] 25)) Gs 0 0) := by rw [← hGs]; exact bk2_new yw2 0 0 _
            refine hK.out _ _ (Below.alloc hHeld (Below.size hHeld) _) (fun hHeld2 => ?_); (clear hHeld; rename _ => hHeld; clear hK K; have hHeld : Below wB.heap.size wB _ := hHeld); (try simp only [Act.put, List.getElem_toArray, List.getElem_cons_succ, List.getElem_cons_zero, List.setIfInBounds_toArray, List.set_cons_zero, List.set_cons_succ])
            rw [hGs]; clear hGs; obtain ⟨yw3, hwx⟩ : ∃ wx, yw2.alloc (.cells #[.int .i64 0, .int .i64 0] 25) = wx := ⟨_, rfl⟩; rw [hwx] at Hs hHeld ⊢; clear hwx
            refine wpAnyH_ready (rs := [6]) (by kernel_rfl) (by simp) ?_; refine AllReadyH.cons rfl (fun K hK => ?_) AllReadyH.nil
            go_simp; (go_at_call 21; refine (HS.out _).mono ?_; rintro en yw4 ⟨rfl, hb2⟩); have Hs := Lib.hid (Hs.out.below hb2); refine hK.out _ _ (below_after hb2 hHeld) (fun hHeld2 => ?_); clear hb2; (clear hHeld; rename _ => hHeld; clear hK K; have hHeld : Below wB.heap.size wB _ := hHeld); (try simp only [Act.put, List.getElem_toArray, List.getElem_cons_succ, List.getElem_cons_zero, List.setIfInBounds_toArray, List.set_cons_zero, List.set_cons_succ])
            (refine wpAnyH_take (i := 7) (v := ?_) rfl (by kernel_rfl) (by kernel_rfl) (by kernel_rfl) (fun _ _ _ h => h) (Or.inl ⟨rfl, ?_⟩) (by assumption) ?_; rotate_left; focus (intro W hSw; (try dsimp only at hSw); obtain ⟨p0, p1, p2, p3, p4, p5⟩ := HK.out _ hSw; go_simp; try (with_reducible rfl))); (try simp only [Act.put, List.getElem_toArray, List.getElem_cons_succ, List.getElem_cons_zero, List.setIfInBounds_toArray, List.set_cons_zero, List.set_cons_succ])
            (refine wpAnyH_take (i := 8) (v := ?_) rfl (by kernel_rfl) (by kernel_rfl) (by kernel_rfl) (fun _ _ _ h => h) (Or.inl ⟨rfl, ?_⟩) (by assumption) ?_; rotate_left; focus (intro W hSw; (try dsimp only at hSw); obtain ⟨p0, p1, p2, p3, p4, p5⟩ := HK.out _ hSw; go_simp; try (with_reducible rfl))); (try simp only [Act.put, List.getElem_toArray, List.getElem_cons_succ, List.getElem_cons_zero, List.setIfInBounds_toArray, List.set_cons_zero, List.set_cons_succ])
            (refine wpAnyH_take (i := 9) (v := ?_) rfl (by kernel_rfl) (by kernel_rfl) (by kernel_rfl) (fun _ _ _ h => h) (Or.inl ⟨rfl, ?_⟩) (by assumption) ?_; rotate_left; focus (intro W hSw; (try dsimp only at hSw); obtain ⟨p0, p1, p2, p3, p4, p5⟩ := HK.out _ hSw; go_simp; try (with_reducible rfl))); (try simp only [Act.put, List.getElem_toArray, List.getElem_cons_succ, List.getElem_cons_zero, List.setIfInBounds_toArray, List.set_cons_zero, List.set_cons_succ])
            refine wpAnyH_ready (rs := [11]) (by kernel_rfl) (by simp) ?_; refine AllReadyH.cons rfl (fun K hK => ?_) AllReadyH.nil
            obtain ⟨⟨a0, a1⟩, ⟨f0, f1⟩, az⟩ := Hs.out; go_simp; clear a0 f0 a1 f1 az
            have Hs := Lib.hid ((Hs.out.set0 X).set1 Y)
            refine hK.out _ _ (Below.setCell (Below.setCell hHeld (p := ⟨Gs, 0, none⟩) le_s _) (p := ⟨Gs, 1, none⟩) le_s _) (fun hHeld2 => ?_); (clear hHeld; rename _ => hHeld; clear hK K; have hHeld : Below wB.heap.size wB _ := hHeld); (try simp only [Act.put, List.getElem_toArray, List.getElem_cons_succ, List.getElem_cons_zero, List.setIfInBounds_toArray, List.set_cons_zero, List.set_cons_succ])
            obtain ⟨yw5, hwx⟩ : ∃ wx, (yw4.setCell ⟨Gs, 0, none⟩ (.int .i64 X)).setCell ⟨Gs, 1, none⟩ (.int .i64 Y) = wx := ⟨_, rfl⟩; rw [hwx] at Hs hHeld ⊢; clear hwx
            (refine wpAnyH_take (i := 12) (v := ?_) rfl (by kernel_rfl) (by kernel_rfl) (by kernel_rfl) (fun _ _ _ h => h) (Or.inl ⟨rfl, ?_⟩) (by assumption) ?_; rotate_left; focus (intro W hSw; (try dsimp only at hSw); obtain ⟨p0, p1, p2, p3, p4, p5⟩ := HK.out _ hSw; go_simp; try (with_reducible rfl))); (try simp only [Act.put, List.getElem_toArray, List.getElem_cons_succ, List.getElem_cons_zero, List.setIfInBounds_toArray, List.set_cons_zero, List.set_cons_succ])
            refine wpAnyH_done (by kernel_rfl) ?_ _
            go_wp2_with fail
            go_meet
            exact ⟨Gs, rfl, rfl, Hs.out, hHeld⟩
        · skip
          go_simp; obtain ⟨Gs, hGs⟩ : ∃ G, yw1.heap.size = G := ⟨_, rfl⟩; have le_s : wB.heap.size ≤ Gs := by rw [← hGs]; exact Below.size hHeld
          have Hs : Hid (Bk2 (yw1.alloc (.cells #[.int .i64 0, .int .i64 0] 25)) Gs 0 0) := by rw [← hGs]; exact bk2_new yw1 0 0 _
          refine hK.out _ _ (Below.alloc hHeld (Below.size hHeld) _) (fun hHeld2 => ?_); (clear hHeld; rename _ => hHeld; clear hK K; have hHeld : Below wB.heap.size wB _ := hHeld); (try simp only [Act.put, List.getElem_toArray, List.getElem_cons_succ, List.getElem_cons_zero, List.setIfInBounds_toArray, List.set_cons_zero, List.set_cons_succ])
          rw [hGs]; clear hGs; obtain ⟨yw2, hwx⟩ : ∃ wx, yw1.alloc (.cells #[.int .i64 0, .int .i64 0] 25) = wx := ⟨_, rfl⟩; rw [hwx] at Hs hHeld ⊢; clear hwx
          refine wpAnyH_ready (rs := [5]) (by kernel_rfl) (by simp) ?_; refine AllReadyH.cons rfl (fun K hK => ?_) AllReadyH.nil
          go_simp; (go_at_call 14; refine (toPoint_any _ _ _).mono ?_; rintro en yw3 ⟨rfl, hb2⟩); have Hs := Lib.hid (Hs.out.below hb2); refine hK.out _ _ (below_after hb2 hHeld) (fun hHeld2 => ?_); clear hb2; (clear hHeld; rename _ => hHeld; clear hK K; have hHeld : Below wB.heap.size wB _ := hHeld); (try simp only [Act.put, List.getElem_toArray, List.getElem_cons_succ, List.getElem_cons_zero, List.setIfInBounds_toArray, List.set_cons_zero, List.set_cons_succ])
          refine wpAnyH_ready (rs := [6]) (by kernel_rfl) (by simp) ?_; refine AllReadyH.cons rfl (fun K hK => ?_) AllReadyH.nil
          go_simp; (go_at_call 21; refine (HS.out _).mono ?_; rintro en yw4 ⟨rfl, hb2⟩); have Hs := Lib.hid (Hs.out.below hb2); refine hK.out _ _ (below_after hb2 hHeld) (fun hHeld2 => ?_); clear hb2; (clear hHeld; rename _ => hHeld; clear hK K; have hHeld : Below wB.heap.size wB _ := hHeld); (try simp only [Act.put, List.getElem_toArray, List.getElem_cons_succ, List.getElem_cons_zero, List.setIfInBounds_toArray, List.set_cons_zero, List.set_cons_succ])
          (refine wpAnyH_take (i := 7) (v := ?_) rfl (by kernel_rfl) (by kernel_rfl) (by kernel_rfl) (fun _ _ _ h => h) (Or.inl ⟨rfl, ?_⟩) (by assumption) ?_; rotate_left; focus (intro W hSw; (try dsimp only at hSw); obtain ⟨p0, p1, p2, p3, p4, p5⟩ := HK.out _ hSw; go_simp; try (with_reducible rfl))); (try simp only [Act.put, List.getElem_toArray, List.getElem_cons_succ, List.getElem_cons_zero, List.setIfInBounds_toArray, List.set_cons_zero, List.set_cons_succ])
          (refine wpAnyH_take (i := 8) (v := ?_) rfl (by kernel_rfl) (by kernel_rfl) (by kernel_rfl) (fun _ _ _ h => h) (Or.inl ⟨rfl, ?_⟩) (by assumption) ?_; rotate_left; focus (intro W hSw; (try dsimp only at hSw); obtain ⟨p0, p1, p2, p3, p4, p5⟩ := HK.out _ hSw; go_simp; try (with_reducible rfl))); (try simp only [Act.put, List.getElem_toArray, List.getElem_cons_succ, List.getElem_cons_zero, List.setIfInBounds_toArray, List.set_cons_zero, List.set_cons_succ])
          (refine wpAnyH_take (i := 9) (v := ?_) rfl (by kernel_rfl) (by kernel_rfl) (by kernel_rfl) (fun _ _ _ h => h) (Or.inl ⟨rfl, ?_⟩) (by assumption) ?_; rotate_left; focus (intro W hSw; (try dsimp only at hSw); obtain ⟨p0, p1, p2, p3, p4, p5⟩ := HK.out _ hSw; go_simp; try (with_reducible rfl))); (try simp only [Act.put, List.getElem_toArray, List.getElem_cons_succ, List.getElem_cons_zero, List.setIfInBounds_toArray, List.set_cons_zero, List.set_cons_succ])
          refine wpAnyH_ready (rs := [11]) (by kernel_rfl) (by simp) ?_; refine AllReadyH.cons rfl (fun K hK => ?_) AllReadyH.nil
          obtain ⟨⟨a0, a1⟩, ⟨f0, f1⟩, az⟩ := Hs.out; go_simp; clear a0 f0 a1 f1 az
          have Hs := Lib.hid ((Hs.out.set0 X).set1 Y)
          refine hK.out _ _ (Below.setCell (Below.setCell hHeld (p := ⟨Gs, 0, none⟩) le_s _) (p := ⟨Gs, 1, none⟩) le_s _) (fun hHeld2 => ?_); (clear hHeld; rename _ => hHeld; clear hK K; have hHeld : Below wB.heap.size wB _ := hHeld); (try simp only [Act.put, List.getElem_toArray, List.getElem_cons_succ, List.getElem_cons_zero, List.setIfInBounds_toArray, List.set_cons_zero, List.set_cons_succ])
          obtain ⟨yw5, hwx⟩ : ∃ wx, (yw4.setCell ⟨Gs, 0, none⟩ (.int .i64 X)).setCell ⟨Gs, 1, none⟩ (.int .i64 Y) = wx := ⟨_, rfl⟩; rw [hwx] at Hs hHeld ⊢; clear hwx
          (refine wpAnyH_take (i := 12) (v := ?_) rfl (by kernel_rfl) (by kernel_rfl) (by kernel_rfl) (fun _ _ _ h => h) (Or.inl ⟨rfl, ?_⟩) (by assumption) ?_; rotate_left; focus (intro W hSw; (try dsimp only at hSw); obtain ⟨p0, p1, p2, p3, p4, p5⟩ := HK.out _ hSw; go_simp; try (with_reducible rfl))); (try simp only [Act.put, List.getElem_toArray, List.getElem_cons_succ, List.getElem_cons_zero, List.setIfInBounds_toArray, List.set_cons_zero, List.set_cons_succ])
          refine wpAnyH_done (by kernel_rfl) ?_ _
          go_wp2_with fail
          go_meet
          exact ⟨Gs, rfl, rfl, Hs.out, hHeld⟩
      · skip
        go_simp; obtain ⟨Gs, hGs⟩ : ∃ G, yw0.heap.size = G := ⟨_, rfl⟩; have le_s : wB.heap.size ≤ Gs := by rw [← hGs]; exact Below.size hHeld
        have Hs : Hid (Bk2 (yw0.alloc (.cells #[.int .i64 0, .int .i64 0] 25)) Gs 0 0) := by rw [← hGs]; exact bk2_new yw0 0 0 _
        refine hK.out _ _ (Below.alloc hHeld (Below.size hHeld) _) (fun hHeld2 => ?_); (clear hHeld; rename _ => hHeld; clear hK K; have hHeld : Below wB.heap.size wB _ := hHeld); (try simp only [Act.put, List.getElem_toArray, List.getElem_cons_succ, List.getElem_cons_zero, List.setIfInBounds_toArray, List.set_cons_zero, List.set_cons_succ])
        rw [hGs]; clear hGs; obtain ⟨yw1, hwx⟩ : ∃ wx, yw0.alloc (.cells #[.int .i64 0, .int .i64 0] 25) = wx := ⟨_, rfl⟩; rw [hwx] at Hs hHeld ⊢; clear hwx
        refine wpAnyH_ready (rs := [3]) (by kernel_rfl) (by simp) ?_; refine AllReadyH.cons rfl (fun K hK => ?_) AllReadyH.nil
        go_simp; (go_at_call 14; refine (toPoint_any _ _ _).mono ?_; rintro en yw2 ⟨rfl, hb2⟩); have Hs := Lib.hid (Hs.out.below hb2); refine hK.out _ _ (below_after hb2 hHeld) (fun hHeld2 => ?_); clear hb2; (clear hHeld; rename _ => hHeld; clear hK K; have hHeld : Below wB.heap.size wB _ := hHeld); (try simp only [Act.put, List.getElem_toArray, List.getElem_cons_succ, List.getElem_cons_zero, List.setIfInBounds_toArray, List.set_cons_zero, List.set_cons_succ])
        refine wpAnyH_ready (rs := [5]) (by kernel_rfl) (by simp) ?_; refine AllReadyH.cons rfl (fun K hK => ?_) AllReadyH.nil
        go_simp; (go_at_call 14; refine (toPoint_any _ _ _).mono ?_; rintro en yw3 ⟨rfl, hb2⟩); have Hs := Lib.hid (Hs.out.below hb2); refine hK.out _ _ (below_after hb2 hHeld) (fun hHeld2 => ?_); clear hb2; (clear hHeld; rename _ => hHeld; clear hK K; have hHeld : Below wB.heap.size wB _ := hHeld); (try simp only [Act.put, List.getElem_toArray, List.getElem_cons_succ, List.getElem_cons_zero, List.setIfInBounds_toArray, List.set_cons_zero, List.set_cons_succ])
        refine wpAnyH_ready (rs := [6]) (by kernel_rfl) (by simp) ?_; refine AllReadyH.cons rfl (fun K hK => ?_) AllReadyH.nil
        go_simp; (go_at_call 21; refine (HS.out _).mono ?_; rintro en yw4 ⟨rfl, hb2⟩); have Hs := Lib.hid (Hs.out.below hb2); refine hK.out _ _ (below_after hb2 hHeld) (fun hHeld2 => ?_); clear hb2; (clear hHeld; rename _ => hHeld; clear hK K; have hHeld : Below wB.heap.size wB _ := hHeld); (try simp only [Act.put, List.getElem_toArray, List.getElem_cons_succ, List.getElem_cons_zero, List.setIfInBounds_toArray, List.set_cons_zero, List.set_cons_succ])
        (refine wpAnyH_take (i := 7) (v := ?_) rfl (by kernel_rfl) (by kernel_rfl) (by kernel_rfl) (fun _ _ _ h => h) (Or.inl ⟨rfl, ?_⟩) (by assumption) ?_; rotate_left; focus (intro W hSw; (try dsimp only at hSw); obtain ⟨p0, p1, p2, p3, p4, p5⟩ := HK.out _ hSw; go_simp; try (with_reducible rfl))); (try simp only [Act.put, List.getElem_toArray, List.getElem_cons_succ, List.getElem_cons_zero, List.setIfInBounds_toArray, List.set_cons_zero, List.set_cons_succ])
        (refine wpAnyH_take (i := 8) (v := ?_) rfl (by kernel_rfl) (by kernel_rfl) (by kernel_rfl) (fun _ _ _ h => h) (Or.inl ⟨rfl, ?_⟩) (by assumption) ?_; rotate_left; focus (intro W hSw; (try dsimp only at hSw); obtain ⟨p0, p1, p2, p3, p4, p5⟩ := HK.out _ hSw; go_simp; try (with_reducible rfl))); (try simp only [Act.put, List.getElem_toArray, List.getElem_cons_succ, List.getElem_cons_zero, List.setIfInBounds_toArray, List.set_cons_zero, List.set_cons_succ])
        (refine wpAnyH_take (i := 9) (v := ?_) rfl (by kernel_rfl) (by kernel_rfl) (by kernel_rfl) (fun _ _ _ h => h) (Or.inl ⟨rfl, ?_⟩) (by assumption) ?_; rotate_left; focus (intro W hSw; (try dsimp only at hSw); obtain ⟨p0, p1, p2, p3, p4, p5⟩ := HK.out _ hSw; go_simp; try (with_reducible rfl))); (try simp only [Act.put, List.getElem_toArray, List.getElem_cons_succ, List.getElem_cons_zero, List.setIfInBounds_toArray, List.set_cons_zero, List.set_cons_succ])
        refine wpAnyH_ready (rs := [11]) (by kernel_rfl) (by simp) ?_; refine AllReadyH.cons rfl (fun K hK => ?_) AllReadyH.nil
        obtain ⟨⟨a0, a1⟩, ⟨f0, f1⟩, az⟩ := Hs.out; go_simp; clear a0 f0 a1 f1 az
        have Hs := Lib.hid ((Hs.out.set0 X).set1 Y)
        refine hK.out _ _ (Below.setCell (Below.setCell hHeld (p := ⟨Gs, 0, none⟩) le_s _) (p := ⟨Gs, 1, none⟩) le_s _) (fun hHeld2 => ?_); (clear hHeld; rename _ => hHeld; clear hK K; have hHeld : Below wB.heap.size wB _ := hHeld); (try simp only [Act.put, List.getElem_toArray, List.getElem_cons_succ, List.getElem_cons_zero, List.setIfInBounds_toArray, List.set_cons_zero, List.set_cons_succ])
        obtain ⟨yw5, hwx⟩ : ∃ wx, (yw4.setCell ⟨Gs, 0, none⟩ (.int .i64 X)).setCell ⟨Gs, 1, none⟩ (.int .i64 Y) = wx := ⟨_, rfl⟩; rw [hwx] at Hs hHeld ⊢; clear hwx
        (refine wpAnyH_take (i := 12) (v := ?_) rfl (by kernel_rfl) (by kernel_rfl) (by kernel_rfl) (fun _ _ _ h => h) (Or.inl ⟨rfl, ?_⟩) (by assumption) ?_; rotate_left; focus (intro W hSw; (try dsimp only at hSw); obtain ⟨p0, p1, p2, p3, p4, p5⟩ := HK.out _ hSw; go_simp; try (with_reducible rfl))); (try simp only [Act.put, List.getElem_toArray, List.getElem_cons_succ, List.getElem_cons_zero, List.setIfInBounds_toArray, List.set_cons_zero, List.set_cons_succ])
        refine wpAnyH_done (by kernel_rfl) ?_ _
        go_wp2_with fail
        go_meet
        exact ⟨Gs, rfl, rfl, Hs.out, hHeld⟩
    · skip
      go_simp; obtain ⟨Gs, hGs⟩ : ∃ G, wD.heap.size = G := ⟨_, rfl⟩; have le_s : wB.heap.size ≤ Gs := by rw [← hGs]; exact Below.size hHeld
      have Hs : Hid (Bk2 (wD.alloc (.cells #[.int .i64 0, .int .i64 0] 25)) Gs 0 0) := by rw [← hGs]; exact bk2_new wD 0 0 _
      refine hK.out _ _ (Below.alloc hHeld (Below.size hHeld) _) (fun hHeld2 => ?_); (clear hHeld; rename _ => hHeld; clear hK K; have hHeld : Below wB.heap.size wB _ := hHeld); (try simp only [Act.put, List.getElem_toArray, List.getElem_cons_succ, List.getElem_cons_zero, List.setIfInBounds_toArray, List.set_cons_zero, List.set_cons_succ])
      rw [hGs]; clear hGs; obtain ⟨yw0, hwx⟩ : ∃ wx, wD.alloc (.cells #[.int .i64 0, .int .i64 0] 25) = wx := ⟨_, rfl⟩; rw [hwx] at Hs hHeld ⊢; clear hwx
      refine wpAnyH_ready (rs := [1]) (by kernel_rfl) (by simp) ?_; refine AllReadyH.cons rfl (fun K hK => ?_) AllReadyH.nil
      go_simp; (go_at_call 14; refine (toPoint_any _ _ _).mono ?_; rintro en yw1 ⟨rfl, hb2⟩); have Hs := Lib.hid (Hs.out.below hb2); refine hK.out _ _ (below_after hb2 hHeld) (fun hHeld2 => ?_); clear hb2; (clear hHeld; rename _ => hHeld; clear hK K; have hHeld : Below wB.heap.size wB _ := hHeld); (try simp only [Act.put, List.getElem_toArray, List.getElem_cons_succ, List.getElem_cons_zero, List.setIfInBounds_toArray, List.set_cons_zero, List.set_cons_succ])
      refine wpAnyH_ready (rs := [3]) (by kernel_rfl) (by simp) ?_; refine AllReadyH.cons rfl (fun K hK => ?_) AllReadyH.nil
      go_simp; (go_at_call 14; refine (toPoint_any _ _ _).mono ?_; rintro en yw2 ⟨rfl, hb2⟩); have Hs := Lib.hid (Hs.out.below hb2); refine hK.out _ _ (below_after hb2 hHeld) (fun hHeld2 => ?_); clear hb2; (clear hHeld; rename _ => hHeld; clear hK K; have hHeld : Below wB.heap.size wB _ := hHeld); (try simp only [Act.put, List.getElem_toArray, List.getElem_cons_succ, List.getElem_cons_zero, List.setIfInBounds_toArray, List.set_cons_zero, List.set_cons_succ])
      refine wpAnyH_ready (rs := [5]) (by kernel_rfl) (by simp) ?_; refine AllReadyH.cons rfl (fun K hK => ?_) AllReadyH.nil
      go_simp; (go_at_call 14; refine (toPoint_any _ _ _).mono ?_; rintro en yw3 ⟨rfl, hb2⟩); have Hs := Lib.hid (Hs.out.below hb2); refine hK.out _ _ (below_after hb2 hHeld) (fun hHeld2 => ?_); clear hb2; (clear hHeld; rename _ => hHeld; clear hK K; have hHeld : Below wB.heap.size wB _ := hHeld); (try simp only [Act.put, List.getElem_toArray, List.getElem_cons_succ, List.getElem_cons_zero, List.setIfInBounds_toArray, List.set_cons_zero, List.set_cons_succ])
      refine wpAnyH_ready (rs := [6]) (by kernel_rfl) (by simp) ?_; refine AllReadyH.cons rfl (fun K hK => ?_) AllReadyH.nil
      go_simp; (go_at_call 21; refine (HS.out _).mono ?_; rintro en yw4 ⟨rfl, hb2⟩); have Hs := Lib.hid (Hs.out.below hb2); refine hK.out _ _ (below_after hb2 hHeld) (fun hHeld2 => ?_); clear hb2; (clear hHeld; rename _ => hHeld; clear hK K; have hHeld : Below wB.heap.size wB _ := hHeld); (try simp only [Act.put, List.getElem_toArray, List.getElem_cons_succ, List.getElem_cons_zero, List.setIfInBounds_toArray, List.set_cons_zero, List.set_cons_succ])
      (refine wpAnyH_take (i := 7) (v := ?_) rfl (by kernel_rfl) (by kernel_rfl) (by kernel_rfl) (fun _ _ _ h => h) (Or.inl ⟨rfl, ?_⟩) (by assumption) ?_; rotate_left; focus (intro W hSw; (try dsimp only at hSw); obtain ⟨p0, p1, p2, p3, p4, p5⟩ := HK.out _ hSw; go_simp; try (with_reducible rfl))); (try simp only [Act.put, List.getElem_toArray, List.getElem_cons_succ, List.getElem_cons_zero, List.setIfInBounds_toArray, List.set_cons_zero, List.set_cons_succ])
      (refine wpAnyH_take (i := 8) (v := ?_) rfl (by kernel_rfl) (by kernel_rfl) (by kernel_rfl) (fun _ _ _ h => h) (Or.inl ⟨rfl, ?_⟩) (by assumption) ?_; rotate_left; focus (intro W hSw; (try dsimp only at hSw); obtain ⟨p0, p1, p2, p3, p4, p5⟩ := HK.out _ hSw; go_simp; try (with_reducible rfl))); (try simp only [Act.put, List.getElem_toArray, List.getElem_cons_succ, List.getElem_cons_zero, List.setIfInBounds_toArray, List.set_cons_zero, List.set_cons_succ])
      (refine wpAnyH_take (i := 9) (v := ?_) rfl (by kernel_rfl) (by kernel_rfl) (by kernel_rfl) (fun _ _ _ h => h) (Or.inl ⟨rfl, ?_⟩) (by assumption) ?_; rotate_left; focus (intro W hSw; (try dsimp only at hSw); obtain ⟨p0, p1, p2, p3, p4, p5⟩ := HK.out _ hSw; go_simp; try (with_reducible rfl))); (try simp only [Act.put, List.getElem_toArray, List.getElem_cons_succ, List.getElem_cons_zero, List.setIfInBounds_toArray, List.set_cons_zero, List.set_cons_succ])
      refine wpAnyH_ready (rs := [11]) (by kernel_rfl) (by simp) ?_; refine AllReadyH.cons rfl (fun K hK => ?_) AllReadyH.nil
      obtain ⟨⟨a0, a1⟩, ⟨f0, f1⟩, az⟩ := Hs.out; go_simp; clear a0 f0 a1 f1 az
      have Hs := Lib.hid ((Hs.out.set0 X).set1 Y)
      refine hK.out _ _ (Below.setCell (Below.setCell hHeld (p := ⟨Gs, 0, none⟩) le_s _) (p := ⟨Gs, 1, none⟩) le_s _) (fun hHeld2 => ?_); (clear hHeld; rename _ => hHeld; clear hK K; have hHeld : Below wB.heap.size wB _ := hHeld); (try simp only [Act.put, List.getElem_toArray, List.getElem_cons_succ, List.getElem_cons_zero, List.setIfInBounds_toArray, List.set_cons_zero, List.set_cons_succ])
      obtain ⟨yw5, hwx⟩ : ∃ wx, (yw4.setCell ⟨Gs, 0, none⟩ (.int .i64 X)).setCell ⟨Gs, 1, none⟩ (.int .i64 Y) = wx := ⟨_, rfl⟩; rw [hwx] at Hs hHeld ⊢; clear hwx
      (refine wpAnyH_take (i := 12) (v := ?_) rfl (by kernel_rfl) (by kernel_rfl) (by kernel_rfl) (fun _ _ _ h => h) (Or.inl ⟨rfl, ?_⟩) (by assumption) ?_; rotate_left; focus (intro W hSw; (try dsimp only at hSw); obtain ⟨p0, p1, p2, p3, p4, p5⟩ := HK.out _ hSw; go_simp; try (with_reducible rfl))); (try simp only [Act.put, List.getElem_toArray, List.getElem_cons_succ, List.getElem_cons_zero, List.setIfInBounds_toArray, List.set_cons_zero, List.set_cons_succ])
      refine wpAnyH_done (by kernel_rfl) ?_ _
      go_wp2_with fail
      go_meet
      exact ⟨Gs, rfl, rfl, Hs.out, hHeld⟩
  case rest =>
    obtain ⟨Gs, rfl, rfl, hbs, hbx⟩ := hcut
    obtain ⟨w2, rfl⟩ : ∃ w2, w2 = wc := ⟨_, rfl⟩
    have HB1 : Hid (Below wB.heap.size wB w2) := hbx
    have HS1 := Lib.hid hbs
    have HK2 : Hid (∀ W', Below w2.heap.size w2 W' → W'.cell? ⟨w.heap.size, 0, none⟩ = some (.int .i64 x0) ∧ W'.cell? ⟨w.heap.size, 1, none⟩ = some (.int .i64 x1) ∧ W'.cell? ⟨w.heap.size + 1, 0, none⟩ = some (.int .i64 x2) ∧ W'.cell? ⟨w.heap.size + 1, 1, none⟩ = some (.int .i64 x3) ∧ W'.cell? ⟨w.heap.size + 1 + 1, 0, none⟩ = some (.int .i64 x4) ∧ W'.cell? ⟨w.heap.size + 1 + 1, 1, none⟩ = some (.int .i64 x5)) := fun W' h => HK.out W' (below_after h HB1.out)
    have HN2 : Hid (Snt w2 a0 a1) := HN.out.below HB1.out
    clear hbs hbx
    go_upto_region 1 with fail
    go_cut [9, 10] (fun v9 v10 wx => ∃ Gr : Nat, v9 = .pointer (some ⟨Gr, 0, none⟩) ∧ v10 = .int .i64 c ∧ Bk2 wx Gr X Y ∧ Below w2.heap.size w2 wx)
    case first =>
      go_wp2_with fail
      refine wp_region_held_drew (S := fun W => Below w2.heap.size w2 W) (by kernel_rfl) ?_ (fun hHeld => ?_); focus ((try dsimp only); exact (Below.refl _ _).drew)
      have hHeld : Below w2.heap.size w2 _ := hHeld
      obtain ⟨wE, hwE⟩ : ∃ wD, w2.drew = wD := ⟨_, rfl⟩
      rw [hwE] at hHeld ⊢
      clear hwE
      (refine wpAnyH_take (i := 0) (v := ?_) rfl (by kernel_rfl) (by kernel_rfl) (by kernel_rfl) (fun _ _ _ h => h) (Or.inl ⟨rfl, ?_⟩) (by assumption) ?_; rotate_left; focus (intro W hSw; (try dsimp only at hSw); obtain ⟨p0, p1, p2, p3, p4, p5⟩ := HK2.out _ hSw; go_simp; try (with_reducible rfl))); (try simp only [Act.put, List.getElem_toArray, List.getElem_cons_succ, List.getElem_cons_zero, List.setIfInBounds_toArray, List.set_cons_zero, List.set_cons_succ])
      (refine wpAnyH_take (i := 2) (v := ?_) rfl (by kernel_rfl) (by kernel_rfl) (by kernel_rfl) (fun _ _ _ h => h) (Or.inl ⟨rfl, ?_⟩) (by assumption) ?_; rotate_left; focus (intro W hSw; (try dsimp only at hSw); obtain ⟨p0, p1, p2, p3, p4, p5⟩ := HK2.out _ hSw; go_simp; try (with_reducible rfl))); (try simp only [Act.put, List.getElem_toArray, List.getElem_cons_succ, List.getElem_cons_zero, List.setIfInBounds_toArray, List.set_cons_zero, List.set_cons_succ])
      (refine wpAnyH_take (i := 4) (v := ?_) rfl (by kernel_rfl) (by kernel_rfl) (by kernel_rfl) (fun _ _ _ h => h) (Or.inl ⟨rfl, ?_⟩) (by assumption) ?_; rotate_left; focus (intro W hSw; (try dsimp only at hSw); obtain ⟨p0, p1, p2, p3, p4, p5⟩ := HK2.out _ hSw; go_simp; try (with_reducible rfl))); (try simp only [Act.put, List.getElem_toArray, List.getElem_cons_succ, List.getElem_cons_zero, List.setIfInBounds_toArray, List.set_cons_zero, List.set_cons_succ])
      refine wpAnyH_ready (rs := [1, 10]) (by kernel_rfl) (by simp) ?_; refine AllReadyH.cons rfl (fun K hK => ?_) (AllReadyH.cons rfl (fun K hK => ?_) AllReadyH.nil)
      · skip
        go_simp; (go_at_call 14; refine (toPoint_any _ _ _).mono ?_; rintro en ywb0 ⟨rfl, hb2⟩); refine hK.out _ _ (below_after hb2 hHeld) (fun hHeld2 => ?_); clear hb2; (clear hHeld; rename _ => hHeld; clear hK K; have hHeld : Below w2.heap.size w2 _ := hHeld); (try simp only [Act.put, List.getElem_toArray, List.getElem_cons_succ, List.getElem_cons_zero, List.setIfInBounds_toArray, List.set_cons_zero, List.set_cons_succ])
        refine wpAnyH_ready (rs := [3, 10]) (by kernel_rfl) (by simp) ?_; refine AllReadyH.cons rfl (fun K hK => ?_) (AllReadyH.cons rfl (fun K hK => ?_) AllReadyH.nil)
        · skip
          go_simp; (go_at_call 14; refine (toPoint_any _ _ _).mono ?_; rintro en ywb1 ⟨rfl, hb2⟩); refine hK.out _ _ (below_after hb2 hHeld) (fun hHeld2 => ?_); clear hb2; (clear hHeld; rename _ => hHeld; clear hK K; have hHeld : Below w2.heap.size w2 _ := hHeld); (try simp only [Act.put, List.getElem_toArray, List.getElem_cons_succ, List.getElem_cons_zero, List.setIfInBounds_toArray, List.set_cons_zero, List.set_cons_succ])
          refine wpAnyH_ready (rs := [5, 10]) (by kernel_rfl) (by simp) ?_; refine AllReadyH.cons rfl (fun K hK => ?_) (AllReadyH.cons rfl (fun K hK => ?_) AllReadyH.nil)
          · skip
            go_simp; (go_at_call 14; refine (toPoint_any _ _ _).mono ?_; rintro en ywb2 ⟨rfl, hb2⟩); refine hK.out _ _ (below_after hb2 hHeld) (fun hHeld2 => ?_); clear hb2; (clear hHeld; rename _ => hHeld; clear hK K; have hHeld : Below w2.heap.size w2 _ := hHeld); (try simp only [Act.put, List.getElem_toArray, List.getElem_cons_succ, List.getElem_cons_zero, List.setIfInBounds_toArray, List.set_cons_zero, List.set_cons_succ])
            refine wpAnyH_ready (rs := [6, 10]) (by kernel_rfl) (by simp) ?_; refine AllReadyH.cons rfl (fun K hK => ?_) (AllReadyH.cons rfl (fun K hK => ?_) AllReadyH.nil)
            · skip
              go_simp; (go_at_call 22; refine (HI.out _ (HN2.out.below hHeld)).mono ?_; rintro en ywb3 ⟨rfl, hb2⟩); refine hK.out _ _ (below_after hb2 hHeld) (fun hHeld2 => ?_); clear hb2; (clear hHeld; rename _ => hHeld; clear hK K; have hHeld : Below w2.heap.size w2 _ := hHeld); (try simp only [Act.put, List.getElem_toArray, List.getElem_cons_succ, List.getElem_cons_zero, List.setIfInBounds_toArray, List.set_cons_zero, List.set_cons_succ])
              (refine wpAnyH_take (i := 7) (v := ?_) rfl (by kernel_rfl) (by kernel_rfl) (by kernel_rfl) (fun _ _ _ h => h) (Or.inl ⟨rfl, ?_⟩) (by assumption) ?_; rotate_left; focus (intro W hSw; (try dsimp only at hSw); obtain ⟨p0, p1, p2, p3, p4, p5⟩ := HK2.out _ hSw; go_simp; try (with_reducible rfl))); (try simp only [Act.put, List.getElem_toArray, List.getElem_cons_succ, List.getElem_cons_zero, List.setIfInBounds_toArray, List.set_cons_zero, List.set_cons_succ])
              (refine wpAnyH_take (i := 8) (v := ?_) rfl (by kernel_rfl) (by kernel_rfl) (by kernel_rfl) (fun _ _ _ h => h) (Or.inl ⟨rfl, ?_⟩) (by assumption) ?_; rotate_left; focus (intro W hSw; (try dsimp only at hSw); obtain ⟨p0, p1, p2, p3, p4, p5⟩ := HK2.out _ hSw; go_simp; try (with_reducible rfl))); (try simp only [Act.put, List.getElem_toArray, List.getElem_cons_succ, List.getElem_cons_zero, List.setIfInBounds_toArray, List.set_cons_zero, List.set_cons_succ])
              (refine wpAnyH_take (i := 9) (v := ?_) rfl (by kernel_rfl) (by kernel_rfl) (by kernel_rfl) (fun _ _ _ h => h) (Or.inl ⟨rfl, ?_⟩) (by assumption) ?_; rotate_left; focus (intro W hSw; (try dsimp only at hSw); obtain ⟨p0, p1, p2, p3, p4, p5⟩ := HK2.out _ hSw; go_simp; try (with_reducible rfl))); (try simp only [Act.put, List.getElem_toArray, List.getElem_cons_succ, List.getElem_cons_zero, List.setIfInBounds_toArray, List.set_cons_zero, List.set_cons_succ])
              refine wpAnyH_ready (rs := [10]) (by kernel_rfl) (by simp) ?_; refine AllReadyH.cons rfl (fun K hK => ?_) AllReadyH.nil
              go_simp; obtain ⟨Gr, hGr⟩ : ∃ G, ywb3.heap.size = G := ⟨_, rfl⟩; have le_r : w2.heap.size ≤ Gr := by rw [← hGr]; exact Below.size hHeld
              have Hr : Hid (Bk2 (ywb3.alloc (.cells #[.int .i64 0, .int .i64 0] 25)) Gr 0 0) := by rw [← hGr]; exact bk2_new ywb3 0 0 _
              refine hK.out _ _ (Below.alloc hHeld (Below.size hHeld) _) (fun hHeld2 => ?_); (clear hHeld; rename _ => hHeld; clear hK K; have hHeld : Below w2.heap.size w2 _ := hHeld); (try simp only [Act.put, List.getElem_toArray, List.getElem_cons_succ, List.getElem_cons_zero, List.setIfInBounds_toArray, List.set_cons_zero, List.set_cons_succ])
              rw [hGr]; clear hGr; obtain ⟨ywb4, hwx⟩ : ∃ wx, ywb3.alloc (.cells #[.int .i64 0, .int .i64 0] 25) = wx := ⟨_, rfl⟩; rw [hwx] at Hr hHeld ⊢; clear hwx
              refine wpAnyH_ready (rs := [11]) (by kernel_rfl) (by simp) ?_; refine AllReadyH.cons rfl (fun K hK => ?_) AllReadyH.nil
              obtain ⟨⟨a0, a1⟩, ⟨f0, f1⟩, az⟩ := Hr.out; go_simp; clear a0 f0 a1 f1 az
              have Hr := Lib.hid ((Hr.out.set0 X).set1 Y)
              refine hK.out _ _ (Below.setCell (Below.setCell hHeld (p := ⟨Gr, 0, none⟩) le_r _) (p := ⟨Gr, 1, none⟩) le_r _) (fun hHeld2 => ?_); (clear hHeld; rename _ => hHeld; clear hK K; have hHeld : Below w2.heap.size w2 _ := hHeld); (try simp only [Act.put, List.getElem_toArray, List.getElem_cons_succ, List.getElem_cons_zero, List.setIfInBounds_toArray, List.set_cons_zero, List.set_cons_succ])
              obtain ⟨ywb5, hwx⟩ : ∃ wx, (ywb4.setCell ⟨Gr, 0, none⟩ (.int .i64 X)).setCell ⟨Gr, 1, none⟩ (.int .i64 Y) = wx := ⟨_, rfl⟩; rw [hwx] at Hr hHeld ⊢; clear hwx
              (refine wpAnyH_take (i := 12) (v := ?_) rfl (by kernel_rfl) (by kernel_rfl) (by kernel_rfl) (fun _ _ _ h => h) (Or.inl ⟨rfl, ?_⟩) (by assumption) ?_; rotate_left; focus (intro W hSw; (try dsimp only at hSw); obtain ⟨p0, p1, p2, p3, p4, p5⟩ := HK2.out _ hSw; go_simp; try (with_reducible rfl))); (try simp only [Act.put, List.getElem_toArray, List.getElem_cons_succ, List.getElem_cons_zero, List.setIfInBounds_toArray, List.set_cons_zero, List.set_cons_succ])
              refine wpAnyH_done (by kernel_rfl) ?_ _
              go_wp2_with fail
              go_meet
              exact ⟨Gr, rfl, rfl, Hr.out, hHeld⟩
            · skip
              go_simp; obtain ⟨Gr, hGr⟩ : ∃ G, ywb2.heap.size = G := ⟨_, rfl⟩; have le_r : w2.heap.size ≤ Gr := by rw [← hGr]; exact Below.size hHeld
              have Hr : Hid (Bk2 (ywb2.alloc (.cells #[.int .i64 0, .int .i64 0] 25)) Gr 0 0) := by rw [← hGr]; exact bk2_new ywb2 0 0 _
              refine hK.out _ _ (Below.alloc hHeld (Below.size hHeld) _) (fun hHeld2 => ?_); (clear hHeld; rename _ => hHeld; clear hK K; have hHeld : Below w2.heap.size w2 _ := hHeld); (try simp only [Act.put, List.getElem_toArray, List.getElem_cons_succ, List.getElem_cons_zero, List.setIfInBounds_toArray, List.set_cons_zero, List.set_cons_succ])
              rw [hGr]; clear hGr; obtain ⟨ywb3, hwx⟩ : ∃ wx, ywb2.alloc (.cells #[.int .i64 0, .int .i64 0] 25) = wx := ⟨_, rfl⟩; rw [hwx] at Hr hHeld ⊢; clear hwx
              refine wpAnyH_ready (rs := [6]) (by kernel_rfl) (by simp) ?_; refine AllReadyH.cons rfl (fun K hK => ?_) AllReadyH.nil
              go_simp; (go_at_call 22; refine (HI.out _ (HN2.out.below hHeld)).mono ?_; rintro en ywb4 ⟨rfl, hb2⟩); have Hr := Lib.hid (Hr.out.below hb2); refine hK.out _ _ (below_after hb2 hHeld) (fun hHeld2 => ?_); clear hb2; (clear hHeld; rename _ => hHeld; clear hK K; have hHeld : Below w2.heap.size w2 _ := hHeld); (try simp only [Act.put, List.getElem_toArray, List.getElem_cons_succ, List.getElem_cons_zero, List.setIfInBounds_toArray, List.set_cons_zero, List.set_cons_succ])
              (refine wpAnyH_take (i := 7) (v := ?_) rfl (by kernel_rfl) (by kernel_rfl) (by kernel_rfl) (fun _ _ _ h => h) (Or.inl ⟨rfl, ?_⟩) (by assumption) ?_; rotate_left; focus (intro W hSw; (try dsimp only at hSw); obtain ⟨p0, p1, p2, p3, p4, p5⟩ := HK2.out _ hSw; go_simp; try (with_reducible rfl))); (try simp only [Act.put, List.getElem_toArray, List.getElem_cons_succ, List.getElem_cons_zero, List.setIfInBounds_toArray, List.set_cons_zero, List.set_cons_succ])
              (refine wpAnyH_take (i := 8) (v := ?_) rfl (by kernel_rfl) (by kernel_rfl) (by kernel_rfl) (fun _ _ _ h => h) (Or.inl ⟨rfl, ?_⟩) (by assumption) ?_; rotate_left; focus (intro W hSw; (try dsimp only at hSw); obtain ⟨p0, p1, p2, p3, p4, p5⟩ := HK2.out _ hSw; go_simp; try (with_reducible rfl))); (try simp only [Act.put, List.getElem_toArray, List.getElem_cons_succ, List.getElem_cons_zero, List.setIfInBounds_toArray, List.set_cons_zero, List.set_cons_succ])
              (refine wpAnyH_take (i := 9) (v := ?_) rfl (by kernel_rfl) (by kernel_rfl) (by kernel_rfl) (fun _ _ _ h => h) (Or.inl ⟨rfl, ?_⟩) (by assumption) ?_; rotate_left; focus (intro W hSw; (try dsimp only at hSw); obtain ⟨p0, p1, p2, p3, p4, p5⟩ := HK2.out _ hSw; go_simp; try (with_reducible rfl))); (try simp only [Act.put, List.getElem_toArray, List.getElem_cons_succ, List.getElem_cons_zero, List.setIfInBounds_toArray, List.set_cons_zero, List.set_cons_succ])
              refine wpAnyH_ready (rs := [11]) (by kernel_rfl) (by simp) ?_; refine AllReadyH.cons rfl (fun K hK => ?_) AllReadyH.nil
              obtain ⟨⟨a0, a1⟩, ⟨f0, f1⟩, az⟩ := Hr.out; go_simp; clear a0 f0 a1 f1 az
              have Hr := Lib.hid ((Hr.out.set0 X).set1 Y)
              refine hK.out _ _ (Below.setCell (Below.setCell hHeld (p := ⟨Gr, 0, none⟩) le_r _) (p := ⟨Gr, 1, none⟩) le_r _) (fun hHeld2 => ?_); (clear hHeld; rename _ => hHeld; clear hK K; have hHeld : Below w2.heap.size w2 _ := hHeld); (try simp only [Act.put, List.getElem_toArray, List.getElem_cons_succ, List.getElem_cons_zero, List.setIfInBounds_toArray, List.set_cons_zero, List.set_cons_succ])
              obtain ⟨ywb5, hwx⟩ : ∃ wx, (ywb4.setCell ⟨Gr, 0, none⟩ (.int .i64 X)).setCell ⟨Gr, 1, none⟩ (.int .i64 Y) = wx := ⟨_, rfl⟩; rw [hwx] at Hr hHeld ⊢; clear hwx
              (refine wpAnyH_take (i := 12) (v := ?_) rfl (by kernel_rfl) (by kernel_rfl) (by kernel_rfl) (fun _ _ _ h => h) (Or.inl ⟨rfl, ?_⟩) (by assumption) ?_; rotate_left; focus (intro W hSw; (try dsimp only at hSw); obtain ⟨p0, p1, p2, p3, p4, p5⟩ := HK2.out _ hSw; go_simp; try (with_reducible rfl))); (try simp only [Act.put, List.getElem_toArray, List.getElem_cons_succ, List.getElem_cons_zero, List.setIfInBounds_toArray, List.set_cons_zero, List.set_cons_succ])
              refine wpAnyH_done (by kernel_rfl) ?_ _
              go_wp2_with fail
              go_meet
              exact ⟨Gr, rfl, rfl, Hr.out, hHeld⟩
          · skip
            go_simp; obtain ⟨Gr, hGr⟩ : ∃ G, ywb1.heap.size = G := ⟨_, rfl⟩; have le_r : w2.heap.size ≤ Gr := by rw [← hGr]; exact Below.size hHeld
            have Hr : Hid (Bk2 (ywb1.alloc (.cells #[.int .i64 0, .int .i64 0] 25)) Gr 0 0) := by rw [← hGr]; exact bk2_new ywb1 0 0 _
            refine hK.out _ _ (Below.alloc hHeld (Below.size hHeld) _) (fun hHeld2 => ?_); (clear hHeld; rename _ => hHeld; clear hK K; have hHeld : Below w2.heap.size w2 _ := hHeld); (try simp only [Act.put, List.getElem_toArray, List.getElem_cons_succ, List.getElem_cons_zero, List.setIfInBounds_toArray, List.set_cons_zero, List.set_cons_succ])
            rw [hGr]; clear hGr; obtain ⟨ywb2, hwx⟩ : ∃ wx, ywb1.alloc (.cells #[.int .i64 0, .int .i64 0] 25) = wx := ⟨_, rfl⟩; rw [hwx] at Hr hHeld ⊢; clear hwx
            refine wpAnyH_ready (rs := [5]) (by kernel_rfl) (by simp) ?_; refine AllReadyH.cons rfl (fun K hK => ?_) AllReadyH.nil
            go_simp; (go_at_call 14; refine (toPoint_any _ _ _).mono ?_; rintro en ywb3 ⟨rfl, hb2⟩); have Hr := Lib.hid (Hr.out.below hb2); refine hK.out _ _ (below_after hb2 hHeld) (fun hHeld2 => ?_); clear hb2; (clear hHeld; rename _ => hHeld; clear hK K; have hHeld : Below w2.heap.size w2 _ := hHeld); (try simp only [Act.put, List.getElem_toArray, List.getElem_cons_succ, List.getElem_cons_zero, List.setIfInBounds_toArray, List.set_cons_zero, List.set_cons_succ])
            refine wpAnyH_ready (rs := [6]) (by kernel_rfl) (by simp) ?_; refine AllReadyH.cons rfl (fun K hK => ?_) AllReadyH.nil
            go_simp; (go_at_call 22; refine (HI.out _ (HN2.out.below hHeld)).mono ?_; rintro en ywb4 ⟨rfl, hb2⟩); have Hr := Lib.hid (Hr.out.below hb2); refine hK.out _ _ (below_after hb2 hHeld) (fun hHeld2 => ?_); clear hb2; (clear hHeld; rename _ => hHeld; clear hK K; have hHeld : Below w2.heap.size w2 _ := hHeld); (try simp only [Act.put, List.getElem_toArray, List.getElem_cons_succ, List.getElem_cons_zero, List.setIfInBounds_toArray, List.set_cons_zero, List.set_cons_succ])
            (refine wpAnyH_take (i := 7) (v := ?_) rfl (by kernel_rfl) (by kernel_rfl) (by kernel_rfl) (fun _ _ _ h => h) (Or.inl ⟨rfl, ?_⟩) (by assumption) ?_; rotate_left; focus (intro W hSw; (try dsimp only at hSw); obtain ⟨p0, p1, p2, p3, p4, p5⟩ := HK2.out _ hSw; go_simp; try (with_reducible rfl))); (try simp only [Act.put, List.getElem_toArray, List.getElem_cons_succ, List.getElem_cons_zero, List.setIfInBounds_toArray, List.set_cons_zero, List.set_cons_succ])
            (refine wpAnyH_take (i := 8) (v := ?_) rfl (by kernel_rfl) (by kernel_rfl) (by kernel_rfl) (fun _ _ _ h => h) (Or.inl ⟨rfl, ?_⟩) (by assumption) ?_; rotate_left; focus (intro W hSw; (try dsimp only at hSw); obtain ⟨p0, p1, p2, p3, p4, p5⟩ := HK2.out _ hSw; go_simp; try (with_reducible rfl))); (try simp only [Act.put, List.getElem_toArray, List.getElem_cons_succ, List.getElem_cons_zero, List.setIfInBounds_toArray, List.set_cons_zero, List.set_cons_succ])
            (refine wpAnyH_take (i := 9) (v := ?_) rfl (by kernel_rfl) (by kernel_rfl) (by kernel_rfl) (fun _ _ _ h => h) (Or.inl ⟨rfl, ?_⟩) (by assumption) ?_; rotate_left; focus (intro W hSw; (try dsimp only at hSw); obtain ⟨p0, p1, p2, p3, p4, p5⟩ := HK2.out _ hSw; go_simp; try (with_reducible rfl))); (try simp only [Act.put, List.getElem_toArray, List.getElem_cons_succ, List.getElem_cons_zero, List.setIfInBounds_toArray, List.set_cons_zero, List.set_cons_succ])
            refine wpAnyH_ready (rs := [11]) (by kernel_rfl) (by simp) ?_; refine AllReadyH.cons rfl (fun K hK => ?_) AllReadyH.nil
            obtain ⟨⟨a0, a1⟩, ⟨f0, f1⟩, az⟩ := Hr.out; go_simp; clear a0 f0 a1 f1 az
            have Hr := Lib.hid ((Hr.out.set0 X).set1 Y)
            refine hK.out _ _ (Below.setCell (Below.setCell hHeld (p := ⟨Gr, 0, none⟩) le_r _) (p := ⟨Gr, 1, none⟩) le_r _) (fun hHeld2 => ?_); (clear hHeld; rename _ => hHeld; clear hK K; have hHeld : Below w2.heap.size w2 _ := hHeld); (try simp only [Act.put, List.getElem_toArray, List.getElem_cons_succ, List.getElem_cons_zero, List.setIfInBounds_toArray, List.set_cons_zero, List.set_cons_succ])
            obtain ⟨ywb5, hwx⟩ : ∃ wx, (ywb4.setCell ⟨Gr, 0, none⟩ (.int .i64 X)).setCell ⟨Gr, 1, none⟩ (.int .i64 Y) = wx := ⟨_, rfl⟩; rw [hwx] at Hr hHeld ⊢; clear hwx
            (refine wpAnyH_take (i := 12) (v := ?_) rfl (by kernel_rfl) (by kernel_rfl) (by kernel_rfl) (fun _ _ _ h => h) (Or.inl ⟨rfl, ?_⟩) (by assumption) ?_; rotate_left; focus (intro W hSw; (try dsimp only at hSw); obtain ⟨p0, p1, p2, p3, p4, p5⟩ := HK2.out _ hSw; go_simp; try (with_reducible rfl))); (try simp only [Act.put, List.getElem_toArray, List.getElem_cons_succ, List.getElem_cons_zero, List.setIfInBounds_toArray, List.set_cons_zero, List.set_cons_succ])
            refine wpAnyH_done (by kernel_rfl) ?_ _
            go_wp2_with fail
            go_meet
            exact ⟨Gr, rfl, rfl, Hr.out, hHeld⟩
        · skip
          go_simp; obtain ⟨Gr, hGr⟩ : ∃ G, ywb0.heap.size = G := ⟨_, rfl⟩; have le_r : w2.heap.size ≤ Gr := by rw [← hGr]; exact Below.size hHeld
          have Hr : Hid (Bk2 (ywb0.alloc (.cells #[.int .i64 0, .int .i64 0] 25)) Gr 0 0) := by rw [← hGr]; exact bk2_new ywb0 0 0 _
          refine hK.out _ _ (Below.alloc hHeld (Below.size hHeld) _) (fun hHeld2 => ?_); (clear hHeld; rename _ => hHeld; clear hK K; have hHeld : Below w2.heap.size w2 _ := hHeld); (try simp only [Act.put, List.getElem_toArray, List.getElem_cons_succ, List.getElem_cons_zero, List.setIfInBounds_toArray, List.set_cons_zero, List.set_cons_succ])
          rw [hGr]; clear hGr; obtain ⟨ywb1, hwx⟩ : ∃ wx, ywb0.alloc (.cells #[.int .i64 0, .int .i64 0] 25) = wx := ⟨_, rfl⟩; rw [hwx] at Hr hHeld ⊢; clear hwx
          refine wpAnyH_ready (rs := [3]) (by kernel_rfl) (by simp) ?_; refine AllReadyH.cons rfl (fun K hK => ?_) AllReadyH.nil
          go_simp; (go_at_call 14; refine (toPoint_any _ _ _).mono ?_; rintro en ywb2 ⟨rfl, hb2⟩); have Hr := Lib.hid (Hr.out.below hb2); refine hK.out _ _ (below_after hb2 hHeld) (fun hHeld2 => ?_); clear hb2; (clear hHeld; rename _ => hHeld; clear hK K; have hHeld : Below w2.heap.size w2 _ := hHeld); (try simp only [Act.put, List.getElem_toArray, List.getElem_cons_succ, List.getElem_cons_zero, List.setIfInBounds_toArray, List.set_cons_zero, List.set_cons_succ])
          refine wpAnyH_ready (rs := [5]) (by kernel_rfl) (by simp) ?_; refine AllReadyH.cons rfl (fun K hK => ?_) AllReadyH.nil
          go_simp; (go_at_call 14; refine (toPoint_any _ _ _).mono ?_; rintro en ywb3 ⟨rfl, hb2⟩); have Hr := Lib.hid (Hr.out.below hb2); refine hK.out _ _ (below_after hb2 hHeld) (fun hHeld2 => ?_); clear hb2; (clear hHeld; rename _ => hHeld; clear hK K; have hHeld : Below w2.heap.size w2 _ := hHeld); (try simp only [Act.put, List.getElem_toArray, List.getElem_cons_succ, List.getElem_cons_zero, List.setIfInBounds_toArray, List.set_cons_zero, List.set_cons_succ])
          refine wpAnyH_ready (rs := [6]) (by kernel_rfl) (by simp) ?_; refine AllReadyH.cons rfl (fun K hK => ?_) AllReadyH.nil
          go_simp; (go_at_call 22; refine (HI.out _ (HN2.out.below hHeld)).mono ?_; rintro en ywb4 ⟨rfl, hb2⟩); have Hr := Lib.hid (Hr.out.below hb2); refine hK.out _ _ (below_after hb2 hHeld) (fun hHeld2 => ?_); clear hb2; (clear hHeld; rename _ => hHeld; clear hK K; have hHeld : Below w2.heap.size w2 _ := hHeld); (try simp only [Act.put, List.getElem_toArray, List.getElem_cons_succ, List.getElem_cons_zero, List.setIfInBounds_toArray, List.set_cons_zero, List.set_cons_succ])
          (refine wpAnyH_take (i := 7) (v := ?_) rfl (by kernel_rfl) (by kernel_rfl) (by kernel_rfl) (fun _ _ _ h => h) (Or.inl ⟨rfl, ?_⟩) (by assumption) ?_; rotate_left; focus (intro W hSw; (try dsimp only at hSw); obtain ⟨p0, p1, p2, p3, p4, p5⟩ := HK2.out _ hSw; go_simp; try (with_reducible rfl))); (try simp only [Act.put, List.getElem_toArray, List.getElem_cons_succ, List.getElem_cons_zero, List.setIfInBounds_toArray, List.set_cons_zero, List.set_cons_succ])
          (refine wpAnyH_take (i := 8) (v := ?_) rfl (by kernel_rfl) (by kernel_rfl) (by kernel_rfl) (fun _ _ _ h => h) (Or.inl ⟨rfl, ?_⟩) (by assumption) ?_; rotate_left; focus (intro W hSw; (try dsimp only at hSw); obtain ⟨p0, p1, p2, p3, p4, p5⟩ := HK2.out _ hSw; go_simp; try (with_reducible rfl))); (try simp only [Act.put, List.getElem_toArray, List.getElem_cons_succ, List.getElem_cons_zero, List.setIfInBounds_toArray, List.set_cons_zero, List.set_cons_succ])
          (refine wpAnyH_take (i := 9) (v := ?_) rfl (by kernel_rfl) (by kernel_rfl) (by kernel_rfl) (fun _ _ _ h => h) (Or.inl ⟨rfl, ?_⟩) (by assumption) ?_; rotate_left; focus (intro W hSw; (try dsimp only at hSw); obtain ⟨p0, p1, p2, p3, p4, p5⟩ := HK2.out _ hSw; go_simp; try (with_reducible rfl))); (try simp only [Act.put, List.getElem_toArray, List.getElem_cons_succ, List.getElem_cons_zero, List.setIfInBounds_toArray, List.set_cons_zero, List.set_cons_succ])
          refine wpAnyH_ready (rs := [11]) (by kernel_rfl) (by simp) ?_; refine AllReadyH.cons rfl (fun K hK => ?_) AllReadyH.nil
          obtain ⟨⟨a0, a1⟩, ⟨f0, f1⟩, az⟩ := Hr.out; go_simp; clear a0 f0 a1 f1 az
          have Hr := Lib.hid ((Hr.out.set0 X).set1 Y)
          refine hK.out _ _ (Below.setCell (Below.setCell hHeld (p := ⟨Gr, 0, none⟩) le_r _) (p := ⟨Gr, 1, none⟩) le_r _) (fun hHeld2 => ?_); (clear hHeld; rename _ => hHeld; clear hK K; have hHeld : Below w2.heap.size w2 _ := hHeld); (try simp only [Act.put, List.getElem_toArray, List.getElem_cons_succ, List.getElem_cons_zero, List.setIfInBounds_toArray, List.set_cons_zero, List.set_cons_succ])
          obtain ⟨ywb5, hwx⟩ : ∃ wx, (ywb4.setCell ⟨Gr, 0, none⟩ (.int .i64 X)).setCell ⟨Gr, 1, none⟩ (.int .i64 Y) = wx := ⟨_, rfl⟩; rw [hwx] at Hr hHeld ⊢; clear hwx
          (refine wpAnyH_take (i := 12) (v := ?_) rfl (by kernel_rfl) (by kernel_rfl) (by kernel_rfl) (fun _ _ _ h => h) (Or.inl ⟨rfl, ?_⟩) (by assumption) ?_; rotate_left; focus (intro W hSw; (try dsimp only at hSw); obtain ⟨p0, p1, p2, p3, p4, p5⟩ := HK2.out _ hSw; go_simp; try (with_reducible rfl))); (try simp only [Act.put, List.getElem_toArray, List.getElem_cons_succ, List.getElem_cons_zero, List.setIfInBounds_toArray, List.set_cons_zero, List.set_cons_succ])
          refine wpAnyH_done (by kernel_rfl) ?_ _
          go_wp2_with fail
          go_meet
          exact ⟨Gr, rfl, rfl, Hr.out, hHeld⟩
      · skip
        go_simp; obtain ⟨Gr, hGr⟩ : ∃ G, wE.heap.size = G := ⟨_, rfl⟩; have le_r : w2.heap.size ≤ Gr := by rw [← hGr]; exact Below.size hHeld
        have Hr : Hid (Bk2 (wE.alloc (.cells #[.int .i64 0, .int .i64 0] 25)) Gr 0 0) := by rw [← hGr]; exact bk2_new wE 0 0 _
        refine hK.out _ _ (Below.alloc hHeld (Below.size hHeld) _) (fun hHeld2 => ?_); (clear hHeld; rename _ => hHeld; clear hK K; have hHeld : Below w2.heap.size w2 _ := hHeld); (try simp only [Act.put, List.getElem_toArray, List.getElem_cons_succ, List.getElem_cons_zero, List.setIfInBounds_toArray, List.set_cons_zero, List.set_cons_succ])
        rw [hGr]; clear hGr; obtain ⟨ywb0, hwx⟩ : ∃ wx, wE.alloc (.cells #[.int .i64 0, .int .i64 0] 25) = wx := ⟨_, rfl⟩; rw [hwx] at Hr hHeld ⊢; clear hwx
        refine wpAnyH_ready (rs := [1]) (by kernel_rfl) (by simp) ?_; refine AllReadyH.cons rfl (fun K hK => ?_) AllReadyH.nil
        go_simp; (go_at_call 14; refine (toPoint_any _ _ _).mono ?_; rintro en ywb1 ⟨rfl, hb2⟩); have Hr := Lib.hid (Hr.out.below hb2); refine hK.out _ _ (below_after hb2 hHeld) (fun hHeld2 => ?_); clear hb2; (clear hHeld; rename _ => hHeld; clear hK K; have hHeld : Below w2.heap.size w2 _ := hHeld); (try simp only [Act.put, List.getElem_toArray, List.getElem_cons_succ, List.getElem_cons_zero, List.setIfInBounds_toArray, List.set_cons_zero, List.set_cons_succ])
        refine wpAnyH_ready (rs := [3]) (by kernel_rfl) (by simp) ?_; refine AllReadyH.cons rfl (fun K hK => ?_) AllReadyH.nil
        go_simp; (go_at_call 14; refine (toPoint_any _ _ _).mono ?_; rintro en ywb2 ⟨rfl, hb2⟩); have Hr := Lib.hid (Hr.out.below hb2); refine hK.out _ _ (below_after hb2 hHeld) (fun hHeld2 => ?_); clear hb2; (clear hHeld; rename _ => hHeld; clear hK K; have hHeld : Below w2.heap.size w2 _ := hHeld); (try simp only [Act.put, List.getElem_toArray, List.getElem_cons_succ, List.getElem_cons_zero, List.setIfInBounds_toArray, List.set_cons_zero, List.set_cons_succ])
        refine wpAnyH_ready (rs := [5]) (by kernel_rfl) (by simp) ?_; refine AllReadyH.cons rfl (fun K hK => ?_) AllReadyH.nil
        go_simp; (go_at_call 14; refine (toPoint_any _ _ _).mono ?_; rintro en ywb3 ⟨rfl, hb2⟩); have Hr := Lib.hid (Hr.out.below hb2); refine hK.out _ _ (below_after hb2 hHeld) (fun hHeld2 => ?_); clear hb2; (clear hHeld; rename _ => hHeld; clear hK K; have hHeld : Below w2.heap.size w2 _ := hHeld); (try simp only [Act.put, List.getElem_toArray, List.getElem_cons_succ, List.getElem_cons_zero, List.setIfInBounds_toArray, List.set_cons_zero, List.set_cons_succ])
        refine wpAnyH_ready (rs := [6]) (by kernel_rfl) (by simp) ?_; refine AllReadyH.cons rfl (fun K hK => ?_) AllReadyH.nil
        go_simp; (go_at_call 22; refine (HI.out _ (HN2.out.below hHeld)).mono ?_; rintro en ywb4 ⟨rfl, hb2⟩); have Hr := Lib.hid (Hr.out.below hb2); refine hK.out _ _ (below_after hb2 hHeld) (fun hHeld2 => ?_); clear hb2; (clear hHeld; rename _ => hHeld; clear hK K; have hHeld : Below w2.heap.size w2 _ := hHeld); (try simp only [Act.put, List.getElem_toArray, List.getElem_cons_succ, List.getElem_cons_zero, List.setIfInBounds_toArray, List.set_cons_zero, List.set_cons_succ])
        (refine wpAnyH_take (i := 7) (v := ?_) rfl (by kernel_rfl) (by kernel_rfl) (by kernel_rfl) (fun _ _ _ h => h) (Or.inl ⟨rfl, ?_⟩) (by assumption) ?_; rotate_left; focus (intro W hSw; (try dsimp only at hSw); obtain ⟨p0, p1, p2, p3, p4, p5⟩ := HK2.out _ hSw; go_simp; try (with_reducible rfl))); (try simp only [Act.put, List.getElem_toArray, List.getElem_cons_succ, List.getElem_cons_zero, List.setIfInBounds_toArray, List.set_cons_zero, List.set_cons_succ])
        (refine wpAnyH_take (i := 8) (v := ?_) rfl (by kernel_rfl) (by kernel_rfl) (by kernel_rfl) (fun _ _ _ h => h) (Or.inl ⟨rfl, ?_⟩) (by assumption) ?_; rotate_left; focus (intro W hSw; (try dsimp only at hSw); obtain ⟨p0, p1, p2, p3, p4, p5⟩ := HK2.out _ hSw; go_simp; try (with_reducible rfl))); (try simp only [Act.put, List.getElem_toArray, List.getElem_cons_succ, List.getElem_cons_zero, List.setIfInBounds_toArray, List.set_cons_zero, List.set_cons_succ])
        (refine wpAnyH_take (i := 9) (v := ?_) rfl (by kernel_rfl) (by kernel_rfl) (by kernel_rfl) (fun _ _ _ h => h) (Or.inl ⟨rfl, ?_⟩) (by assumption) ?_; rotate_left; focus (intro W hSw; (try dsimp only at hSw); obtain ⟨p0, p1, p2, p3, p4, p5⟩ := HK2.out _ hSw; go_simp; try (with_reducible rfl))); (try simp only [Act.put, List.getElem_toArray, List.getElem_cons_succ, List.getElem_cons_zero, List.setIfInBounds_toArray, List.set_cons_zero, List.set_cons_succ])
        refine wpAnyH_ready (rs := [11]) (by kernel_rfl) (by simp) ?_; refine AllReadyH.cons rfl (fun K hK => ?_) AllReadyH.nil
        obtain ⟨⟨a0, a1⟩, ⟨f0, f1⟩, az⟩ := Hr.out; go_simp; clear a0 f0 a1 f1 az
        have Hr := Lib.hid ((Hr.out.set0 X).set1 Y)
        refine hK.out _ _ (Below.setCell (Below.setCell hHeld (p := ⟨Gr, 0, none⟩) le_r _) (p := ⟨Gr, 1, none⟩) le_r _) (fun hHeld2 => ?_); (clear hHeld; rename _ => hHeld; clear hK K; have hHeld : Below w2.heap.size w2 _ := hHeld); (try simp only [Act.put, List.getElem_toArray, List.getElem_cons_succ, List.getElem_cons_zero, List.setIfInBounds_toArray, List.set_cons_zero, List.set_cons_succ])
        obtain ⟨ywb5, hwx⟩ : ∃ wx, (ywb4.setCell ⟨Gr, 0, none⟩ (.int .i64 X)).setCell ⟨Gr, 1, none⟩ (.int .i64 Y) = wx := ⟨_, rfl⟩; rw [hwx] at Hr hHeld ⊢; clear hwx
        (refine wpAnyH_take (i := 12) (v := ?_) rfl (by kernel_rfl) (by kernel_rfl) (by kernel_rfl) (fun _ _ _ h => h) (Or.inl ⟨rfl, ?_⟩) (by assumption) ?_; rotate_left; focus (intro W hSw; (try dsimp only at hSw); obtain ⟨p0, p1, p2, p3, p4, p5⟩ := HK2.out _ hSw; go_simp; try (with_reducible rfl))); (try simp only [Act.put, List.getElem_toArray, List.getElem_cons_succ, List.getElem_cons_zero, List.setIfInBounds_toArray, List.set_cons_zero, List.set_cons_succ])
        refine wpAnyH_done (by kernel_rfl) ?_ _
        go_wp2_with fail
        go_meet
        exact ⟨Gr, rfl, rfl, Hr.out, hHeld⟩
    case rest =>
      obtain ⟨Gr, rfl, rfl, hbr, hbx⟩ := hcut
      obtain ⟨w3, rfl⟩ : ∃ w3, w3 = wc := ⟨_, rfl⟩
      obtain ⟨⟨q0, q1⟩, _, qz⟩ := HS1.out.below hbx
      obtain ⟨⟨r0, r1⟩, _, rz⟩ := hbr
      have HBF : Hid (Below w.heap.size w w3) := below_after (below_after hbx HB1.out) HBW.out
      clear hbx
      go_wp2_with fail
      go_at_call 18
      refine (eqPoint_same _ _ _).mono ?_
      rintro e w4 ⟨rfl, hb4⟩
      have hbF : Below w.heap.size w w4 := below_after hb4 HBF.out
      clear hb4 q0 q1 r0 r1 qz rz
      go_wp2_with fail
      go_ret
      exact ⟨rfl, hbF⟩
end Go.Proofs.YtcaleapedomfmaaDoor
