/-
  Sides of triangles and starts of rows, in the program and in the model (own work).
-/
import Derived.Test.YtcgaikedbhdbgaaTri3
import Derived.Test.YtcgaikedbhdbgaaBlk
import Derived.Lib.MinMax
import Derived.Deep.RegionWith
import Derived.Deep.DeepCutAuto
namespace Go.Proofs.Ytcgaikedbhdbgaa
open Go.ChangeShapes Go.WideShapes Go.ChangeAt Go.RowKit
set_option linter.unusedVariables false
set_option maxRecDepth 100000
set_option linter.unusedSimpArgs false
set_option maxRecDepth 100000

/-- A small number. -/
def Q4 (n : Int) : Prop := -4000 ≤ n ∧ n ≤ 4000
theorem Q4.bn {n : Int} (h : Q4 n) : Bn n := by unfold Q4 at h; unfold Bn; omega
theorem Sml.q4 {n : Int} (h : Sml n) : Q4 n := by unfold Sml at h; unfold Q4; omega
theorem Q4.sub {a b : Int} (h : Q4 a) (k : Q4 b) : Bn (a - b) := by unfold Q4 at *; unfold Bn; omega
theorem sd_det (a b c d x y : Int) : detP (c - a, d - b) (x - a, y - b) = sd a b c d x y := rfl
set_option maxHeartbeats 1600000 in
theorem turnOf_any (a b c d x y : Int) (w : World) (h0 : Q4 a) (h1 : Q4 b) (h2 : Q4 c) (h3 : Q4 d) (h4 : Q4 x) (h5 : Q4 y) : Calls Try.prog 71 #[.agg #[.int .i64 a, .int .i64 b], .agg #[.int .i64 c, .int .i64 d], .agg #[.int .i64 x, .int .i64 y]] w fun e w' => e = .returned (.int .i64 (sd a b c d x y)) ∧ Below w.heap.size w w' := by
  have HS1 : Hid (∀ w, Calls Try.prog 96 #[.agg #[.int .i64 a, .int .i64 b], .agg #[.int .i64 c, .int .i64 d]] w fun e w' => e = .returned (.agg #[.int .i64 (c - a), .int .i64 (d - b)]) ∧ Below w.heap.size w w') := fun w => stepBetween_any a b c d w h0.bn h1.bn h2.bn h3.bn
  have HS2 : Hid (∀ w, Calls Try.prog 96 #[.agg #[.int .i64 a, .int .i64 b], .agg #[.int .i64 x, .int .i64 y]] w fun e w' => e = .returned (.agg #[.int .i64 (x - a), .int .i64 (y - b)]) ∧ Below w.heap.size w w') := fun w => stepBetween_any a b x y w h0.bn h1.bn h4.bn h5.bn
  have HD : Hid (∀ w, Calls Try.prog 81 #[.agg #[.int .i64 (c - a), .int .i64 (d - b)], .agg #[.int .i64 (x - a), .int .i64 (y - b)]] w fun e w' => e = .returned (.int .i64 (sd a b c d x y)) ∧ Below w.heap.size w w') := fun w => determinant_any _ _ _ _ w (h2.sub h0) (h3.sub h1) (h4.sub h0) (h5.sub h1)
  clear h0 h1 h2 h3 h4 h5
  have hs20 : w.heap.size < w.heap.size + 1 + 1 := (by omega); have hs30 : w.heap.size < w.heap.size + 1 + 1 + 1 := (by omega); have hs31 : w.heap.size + 1 < w.heap.size + 1 + 1 + 1 := (by omega); have hs40 : w.heap.size < w.heap.size + 1 + 1 + 1 + 1 := (by omega); have hs41 : w.heap.size + 1 < w.heap.size + 1 + 1 + 1 + 1 := (by omega); have hs42 : w.heap.size + 1 + 1 < w.heap.size + 1 + 1 + 1 + 1 := (by omega)
  go_enter Try.func71, Try.ntmps71
  go_wp2_with fail
  go_region_held3 (fun W => W.cell? ⟨w.heap.size, 0, none⟩ = some (.int .i64 a) ∧ W.cell? ⟨w.heap.size, 1, none⟩ = some (.int .i64 b) ∧ W.cell? ⟨w.heap.size + 1, 0, none⟩ = some (.int .i64 c) ∧ W.cell? ⟨w.heap.size + 1, 1, none⟩ = some (.int .i64 d) ∧ W.cell? ⟨w.heap.size + 1 + 1, 0, none⟩ = some (.int .i64 x) ∧ W.cell? ⟨w.heap.size + 1 + 1, 1, none⟩ = some (.int .i64 y) ∧ w.heap.size < W.heap.size ∧ w.heap.size + 1 < W.heap.size ∧ w.heap.size + 1 + 1 < W.heap.size) (first | (go_keep; done) | ((repeat' apply And.intro) <;> first | (go_keep; done) | (go_cell; done) | (refine (Below.cell (B := w.heap.size + 1 + 1 + 1) ?_ ?_).trans ?_; focus (repeat' (first | (with_reducible refine Below.alloc ?_ ?_ _) | (with_reducible refine Below.setCell ?_ ?_ _) | (with_reducible refine Below.drew ?_) | (with_reducible exact Below.refl _ _) | (first | omega | (simp only [World.size_alloc, World.size_drew, World.size_setCell]; omega) | (simp; omega)))); focus (first | omega | (simp only [World.size_alloc, World.size_drew, World.size_setCell]; omega) | (simp; omega)); first | (go_keep; done) | ((refine (Below.cell (by with_reducible assumption) ?_).trans ?_) <;> first | (go_keep; done) | (first | omega | (simp only [World.size_alloc, World.size_drew, World.size_setCell]; omega) | (simp; omega)))) | ((refine (Below.cell (by with_reducible assumption) ?_).trans ?_) <;> first | (go_keep; done) | (simp only [World.size_alloc, World.size_drew, World.size_setCell]; omega) | omega) | (simp only [World.size_alloc, World.size_drew, World.size_setCell]; omega) | omega)) (first | (go_at_call 96; refine (HS1.out _).mono ?_; rintro e wn ⟨rfl, hb⟩; first | (have h2 := after_call2 hb hcl hfr hlt (by ((repeat' (first | (with_reducible exact Below.refl _ _) | (with_reducible refine Below.alloc ?_ ?_ _) | (with_reducible refine Below.setCell ?_ ?_ _) | (with_reducible refine Below.drew ?_) | (with_reducible refine below_drewN ?_ _) | (with_reducible assumption) | (with_reducible refine below_after (by with_reducible assumption) ?_) | go_size)); done)); obtain ⟨hclx, hfrx, hltx, hsz⟩ := after_call hb; (try simp only [World.size_alloc, World.size_setCell, World.size_drew] at hclx hfrx hltx hsz); (try (have hszl := Nat.lt_of_succ_le hsz)); obtain ⟨hcl, hfr, hlt⟩ := h2) | (obtain ⟨hcl, hfr, hlt, hsz⟩ := after_call hb; (try simp only [World.size_alloc, World.size_setCell, World.size_drew] at hcl hfr hlt hsz))) | (go_at_call 96; refine (HS2.out _).mono ?_; rintro e wn ⟨rfl, hb⟩; first | (have h2 := after_call2 hb hcl hfr hlt (by ((repeat' (first | (with_reducible exact Below.refl _ _) | (with_reducible refine Below.alloc ?_ ?_ _) | (with_reducible refine Below.setCell ?_ ?_ _) | (with_reducible refine Below.drew ?_) | (with_reducible refine below_drewN ?_ _) | (with_reducible assumption) | (with_reducible refine below_after (by with_reducible assumption) ?_) | go_size)); done)); obtain ⟨hclx, hfrx, hltx, hsz⟩ := after_call hb; (try simp only [World.size_alloc, World.size_setCell, World.size_drew] at hclx hfrx hltx hsz); (try (have hszl := Nat.lt_of_succ_le hsz)); obtain ⟨hcl, hfr, hlt⟩ := h2) | (obtain ⟨hcl, hfr, hlt, hsz⟩ := after_call hb; (try simp only [World.size_alloc, World.size_setCell, World.size_drew] at hcl hfr hlt hsz))) | (go_at_call 81; refine (HD.out _).mono ?_; rintro e wn ⟨rfl, hb⟩; first | (have h2 := after_call2 hb hcl hfr hlt (by ((repeat' (first | (with_reducible exact Below.refl _ _) | (with_reducible refine Below.alloc ?_ ?_ _) | (with_reducible refine Below.setCell ?_ ?_ _) | (with_reducible refine Below.drew ?_) | (with_reducible refine below_drewN ?_ _) | (with_reducible assumption) | (with_reducible refine below_after (by with_reducible assumption) ?_) | go_size)); done)); obtain ⟨hclx, hfrx, hltx, hsz⟩ := after_call hb; (try simp only [World.size_alloc, World.size_setCell, World.size_drew] at hclx hfrx hltx hsz); (try (have hszl := Nat.lt_of_succ_le hsz)); obtain ⟨hcl, hfr, hlt⟩ := h2) | (obtain ⟨hcl, hfr, hlt, hsz⟩ := after_call hb; (try simp only [World.size_alloc, World.size_setCell, World.size_drew] at hcl hfr hlt hsz))))
  all_goals
    go_wp2
    go_ret
    exact ⟨rfl, by (repeat' (first | (with_reducible exact Below.refl _ _) | (with_reducible refine Below.alloc ?_ ?_ _) | (with_reducible refine Below.setCell ?_ ?_ _) | (with_reducible refine Below.drew ?_) | (with_reducible refine below_drewN ?_ _) | (with_reducible assumption) | (with_reducible refine below_after (by with_reducible assumption) ?_) | go_size))⟩
set_option maxHeartbeats 4000000 in
theorem l04Side_0 (x0 y0 x1 y1 x2 y2 px py : Int) (w : World) (h0 : Sml x0) (h1 : Sml y0) (h2 : Sml x1) (h3 : Sml y1) (h4 : Sml x2) (h5 : Sml y2) (h6 : Q4 px) (h7 : Q4 py) : Calls Try.prog 70 #[.agg #[.int .i64 x0, .int .i64 y0, .int .i64 x1, .int .i64 y1, .int .i64 x2, .int .i64 y2], .int .i64 0, .agg #[.int .i64 px, .int .i64 py]] w fun e w' => e = .returned (.int .i64 (sd x0 y0 x1 y1 px py)) ∧ Below w.heap.size w w' := by
  have HS1 : Hid (∀ w, Calls Try.prog 91 #[.agg #[.int .i64 x1, .int .i64 y1], .agg #[.int .i64 x0, .int .i64 y0], .int .i64 (-1)] w fun e w' => e = .returned (.agg #[.int .i64 (x1 - x0), .int .i64 (y1 - y0)]) ∧ Below w.heap.size w w') := fun w => l01Plus_minus x1 y1 x0 y0 w h2.bn h3.bn h0.bn h1.bn
  have HS2 : Hid (∀ w, Calls Try.prog 91 #[.agg #[.int .i64 px, .int .i64 py], .agg #[.int .i64 x0, .int .i64 y0], .int .i64 (-1)] w fun e w' => e = .returned (.agg #[.int .i64 (px - x0), .int .i64 (py - y0)]) ∧ Below w.heap.size w w') := fun w => l01Plus_minus px py x0 y0 w h6.bn h7.bn h0.bn h1.bn
  have HD : Hid (∀ w, Calls Try.prog 95 #[.agg #[.int .i64 (x1 - x0), .int .i64 (y1 - y0)], .agg #[.int .i64 (px - x0), .int .i64 (py - y0)]] w fun e w' => e = .returned (.int .i64 (sd x0 y0 x1 y1 px py)) ∧ Below w.heap.size w w') := fun w => l01Det_any _ _ _ _ w (h2.q4.sub h0.q4) (h3.q4.sub h1.q4) (h6.sub h0.q4) (h7.sub h1.q4)
  have n1 : IntKind.i64.wrap (0 + 1) = 1 := by decide
  have n2 : IntKind.i64.wrap (Int.tmod 1 3) = 1 := by decide
  have n3 : IntKind.i64.wrap 0 = 0 := by decide
  have n4 : IntKind.i64.wrap 1 = 1 := by decide
  have n5 : IntKind.i64.wrap 2 = 2 := by decide
  have n6 : IntKind.i64.wrap 3 = 3 := by decide
  clear h0 h1 h2 h3 h4 h5 h6 h7
  go_enter Try.func70, Try.ntmps70
  go_upto_region 1 with fail
  obtain ⟨wB, hwB⟩ : ∃ wB, wB = (w.alloc (.cells #[.int .i64 x0, .int .i64 y0, .int .i64 x1, .int .i64 y1, .int .i64 x2, .int .i64 y2] 27)).alloc (.cells #[.int .i64 px, .int .i64 py] 25) := ⟨_, rfl⟩
  rw [← hwB]
  have h6 : Bk6 wB w.heap.size x0 y0 x1 y1 x2 y2 := by rw [hwB]; exact (bk6_new w x0 y0 x1 y1 x2 y2 _).below ((Below.refl _ _).alloc (Nat.le_refl _) _)
  have h2 : Bk2 wB (w.heap.size + 1) px py := by
    rw [hwB]
    have h := bk2_new (w.alloc (.cells #[.int .i64 x0, .int .i64 y0, .int .i64 x1, .int .i64 y1, .int .i64 x2, .int .i64 y2] 27)) px py 25
    rw [World.size_alloc] at h
    exact h
  have HBW : Hid (Below w.heap.size w wB) := by
    show Below w.heap.size w wB
    rw [hwB]; (repeat' (first | (with_reducible exact Below.refl _ _) | (with_reducible refine Below.alloc ?_ ?_ _) | (with_reducible refine Below.setCell ?_ ?_ _) | (with_reducible refine Below.drew ?_) | (with_reducible refine below_drewN ?_ _) | (with_reducible assumption) | (with_reducible refine below_after (by with_reducible assumption) ?_) | go_size))
  have HX : Hid (∀ W, Below wB.heap.size wB W → Bk6 W w.heap.size x0 y0 x1 y1 x2 y2 ∧ Bk2 W (w.heap.size + 1) px py) := fun W hW => ⟨h6.below hW, h2.below hW⟩
  clear hwB h6 h2
  go_cut [7, 8] (fun v7 v8 wx => ∃ Gb Gc : Nat, v7 = .pointer (some ⟨Gb, 0, none⟩) ∧ v8 = .pointer (some ⟨Gc, 0, none⟩) ∧ Bk2 wx Gb x0 y0 ∧ Bk2 wx Gc x1 y1 ∧ Below wB.heap.size wB wx)
  case first =>
    refine wp_region_held_drew (S := fun W => Below wB.heap.size wB W) (by kernel_rfl) ?_ (fun hHeld => ?_); focus ((try dsimp only); exact (Below.refl _ _).drew)
    have hHeld : Below wB.heap.size wB _ := hHeld
    obtain ⟨wD, hwD⟩ : ∃ wD, wB.drew = wD := ⟨_, rfl⟩
    rw [hwD] at hHeld ⊢
    clear hwD
    (refine wpAnyH_take (i := 0) (v := ?_) rfl (by kernel_rfl) (by kernel_rfl) (by kernel_rfl) (fun _ _ _ h => h) (Or.inl ⟨rfl, ?_⟩) (by assumption) ?_; rotate_left; focus (intro W hSw; (try dsimp only at hSw); obtain ⟨⟨⟨i0, i1, i2, i3, i4, i5⟩, _, iz⟩, ⟨⟨q0, q1⟩, _, qz⟩⟩ := HX.out _ hSw; go_simp; try (with_reducible rfl))); (try simp only [Act.put, List.getElem_toArray, List.getElem_cons_succ, List.getElem_cons_zero, List.setIfInBounds_toArray, List.set_cons_zero, List.set_cons_succ])
    (refine wpAnyH_take (i := 1) (v := ?_) rfl (by kernel_rfl) (by kernel_rfl) (by kernel_rfl) (fun _ _ _ h => h) (Or.inl ⟨rfl, ?_⟩) (by assumption) ?_; rotate_left; focus (intro W hSw; (try dsimp only at hSw); obtain ⟨⟨⟨i0, i1, i2, i3, i4, i5⟩, _, iz⟩, ⟨⟨q0, q1⟩, _, qz⟩⟩ := HX.out _ hSw; go_simp; try (with_reducible rfl))); (try simp only [Act.put, List.getElem_toArray, List.getElem_cons_succ, List.getElem_cons_zero, List.setIfInBounds_toArray, List.set_cons_zero, List.set_cons_succ])
    (refine wpAnyH_take (i := 2) (v := ?_) rfl (by kernel_rfl) (by kernel_rfl) (by kernel_rfl) (fun _ _ _ h => h) (Or.inl ⟨rfl, ?_⟩) (by assumption) ?_; rotate_left; focus (intro W hSw; (try dsimp only at hSw); obtain ⟨⟨⟨i0, i1, i2, i3, i4, i5⟩, _, iz⟩, ⟨⟨q0, q1⟩, _, qz⟩⟩ := HX.out _ hSw; go_simp; try (with_reducible rfl))); (try simp only [Act.put, List.getElem_toArray, List.getElem_cons_succ, List.getElem_cons_zero, List.setIfInBounds_toArray, List.set_cons_zero, List.set_cons_succ])
    (refine wpAnyH_take (i := 3) (v := ?_) rfl (by kernel_rfl) (by kernel_rfl) (by kernel_rfl) (fun _ _ _ h => h) (Or.inl ⟨rfl, ?_⟩) (by assumption) ?_; rotate_left; focus (intro W hSw; (try dsimp only at hSw); obtain ⟨⟨⟨i0, i1, i2, i3, i4, i5⟩, _, iz⟩, ⟨⟨q0, q1⟩, _, qz⟩⟩ := HX.out _ hSw; go_simp; try (with_reducible rfl))); (try simp only [Act.put, List.getElem_toArray, List.getElem_cons_succ, List.getElem_cons_zero, List.setIfInBounds_toArray, List.set_cons_zero, List.set_cons_succ])
    (refine wpAnyH_take (i := 4) (v := ?_) rfl (by kernel_rfl) (by kernel_rfl) (by kernel_rfl) (fun _ _ _ h => h) (Or.inl ⟨rfl, ?_⟩) (by assumption) ?_; rotate_left; focus (intro W hSw; (try dsimp only at hSw); obtain ⟨⟨⟨i0, i1, i2, i3, i4, i5⟩, _, iz⟩, ⟨⟨q0, q1⟩, _, qz⟩⟩ := HX.out _ hSw; go_simp; try (with_reducible rfl))); (try simp only [Act.put, List.getElem_toArray, List.getElem_cons_succ, List.getElem_cons_zero, List.setIfInBounds_toArray, List.set_cons_zero, List.set_cons_succ])
    (refine wpAnyH_take (i := 5) (v := ?_) rfl (by kernel_rfl) (by kernel_rfl) (by kernel_rfl) (fun _ _ _ h => h) (Or.inl ⟨rfl, ?_⟩) (by assumption) ?_; rotate_left; focus (intro W hSw; (try dsimp only at hSw); obtain ⟨⟨⟨i0, i1, i2, i3, i4, i5⟩, _, iz⟩, ⟨⟨q0, q1⟩, _, qz⟩⟩ := HX.out _ hSw; go_simp; try (with_reducible rfl))); (try simp only [Act.put, List.getElem_toArray, List.getElem_cons_succ, List.getElem_cons_zero, List.setIfInBounds_toArray, List.set_cons_zero, List.set_cons_succ])
    (refine wpAnyH_take (i := 6) (v := ?_) rfl (by kernel_rfl) (by kernel_rfl) (by kernel_rfl) (fun _ _ _ h => h) (Or.inl ⟨rfl, ?_⟩) (by assumption) ?_; rotate_left; focus (intro W hSw; (try dsimp only at hSw); obtain ⟨⟨⟨i0, i1, i2, i3, i4, i5⟩, _, iz⟩, ⟨⟨q0, q1⟩, _, qz⟩⟩ := HX.out _ hSw; go_simp; try (with_reducible rfl))); (try simp only [Act.put, List.getElem_toArray, List.getElem_cons_succ, List.getElem_cons_zero, List.setIfInBounds_toArray, List.set_cons_zero, List.set_cons_succ])
    (refine wpAnyH_take (i := 7) (v := ?_) rfl (by kernel_rfl) (by kernel_rfl) (by kernel_rfl) (fun _ _ _ h => h) (Or.inl ⟨rfl, ?_⟩) (by assumption) ?_; rotate_left; focus (intro W hSw; (try dsimp only at hSw); obtain ⟨⟨⟨i0, i1, i2, i3, i4, i5⟩, _, iz⟩, ⟨⟨q0, q1⟩, _, qz⟩⟩ := HX.out _ hSw; go_simp; try (with_reducible rfl))); (try simp only [Act.put, List.getElem_toArray, List.getElem_cons_succ, List.getElem_cons_zero, List.setIfInBounds_toArray, List.set_cons_zero, List.set_cons_succ])
    refine wpAnyH_ready (rs := [8, 9]) (by kernel_rfl) (by simp) ?_; refine AllReadyH.cons rfl (fun K hK => ?_) (AllReadyH.cons rfl (fun K hK => ?_) AllReadyH.nil)
    · skip
      go_simp; obtain ⟨Gb, hGb⟩ : ∃ G, wD.heap.size = G := ⟨_, rfl⟩; have le_b : wB.heap.size ≤ Gb := by rw [← hGb]; exact Below.size hHeld
      have Hb : Hid (Bk2 (wD.alloc (.cells #[.int .i64 0, .int .i64 0] 25)) Gb 0 0) := by rw [← hGb]; exact bk2_new wD 0 0 _
      refine hK.out _ _ (Below.alloc hHeld (Below.size hHeld) _) (fun hHeld2 => ?_); (clear hHeld; rename _ => hHeld; clear hK K; have hHeld : Below wB.heap.size wB _ := hHeld); (try simp only [Act.put, List.getElem_toArray, List.getElem_cons_succ, List.getElem_cons_zero, List.setIfInBounds_toArray, List.set_cons_zero, List.set_cons_succ])
      rw [hGb]; clear hGb; obtain ⟨yw0, hwx⟩ : ∃ wx, wD.alloc (.cells #[.int .i64 0, .int .i64 0] 25) = wx := ⟨_, rfl⟩; rw [hwx] at Hb hHeld ⊢; clear hwx
      refine wpAnyH_ready (rs := [9]) (by kernel_rfl) (by simp) ?_; refine AllReadyH.cons rfl (fun K hK => ?_) AllReadyH.nil
      go_simp; obtain ⟨Gc, hGc⟩ : ∃ G, yw0.heap.size = G := ⟨_, rfl⟩; have le_c : wB.heap.size ≤ Gc := by rw [← hGc]; exact Below.size hHeld
      have ne_c_b : Gc ≠ Gb := by have := Hb.out.2.2; omega
      have ne_b_c : Gb ≠ Gc := Ne.symm ne_c_b
      have Hb := Lib.hid (Hb.out.below ((Below.refl _ _).alloc (Nat.le_refl _) (.cells #[.int .i64 0, .int .i64 0] 25))); skip
      have Hc : Hid (Bk2 (yw0.alloc (.cells #[.int .i64 0, .int .i64 0] 25)) Gc 0 0) := by rw [← hGc]; exact bk2_new yw0 0 0 _
      refine hK.out _ _ (Below.alloc hHeld (Below.size hHeld) _) (fun hHeld2 => ?_); (clear hHeld; rename _ => hHeld; clear hK K; have hHeld : Below wB.heap.size wB _ := hHeld); (try simp only [Act.put, List.getElem_toArray, List.getElem_cons_succ, List.getElem_cons_zero, List.setIfInBounds_toArray, List.set_cons_zero, List.set_cons_succ])
      rw [hGc]; clear hGc; obtain ⟨yw1, hwx⟩ : ∃ wx, yw0.alloc (.cells #[.int .i64 0, .int .i64 0] 25) = wx := ⟨_, rfl⟩; rw [hwx] at Hb Hc hHeld ⊢; clear hwx
      refine wpAnyH_ready (rs := [10]) (by kernel_rfl) (by simp) ?_; refine AllReadyH.cons rfl (fun K hK => ?_) AllReadyH.nil
      obtain ⟨⟨a0, a1⟩, ⟨f0, f1⟩, az⟩ := Hb.out; go_simp; clear a0 f0 a1 f1 az
      have Hc := Lib.hid ((Hc.out.far ⟨Gb, 0, none⟩ (.int .i64 x0) (by show Gc ≠ Gb; exact ne_c_b)).far ⟨Gb, 1, none⟩ (.int .i64 y0) (by show Gc ≠ Gb; exact ne_c_b))
      have Hb := Lib.hid ((Hb.out.set0 x0).set1 y0)
      refine hK.out _ _ (Below.setCell (Below.setCell hHeld (p := ⟨Gb, 0, none⟩) le_b _) (p := ⟨Gb, 1, none⟩) le_b _) (fun hHeld2 => ?_); (clear hHeld; rename _ => hHeld; clear hK K; have hHeld : Below wB.heap.size wB _ := hHeld); (try simp only [Act.put, List.getElem_toArray, List.getElem_cons_succ, List.getElem_cons_zero, List.setIfInBounds_toArray, List.set_cons_zero, List.set_cons_succ])
      obtain ⟨yw2, hwx⟩ : ∃ wx, (yw1.setCell ⟨Gb, 0, none⟩ (.int .i64 x0)).setCell ⟨Gb, 1, none⟩ (.int .i64 y0) = wx := ⟨_, rfl⟩; rw [hwx] at Hb Hc hHeld ⊢; clear hwx
      refine wpAnyH_ready (rs := [11]) (by kernel_rfl) (by simp) ?_; refine AllReadyH.cons rfl (fun K hK => ?_) AllReadyH.nil
      obtain ⟨⟨a0, a1⟩, ⟨f0, f1⟩, az⟩ := Hc.out; go_simp; clear a0 f0 a1 f1 az
      have Hb := Lib.hid ((Hb.out.far ⟨Gc, 0, none⟩ (.int .i64 x1) (by show Gb ≠ Gc; exact ne_b_c)).far ⟨Gc, 1, none⟩ (.int .i64 y1) (by show Gb ≠ Gc; exact ne_b_c))
      have Hc := Lib.hid ((Hc.out.set0 x1).set1 y1)
      refine hK.out _ _ (Below.setCell (Below.setCell hHeld (p := ⟨Gc, 0, none⟩) le_c _) (p := ⟨Gc, 1, none⟩) le_c _) (fun hHeld2 => ?_); (clear hHeld; rename _ => hHeld; clear hK K; have hHeld : Below wB.heap.size wB _ := hHeld); (try simp only [Act.put, List.getElem_toArray, List.getElem_cons_succ, List.getElem_cons_zero, List.setIfInBounds_toArray, List.set_cons_zero, List.set_cons_succ])
      obtain ⟨yw3, hwx⟩ : ∃ wx, (yw2.setCell ⟨Gc, 0, none⟩ (.int .i64 x1)).setCell ⟨Gc, 1, none⟩ (.int .i64 y1) = wx := ⟨_, rfl⟩; rw [hwx] at Hb Hc hHeld ⊢; clear hwx
      refine wpAnyH_done (by kernel_rfl) ?_ _
      go_wp2_with fail
      go_meet
      exact ⟨Gb, Gc, rfl, rfl, Hb.out, Hc.out, hHeld⟩
    · skip
      go_simp; obtain ⟨Gc, hGc⟩ : ∃ G, wD.heap.size = G := ⟨_, rfl⟩; have le_c : wB.heap.size ≤ Gc := by rw [← hGc]; exact Below.size hHeld
      have Hc : Hid (Bk2 (wD.alloc (.cells #[.int .i64 0, .int .i64 0] 25)) Gc 0 0) := by rw [← hGc]; exact bk2_new wD 0 0 _
      refine hK.out _ _ (Below.alloc hHeld (Below.size hHeld) _) (fun hHeld2 => ?_); (clear hHeld; rename _ => hHeld; clear hK K; have hHeld : Below wB.heap.size wB _ := hHeld); (try simp only [Act.put, List.getElem_toArray, List.getElem_cons_succ, List.getElem_cons_zero, List.setIfInBounds_toArray, List.set_cons_zero, List.set_cons_succ])
      rw [hGc]; clear hGc; obtain ⟨yw0, hwx⟩ : ∃ wx, wD.alloc (.cells #[.int .i64 0, .int .i64 0] 25) = wx := ⟨_, rfl⟩; rw [hwx] at Hc hHeld ⊢; clear hwx
      refine wpAnyH_ready (rs := [8]) (by kernel_rfl) (by simp) ?_; refine AllReadyH.cons rfl (fun K hK => ?_) AllReadyH.nil
      go_simp; obtain ⟨Gb, hGb⟩ : ∃ G, yw0.heap.size = G := ⟨_, rfl⟩; have le_b : wB.heap.size ≤ Gb := by rw [← hGb]; exact Below.size hHeld
      have ne_b_c : Gb ≠ Gc := by have := Hc.out.2.2; omega
      have ne_c_b : Gc ≠ Gb := Ne.symm ne_b_c
      have Hc := Lib.hid (Hc.out.below ((Below.refl _ _).alloc (Nat.le_refl _) (.cells #[.int .i64 0, .int .i64 0] 25))); skip
      have Hb : Hid (Bk2 (yw0.alloc (.cells #[.int .i64 0, .int .i64 0] 25)) Gb 0 0) := by rw [← hGb]; exact bk2_new yw0 0 0 _
      refine hK.out _ _ (Below.alloc hHeld (Below.size hHeld) _) (fun hHeld2 => ?_); (clear hHeld; rename _ => hHeld; clear hK K; have hHeld : Below wB.heap.size wB _ := hHeld); (try simp only [Act.put, List.getElem_toArray, List.getElem_cons_succ, List.getElem_cons_zero, List.setIfInBounds_toArray, List.set_cons_zero, List.set_cons_succ])
      rw [hGb]; clear hGb; obtain ⟨yw1, hwx⟩ : ∃ wx, yw0.alloc (.cells #[.int .i64 0, .int .i64 0] 25) = wx := ⟨_, rfl⟩; rw [hwx] at Hc Hb hHeld ⊢; clear hwx
      refine wpAnyH_ready (rs := [10]) (by kernel_rfl) (by simp) ?_; refine AllReadyH.cons rfl (fun K hK => ?_) AllReadyH.nil
      obtain ⟨⟨a0, a1⟩, ⟨f0, f1⟩, az⟩ := Hb.out; go_simp; clear a0 f0 a1 f1 az
      have Hc := Lib.hid ((Hc.out.far ⟨Gb, 0, none⟩ (.int .i64 x0) (by show Gc ≠ Gb; exact ne_c_b)).far ⟨Gb, 1, none⟩ (.int .i64 y0) (by show Gc ≠ Gb; exact ne_c_b))
      have Hb := Lib.hid ((Hb.out.set0 x0).set1 y0)
      refine hK.out _ _ (Below.setCell (Below.setCell hHeld (p := ⟨Gb, 0, none⟩) le_b _) (p := ⟨Gb, 1, none⟩) le_b _) (fun hHeld2 => ?_); (clear hHeld; rename _ => hHeld; clear hK K; have hHeld : Below wB.heap.size wB _ := hHeld); (try simp only [Act.put, List.getElem_toArray, List.getElem_cons_succ, List.getElem_cons_zero, List.setIfInBounds_toArray, List.set_cons_zero, List.set_cons_succ])
      obtain ⟨yw2, hwx⟩ : ∃ wx, (yw1.setCell ⟨Gb, 0, none⟩ (.int .i64 x0)).setCell ⟨Gb, 1, none⟩ (.int .i64 y0) = wx := ⟨_, rfl⟩; rw [hwx] at Hc Hb hHeld ⊢; clear hwx
      refine wpAnyH_ready (rs := [11]) (by kernel_rfl) (by simp) ?_; refine AllReadyH.cons rfl (fun K hK => ?_) AllReadyH.nil
      obtain ⟨⟨a0, a1⟩, ⟨f0, f1⟩, az⟩ := Hc.out; go_simp; clear a0 f0 a1 f1 az
      have Hb := Lib.hid ((Hb.out.far ⟨Gc, 0, none⟩ (.int .i64 x1) (by show Gb ≠ Gc; exact ne_b_c)).far ⟨Gc, 1, none⟩ (.int .i64 y1) (by show Gb ≠ Gc; exact ne_b_c))
      have Hc := Lib.hid ((Hc.out.set0 x1).set1 y1)
      refine hK.out _ _ (Below.setCell (Below.setCell hHeld (p := ⟨Gc, 0, none⟩) le_c _) (p := ⟨Gc, 1, none⟩) le_c _) (fun hHeld2 => ?_); (clear hHeld; rename _ => hHeld; clear hK K; have hHeld : Below wB.heap.size wB _ := hHeld); (try simp only [Act.put, List.getElem_toArray, List.getElem_cons_succ, List.getElem_cons_zero, List.setIfInBounds_toArray, List.set_cons_zero, List.set_cons_succ])
      obtain ⟨yw3, hwx⟩ : ∃ wx, (yw2.setCell ⟨Gc, 0, none⟩ (.int .i64 x1)).setCell ⟨Gc, 1, none⟩ (.int .i64 y1) = wx := ⟨_, rfl⟩; rw [hwx] at Hc Hb hHeld ⊢; clear hwx
      refine wpAnyH_done (by kernel_rfl) ?_ _
      go_wp2_with fail
      go_meet
      exact ⟨Gb, Gc, rfl, rfl, Hb.out, Hc.out, hHeld⟩
  case rest =>
    obtain ⟨Gb, Gc, rfl, rfl, hb, hc, hbx⟩ := hcut
    obtain ⟨w2, rfl⟩ : ∃ w2, w2 = wc := ⟨_, rfl⟩
    have HX2 : Hid (∀ W, Below w2.heap.size w2 W → Bk2 W Gb x0 y0 ∧ Bk2 W Gc x1 y1 ∧ Bk2 W (w.heap.size + 1) px py) := fun W hW => ⟨hb.below hW, hc.below hW, (HX.out _ (below_after hW hbx)).2⟩
    have HBX := Lib.hid hbx
    clear hb hc hbx n1 n2
    go_wp2_with fail
    refine wp_region_held_drew (S := fun W => Below w2.heap.size w2 W) (by kernel_rfl) ?_ (fun hHeld => ?_); focus ((try dsimp only); exact (Below.refl _ _).drew)
    have hHeld : Below w2.heap.size w2 _ := hHeld
    obtain ⟨wD, hwD⟩ : ∃ wD, w2.drew = wD := ⟨_, rfl⟩
    rw [hwD] at hHeld ⊢
    clear hwD
    (refine wpAnyH_take (i := 0) (v := ?_) rfl (by kernel_rfl) (by kernel_rfl) (by kernel_rfl) (fun _ _ _ h => h) (Or.inl ⟨rfl, ?_⟩) (by assumption) ?_; rotate_left; focus (intro W hSw; (try dsimp only at hSw); obtain ⟨⟨⟨b0, b1⟩, _, bz⟩, ⟨⟨c0, c1⟩, _, cz⟩, ⟨⟨q0, q1⟩, _, qz⟩⟩ := HX2.out _ hSw; go_simp; try (with_reducible rfl))); (try simp only [Act.put, List.getElem_toArray, List.getElem_cons_succ, List.getElem_cons_zero, List.setIfInBounds_toArray, List.set_cons_zero, List.set_cons_succ])
    (refine wpAnyH_take (i := 1) (v := ?_) rfl (by kernel_rfl) (by kernel_rfl) (by kernel_rfl) (fun _ _ _ h => h) (Or.inl ⟨rfl, ?_⟩) (by assumption) ?_; rotate_left; focus (intro W hSw; (try dsimp only at hSw); obtain ⟨⟨⟨b0, b1⟩, _, bz⟩, ⟨⟨c0, c1⟩, _, cz⟩, ⟨⟨q0, q1⟩, _, qz⟩⟩ := HX2.out _ hSw; go_simp; try (with_reducible rfl))); (try simp only [Act.put, List.getElem_toArray, List.getElem_cons_succ, List.getElem_cons_zero, List.setIfInBounds_toArray, List.set_cons_zero, List.set_cons_succ])
    (refine wpAnyH_take (i := 3) (v := ?_) rfl (by kernel_rfl) (by kernel_rfl) (by kernel_rfl) (fun _ _ _ h => h) (Or.inl ⟨rfl, ?_⟩) (by assumption) ?_; rotate_left; focus (intro W hSw; (try dsimp only at hSw); obtain ⟨⟨⟨b0, b1⟩, _, bz⟩, ⟨⟨c0, c1⟩, _, cz⟩, ⟨⟨q0, q1⟩, _, qz⟩⟩ := HX2.out _ hSw; go_simp; try (with_reducible rfl))); (try simp only [Act.put, List.getElem_toArray, List.getElem_cons_succ, List.getElem_cons_zero, List.setIfInBounds_toArray, List.set_cons_zero, List.set_cons_succ])
    (refine wpAnyH_take (i := 4) (v := ?_) rfl (by kernel_rfl) (by kernel_rfl) (by kernel_rfl) (fun _ _ _ h => h) (Or.inl ⟨rfl, ?_⟩) (by assumption) ?_; rotate_left; focus (intro W hSw; (try dsimp only at hSw); obtain ⟨⟨⟨b0, b1⟩, _, bz⟩, ⟨⟨c0, c1⟩, _, cz⟩, ⟨⟨q0, q1⟩, _, qz⟩⟩ := HX2.out _ hSw; go_simp; try (with_reducible rfl))); (try simp only [Act.put, List.getElem_toArray, List.getElem_cons_succ, List.getElem_cons_zero, List.setIfInBounds_toArray, List.set_cons_zero, List.set_cons_succ])
    refine wpAnyH_ready (rs := [2]) (by kernel_rfl) (by simp) ?_; refine AllReadyH.cons rfl (fun K hK => ?_) AllReadyH.nil
    go_simp; (go_at_call 91; refine (HS1.out _).mono ?_; rintro en yw0 ⟨rfl, hb2⟩); refine hK.out _ _ (below_after hb2 hHeld) (fun hHeld2 => ?_); clear hb2; (clear hHeld; rename _ => hHeld; clear hK K; have hHeld : Below w2.heap.size w2 _ := hHeld); (try simp only [Act.put, List.getElem_toArray, List.getElem_cons_succ, List.getElem_cons_zero, List.setIfInBounds_toArray, List.set_cons_zero, List.set_cons_succ])
    refine wpAnyH_ready (rs := [5]) (by kernel_rfl) (by simp) ?_; refine AllReadyH.cons rfl (fun K hK => ?_) AllReadyH.nil
    go_simp; (go_at_call 91; refine (HS2.out _).mono ?_; rintro en yw1 ⟨rfl, hb2⟩); refine hK.out _ _ (below_after hb2 hHeld) (fun hHeld2 => ?_); clear hb2; (clear hHeld; rename _ => hHeld; clear hK K; have hHeld : Below w2.heap.size w2 _ := hHeld); (try simp only [Act.put, List.getElem_toArray, List.getElem_cons_succ, List.getElem_cons_zero, List.setIfInBounds_toArray, List.set_cons_zero, List.set_cons_succ])
    refine wpAnyH_ready (rs := [6]) (by kernel_rfl) (by simp) ?_; refine AllReadyH.cons rfl (fun K hK => ?_) AllReadyH.nil
    go_simp; (go_at_call 95; refine (HD.out _).mono ?_; rintro en yw2 ⟨rfl, hb2⟩); refine hK.out _ _ (below_after hb2 hHeld) (fun hHeld2 => ?_); clear hb2; (clear hHeld; rename _ => hHeld; clear hK K; have hHeld : Below w2.heap.size w2 _ := hHeld); (try simp only [Act.put, List.getElem_toArray, List.getElem_cons_succ, List.getElem_cons_zero, List.setIfInBounds_toArray, List.set_cons_zero, List.set_cons_succ])
    (refine wpAnyH_take (i := 7) (v := ?_) rfl (by kernel_rfl) (by kernel_rfl) (by kernel_rfl) (fun _ _ _ h => h) (Or.inl ⟨rfl, ?_⟩) (by assumption) ?_; rotate_left; focus (intro W hSw; (try dsimp only at hSw); obtain ⟨⟨⟨b0, b1⟩, _, bz⟩, ⟨⟨c0, c1⟩, _, cz⟩, ⟨⟨q0, q1⟩, _, qz⟩⟩ := HX2.out _ hSw; go_simp; try (with_reducible rfl))); (try simp only [Act.put, List.getElem_toArray, List.getElem_cons_succ, List.getElem_cons_zero, List.setIfInBounds_toArray, List.set_cons_zero, List.set_cons_succ])
    refine wpAnyH_done (by kernel_rfl) ?_ _
    have hbF := below_after (below_after hHeld HBX.out) HBW.out
    clear hHeld
    go_wp2
    go_ret
    exact ⟨rfl, hbF⟩
set_option maxHeartbeats 4000000 in
theorem l04Side_1 (x0 y0 x1 y1 x2 y2 px py : Int) (w : World) (h0 : Sml x0) (h1 : Sml y0) (h2 : Sml x1) (h3 : Sml y1) (h4 : Sml x2) (h5 : Sml y2) (h6 : Q4 px) (h7 : Q4 py) : Calls Try.prog 70 #[.agg #[.int .i64 x0, .int .i64 y0, .int .i64 x1, .int .i64 y1, .int .i64 x2, .int .i64 y2], .int .i64 1, .agg #[.int .i64 px, .int .i64 py]] w fun e w' => e = .returned (.int .i64 (sd x1 y1 x2 y2 px py)) ∧ Below w.heap.size w w' := by
  have HS1 : Hid (∀ w, Calls Try.prog 91 #[.agg #[.int .i64 x2, .int .i64 y2], .agg #[.int .i64 x1, .int .i64 y1], .int .i64 (-1)] w fun e w' => e = .returned (.agg #[.int .i64 (x2 - x1), .int .i64 (y2 - y1)]) ∧ Below w.heap.size w w') := fun w => l01Plus_minus x2 y2 x1 y1 w h4.bn h5.bn h2.bn h3.bn
  have HS2 : Hid (∀ w, Calls Try.prog 91 #[.agg #[.int .i64 px, .int .i64 py], .agg #[.int .i64 x1, .int .i64 y1], .int .i64 (-1)] w fun e w' => e = .returned (.agg #[.int .i64 (px - x1), .int .i64 (py - y1)]) ∧ Below w.heap.size w w') := fun w => l01Plus_minus px py x1 y1 w h6.bn h7.bn h2.bn h3.bn
  have HD : Hid (∀ w, Calls Try.prog 95 #[.agg #[.int .i64 (x2 - x1), .int .i64 (y2 - y1)], .agg #[.int .i64 (px - x1), .int .i64 (py - y1)]] w fun e w' => e = .returned (.int .i64 (sd x1 y1 x2 y2 px py)) ∧ Below w.heap.size w w') := fun w => l01Det_any _ _ _ _ w (h4.q4.sub h2.q4) (h5.q4.sub h3.q4) (h6.sub h2.q4) (h7.sub h3.q4)
  have n1 : IntKind.i64.wrap (1 + 1) = 2 := by decide
  have n2 : IntKind.i64.wrap (Int.tmod 2 3) = 2 := by decide
  have n3 : IntKind.i64.wrap 0 = 0 := by decide
  have n4 : IntKind.i64.wrap 1 = 1 := by decide
  have n5 : IntKind.i64.wrap 2 = 2 := by decide
  have n6 : IntKind.i64.wrap 3 = 3 := by decide
  clear h0 h1 h2 h3 h4 h5 h6 h7
  go_enter Try.func70, Try.ntmps70
  go_upto_region 1 with fail
  obtain ⟨wB, hwB⟩ : ∃ wB, wB = (w.alloc (.cells #[.int .i64 x0, .int .i64 y0, .int .i64 x1, .int .i64 y1, .int .i64 x2, .int .i64 y2] 27)).alloc (.cells #[.int .i64 px, .int .i64 py] 25) := ⟨_, rfl⟩
  rw [← hwB]
  have h6 : Bk6 wB w.heap.size x0 y0 x1 y1 x2 y2 := by rw [hwB]; exact (bk6_new w x0 y0 x1 y1 x2 y2 _).below ((Below.refl _ _).alloc (Nat.le_refl _) _)
  have h2 : Bk2 wB (w.heap.size + 1) px py := by
    rw [hwB]
    have h := bk2_new (w.alloc (.cells #[.int .i64 x0, .int .i64 y0, .int .i64 x1, .int .i64 y1, .int .i64 x2, .int .i64 y2] 27)) px py 25
    rw [World.size_alloc] at h
    exact h
  have HBW : Hid (Below w.heap.size w wB) := by
    show Below w.heap.size w wB
    rw [hwB]; (repeat' (first | (with_reducible exact Below.refl _ _) | (with_reducible refine Below.alloc ?_ ?_ _) | (with_reducible refine Below.setCell ?_ ?_ _) | (with_reducible refine Below.drew ?_) | (with_reducible refine below_drewN ?_ _) | (with_reducible assumption) | (with_reducible refine below_after (by with_reducible assumption) ?_) | go_size))
  have HX : Hid (∀ W, Below wB.heap.size wB W → Bk6 W w.heap.size x0 y0 x1 y1 x2 y2 ∧ Bk2 W (w.heap.size + 1) px py) := fun W hW => ⟨h6.below hW, h2.below hW⟩
  clear hwB h6 h2
  go_cut [7, 8] (fun v7 v8 wx => ∃ Gb Gc : Nat, v7 = .pointer (some ⟨Gb, 0, none⟩) ∧ v8 = .pointer (some ⟨Gc, 0, none⟩) ∧ Bk2 wx Gb x1 y1 ∧ Bk2 wx Gc x2 y2 ∧ Below wB.heap.size wB wx)
  case first =>
    refine wp_region_held_drew (S := fun W => Below wB.heap.size wB W) (by kernel_rfl) ?_ (fun hHeld => ?_); focus ((try dsimp only); exact (Below.refl _ _).drew)
    have hHeld : Below wB.heap.size wB _ := hHeld
    obtain ⟨wD, hwD⟩ : ∃ wD, wB.drew = wD := ⟨_, rfl⟩
    rw [hwD] at hHeld ⊢
    clear hwD
    (refine wpAnyH_take (i := 0) (v := ?_) rfl (by kernel_rfl) (by kernel_rfl) (by kernel_rfl) (fun _ _ _ h => h) (Or.inl ⟨rfl, ?_⟩) (by assumption) ?_; rotate_left; focus (intro W hSw; (try dsimp only at hSw); obtain ⟨⟨⟨i0, i1, i2, i3, i4, i5⟩, _, iz⟩, ⟨⟨q0, q1⟩, _, qz⟩⟩ := HX.out _ hSw; go_simp; try (with_reducible rfl))); (try simp only [Act.put, List.getElem_toArray, List.getElem_cons_succ, List.getElem_cons_zero, List.setIfInBounds_toArray, List.set_cons_zero, List.set_cons_succ])
    (refine wpAnyH_take (i := 1) (v := ?_) rfl (by kernel_rfl) (by kernel_rfl) (by kernel_rfl) (fun _ _ _ h => h) (Or.inl ⟨rfl, ?_⟩) (by assumption) ?_; rotate_left; focus (intro W hSw; (try dsimp only at hSw); obtain ⟨⟨⟨i0, i1, i2, i3, i4, i5⟩, _, iz⟩, ⟨⟨q0, q1⟩, _, qz⟩⟩ := HX.out _ hSw; go_simp; try (with_reducible rfl))); (try simp only [Act.put, List.getElem_toArray, List.getElem_cons_succ, List.getElem_cons_zero, List.setIfInBounds_toArray, List.set_cons_zero, List.set_cons_succ])
    (refine wpAnyH_take (i := 2) (v := ?_) rfl (by kernel_rfl) (by kernel_rfl) (by kernel_rfl) (fun _ _ _ h => h) (Or.inl ⟨rfl, ?_⟩) (by assumption) ?_; rotate_left; focus (intro W hSw; (try dsimp only at hSw); obtain ⟨⟨⟨i0, i1, i2, i3, i4, i5⟩, _, iz⟩, ⟨⟨q0, q1⟩, _, qz⟩⟩ := HX.out _ hSw; go_simp; try (with_reducible rfl))); (try simp only [Act.put, List.getElem_toArray, List.getElem_cons_succ, List.getElem_cons_zero, List.setIfInBounds_toArray, List.set_cons_zero, List.set_cons_succ])
    (refine wpAnyH_take (i := 3) (v := ?_) rfl (by kernel_rfl) (by kernel_rfl) (by kernel_rfl) (fun _ _ _ h => h) (Or.inl ⟨rfl, ?_⟩) (by assumption) ?_; rotate_left; focus (intro W hSw; (try dsimp only at hSw); obtain ⟨⟨⟨i0, i1, i2, i3, i4, i5⟩, _, iz⟩, ⟨⟨q0, q1⟩, _, qz⟩⟩ := HX.out _ hSw; go_simp; try (with_reducible rfl))); (try simp only [Act.put, List.getElem_toArray, List.getElem_cons_succ, List.getElem_cons_zero, List.setIfInBounds_toArray, List.set_cons_zero, List.set_cons_succ])
    (refine wpAnyH_take (i := 4) (v := ?_) rfl (by kernel_rfl) (by kernel_rfl) (by kernel_rfl) (fun _ _ _ h => h) (Or.inl ⟨rfl, ?_⟩) (by assumption) ?_; rotate_left; focus (intro W hSw; (try dsimp only at hSw); obtain ⟨⟨⟨i0, i1, i2, i3, i4, i5⟩, _, iz⟩, ⟨⟨q0, q1⟩, _, qz⟩⟩ := HX.out _ hSw; go_simp; try (with_reducible rfl))); (try simp only [Act.put, List.getElem_toArray, List.getElem_cons_succ, List.getElem_cons_zero, List.setIfInBounds_toArray, List.set_cons_zero, List.set_cons_succ])
    (refine wpAnyH_take (i := 5) (v := ?_) rfl (by kernel_rfl) (by kernel_rfl) (by kernel_rfl) (fun _ _ _ h => h) (Or.inl ⟨rfl, ?_⟩) (by assumption) ?_; rotate_left; focus (intro W hSw; (try dsimp only at hSw); obtain ⟨⟨⟨i0, i1, i2, i3, i4, i5⟩, _, iz⟩, ⟨⟨q0, q1⟩, _, qz⟩⟩ := HX.out _ hSw; go_simp; try (with_reducible rfl))); (try simp only [Act.put, List.getElem_toArray, List.getElem_cons_succ, List.getElem_cons_zero, List.setIfInBounds_toArray, List.set_cons_zero, List.set_cons_succ])
    (refine wpAnyH_take (i := 6) (v := ?_) rfl (by kernel_rfl) (by kernel_rfl) (by kernel_rfl) (fun _ _ _ h => h) (Or.inl ⟨rfl, ?_⟩) (by assumption) ?_; rotate_left; focus (intro W hSw; (try dsimp only at hSw); obtain ⟨⟨⟨i0, i1, i2, i3, i4, i5⟩, _, iz⟩, ⟨⟨q0, q1⟩, _, qz⟩⟩ := HX.out _ hSw; go_simp; try (with_reducible rfl))); (try simp only [Act.put, List.getElem_toArray, List.getElem_cons_succ, List.getElem_cons_zero, List.setIfInBounds_toArray, List.set_cons_zero, List.set_cons_succ])
    (refine wpAnyH_take (i := 7) (v := ?_) rfl (by kernel_rfl) (by kernel_rfl) (by kernel_rfl) (fun _ _ _ h => h) (Or.inl ⟨rfl, ?_⟩) (by assumption) ?_; rotate_left; focus (intro W hSw; (try dsimp only at hSw); obtain ⟨⟨⟨i0, i1, i2, i3, i4, i5⟩, _, iz⟩, ⟨⟨q0, q1⟩, _, qz⟩⟩ := HX.out _ hSw; go_simp; try (with_reducible rfl))); (try simp only [Act.put, List.getElem_toArray, List.getElem_cons_succ, List.getElem_cons_zero, List.setIfInBounds_toArray, List.set_cons_zero, List.set_cons_succ])
    refine wpAnyH_ready (rs := [8, 9]) (by kernel_rfl) (by simp) ?_; refine AllReadyH.cons rfl (fun K hK => ?_) (AllReadyH.cons rfl (fun K hK => ?_) AllReadyH.nil)
    · skip
      go_simp; obtain ⟨Gb, hGb⟩ : ∃ G, wD.heap.size = G := ⟨_, rfl⟩; have le_b : wB.heap.size ≤ Gb := by rw [← hGb]; exact Below.size hHeld
      have Hb : Hid (Bk2 (wD.alloc (.cells #[.int .i64 0, .int .i64 0] 25)) Gb 0 0) := by rw [← hGb]; exact bk2_new wD 0 0 _
      refine hK.out _ _ (Below.alloc hHeld (Below.size hHeld) _) (fun hHeld2 => ?_); (clear hHeld; rename _ => hHeld; clear hK K; have hHeld : Below wB.heap.size wB _ := hHeld); (try simp only [Act.put, List.getElem_toArray, List.getElem_cons_succ, List.getElem_cons_zero, List.setIfInBounds_toArray, List.set_cons_zero, List.set_cons_succ])
      rw [hGb]; clear hGb; obtain ⟨yw0, hwx⟩ : ∃ wx, wD.alloc (.cells #[.int .i64 0, .int .i64 0] 25) = wx := ⟨_, rfl⟩; rw [hwx] at Hb hHeld ⊢; clear hwx
      refine wpAnyH_ready (rs := [9]) (by kernel_rfl) (by simp) ?_; refine AllReadyH.cons rfl (fun K hK => ?_) AllReadyH.nil
      go_simp; obtain ⟨Gc, hGc⟩ : ∃ G, yw0.heap.size = G := ⟨_, rfl⟩; have le_c : wB.heap.size ≤ Gc := by rw [← hGc]; exact Below.size hHeld
      have ne_c_b : Gc ≠ Gb := by have := Hb.out.2.2; omega
      have ne_b_c : Gb ≠ Gc := Ne.symm ne_c_b
      have Hb := Lib.hid (Hb.out.below ((Below.refl _ _).alloc (Nat.le_refl _) (.cells #[.int .i64 0, .int .i64 0] 25))); skip
      have Hc : Hid (Bk2 (yw0.alloc (.cells #[.int .i64 0, .int .i64 0] 25)) Gc 0 0) := by rw [← hGc]; exact bk2_new yw0 0 0 _
      refine hK.out _ _ (Below.alloc hHeld (Below.size hHeld) _) (fun hHeld2 => ?_); (clear hHeld; rename _ => hHeld; clear hK K; have hHeld : Below wB.heap.size wB _ := hHeld); (try simp only [Act.put, List.getElem_toArray, List.getElem_cons_succ, List.getElem_cons_zero, List.setIfInBounds_toArray, List.set_cons_zero, List.set_cons_succ])
      rw [hGc]; clear hGc; obtain ⟨yw1, hwx⟩ : ∃ wx, yw0.alloc (.cells #[.int .i64 0, .int .i64 0] 25) = wx := ⟨_, rfl⟩; rw [hwx] at Hb Hc hHeld ⊢; clear hwx
      refine wpAnyH_ready (rs := [10]) (by kernel_rfl) (by simp) ?_; refine AllReadyH.cons rfl (fun K hK => ?_) AllReadyH.nil
      obtain ⟨⟨a0, a1⟩, ⟨f0, f1⟩, az⟩ := Hb.out; go_simp; clear a0 f0 a1 f1 az
      have Hc := Lib.hid ((Hc.out.far ⟨Gb, 0, none⟩ (.int .i64 x1) (by show Gc ≠ Gb; exact ne_c_b)).far ⟨Gb, 1, none⟩ (.int .i64 y1) (by show Gc ≠ Gb; exact ne_c_b))
      have Hb := Lib.hid ((Hb.out.set0 x1).set1 y1)
      refine hK.out _ _ (Below.setCell (Below.setCell hHeld (p := ⟨Gb, 0, none⟩) le_b _) (p := ⟨Gb, 1, none⟩) le_b _) (fun hHeld2 => ?_); (clear hHeld; rename _ => hHeld; clear hK K; have hHeld : Below wB.heap.size wB _ := hHeld); (try simp only [Act.put, List.getElem_toArray, List.getElem_cons_succ, List.getElem_cons_zero, List.setIfInBounds_toArray, List.set_cons_zero, List.set_cons_succ])
      obtain ⟨yw2, hwx⟩ : ∃ wx, (yw1.setCell ⟨Gb, 0, none⟩ (.int .i64 x1)).setCell ⟨Gb, 1, none⟩ (.int .i64 y1) = wx := ⟨_, rfl⟩; rw [hwx] at Hb Hc hHeld ⊢; clear hwx
      refine wpAnyH_ready (rs := [11]) (by kernel_rfl) (by simp) ?_; refine AllReadyH.cons rfl (fun K hK => ?_) AllReadyH.nil
      obtain ⟨⟨a0, a1⟩, ⟨f0, f1⟩, az⟩ := Hc.out; go_simp; clear a0 f0 a1 f1 az
      have Hb := Lib.hid ((Hb.out.far ⟨Gc, 0, none⟩ (.int .i64 x2) (by show Gb ≠ Gc; exact ne_b_c)).far ⟨Gc, 1, none⟩ (.int .i64 y2) (by show Gb ≠ Gc; exact ne_b_c))
      have Hc := Lib.hid ((Hc.out.set0 x2).set1 y2)
      refine hK.out _ _ (Below.setCell (Below.setCell hHeld (p := ⟨Gc, 0, none⟩) le_c _) (p := ⟨Gc, 1, none⟩) le_c _) (fun hHeld2 => ?_); (clear hHeld; rename _ => hHeld; clear hK K; have hHeld : Below wB.heap.size wB _ := hHeld); (try simp only [Act.put, List.getElem_toArray, List.getElem_cons_succ, List.getElem_cons_zero, List.setIfInBounds_toArray, List.set_cons_zero, List.set_cons_succ])
      obtain ⟨yw3, hwx⟩ : ∃ wx, (yw2.setCell ⟨Gc, 0, none⟩ (.int .i64 x2)).setCell ⟨Gc, 1, none⟩ (.int .i64 y2) = wx := ⟨_, rfl⟩; rw [hwx] at Hb Hc hHeld ⊢; clear hwx
      refine wpAnyH_done (by kernel_rfl) ?_ _
      go_wp2_with fail
      go_meet
      exact ⟨Gb, Gc, rfl, rfl, Hb.out, Hc.out, hHeld⟩
    · skip
      go_simp; obtain ⟨Gc, hGc⟩ : ∃ G, wD.heap.size = G := ⟨_, rfl⟩; have le_c : wB.heap.size ≤ Gc := by rw [← hGc]; exact Below.size hHeld
      have Hc : Hid (Bk2 (wD.alloc (.cells #[.int .i64 0, .int .i64 0] 25)) Gc 0 0) := by rw [← hGc]; exact bk2_new wD 0 0 _
      refine hK.out _ _ (Below.alloc hHeld (Below.size hHeld) _) (fun hHeld2 => ?_); (clear hHeld; rename _ => hHeld; clear hK K; have hHeld : Below wB.heap.size wB _ := hHeld); (try simp only [Act.put, List.getElem_toArray, List.getElem_cons_succ, List.getElem_cons_zero, List.setIfInBounds_toArray, List.set_cons_zero, List.set_cons_succ])
      rw [hGc]; clear hGc; obtain ⟨yw0, hwx⟩ : ∃ wx, wD.alloc (.cells #[.int .i64 0, .int .i64 0] 25) = wx := ⟨_, rfl⟩; rw [hwx] at Hc hHeld ⊢; clear hwx
      refine wpAnyH_ready (rs := [8]) (by kernel_rfl) (by simp) ?_; refine AllReadyH.cons rfl (fun K hK => ?_) AllReadyH.nil
      go_simp; obtain ⟨Gb, hGb⟩ : ∃ G, yw0.heap.size = G := ⟨_, rfl⟩; have le_b : wB.heap.size ≤ Gb := by rw [← hGb]; exact Below.size hHeld
      have ne_b_c : Gb ≠ Gc := by have := Hc.out.2.2; omega
      have ne_c_b : Gc ≠ Gb := Ne.symm ne_b_c
      have Hc := Lib.hid (Hc.out.below ((Below.refl _ _).alloc (Nat.le_refl _) (.cells #[.int .i64 0, .int .i64 0] 25))); skip
      have Hb : Hid (Bk2 (yw0.alloc (.cells #[.int .i64 0, .int .i64 0] 25)) Gb 0 0) := by rw [← hGb]; exact bk2_new yw0 0 0 _
      refine hK.out _ _ (Below.alloc hHeld (Below.size hHeld) _) (fun hHeld2 => ?_); (clear hHeld; rename _ => hHeld; clear hK K; have hHeld : Below wB.heap.size wB _ := hHeld); (try simp only [Act.put, List.getElem_toArray, List.getElem_cons_succ, List.getElem_cons_zero, List.setIfInBounds_toArray, List.set_cons_zero, List.set_cons_succ])
      rw [hGb]; clear hGb; obtain ⟨yw1, hwx⟩ : ∃ wx, yw0.alloc (.cells #[.int .i64 0, .int .i64 0] 25) = wx := ⟨_, rfl⟩; rw [hwx] at Hc Hb hHeld ⊢; clear hwx
      refine wpAnyH_ready (rs := [10]) (by kernel_rfl) (by simp) ?_; refine AllReadyH.cons rfl (fun K hK => ?_) AllReadyH.nil
      obtain ⟨⟨a0, a1⟩, ⟨f0, f1⟩, az⟩ := Hb.out; go_simp; clear a0 f0 a1 f1 az
      have Hc := Lib.hid ((Hc.out.far ⟨Gb, 0, none⟩ (.int .i64 x1) (by show Gc ≠ Gb; exact ne_c_b)).far ⟨Gb, 1, none⟩ (.int .i64 y1) (by show Gc ≠ Gb; exact ne_c_b))
      have Hb := Lib.hid ((Hb.out.set0 x1).set1 y1)
      refine hK.out _ _ (Below.setCell (Below.setCell hHeld (p := ⟨Gb, 0, none⟩) le_b _) (p := ⟨Gb, 1, none⟩) le_b _) (fun hHeld2 => ?_); (clear hHeld; rename _ => hHeld; clear hK K; have hHeld : Below wB.heap.size wB _ := hHeld); (try simp only [Act.put, List.getElem_toArray, List.getElem_cons_succ, List.getElem_cons_zero, List.setIfInBounds_toArray, List.set_cons_zero, List.set_cons_succ])
      obtain ⟨yw2, hwx⟩ : ∃ wx, (yw1.setCell ⟨Gb, 0, none⟩ (.int .i64 x1)).setCell ⟨Gb, 1, none⟩ (.int .i64 y1) = wx := ⟨_, rfl⟩; rw [hwx] at Hc Hb hHeld ⊢; clear hwx
      refine wpAnyH_ready (rs := [11]) (by kernel_rfl) (by simp) ?_; refine AllReadyH.cons rfl (fun K hK => ?_) AllReadyH.nil
      obtain ⟨⟨a0, a1⟩, ⟨f0, f1⟩, az⟩ := Hc.out; go_simp; clear a0 f0 a1 f1 az
      have Hb := Lib.hid ((Hb.out.far ⟨Gc, 0, none⟩ (.int .i64 x2) (by show Gb ≠ Gc; exact ne_b_c)).far ⟨Gc, 1, none⟩ (.int .i64 y2) (by show Gb ≠ Gc; exact ne_b_c))
      have Hc := Lib.hid ((Hc.out.set0 x2).set1 y2)
      refine hK.out _ _ (Below.setCell (Below.setCell hHeld (p := ⟨Gc, 0, none⟩) le_c _) (p := ⟨Gc, 1, none⟩) le_c _) (fun hHeld2 => ?_); (clear hHeld; rename _ => hHeld; clear hK K; have hHeld : Below wB.heap.size wB _ := hHeld); (try simp only [Act.put, List.getElem_toArray, List.getElem_cons_succ, List.getElem_cons_zero, List.setIfInBounds_toArray, List.set_cons_zero, List.set_cons_succ])
      obtain ⟨yw3, hwx⟩ : ∃ wx, (yw2.setCell ⟨Gc, 0, none⟩ (.int .i64 x2)).setCell ⟨Gc, 1, none⟩ (.int .i64 y2) = wx := ⟨_, rfl⟩; rw [hwx] at Hc Hb hHeld ⊢; clear hwx
      refine wpAnyH_done (by kernel_rfl) ?_ _
      go_wp2_with fail
      go_meet
      exact ⟨Gb, Gc, rfl, rfl, Hb.out, Hc.out, hHeld⟩
  case rest =>
    obtain ⟨Gb, Gc, rfl, rfl, hb, hc, hbx⟩ := hcut
    obtain ⟨w2, rfl⟩ : ∃ w2, w2 = wc := ⟨_, rfl⟩
    have HX2 : Hid (∀ W, Below w2.heap.size w2 W → Bk2 W Gb x1 y1 ∧ Bk2 W Gc x2 y2 ∧ Bk2 W (w.heap.size + 1) px py) := fun W hW => ⟨hb.below hW, hc.below hW, (HX.out _ (below_after hW hbx)).2⟩
    have HBX := Lib.hid hbx
    clear hb hc hbx n1 n2
    go_wp2_with fail
    refine wp_region_held_drew (S := fun W => Below w2.heap.size w2 W) (by kernel_rfl) ?_ (fun hHeld => ?_); focus ((try dsimp only); exact (Below.refl _ _).drew)
    have hHeld : Below w2.heap.size w2 _ := hHeld
    obtain ⟨wD, hwD⟩ : ∃ wD, w2.drew = wD := ⟨_, rfl⟩
    rw [hwD] at hHeld ⊢
    clear hwD
    (refine wpAnyH_take (i := 0) (v := ?_) rfl (by kernel_rfl) (by kernel_rfl) (by kernel_rfl) (fun _ _ _ h => h) (Or.inl ⟨rfl, ?_⟩) (by assumption) ?_; rotate_left; focus (intro W hSw; (try dsimp only at hSw); obtain ⟨⟨⟨b0, b1⟩, _, bz⟩, ⟨⟨c0, c1⟩, _, cz⟩, ⟨⟨q0, q1⟩, _, qz⟩⟩ := HX2.out _ hSw; go_simp; try (with_reducible rfl))); (try simp only [Act.put, List.getElem_toArray, List.getElem_cons_succ, List.getElem_cons_zero, List.setIfInBounds_toArray, List.set_cons_zero, List.set_cons_succ])
    (refine wpAnyH_take (i := 1) (v := ?_) rfl (by kernel_rfl) (by kernel_rfl) (by kernel_rfl) (fun _ _ _ h => h) (Or.inl ⟨rfl, ?_⟩) (by assumption) ?_; rotate_left; focus (intro W hSw; (try dsimp only at hSw); obtain ⟨⟨⟨b0, b1⟩, _, bz⟩, ⟨⟨c0, c1⟩, _, cz⟩, ⟨⟨q0, q1⟩, _, qz⟩⟩ := HX2.out _ hSw; go_simp; try (with_reducible rfl))); (try simp only [Act.put, List.getElem_toArray, List.getElem_cons_succ, List.getElem_cons_zero, List.setIfInBounds_toArray, List.set_cons_zero, List.set_cons_succ])
    (refine wpAnyH_take (i := 3) (v := ?_) rfl (by kernel_rfl) (by kernel_rfl) (by kernel_rfl) (fun _ _ _ h => h) (Or.inl ⟨rfl, ?_⟩) (by assumption) ?_; rotate_left; focus (intro W hSw; (try dsimp only at hSw); obtain ⟨⟨⟨b0, b1⟩, _, bz⟩, ⟨⟨c0, c1⟩, _, cz⟩, ⟨⟨q0, q1⟩, _, qz⟩⟩ := HX2.out _ hSw; go_simp; try (with_reducible rfl))); (try simp only [Act.put, List.getElem_toArray, List.getElem_cons_succ, List.getElem_cons_zero, List.setIfInBounds_toArray, List.set_cons_zero, List.set_cons_succ])
    (refine wpAnyH_take (i := 4) (v := ?_) rfl (by kernel_rfl) (by kernel_rfl) (by kernel_rfl) (fun _ _ _ h => h) (Or.inl ⟨rfl, ?_⟩) (by assumption) ?_; rotate_left; focus (intro W hSw; (try dsimp only at hSw); obtain ⟨⟨⟨b0, b1⟩, _, bz⟩, ⟨⟨c0, c1⟩, _, cz⟩, ⟨⟨q0, q1⟩, _, qz⟩⟩ := HX2.out _ hSw; go_simp; try (with_reducible rfl))); (try simp only [Act.put, List.getElem_toArray, List.getElem_cons_succ, List.getElem_cons_zero, List.setIfInBounds_toArray, List.set_cons_zero, List.set_cons_succ])
    refine wpAnyH_ready (rs := [2]) (by kernel_rfl) (by simp) ?_; refine AllReadyH.cons rfl (fun K hK => ?_) AllReadyH.nil
    go_simp; (go_at_call 91; refine (HS1.out _).mono ?_; rintro en yw0 ⟨rfl, hb2⟩); refine hK.out _ _ (below_after hb2 hHeld) (fun hHeld2 => ?_); clear hb2; (clear hHeld; rename _ => hHeld; clear hK K; have hHeld : Below w2.heap.size w2 _ := hHeld); (try simp only [Act.put, List.getElem_toArray, List.getElem_cons_succ, List.getElem_cons_zero, List.setIfInBounds_toArray, List.set_cons_zero, List.set_cons_succ])
    refine wpAnyH_ready (rs := [5]) (by kernel_rfl) (by simp) ?_; refine AllReadyH.cons rfl (fun K hK => ?_) AllReadyH.nil
    go_simp; (go_at_call 91; refine (HS2.out _).mono ?_; rintro en yw1 ⟨rfl, hb2⟩); refine hK.out _ _ (below_after hb2 hHeld) (fun hHeld2 => ?_); clear hb2; (clear hHeld; rename _ => hHeld; clear hK K; have hHeld : Below w2.heap.size w2 _ := hHeld); (try simp only [Act.put, List.getElem_toArray, List.getElem_cons_succ, List.getElem_cons_zero, List.setIfInBounds_toArray, List.set_cons_zero, List.set_cons_succ])
    refine wpAnyH_ready (rs := [6]) (by kernel_rfl) (by simp) ?_; refine AllReadyH.cons rfl (fun K hK => ?_) AllReadyH.nil
    go_simp; (go_at_call 95; refine (HD.out _).mono ?_; rintro en yw2 ⟨rfl, hb2⟩); refine hK.out _ _ (below_after hb2 hHeld) (fun hHeld2 => ?_); clear hb2; (clear hHeld; rename _ => hHeld; clear hK K; have hHeld : Below w2.heap.size w2 _ := hHeld); (try simp only [Act.put, List.getElem_toArray, List.getElem_cons_succ, List.getElem_cons_zero, List.setIfInBounds_toArray, List.set_cons_zero, List.set_cons_succ])
    (refine wpAnyH_take (i := 7) (v := ?_) rfl (by kernel_rfl) (by kernel_rfl) (by kernel_rfl) (fun _ _ _ h => h) (Or.inl ⟨rfl, ?_⟩) (by assumption) ?_; rotate_left; focus (intro W hSw; (try dsimp only at hSw); obtain ⟨⟨⟨b0, b1⟩, _, bz⟩, ⟨⟨c0, c1⟩, _, cz⟩, ⟨⟨q0, q1⟩, _, qz⟩⟩ := HX2.out _ hSw; go_simp; try (with_reducible rfl))); (try simp only [Act.put, List.getElem_toArray, List.getElem_cons_succ, List.getElem_cons_zero, List.setIfInBounds_toArray, List.set_cons_zero, List.set_cons_succ])
    refine wpAnyH_done (by kernel_rfl) ?_ _
    have hbF := below_after (below_after hHeld HBX.out) HBW.out
    clear hHeld
    go_wp2
    go_ret
    exact ⟨rfl, hbF⟩
set_option maxHeartbeats 4000000 in
theorem l04Side_2 (x0 y0 x1 y1 x2 y2 px py : Int) (w : World) (h0 : Sml x0) (h1 : Sml y0) (h2 : Sml x1) (h3 : Sml y1) (h4 : Sml x2) (h5 : Sml y2) (h6 : Q4 px) (h7 : Q4 py) : Calls Try.prog 70 #[.agg #[.int .i64 x0, .int .i64 y0, .int .i64 x1, .int .i64 y1, .int .i64 x2, .int .i64 y2], .int .i64 2, .agg #[.int .i64 px, .int .i64 py]] w fun e w' => e = .returned (.int .i64 (sd x2 y2 x0 y0 px py)) ∧ Below w.heap.size w w' := by
  have HS1 : Hid (∀ w, Calls Try.prog 91 #[.agg #[.int .i64 x0, .int .i64 y0], .agg #[.int .i64 x2, .int .i64 y2], .int .i64 (-1)] w fun e w' => e = .returned (.agg #[.int .i64 (x0 - x2), .int .i64 (y0 - y2)]) ∧ Below w.heap.size w w') := fun w => l01Plus_minus x0 y0 x2 y2 w h0.bn h1.bn h4.bn h5.bn
  have HS2 : Hid (∀ w, Calls Try.prog 91 #[.agg #[.int .i64 px, .int .i64 py], .agg #[.int .i64 x2, .int .i64 y2], .int .i64 (-1)] w fun e w' => e = .returned (.agg #[.int .i64 (px - x2), .int .i64 (py - y2)]) ∧ Below w.heap.size w w') := fun w => l01Plus_minus px py x2 y2 w h6.bn h7.bn h4.bn h5.bn
  have HD : Hid (∀ w, Calls Try.prog 95 #[.agg #[.int .i64 (x0 - x2), .int .i64 (y0 - y2)], .agg #[.int .i64 (px - x2), .int .i64 (py - y2)]] w fun e w' => e = .returned (.int .i64 (sd x2 y2 x0 y0 px py)) ∧ Below w.heap.size w w') := fun w => l01Det_any _ _ _ _ w (h0.q4.sub h4.q4) (h1.q4.sub h5.q4) (h6.sub h4.q4) (h7.sub h5.q4)
  have n1 : IntKind.i64.wrap (2 + 1) = 3 := by decide
  have n2 : IntKind.i64.wrap (Int.tmod 3 3) = 0 := by decide
  have n3 : IntKind.i64.wrap 0 = 0 := by decide
  have n4 : IntKind.i64.wrap 1 = 1 := by decide
  have n5 : IntKind.i64.wrap 2 = 2 := by decide
  have n6 : IntKind.i64.wrap 3 = 3 := by decide
  clear h0 h1 h2 h3 h4 h5 h6 h7
  go_enter Try.func70, Try.ntmps70
  go_upto_region 1 with fail
  obtain ⟨wB, hwB⟩ : ∃ wB, wB = (w.alloc (.cells #[.int .i64 x0, .int .i64 y0, .int .i64 x1, .int .i64 y1, .int .i64 x2, .int .i64 y2] 27)).alloc (.cells #[.int .i64 px, .int .i64 py] 25) := ⟨_, rfl⟩
  rw [← hwB]
  have h6 : Bk6 wB w.heap.size x0 y0 x1 y1 x2 y2 := by rw [hwB]; exact (bk6_new w x0 y0 x1 y1 x2 y2 _).below ((Below.refl _ _).alloc (Nat.le_refl _) _)
  have h2 : Bk2 wB (w.heap.size + 1) px py := by
    rw [hwB]
    have h := bk2_new (w.alloc (.cells #[.int .i64 x0, .int .i64 y0, .int .i64 x1, .int .i64 y1, .int .i64 x2, .int .i64 y2] 27)) px py 25
    rw [World.size_alloc] at h
    exact h
  have HBW : Hid (Below w.heap.size w wB) := by
    show Below w.heap.size w wB
    rw [hwB]; (repeat' (first | (with_reducible exact Below.refl _ _) | (with_reducible refine Below.alloc ?_ ?_ _) | (with_reducible refine Below.setCell ?_ ?_ _) | (with_reducible refine Below.drew ?_) | (with_reducible refine below_drewN ?_ _) | (with_reducible assumption) | (with_reducible refine below_after (by with_reducible assumption) ?_) | go_size))
  have HX : Hid (∀ W, Below wB.heap.size wB W → Bk6 W w.heap.size x0 y0 x1 y1 x2 y2 ∧ Bk2 W (w.heap.size + 1) px py) := fun W hW => ⟨h6.below hW, h2.below hW⟩
  clear hwB h6 h2
  go_cut [7, 8] (fun v7 v8 wx => ∃ Gb Gc : Nat, v7 = .pointer (some ⟨Gb, 0, none⟩) ∧ v8 = .pointer (some ⟨Gc, 0, none⟩) ∧ Bk2 wx Gb x2 y2 ∧ Bk2 wx Gc x0 y0 ∧ Below wB.heap.size wB wx)
  case first =>
    refine wp_region_held_drew (S := fun W => Below wB.heap.size wB W) (by kernel_rfl) ?_ (fun hHeld => ?_); focus ((try dsimp only); exact (Below.refl _ _).drew)
    have hHeld : Below wB.heap.size wB _ := hHeld
    obtain ⟨wD, hwD⟩ : ∃ wD, wB.drew = wD := ⟨_, rfl⟩
    rw [hwD] at hHeld ⊢
    clear hwD
    (refine wpAnyH_take (i := 0) (v := ?_) rfl (by kernel_rfl) (by kernel_rfl) (by kernel_rfl) (fun _ _ _ h => h) (Or.inl ⟨rfl, ?_⟩) (by assumption) ?_; rotate_left; focus (intro W hSw; (try dsimp only at hSw); obtain ⟨⟨⟨i0, i1, i2, i3, i4, i5⟩, _, iz⟩, ⟨⟨q0, q1⟩, _, qz⟩⟩ := HX.out _ hSw; go_simp; try (with_reducible rfl))); (try simp only [Act.put, List.getElem_toArray, List.getElem_cons_succ, List.getElem_cons_zero, List.setIfInBounds_toArray, List.set_cons_zero, List.set_cons_succ])
    (refine wpAnyH_take (i := 1) (v := ?_) rfl (by kernel_rfl) (by kernel_rfl) (by kernel_rfl) (fun _ _ _ h => h) (Or.inl ⟨rfl, ?_⟩) (by assumption) ?_; rotate_left; focus (intro W hSw; (try dsimp only at hSw); obtain ⟨⟨⟨i0, i1, i2, i3, i4, i5⟩, _, iz⟩, ⟨⟨q0, q1⟩, _, qz⟩⟩ := HX.out _ hSw; go_simp; try (with_reducible rfl))); (try simp only [Act.put, List.getElem_toArray, List.getElem_cons_succ, List.getElem_cons_zero, List.setIfInBounds_toArray, List.set_cons_zero, List.set_cons_succ])
    (refine wpAnyH_take (i := 2) (v := ?_) rfl (by kernel_rfl) (by kernel_rfl) (by kernel_rfl) (fun _ _ _ h => h) (Or.inl ⟨rfl, ?_⟩) (by assumption) ?_; rotate_left; focus (intro W hSw; (try dsimp only at hSw); obtain ⟨⟨⟨i0, i1, i2, i3, i4, i5⟩, _, iz⟩, ⟨⟨q0, q1⟩, _, qz⟩⟩ := HX.out _ hSw; go_simp; try (with_reducible rfl))); (try simp only [Act.put, List.getElem_toArray, List.getElem_cons_succ, List.getElem_cons_zero, List.setIfInBounds_toArray, List.set_cons_zero, List.set_cons_succ])
    (refine wpAnyH_take (i := 3) (v := ?_) rfl (by kernel_rfl) (by kernel_rfl) (by kernel_rfl) (fun _ _ _ h => h) (Or.inl ⟨rfl, ?_⟩) (by assumption) ?_; rotate_left; focus (intro W hSw; (try dsimp only at hSw); obtain ⟨⟨⟨i0, i1, i2, i3, i4, i5⟩, _, iz⟩, ⟨⟨q0, q1⟩, _, qz⟩⟩ := HX.out _ hSw; go_simp; try (with_reducible rfl))); (try simp only [Act.put, List.getElem_toArray, List.getElem_cons_succ, List.getElem_cons_zero, List.setIfInBounds_toArray, List.set_cons_zero, List.set_cons_succ])
    (refine wpAnyH_take (i := 4) (v := ?_) rfl (by kernel_rfl) (by kernel_rfl) (by kernel_rfl) (fun _ _ _ h => h) (Or.inl ⟨rfl, ?_⟩) (by assumption) ?_; rotate_left; focus (intro W hSw; (try dsimp only at hSw); obtain ⟨⟨⟨i0, i1, i2, i3, i4, i5⟩, _, iz⟩, ⟨⟨q0, q1⟩, _, qz⟩⟩ := HX.out _ hSw; go_simp; try (with_reducible rfl))); (try simp only [Act.put, List.getElem_toArray, List.getElem_cons_succ, List.getElem_cons_zero, List.setIfInBounds_toArray, List.set_cons_zero, List.set_cons_succ])
    (refine wpAnyH_take (i := 5) (v := ?_) rfl (by kernel_rfl) (by kernel_rfl) (by kernel_rfl) (fun _ _ _ h => h) (Or.inl ⟨rfl, ?_⟩) (by assumption) ?_; rotate_left; focus (intro W hSw; (try dsimp only at hSw); obtain ⟨⟨⟨i0, i1, i2, i3, i4, i5⟩, _, iz⟩, ⟨⟨q0, q1⟩, _, qz⟩⟩ := HX.out _ hSw; go_simp; try (with_reducible rfl))); (try simp only [Act.put, List.getElem_toArray, List.getElem_cons_succ, List.getElem_cons_zero, List.setIfInBounds_toArray, List.set_cons_zero, List.set_cons_succ])
    (refine wpAnyH_take (i := 6) (v := ?_) rfl (by kernel_rfl) (by kernel_rfl) (by kernel_rfl) (fun _ _ _ h => h) (Or.inl ⟨rfl, ?_⟩) (by assumption) ?_; rotate_left; focus (intro W hSw; (try dsimp only at hSw); obtain ⟨⟨⟨i0, i1, i2, i3, i4, i5⟩, _, iz⟩, ⟨⟨q0, q1⟩, _, qz⟩⟩ := HX.out _ hSw; go_simp; try (with_reducible rfl))); (try simp only [Act.put, List.getElem_toArray, List.getElem_cons_succ, List.getElem_cons_zero, List.setIfInBounds_toArray, List.set_cons_zero, List.set_cons_succ])
    (refine wpAnyH_take (i := 7) (v := ?_) rfl (by kernel_rfl) (by kernel_rfl) (by kernel_rfl) (fun _ _ _ h => h) (Or.inl ⟨rfl, ?_⟩) (by assumption) ?_; rotate_left; focus (intro W hSw; (try dsimp only at hSw); obtain ⟨⟨⟨i0, i1, i2, i3, i4, i5⟩, _, iz⟩, ⟨⟨q0, q1⟩, _, qz⟩⟩ := HX.out _ hSw; go_simp; try (with_reducible rfl))); (try simp only [Act.put, List.getElem_toArray, List.getElem_cons_succ, List.getElem_cons_zero, List.setIfInBounds_toArray, List.set_cons_zero, List.set_cons_succ])
    refine wpAnyH_ready (rs := [8, 9]) (by kernel_rfl) (by simp) ?_; refine AllReadyH.cons rfl (fun K hK => ?_) (AllReadyH.cons rfl (fun K hK => ?_) AllReadyH.nil)
    · skip
      go_simp; obtain ⟨Gb, hGb⟩ : ∃ G, wD.heap.size = G := ⟨_, rfl⟩; have le_b : wB.heap.size ≤ Gb := by rw [← hGb]; exact Below.size hHeld
      have Hb : Hid (Bk2 (wD.alloc (.cells #[.int .i64 0, .int .i64 0] 25)) Gb 0 0) := by rw [← hGb]; exact bk2_new wD 0 0 _
      refine hK.out _ _ (Below.alloc hHeld (Below.size hHeld) _) (fun hHeld2 => ?_); (clear hHeld; rename _ => hHeld; clear hK K; have hHeld : Below wB.heap.size wB _ := hHeld); (try simp only [Act.put, List.getElem_toArray, List.getElem_cons_succ, List.getElem_cons_zero, List.setIfInBounds_toArray, List.set_cons_zero, List.set_cons_succ])
      rw [hGb]; clear hGb; obtain ⟨yw0, hwx⟩ : ∃ wx, wD.alloc (.cells #[.int .i64 0, .int .i64 0] 25) = wx := ⟨_, rfl⟩; rw [hwx] at Hb hHeld ⊢; clear hwx
      refine wpAnyH_ready (rs := [9]) (by kernel_rfl) (by simp) ?_; refine AllReadyH.cons rfl (fun K hK => ?_) AllReadyH.nil
      go_simp; obtain ⟨Gc, hGc⟩ : ∃ G, yw0.heap.size = G := ⟨_, rfl⟩; have le_c : wB.heap.size ≤ Gc := by rw [← hGc]; exact Below.size hHeld
      have ne_c_b : Gc ≠ Gb := by have := Hb.out.2.2; omega
      have ne_b_c : Gb ≠ Gc := Ne.symm ne_c_b
      have Hb := Lib.hid (Hb.out.below ((Below.refl _ _).alloc (Nat.le_refl _) (.cells #[.int .i64 0, .int .i64 0] 25))); skip
      have Hc : Hid (Bk2 (yw0.alloc (.cells #[.int .i64 0, .int .i64 0] 25)) Gc 0 0) := by rw [← hGc]; exact bk2_new yw0 0 0 _
      refine hK.out _ _ (Below.alloc hHeld (Below.size hHeld) _) (fun hHeld2 => ?_); (clear hHeld; rename _ => hHeld; clear hK K; have hHeld : Below wB.heap.size wB _ := hHeld); (try simp only [Act.put, List.getElem_toArray, List.getElem_cons_succ, List.getElem_cons_zero, List.setIfInBounds_toArray, List.set_cons_zero, List.set_cons_succ])
      rw [hGc]; clear hGc; obtain ⟨yw1, hwx⟩ : ∃ wx, yw0.alloc (.cells #[.int .i64 0, .int .i64 0] 25) = wx := ⟨_, rfl⟩; rw [hwx] at Hb Hc hHeld ⊢; clear hwx
      refine wpAnyH_ready (rs := [10]) (by kernel_rfl) (by simp) ?_; refine AllReadyH.cons rfl (fun K hK => ?_) AllReadyH.nil
      obtain ⟨⟨a0, a1⟩, ⟨f0, f1⟩, az⟩ := Hb.out; go_simp; clear a0 f0 a1 f1 az
      have Hc := Lib.hid ((Hc.out.far ⟨Gb, 0, none⟩ (.int .i64 x2) (by show Gc ≠ Gb; exact ne_c_b)).far ⟨Gb, 1, none⟩ (.int .i64 y2) (by show Gc ≠ Gb; exact ne_c_b))
      have Hb := Lib.hid ((Hb.out.set0 x2).set1 y2)
      refine hK.out _ _ (Below.setCell (Below.setCell hHeld (p := ⟨Gb, 0, none⟩) le_b _) (p := ⟨Gb, 1, none⟩) le_b _) (fun hHeld2 => ?_); (clear hHeld; rename _ => hHeld; clear hK K; have hHeld : Below wB.heap.size wB _ := hHeld); (try simp only [Act.put, List.getElem_toArray, List.getElem_cons_succ, List.getElem_cons_zero, List.setIfInBounds_toArray, List.set_cons_zero, List.set_cons_succ])
      obtain ⟨yw2, hwx⟩ : ∃ wx, (yw1.setCell ⟨Gb, 0, none⟩ (.int .i64 x2)).setCell ⟨Gb, 1, none⟩ (.int .i64 y2) = wx := ⟨_, rfl⟩; rw [hwx] at Hb Hc hHeld ⊢; clear hwx
      refine wpAnyH_ready (rs := [11]) (by kernel_rfl) (by simp) ?_; refine AllReadyH.cons rfl (fun K hK => ?_) AllReadyH.nil
      obtain ⟨⟨a0, a1⟩, ⟨f0, f1⟩, az⟩ := Hc.out; go_simp; clear a0 f0 a1 f1 az
      have Hb := Lib.hid ((Hb.out.far ⟨Gc, 0, none⟩ (.int .i64 x0) (by show Gb ≠ Gc; exact ne_b_c)).far ⟨Gc, 1, none⟩ (.int .i64 y0) (by show Gb ≠ Gc; exact ne_b_c))
      have Hc := Lib.hid ((Hc.out.set0 x0).set1 y0)
      refine hK.out _ _ (Below.setCell (Below.setCell hHeld (p := ⟨Gc, 0, none⟩) le_c _) (p := ⟨Gc, 1, none⟩) le_c _) (fun hHeld2 => ?_); (clear hHeld; rename _ => hHeld; clear hK K; have hHeld : Below wB.heap.size wB _ := hHeld); (try simp only [Act.put, List.getElem_toArray, List.getElem_cons_succ, List.getElem_cons_zero, List.setIfInBounds_toArray, List.set_cons_zero, List.set_cons_succ])
      obtain ⟨yw3, hwx⟩ : ∃ wx, (yw2.setCell ⟨Gc, 0, none⟩ (.int .i64 x0)).setCell ⟨Gc, 1, none⟩ (.int .i64 y0) = wx := ⟨_, rfl⟩; rw [hwx] at Hb Hc hHeld ⊢; clear hwx
      refine wpAnyH_done (by kernel_rfl) ?_ _
      go_wp2_with fail
      go_meet
      exact ⟨Gb, Gc, rfl, rfl, Hb.out, Hc.out, hHeld⟩
    · skip
      go_simp; obtain ⟨Gc, hGc⟩ : ∃ G, wD.heap.size = G := ⟨_, rfl⟩; have le_c : wB.heap.size ≤ Gc := by rw [← hGc]; exact Below.size hHeld
      have Hc : Hid (Bk2 (wD.alloc (.cells #[.int .i64 0, .int .i64 0] 25)) Gc 0 0) := by rw [← hGc]; exact bk2_new wD 0 0 _
      refine hK.out _ _ (Below.alloc hHeld (Below.size hHeld) _) (fun hHeld2 => ?_); (clear hHeld; rename _ => hHeld; clear hK K; have hHeld : Below wB.heap.size wB _ := hHeld); (try simp only [Act.put, List.getElem_toArray, List.getElem_cons_succ, List.getElem_cons_zero, List.setIfInBounds_toArray, List.set_cons_zero, List.set_cons_succ])
      rw [hGc]; clear hGc; obtain ⟨yw0, hwx⟩ : ∃ wx, wD.alloc (.cells #[.int .i64 0, .int .i64 0] 25) = wx := ⟨_, rfl⟩; rw [hwx] at Hc hHeld ⊢; clear hwx
      refine wpAnyH_ready (rs := [8]) (by kernel_rfl) (by simp) ?_; refine AllReadyH.cons rfl (fun K hK => ?_) AllReadyH.nil
      go_simp; obtain ⟨Gb, hGb⟩ : ∃ G, yw0.heap.size = G := ⟨_, rfl⟩; have le_b : wB.heap.size ≤ Gb := by rw [← hGb]; exact Below.size hHeld
      have ne_b_c : Gb ≠ Gc := by have := Hc.out.2.2; omega
      have ne_c_b : Gc ≠ Gb := Ne.symm ne_b_c
      have Hc := Lib.hid (Hc.out.below ((Below.refl _ _).alloc (Nat.le_refl _) (.cells #[.int .i64 0, .int .i64 0] 25))); skip
      have Hb : Hid (Bk2 (yw0.alloc (.cells #[.int .i64 0, .int .i64 0] 25)) Gb 0 0) := by rw [← hGb]; exact bk2_new yw0 0 0 _
      refine hK.out _ _ (Below.alloc hHeld (Below.size hHeld) _) (fun hHeld2 => ?_); (clear hHeld; rename _ => hHeld; clear hK K; have hHeld : Below wB.heap.size wB _ := hHeld); (try simp only [Act.put, List.getElem_toArray, List.getElem_cons_succ, List.getElem_cons_zero, List.setIfInBounds_toArray, List.set_cons_zero, List.set_cons_succ])
      rw [hGb]; clear hGb; obtain ⟨yw1, hwx⟩ : ∃ wx, yw0.alloc (.cells #[.int .i64 0, .int .i64 0] 25) = wx := ⟨_, rfl⟩; rw [hwx] at Hc Hb hHeld ⊢; clear hwx
      refine wpAnyH_ready (rs := [10]) (by kernel_rfl) (by simp) ?_; refine AllReadyH.cons rfl (fun K hK => ?_) AllReadyH.nil
      obtain ⟨⟨a0, a1⟩, ⟨f0, f1⟩, az⟩ := Hb.out; go_simp; clear a0 f0 a1 f1 az
      have Hc := Lib.hid ((Hc.out.far ⟨Gb, 0, none⟩ (.int .i64 x2) (by show Gc ≠ Gb; exact ne_c_b)).far ⟨Gb, 1, none⟩ (.int .i64 y2) (by show Gc ≠ Gb; exact ne_c_b))
      have Hb := Lib.hid ((Hb.out.set0 x2).set1 y2)
      refine hK.out _ _ (Below.setCell (Below.setCell hHeld (p := ⟨Gb, 0, none⟩) le_b _) (p := ⟨Gb, 1, none⟩) le_b _) (fun hHeld2 => ?_); (clear hHeld; rename _ => hHeld; clear hK K; have hHeld : Below wB.heap.size wB _ := hHeld); (try simp only [Act.put, List.getElem_toArray, List.getElem_cons_succ, List.getElem_cons_zero, List.setIfInBounds_toArray, List.set_cons_zero, List.set_cons_succ])
      obtain ⟨yw2, hwx⟩ : ∃ wx, (yw1.setCell ⟨Gb, 0, none⟩ (.int .i64 x2)).setCell ⟨Gb, 1, none⟩ (.int .i64 y2) = wx := ⟨_, rfl⟩; rw [hwx] at Hc Hb hHeld ⊢; clear hwx
      refine wpAnyH_ready (rs := [11]) (by kernel_rfl) (by simp) ?_; refine AllReadyH.cons rfl (fun K hK => ?_) AllReadyH.nil
      obtain ⟨⟨a0, a1⟩, ⟨f0, f1⟩, az⟩ := Hc.out; go_simp; clear a0 f0 a1 f1 az
      have Hb := Lib.hid ((Hb.out.far ⟨Gc, 0, none⟩ (.int .i64 x0) (by show Gb ≠ Gc; exact ne_b_c)).far ⟨Gc, 1, none⟩ (.int .i64 y0) (by show Gb ≠ Gc; exact ne_b_c))
      have Hc := Lib.hid ((Hc.out.set0 x0).set1 y0)
      refine hK.out _ _ (Below.setCell (Below.setCell hHeld (p := ⟨Gc, 0, none⟩) le_c _) (p := ⟨Gc, 1, none⟩) le_c _) (fun hHeld2 => ?_); (clear hHeld; rename _ => hHeld; clear hK K; have hHeld : Below wB.heap.size wB _ := hHeld); (try simp only [Act.put, List.getElem_toArray, List.getElem_cons_succ, List.getElem_cons_zero, List.setIfInBounds_toArray, List.set_cons_zero, List.set_cons_succ])
      obtain ⟨yw3, hwx⟩ : ∃ wx, (yw2.setCell ⟨Gc, 0, none⟩ (.int .i64 x0)).setCell ⟨Gc, 1, none⟩ (.int .i64 y0) = wx := ⟨_, rfl⟩; rw [hwx] at Hc Hb hHeld ⊢; clear hwx
      refine wpAnyH_done (by kernel_rfl) ?_ _
      go_wp2_with fail
      go_meet
      exact ⟨Gb, Gc, rfl, rfl, Hb.out, Hc.out, hHeld⟩
  case rest =>
    obtain ⟨Gb, Gc, rfl, rfl, hb, hc, hbx⟩ := hcut
    obtain ⟨w2, rfl⟩ : ∃ w2, w2 = wc := ⟨_, rfl⟩
    have HX2 : Hid (∀ W, Below w2.heap.size w2 W → Bk2 W Gb x2 y2 ∧ Bk2 W Gc x0 y0 ∧ Bk2 W (w.heap.size + 1) px py) := fun W hW => ⟨hb.below hW, hc.below hW, (HX.out _ (below_after hW hbx)).2⟩
    have HBX := Lib.hid hbx
    clear hb hc hbx n1 n2
    go_wp2_with fail
    refine wp_region_held_drew (S := fun W => Below w2.heap.size w2 W) (by kernel_rfl) ?_ (fun hHeld => ?_); focus ((try dsimp only); exact (Below.refl _ _).drew)
    have hHeld : Below w2.heap.size w2 _ := hHeld
    obtain ⟨wD, hwD⟩ : ∃ wD, w2.drew = wD := ⟨_, rfl⟩
    rw [hwD] at hHeld ⊢
    clear hwD
    (refine wpAnyH_take (i := 0) (v := ?_) rfl (by kernel_rfl) (by kernel_rfl) (by kernel_rfl) (fun _ _ _ h => h) (Or.inl ⟨rfl, ?_⟩) (by assumption) ?_; rotate_left; focus (intro W hSw; (try dsimp only at hSw); obtain ⟨⟨⟨b0, b1⟩, _, bz⟩, ⟨⟨c0, c1⟩, _, cz⟩, ⟨⟨q0, q1⟩, _, qz⟩⟩ := HX2.out _ hSw; go_simp; try (with_reducible rfl))); (try simp only [Act.put, List.getElem_toArray, List.getElem_cons_succ, List.getElem_cons_zero, List.setIfInBounds_toArray, List.set_cons_zero, List.set_cons_succ])
    (refine wpAnyH_take (i := 1) (v := ?_) rfl (by kernel_rfl) (by kernel_rfl) (by kernel_rfl) (fun _ _ _ h => h) (Or.inl ⟨rfl, ?_⟩) (by assumption) ?_; rotate_left; focus (intro W hSw; (try dsimp only at hSw); obtain ⟨⟨⟨b0, b1⟩, _, bz⟩, ⟨⟨c0, c1⟩, _, cz⟩, ⟨⟨q0, q1⟩, _, qz⟩⟩ := HX2.out _ hSw; go_simp; try (with_reducible rfl))); (try simp only [Act.put, List.getElem_toArray, List.getElem_cons_succ, List.getElem_cons_zero, List.setIfInBounds_toArray, List.set_cons_zero, List.set_cons_succ])
    (refine wpAnyH_take (i := 3) (v := ?_) rfl (by kernel_rfl) (by kernel_rfl) (by kernel_rfl) (fun _ _ _ h => h) (Or.inl ⟨rfl, ?_⟩) (by assumption) ?_; rotate_left; focus (intro W hSw; (try dsimp only at hSw); obtain ⟨⟨⟨b0, b1⟩, _, bz⟩, ⟨⟨c0, c1⟩, _, cz⟩, ⟨⟨q0, q1⟩, _, qz⟩⟩ := HX2.out _ hSw; go_simp; try (with_reducible rfl))); (try simp only [Act.put, List.getElem_toArray, List.getElem_cons_succ, List.getElem_cons_zero, List.setIfInBounds_toArray, List.set_cons_zero, List.set_cons_succ])
    (refine wpAnyH_take (i := 4) (v := ?_) rfl (by kernel_rfl) (by kernel_rfl) (by kernel_rfl) (fun _ _ _ h => h) (Or.inl ⟨rfl, ?_⟩) (by assumption) ?_; rotate_left; focus (intro W hSw; (try dsimp only at hSw); obtain ⟨⟨⟨b0, b1⟩, _, bz⟩, ⟨⟨c0, c1⟩, _, cz⟩, ⟨⟨q0, q1⟩, _, qz⟩⟩ := HX2.out _ hSw; go_simp; try (with_reducible rfl))); (try simp only [Act.put, List.getElem_toArray, List.getElem_cons_succ, List.getElem_cons_zero, List.setIfInBounds_toArray, List.set_cons_zero, List.set_cons_succ])
    refine wpAnyH_ready (rs := [2]) (by kernel_rfl) (by simp) ?_; refine AllReadyH.cons rfl (fun K hK => ?_) AllReadyH.nil
    go_simp; (go_at_call 91; refine (HS1.out _).mono ?_; rintro en yw0 ⟨rfl, hb2⟩); refine hK.out _ _ (below_after hb2 hHeld) (fun hHeld2 => ?_); clear hb2; (clear hHeld; rename _ => hHeld; clear hK K; have hHeld : Below w2.heap.size w2 _ := hHeld); (try simp only [Act.put, List.getElem_toArray, List.getElem_cons_succ, List.getElem_cons_zero, List.setIfInBounds_toArray, List.set_cons_zero, List.set_cons_succ])
    refine wpAnyH_ready (rs := [5]) (by kernel_rfl) (by simp) ?_; refine AllReadyH.cons rfl (fun K hK => ?_) AllReadyH.nil
    go_simp; (go_at_call 91; refine (HS2.out _).mono ?_; rintro en yw1 ⟨rfl, hb2⟩); refine hK.out _ _ (below_after hb2 hHeld) (fun hHeld2 => ?_); clear hb2; (clear hHeld; rename _ => hHeld; clear hK K; have hHeld : Below w2.heap.size w2 _ := hHeld); (try simp only [Act.put, List.getElem_toArray, List.getElem_cons_succ, List.getElem_cons_zero, List.setIfInBounds_toArray, List.set_cons_zero, List.set_cons_succ])
    refine wpAnyH_ready (rs := [6]) (by kernel_rfl) (by simp) ?_; refine AllReadyH.cons rfl (fun K hK => ?_) AllReadyH.nil
    go_simp; (go_at_call 95; refine (HD.out _).mono ?_; rintro en yw2 ⟨rfl, hb2⟩); refine hK.out _ _ (below_after hb2 hHeld) (fun hHeld2 => ?_); clear hb2; (clear hHeld; rename _ => hHeld; clear hK K; have hHeld : Below w2.heap.size w2 _ := hHeld); (try simp only [Act.put, List.getElem_toArray, List.getElem_cons_succ, List.getElem_cons_zero, List.setIfInBounds_toArray, List.set_cons_zero, List.set_cons_succ])
    (refine wpAnyH_take (i := 7) (v := ?_) rfl (by kernel_rfl) (by kernel_rfl) (by kernel_rfl) (fun _ _ _ h => h) (Or.inl ⟨rfl, ?_⟩) (by assumption) ?_; rotate_left; focus (intro W hSw; (try dsimp only at hSw); obtain ⟨⟨⟨b0, b1⟩, _, bz⟩, ⟨⟨c0, c1⟩, _, cz⟩, ⟨⟨q0, q1⟩, _, qz⟩⟩ := HX2.out _ hSw; go_simp; try (with_reducible rfl))); (try simp only [Act.put, List.getElem_toArray, List.getElem_cons_succ, List.getElem_cons_zero, List.setIfInBounds_toArray, List.set_cons_zero, List.set_cons_succ])
    refine wpAnyH_done (by kernel_rfl) ?_ _
    have hbF := below_after (below_after hHeld HBX.out) HBW.out
    clear hHeld
    go_wp2
    go_ret
    exact ⟨rfl, hbF⟩
theorem start_bd {a b c d x : Int} (h0 : Sml a) (h1 : Sml b) (h2 : Sml c) (h3 : Sml d) (hx : Q4 x) : (-2000 ≤ c - a ∧ c - a ≤ 2000) ∧ (-2000 ≤ d - b ∧ d - b ≤ 2000) ∧ (-5000 ≤ x - a ∧ x - a ≤ 5000) ∧ (-10000000 ≤ (d - b) * (x - a) ∧ (d - b) * (x - a) ≤ 10000000) := by
  unfold Sml at *
  unfold Q4 at hx
  have e1 : -2000 ≤ d - b ∧ d - b ≤ 2000 := by omega
  have e2 : -5000 ≤ x - a ∧ x - a ≤ 5000 := by omega
  refine ⟨by omega, e1, e2, ?_⟩
  have hn : ((d - b) * (x - a)).natAbs ≤ 2000 * 5000 := by rw [Int.natAbs_mul]; exact Nat.mul_le_mul (by omega) (by omega)
  omega
theorem div_bd {p n : Int} (hn : 0 < n) (hp : -10000000 ≤ p ∧ p ≤ 10000000) : -10000000 ≤ p / n ∧ p / n ≤ 10000000 := by
  have e := Int.emod_add_mul_ediv p n
  have h1 := Int.emod_nonneg p (by omega : n ≠ 0)
  have h2 := Int.emod_lt_of_pos p hn
  constructor
  · apply Int.le_ediv_of_mul_le hn
    have : -10000000 * n ≤ -10000000 * 1 := Int.mul_le_mul_of_nonpos_left (by decide) (by omega)
    omega
  · apply Int.ediv_le_of_le_mul hn
    have : 10000000 * 1 ≤ 10000000 * n := Int.mul_le_mul_of_nonneg_left (by omega) (by decide)
    omega
theorem st_bd {s a b c d x : Int} (hs : -1000 ≤ s ∧ s ≤ 10002000) (h0 : Sml a) (h1 : Sml b) (h2 : Sml c) (h3 : Sml d) (hx : Q4 x) : -1000 ≤ stY s a b c d x ∧ stY s a b c d x ≤ 10002000 := by
  have g := stY_ge s a b c d x
  refine ⟨by omega, ?_⟩
  unfold stY loY
  split
  · next hd =>
    obtain ⟨_, _, _, p⟩ := start_bd h0 h1 h2 h3 hx
    have := div_bd hd p
    unfold Sml at h1
    omega
  · omega
def stJ (x0 y0 x1 y1 x2 y2 px : Int) : Nat → Int
  | 0 => -1000
  | 1 => (stY (-1000) x0 y0 x1 y1 px)
  | 2 => (stY (stY (-1000) x0 y0 x1 y1 px) x1 y1 x2 y2 px)
  | _ => (stY (stY (stY (-1000) x0 y0 x1 y1 px) x1 y1 x2 y2 px) x2 y2 x0 y0 px)
set_option maxHeartbeats 8000000 in
theorem startOfRow_any (x0 y0 x1 y1 x2 y2 px : Int) (w : World) (h0 : Sml x0) (h1 : Sml y0) (h2 : Sml x1) (h3 : Sml y1) (h4 : Sml x2) (h5 : Sml y2) (h6 : Q4 px) : Calls Try.prog 97 #[.agg #[.int .i64 x0, .int .i64 y0, .int .i64 x1, .int .i64 y1, .int .i64 x2, .int .i64 y2], .int .i64 px] w fun e w' => e = .returned (.int .i64 (st3 x0 y0 x1 y1 x2 y2 px)) ∧ Below w.heap.size w w' := by
  have HB := Lib.hid (And.intro h0 (And.intro h1 (And.intro h2 (And.intro h3 (And.intro h4 (And.intro h5 h6))))))
  have HS : Hid ((-1000 ≤ stJ x0 y0 x1 y1 x2 y2 px 0 ∧ stJ x0 y0 x1 y1 x2 y2 px 0 ≤ 10002000) ∧ (-1000 ≤ stJ x0 y0 x1 y1 x2 y2 px 1 ∧ stJ x0 y0 x1 y1 x2 y2 px 1 ≤ 10002000) ∧ (-1000 ≤ stJ x0 y0 x1 y1 x2 y2 px 2 ∧ stJ x0 y0 x1 y1 x2 y2 px 2 ≤ 10002000)) :=
    ⟨⟨by show (-1000 : Int) ≤ -1000; omega, by show (-1000 : Int) ≤ 10002000; omega⟩, st_bd ⟨by omega, by omega⟩ h0 h1 h2 h3 h6, st_bd (st_bd ⟨by omega, by omega⟩ h0 h1 h2 h3 h6) h2 h3 h4 h5 h6⟩
  clear h0 h1 h2 h3 h4 h5 h6
  go_enter Try.func97, Try.ntmps97
  go_upto_region 1 with fail
  obtain ⟨wB, hwB⟩ : ∃ wB, wB = w.alloc (.cells #[.int .i64 x0, .int .i64 y0, .int .i64 x1, .int .i64 y1, .int .i64 x2, .int .i64 y2] 27) := ⟨_, rfl⟩
  rw [← hwB]
  have h6 : Bk6 wB w.heap.size x0 y0 x1 y1 x2 y2 := by rw [hwB]; exact bk6_new w x0 y0 x1 y1 x2 y2 _
  have HBW : Hid (Below w.heap.size w wB) := by
    show Below w.heap.size w wB
    rw [hwB]; (repeat' (first | (with_reducible exact Below.refl _ _) | (with_reducible refine Below.alloc ?_ ?_ _) | (with_reducible refine Below.setCell ?_ ?_ _) | (with_reducible refine Below.drew ?_) | (with_reducible refine below_drewN ?_ _) | (with_reducible assumption) | (with_reducible refine below_after (by with_reducible assumption) ?_) | go_size))
  have HX : Hid (∀ W, Below wB.heap.size wB W → Bk6 W w.heap.size x0 y0 x1 y1 x2 y2) := fun W hW => h6.below hW
  clear hwB h6
  go_wp2_with fail
  go_loopw [5, 11] (fun s i wr => ∃ j : Nat, j ≤ 3 ∧ s = .int .i64 (stJ x0 y0 x1 y1 x2 y2 px j) ∧ i = .int .i64 j ∧ Below wB.heap.size wB wr) (fun _ i _ => 3 - (intOf i).toNat)
  case atStart => exact ⟨0, by omega, rfl, rfl, Below.refl _ _⟩
  case round =>
    obtain ⟨j, hj, rfl, rfl, hbel⟩ := hrel
    have hc : j = 0 ∨ j = 1 ∨ j = 2 ∨ j = 3 := by omega
    rcases hc with rfl | rfl | rfl | rfl
    · obtain ⟨⟨e1, e2⟩, ⟨e3, e4⟩, ⟨e5, e6⟩, ep⟩ := start_bd HB.out.1 HB.out.2.1 HB.out.2.2.1 HB.out.2.2.2.1 HB.out.2.2.2.2.2.2
      have hay := HB.out.2.1
      have hax := HB.out.1
      have hpx := HB.out.2.2.2.2.2.2
      have hst : stJ x0 y0 x1 y1 x2 y2 px 1 = if 0 < x1 - x0 then max (stJ x0 y0 x1 y1 x2 y2 px 0) (y0 + ((y1 - y0) * (px - x0)) / (x1 - x0) + 1) else stJ x0 y0 x1 y1 x2 y2 px 0 := rfl
      have hsb : ∀ w, Calls Try.prog 96 #[.agg #[.int .i64 x0, .int .i64 y0], .agg #[.int .i64 x1, .int .i64 y1]] w fun e w' => e = .returned (.agg #[.int .i64 (x1 - x0), .int .i64 (y1 - y0)]) ∧ Below w.heap.size w w' := fun w => stepBetween_any x0 y0 x1 y1 w HB.out.1.bn HB.out.2.1.bn HB.out.2.2.1.bn HB.out.2.2.2.1.bn
      have hs0 := HS.out.1
      obtain ⟨sx, hsx⟩ : ∃ s, x1 - x0 = s := ⟨_, rfl⟩
      obtain ⟨sy, hsy⟩ : ∃ s, y1 - y0 = s := ⟨_, rfl⟩
      obtain ⟨st, hst0⟩ : ∃ s, stJ x0 y0 x1 y1 x2 y2 px 0 = s := ⟨_, rfl⟩
      rw [hsx] at hst hsb e1 e2
      rw [hsy] at hst hsb ep e3 e4
      rw [hst0] at hst hs0 ⊢
      have HSB := Lib.hid hsb
      have HBL := Lib.hid hbel
      have HST := Lib.hid hst
      have HE := Lib.hid (And.intro hs0 (And.intro hay (And.intro ep (And.intro e1 e2))))
      have HA := Lib.hid (And.intro hax hpx)
      have n1 : IntKind.i64.wrap (0 + 1) = 1 := by decide
      have n2 : IntKind.i64.wrap (Int.tmod 1 3) = 1 := by decide
      have n3 : IntKind.i64.wrap 0 = 0 := by decide
      have n4 : IntKind.i64.wrap 1 = 1 := by decide
      have n5 : IntKind.i64.wrap 2 = 2 := by decide
      have n6 : IntKind.i64.wrap 3 = 3 := by decide
      clear hsx hsy hst0 hsb hbel hst hs0 hay ep e1 e2 e3 e4 e5 e6 hax hpx
      go_upto_region 5 with fail
      go_cut [7, 8] (fun v7 v8 wx => ∃ Ga Gp : Nat, v7 = .pointer (some ⟨Ga, 0, none⟩) ∧ v8 = .pointer (some ⟨Gp, 0, none⟩) ∧ Bk2 wx Ga x0 y0 ∧ Bk2 wx Gp sx sy ∧ Below wr.heap.size wr wx)
      case first =>
        refine wp_region_held_drew (S := fun W => Below wr.heap.size wr W) (by kernel_rfl) ?_ (fun hHeld => ?_); focus ((try dsimp only); exact (Below.refl _ _).drew)
        have hHeld : Below wr.heap.size wr _ := hHeld
        obtain ⟨wD, hwD⟩ : ∃ wD, wr.drew = wD := ⟨_, rfl⟩
        rw [hwD] at hHeld ⊢
        clear hwD
        (refine wpAnyH_take (i := 0) (v := ?_) rfl (by kernel_rfl) (by kernel_rfl) (by kernel_rfl) (fun _ _ _ h => h) (Or.inl ⟨rfl, ?_⟩) (by assumption) ?_; rotate_left; focus (intro W hSw; (try dsimp only at hSw); obtain ⟨⟨i0, i1, i2, i3, i4, i5⟩, _, iz⟩ := HX.out _ (below_after hSw HBL.out); go_simp; try (with_reducible rfl))); (try simp only [Act.put, List.getElem_toArray, List.getElem_cons_succ, List.getElem_cons_zero, List.setIfInBounds_toArray, List.set_cons_zero, List.set_cons_succ])
        (refine wpAnyH_take (i := 1) (v := ?_) rfl (by kernel_rfl) (by kernel_rfl) (by kernel_rfl) (fun _ _ _ h => h) (Or.inl ⟨rfl, ?_⟩) (by assumption) ?_; rotate_left; focus (intro W hSw; (try dsimp only at hSw); obtain ⟨⟨i0, i1, i2, i3, i4, i5⟩, _, iz⟩ := HX.out _ (below_after hSw HBL.out); go_simp; try (with_reducible rfl))); (try simp only [Act.put, List.getElem_toArray, List.getElem_cons_succ, List.getElem_cons_zero, List.setIfInBounds_toArray, List.set_cons_zero, List.set_cons_succ])
        (refine wpAnyH_take (i := 2) (v := ?_) rfl (by kernel_rfl) (by kernel_rfl) (by kernel_rfl) (fun _ _ _ h => h) (Or.inl ⟨rfl, ?_⟩) (by assumption) ?_; rotate_left; focus (intro W hSw; (try dsimp only at hSw); obtain ⟨⟨i0, i1, i2, i3, i4, i5⟩, _, iz⟩ := HX.out _ (below_after hSw HBL.out); go_simp; try (with_reducible rfl))); (try simp only [Act.put, List.getElem_toArray, List.getElem_cons_succ, List.getElem_cons_zero, List.setIfInBounds_toArray, List.set_cons_zero, List.set_cons_succ])
        (refine wpAnyH_take (i := 3) (v := ?_) rfl (by kernel_rfl) (by kernel_rfl) (by kernel_rfl) (fun _ _ _ h => h) (Or.inl ⟨rfl, ?_⟩) (by assumption) ?_; rotate_left; focus (intro W hSw; (try dsimp only at hSw); obtain ⟨⟨i0, i1, i2, i3, i4, i5⟩, _, iz⟩ := HX.out _ (below_after hSw HBL.out); go_simp; try (with_reducible rfl))); (try simp only [Act.put, List.getElem_toArray, List.getElem_cons_succ, List.getElem_cons_zero, List.setIfInBounds_toArray, List.set_cons_zero, List.set_cons_succ])
        (refine wpAnyH_take (i := 4) (v := ?_) rfl (by kernel_rfl) (by kernel_rfl) (by kernel_rfl) (fun _ _ _ h => h) (Or.inl ⟨rfl, ?_⟩) (by assumption) ?_; rotate_left; focus (intro W hSw; (try dsimp only at hSw); obtain ⟨⟨i0, i1, i2, i3, i4, i5⟩, _, iz⟩ := HX.out _ (below_after hSw HBL.out); go_simp; try (with_reducible rfl))); (try simp only [Act.put, List.getElem_toArray, List.getElem_cons_succ, List.getElem_cons_zero, List.setIfInBounds_toArray, List.set_cons_zero, List.set_cons_succ])
        (refine wpAnyH_take (i := 5) (v := ?_) rfl (by kernel_rfl) (by kernel_rfl) (by kernel_rfl) (fun _ _ _ h => h) (Or.inl ⟨rfl, ?_⟩) (by assumption) ?_; rotate_left; focus (intro W hSw; (try dsimp only at hSw); obtain ⟨⟨i0, i1, i2, i3, i4, i5⟩, _, iz⟩ := HX.out _ (below_after hSw HBL.out); go_simp; try (with_reducible rfl))); (try simp only [Act.put, List.getElem_toArray, List.getElem_cons_succ, List.getElem_cons_zero, List.setIfInBounds_toArray, List.set_cons_zero, List.set_cons_succ])
        (refine wpAnyH_take (i := 6) (v := ?_) rfl (by kernel_rfl) (by kernel_rfl) (by kernel_rfl) (fun _ _ _ h => h) (Or.inl ⟨rfl, ?_⟩) (by assumption) ?_; rotate_left; focus (intro W hSw; (try dsimp only at hSw); obtain ⟨⟨i0, i1, i2, i3, i4, i5⟩, _, iz⟩ := HX.out _ (below_after hSw HBL.out); go_simp; try (with_reducible rfl))); (try simp only [Act.put, List.getElem_toArray, List.getElem_cons_succ, List.getElem_cons_zero, List.setIfInBounds_toArray, List.set_cons_zero, List.set_cons_succ])
        (refine wpAnyH_take (i := 7) (v := ?_) rfl (by kernel_rfl) (by kernel_rfl) (by kernel_rfl) (fun _ _ _ h => h) (Or.inl ⟨rfl, ?_⟩) (by assumption) ?_; rotate_left; focus (intro W hSw; (try dsimp only at hSw); obtain ⟨⟨i0, i1, i2, i3, i4, i5⟩, _, iz⟩ := HX.out _ (below_after hSw HBL.out); go_simp; try (with_reducible rfl))); (try simp only [Act.put, List.getElem_toArray, List.getElem_cons_succ, List.getElem_cons_zero, List.setIfInBounds_toArray, List.set_cons_zero, List.set_cons_succ])
        (refine wpAnyH_take (i := 8) (v := ?_) rfl (by kernel_rfl) (by kernel_rfl) (by kernel_rfl) (fun _ _ _ h => h) (Or.inl ⟨rfl, ?_⟩) (by assumption) ?_; rotate_left; focus (intro W hSw; (try dsimp only at hSw); obtain ⟨⟨i0, i1, i2, i3, i4, i5⟩, _, iz⟩ := HX.out _ (below_after hSw HBL.out); go_simp; try (with_reducible rfl))); (try simp only [Act.put, List.getElem_toArray, List.getElem_cons_succ, List.getElem_cons_zero, List.setIfInBounds_toArray, List.set_cons_zero, List.set_cons_succ])
        (refine wpAnyH_take (i := 9) (v := ?_) rfl (by kernel_rfl) (by kernel_rfl) (by kernel_rfl) (fun _ _ _ h => h) (Or.inl ⟨rfl, ?_⟩) (by assumption) ?_; rotate_left; focus (intro W hSw; (try dsimp only at hSw); obtain ⟨⟨i0, i1, i2, i3, i4, i5⟩, _, iz⟩ := HX.out _ (below_after hSw HBL.out); go_simp; try (with_reducible rfl))); (try simp only [Act.put, List.getElem_toArray, List.getElem_cons_succ, List.getElem_cons_zero, List.setIfInBounds_toArray, List.set_cons_zero, List.set_cons_succ])
        (refine wpAnyH_take (i := 10) (v := ?_) rfl (by kernel_rfl) (by kernel_rfl) (by kernel_rfl) (fun _ _ _ h => h) (Or.inl ⟨rfl, ?_⟩) (by assumption) ?_; rotate_left; focus (intro W hSw; (try dsimp only at hSw); obtain ⟨⟨i0, i1, i2, i3, i4, i5⟩, _, iz⟩ := HX.out _ (below_after hSw HBL.out); go_simp; try (with_reducible rfl))); (try simp only [Act.put, List.getElem_toArray, List.getElem_cons_succ, List.getElem_cons_zero, List.setIfInBounds_toArray, List.set_cons_zero, List.set_cons_succ])
        refine wpAnyH_ready (rs := [11, 12, 13]) (by kernel_rfl) (by simp) ?_; refine AllReadyH.cons rfl (fun K hK => ?_) (AllReadyH.cons rfl (fun K hK => ?_) (AllReadyH.cons rfl (fun K hK => ?_) AllReadyH.nil))
        · skip
          go_simp; (go_at_call 96; refine (HSB.out _).mono ?_; rintro en yw0 ⟨rfl, hb2⟩); refine hK.out _ _ (below_after hb2 hHeld) (fun hHeld2 => ?_); clear hb2; (clear hHeld; rename _ => hHeld; clear hK K; have hHeld : Below wr.heap.size wr _ := hHeld); (try simp only [Act.put, List.getElem_toArray, List.getElem_cons_succ, List.getElem_cons_zero, List.setIfInBounds_toArray, List.set_cons_zero, List.set_cons_succ])
          refine wpAnyH_ready (rs := [12, 13]) (by kernel_rfl) (by simp) ?_; refine AllReadyH.cons rfl (fun K hK => ?_) (AllReadyH.cons rfl (fun K hK => ?_) AllReadyH.nil)
          · skip
            go_simp; obtain ⟨Ga, hGa⟩ : ∃ G, yw0.heap.size = G := ⟨_, rfl⟩; have le_a : wr.heap.size ≤ Ga := by rw [← hGa]; exact Below.size hHeld
            have Ha : Hid (Bk2 (yw0.alloc (.cells #[.int .i64 0, .int .i64 0] 25)) Ga 0 0) := by rw [← hGa]; exact bk2_new yw0 0 0 _
            refine hK.out _ _ (Below.alloc hHeld (Below.size hHeld) _) (fun hHeld2 => ?_); (clear hHeld; rename _ => hHeld; clear hK K; have hHeld : Below wr.heap.size wr _ := hHeld); (try simp only [Act.put, List.getElem_toArray, List.getElem_cons_succ, List.getElem_cons_zero, List.setIfInBounds_toArray, List.set_cons_zero, List.set_cons_succ])
            rw [hGa]; clear hGa; obtain ⟨yw1, hwx⟩ : ∃ wx, yw0.alloc (.cells #[.int .i64 0, .int .i64 0] 25) = wx := ⟨_, rfl⟩; rw [hwx] at Ha hHeld ⊢; clear hwx
            refine wpAnyH_ready (rs := [13]) (by kernel_rfl) (by simp) ?_; refine AllReadyH.cons rfl (fun K hK => ?_) AllReadyH.nil
            go_simp; obtain ⟨Gp, hGp⟩ : ∃ G, yw1.heap.size = G := ⟨_, rfl⟩; have le_p : wr.heap.size ≤ Gp := by rw [← hGp]; exact Below.size hHeld
            have ne_p_a : Gp ≠ Ga := by have := Ha.out.2.2; omega
            have ne_a_p : Ga ≠ Gp := Ne.symm ne_p_a
            have Ha := Lib.hid (Ha.out.below ((Below.refl _ _).alloc (Nat.le_refl _) (.cells #[.int .i64 0, .int .i64 0] 25))); skip
            have Hp : Hid (Bk2 (yw1.alloc (.cells #[.int .i64 0, .int .i64 0] 25)) Gp 0 0) := by rw [← hGp]; exact bk2_new yw1 0 0 _
            refine hK.out _ _ (Below.alloc hHeld (Below.size hHeld) _) (fun hHeld2 => ?_); (clear hHeld; rename _ => hHeld; clear hK K; have hHeld : Below wr.heap.size wr _ := hHeld); (try simp only [Act.put, List.getElem_toArray, List.getElem_cons_succ, List.getElem_cons_zero, List.setIfInBounds_toArray, List.set_cons_zero, List.set_cons_succ])
            rw [hGp]; clear hGp; obtain ⟨yw2, hwx⟩ : ∃ wx, yw1.alloc (.cells #[.int .i64 0, .int .i64 0] 25) = wx := ⟨_, rfl⟩; rw [hwx] at Ha Hp hHeld ⊢; clear hwx
            refine wpAnyH_ready (rs := [14]) (by kernel_rfl) (by simp) ?_; refine AllReadyH.cons rfl (fun K hK => ?_) AllReadyH.nil
            obtain ⟨⟨a0, a1⟩, ⟨f0, f1⟩, az⟩ := Ha.out; go_simp; clear a0 f0 a1 f1 az
            have Hp := Lib.hid ((Hp.out.far ⟨Ga, 0, none⟩ (.int .i64 x0) (by show Gp ≠ Ga; exact ne_p_a)).far ⟨Ga, 1, none⟩ (.int .i64 y0) (by show Gp ≠ Ga; exact ne_p_a))
            have Ha := Lib.hid ((Ha.out.set0 x0).set1 y0)
            refine hK.out _ _ (Below.setCell (Below.setCell hHeld (p := ⟨Ga, 0, none⟩) le_a _) (p := ⟨Ga, 1, none⟩) le_a _) (fun hHeld2 => ?_); (clear hHeld; rename _ => hHeld; clear hK K; have hHeld : Below wr.heap.size wr _ := hHeld); (try simp only [Act.put, List.getElem_toArray, List.getElem_cons_succ, List.getElem_cons_zero, List.setIfInBounds_toArray, List.set_cons_zero, List.set_cons_succ])
            obtain ⟨yw3, hwx⟩ : ∃ wx, (yw2.setCell ⟨Ga, 0, none⟩ (.int .i64 x0)).setCell ⟨Ga, 1, none⟩ (.int .i64 y0) = wx := ⟨_, rfl⟩; rw [hwx] at Ha Hp hHeld ⊢; clear hwx
            refine wpAnyH_ready (rs := [15]) (by kernel_rfl) (by simp) ?_; refine AllReadyH.cons rfl (fun K hK => ?_) AllReadyH.nil
            obtain ⟨⟨a0, a1⟩, ⟨f0, f1⟩, az⟩ := Hp.out; go_simp; clear a0 f0 a1 f1 az
            have Ha := Lib.hid ((Ha.out.far ⟨Gp, 0, none⟩ (.int .i64 sx) (by show Ga ≠ Gp; exact ne_a_p)).far ⟨Gp, 1, none⟩ (.int .i64 sy) (by show Ga ≠ Gp; exact ne_a_p))
            have Hp := Lib.hid ((Hp.out.set0 sx).set1 sy)
            refine hK.out _ _ (Below.setCell (Below.setCell hHeld (p := ⟨Gp, 0, none⟩) le_p _) (p := ⟨Gp, 1, none⟩) le_p _) (fun hHeld2 => ?_); (clear hHeld; rename _ => hHeld; clear hK K; have hHeld : Below wr.heap.size wr _ := hHeld); (try simp only [Act.put, List.getElem_toArray, List.getElem_cons_succ, List.getElem_cons_zero, List.setIfInBounds_toArray, List.set_cons_zero, List.set_cons_succ])
            obtain ⟨yw4, hwx⟩ : ∃ wx, (yw3.setCell ⟨Gp, 0, none⟩ (.int .i64 sx)).setCell ⟨Gp, 1, none⟩ (.int .i64 sy) = wx := ⟨_, rfl⟩; rw [hwx] at Ha Hp hHeld ⊢; clear hwx
            refine wpAnyH_done (by kernel_rfl) ?_ _
            go_wp2_with fail
            go_meet
            exact ⟨Ga, Gp, rfl, rfl, Ha.out, Hp.out, hHeld⟩
          · skip
            go_simp; obtain ⟨Gp, hGp⟩ : ∃ G, yw0.heap.size = G := ⟨_, rfl⟩; have le_p : wr.heap.size ≤ Gp := by rw [← hGp]; exact Below.size hHeld
            have Hp : Hid (Bk2 (yw0.alloc (.cells #[.int .i64 0, .int .i64 0] 25)) Gp 0 0) := by rw [← hGp]; exact bk2_new yw0 0 0 _
            refine hK.out _ _ (Below.alloc hHeld (Below.size hHeld) _) (fun hHeld2 => ?_); (clear hHeld; rename _ => hHeld; clear hK K; have hHeld : Below wr.heap.size wr _ := hHeld); (try simp only [Act.put, List.getElem_toArray, List.getElem_cons_succ, List.getElem_cons_zero, List.setIfInBounds_toArray, List.set_cons_zero, List.set_cons_succ])
            rw [hGp]; clear hGp; obtain ⟨yw1, hwx⟩ : ∃ wx, yw0.alloc (.cells #[.int .i64 0, .int .i64 0] 25) = wx := ⟨_, rfl⟩; rw [hwx] at Hp hHeld ⊢; clear hwx
            refine wpAnyH_ready (rs := [12]) (by kernel_rfl) (by simp) ?_; refine AllReadyH.cons rfl (fun K hK => ?_) AllReadyH.nil
            go_simp; obtain ⟨Ga, hGa⟩ : ∃ G, yw1.heap.size = G := ⟨_, rfl⟩; have le_a : wr.heap.size ≤ Ga := by rw [← hGa]; exact Below.size hHeld
            have ne_a_p : Ga ≠ Gp := by have := Hp.out.2.2; omega
            have ne_p_a : Gp ≠ Ga := Ne.symm ne_a_p
            have Hp := Lib.hid (Hp.out.below ((Below.refl _ _).alloc (Nat.le_refl _) (.cells #[.int .i64 0, .int .i64 0] 25))); skip
            have Ha : Hid (Bk2 (yw1.alloc (.cells #[.int .i64 0, .int .i64 0] 25)) Ga 0 0) := by rw [← hGa]; exact bk2_new yw1 0 0 _
            refine hK.out _ _ (Below.alloc hHeld (Below.size hHeld) _) (fun hHeld2 => ?_); (clear hHeld; rename _ => hHeld; clear hK K; have hHeld : Below wr.heap.size wr _ := hHeld); (try simp only [Act.put, List.getElem_toArray, List.getElem_cons_succ, List.getElem_cons_zero, List.setIfInBounds_toArray, List.set_cons_zero, List.set_cons_succ])
            rw [hGa]; clear hGa; obtain ⟨yw2, hwx⟩ : ∃ wx, yw1.alloc (.cells #[.int .i64 0, .int .i64 0] 25) = wx := ⟨_, rfl⟩; rw [hwx] at Hp Ha hHeld ⊢; clear hwx
            refine wpAnyH_ready (rs := [14]) (by kernel_rfl) (by simp) ?_; refine AllReadyH.cons rfl (fun K hK => ?_) AllReadyH.nil
            obtain ⟨⟨a0, a1⟩, ⟨f0, f1⟩, az⟩ := Ha.out; go_simp; clear a0 f0 a1 f1 az
            have Hp := Lib.hid ((Hp.out.far ⟨Ga, 0, none⟩ (.int .i64 x0) (by show Gp ≠ Ga; exact ne_p_a)).far ⟨Ga, 1, none⟩ (.int .i64 y0) (by show Gp ≠ Ga; exact ne_p_a))
            have Ha := Lib.hid ((Ha.out.set0 x0).set1 y0)
            refine hK.out _ _ (Below.setCell (Below.setCell hHeld (p := ⟨Ga, 0, none⟩) le_a _) (p := ⟨Ga, 1, none⟩) le_a _) (fun hHeld2 => ?_); (clear hHeld; rename _ => hHeld; clear hK K; have hHeld : Below wr.heap.size wr _ := hHeld); (try simp only [Act.put, List.getElem_toArray, List.getElem_cons_succ, List.getElem_cons_zero, List.setIfInBounds_toArray, List.set_cons_zero, List.set_cons_succ])
            obtain ⟨yw3, hwx⟩ : ∃ wx, (yw2.setCell ⟨Ga, 0, none⟩ (.int .i64 x0)).setCell ⟨Ga, 1, none⟩ (.int .i64 y0) = wx := ⟨_, rfl⟩; rw [hwx] at Hp Ha hHeld ⊢; clear hwx
            refine wpAnyH_ready (rs := [15]) (by kernel_rfl) (by simp) ?_; refine AllReadyH.cons rfl (fun K hK => ?_) AllReadyH.nil
            obtain ⟨⟨a0, a1⟩, ⟨f0, f1⟩, az⟩ := Hp.out; go_simp; clear a0 f0 a1 f1 az
            have Ha := Lib.hid ((Ha.out.far ⟨Gp, 0, none⟩ (.int .i64 sx) (by show Ga ≠ Gp; exact ne_a_p)).far ⟨Gp, 1, none⟩ (.int .i64 sy) (by show Ga ≠ Gp; exact ne_a_p))
            have Hp := Lib.hid ((Hp.out.set0 sx).set1 sy)
            refine hK.out _ _ (Below.setCell (Below.setCell hHeld (p := ⟨Gp, 0, none⟩) le_p _) (p := ⟨Gp, 1, none⟩) le_p _) (fun hHeld2 => ?_); (clear hHeld; rename _ => hHeld; clear hK K; have hHeld : Below wr.heap.size wr _ := hHeld); (try simp only [Act.put, List.getElem_toArray, List.getElem_cons_succ, List.getElem_cons_zero, List.setIfInBounds_toArray, List.set_cons_zero, List.set_cons_succ])
            obtain ⟨yw4, hwx⟩ : ∃ wx, (yw3.setCell ⟨Gp, 0, none⟩ (.int .i64 sx)).setCell ⟨Gp, 1, none⟩ (.int .i64 sy) = wx := ⟨_, rfl⟩; rw [hwx] at Hp Ha hHeld ⊢; clear hwx
            refine wpAnyH_done (by kernel_rfl) ?_ _
            go_wp2_with fail
            go_meet
            exact ⟨Ga, Gp, rfl, rfl, Ha.out, Hp.out, hHeld⟩
        · skip
          go_simp; obtain ⟨Ga, hGa⟩ : ∃ G, wD.heap.size = G := ⟨_, rfl⟩; have le_a : wr.heap.size ≤ Ga := by rw [← hGa]; exact Below.size hHeld
          have Ha : Hid (Bk2 (wD.alloc (.cells #[.int .i64 0, .int .i64 0] 25)) Ga 0 0) := by rw [← hGa]; exact bk2_new wD 0 0 _
          refine hK.out _ _ (Below.alloc hHeld (Below.size hHeld) _) (fun hHeld2 => ?_); (clear hHeld; rename _ => hHeld; clear hK K; have hHeld : Below wr.heap.size wr _ := hHeld); (try simp only [Act.put, List.getElem_toArray, List.getElem_cons_succ, List.getElem_cons_zero, List.setIfInBounds_toArray, List.set_cons_zero, List.set_cons_succ])
          rw [hGa]; clear hGa; obtain ⟨yw0, hwx⟩ : ∃ wx, wD.alloc (.cells #[.int .i64 0, .int .i64 0] 25) = wx := ⟨_, rfl⟩; rw [hwx] at Ha hHeld ⊢; clear hwx
          refine wpAnyH_ready (rs := [11, 13]) (by kernel_rfl) (by simp) ?_; refine AllReadyH.cons rfl (fun K hK => ?_) (AllReadyH.cons rfl (fun K hK => ?_) AllReadyH.nil)
          · skip
            go_simp; (go_at_call 96; refine (HSB.out _).mono ?_; rintro en yw1 ⟨rfl, hb2⟩); have Ha := Lib.hid (Ha.out.below hb2); refine hK.out _ _ (below_after hb2 hHeld) (fun hHeld2 => ?_); clear hb2; (clear hHeld; rename _ => hHeld; clear hK K; have hHeld : Below wr.heap.size wr _ := hHeld); (try simp only [Act.put, List.getElem_toArray, List.getElem_cons_succ, List.getElem_cons_zero, List.setIfInBounds_toArray, List.set_cons_zero, List.set_cons_succ])
            refine wpAnyH_ready (rs := [13]) (by kernel_rfl) (by simp) ?_; refine AllReadyH.cons rfl (fun K hK => ?_) AllReadyH.nil
            go_simp; obtain ⟨Gp, hGp⟩ : ∃ G, yw1.heap.size = G := ⟨_, rfl⟩; have le_p : wr.heap.size ≤ Gp := by rw [← hGp]; exact Below.size hHeld
            have ne_p_a : Gp ≠ Ga := by have := Ha.out.2.2; omega
            have ne_a_p : Ga ≠ Gp := Ne.symm ne_p_a
            have Ha := Lib.hid (Ha.out.below ((Below.refl _ _).alloc (Nat.le_refl _) (.cells #[.int .i64 0, .int .i64 0] 25))); skip
            have Hp : Hid (Bk2 (yw1.alloc (.cells #[.int .i64 0, .int .i64 0] 25)) Gp 0 0) := by rw [← hGp]; exact bk2_new yw1 0 0 _
            refine hK.out _ _ (Below.alloc hHeld (Below.size hHeld) _) (fun hHeld2 => ?_); (clear hHeld; rename _ => hHeld; clear hK K; have hHeld : Below wr.heap.size wr _ := hHeld); (try simp only [Act.put, List.getElem_toArray, List.getElem_cons_succ, List.getElem_cons_zero, List.setIfInBounds_toArray, List.set_cons_zero, List.set_cons_succ])
            rw [hGp]; clear hGp; obtain ⟨yw2, hwx⟩ : ∃ wx, yw1.alloc (.cells #[.int .i64 0, .int .i64 0] 25) = wx := ⟨_, rfl⟩; rw [hwx] at Ha Hp hHeld ⊢; clear hwx
            refine wpAnyH_ready (rs := [14]) (by kernel_rfl) (by simp) ?_; refine AllReadyH.cons rfl (fun K hK => ?_) AllReadyH.nil
            obtain ⟨⟨a0, a1⟩, ⟨f0, f1⟩, az⟩ := Ha.out; go_simp; clear a0 f0 a1 f1 az
            have Hp := Lib.hid ((Hp.out.far ⟨Ga, 0, none⟩ (.int .i64 x0) (by show Gp ≠ Ga; exact ne_p_a)).far ⟨Ga, 1, none⟩ (.int .i64 y0) (by show Gp ≠ Ga; exact ne_p_a))
            have Ha := Lib.hid ((Ha.out.set0 x0).set1 y0)
            refine hK.out _ _ (Below.setCell (Below.setCell hHeld (p := ⟨Ga, 0, none⟩) le_a _) (p := ⟨Ga, 1, none⟩) le_a _) (fun hHeld2 => ?_); (clear hHeld; rename _ => hHeld; clear hK K; have hHeld : Below wr.heap.size wr _ := hHeld); (try simp only [Act.put, List.getElem_toArray, List.getElem_cons_succ, List.getElem_cons_zero, List.setIfInBounds_toArray, List.set_cons_zero, List.set_cons_succ])
            obtain ⟨yw3, hwx⟩ : ∃ wx, (yw2.setCell ⟨Ga, 0, none⟩ (.int .i64 x0)).setCell ⟨Ga, 1, none⟩ (.int .i64 y0) = wx := ⟨_, rfl⟩; rw [hwx] at Ha Hp hHeld ⊢; clear hwx
            refine wpAnyH_ready (rs := [15]) (by kernel_rfl) (by simp) ?_; refine AllReadyH.cons rfl (fun K hK => ?_) AllReadyH.nil
            obtain ⟨⟨a0, a1⟩, ⟨f0, f1⟩, az⟩ := Hp.out; go_simp; clear a0 f0 a1 f1 az
            have Ha := Lib.hid ((Ha.out.far ⟨Gp, 0, none⟩ (.int .i64 sx) (by show Ga ≠ Gp; exact ne_a_p)).far ⟨Gp, 1, none⟩ (.int .i64 sy) (by show Ga ≠ Gp; exact ne_a_p))
            have Hp := Lib.hid ((Hp.out.set0 sx).set1 sy)
            refine hK.out _ _ (Below.setCell (Below.setCell hHeld (p := ⟨Gp, 0, none⟩) le_p _) (p := ⟨Gp, 1, none⟩) le_p _) (fun hHeld2 => ?_); (clear hHeld; rename _ => hHeld; clear hK K; have hHeld : Below wr.heap.size wr _ := hHeld); (try simp only [Act.put, List.getElem_toArray, List.getElem_cons_succ, List.getElem_cons_zero, List.setIfInBounds_toArray, List.set_cons_zero, List.set_cons_succ])
            obtain ⟨yw4, hwx⟩ : ∃ wx, (yw3.setCell ⟨Gp, 0, none⟩ (.int .i64 sx)).setCell ⟨Gp, 1, none⟩ (.int .i64 sy) = wx := ⟨_, rfl⟩; rw [hwx] at Ha Hp hHeld ⊢; clear hwx
            refine wpAnyH_done (by kernel_rfl) ?_ _
            go_wp2_with fail
            go_meet
            exact ⟨Ga, Gp, rfl, rfl, Ha.out, Hp.out, hHeld⟩
          · skip
            go_simp; obtain ⟨Gp, hGp⟩ : ∃ G, yw0.heap.size = G := ⟨_, rfl⟩; have le_p : wr.heap.size ≤ Gp := by rw [← hGp]; exact Below.size hHeld
            have ne_p_a : Gp ≠ Ga := by have := Ha.out.2.2; omega
            have ne_a_p : Ga ≠ Gp := Ne.symm ne_p_a
            have Ha := Lib.hid (Ha.out.below ((Below.refl _ _).alloc (Nat.le_refl _) (.cells #[.int .i64 0, .int .i64 0] 25))); skip
            have Hp : Hid (Bk2 (yw0.alloc (.cells #[.int .i64 0, .int .i64 0] 25)) Gp 0 0) := by rw [← hGp]; exact bk2_new yw0 0 0 _
            refine hK.out _ _ (Below.alloc hHeld (Below.size hHeld) _) (fun hHeld2 => ?_); (clear hHeld; rename _ => hHeld; clear hK K; have hHeld : Below wr.heap.size wr _ := hHeld); (try simp only [Act.put, List.getElem_toArray, List.getElem_cons_succ, List.getElem_cons_zero, List.setIfInBounds_toArray, List.set_cons_zero, List.set_cons_succ])
            rw [hGp]; clear hGp; obtain ⟨yw1, hwx⟩ : ∃ wx, yw0.alloc (.cells #[.int .i64 0, .int .i64 0] 25) = wx := ⟨_, rfl⟩; rw [hwx] at Ha Hp hHeld ⊢; clear hwx
            refine wpAnyH_ready (rs := [11]) (by kernel_rfl) (by simp) ?_; refine AllReadyH.cons rfl (fun K hK => ?_) AllReadyH.nil
            go_simp; (go_at_call 96; refine (HSB.out _).mono ?_; rintro en yw2 ⟨rfl, hb2⟩); have Ha := Lib.hid (Ha.out.below hb2); have Hp := Lib.hid (Hp.out.below hb2); refine hK.out _ _ (below_after hb2 hHeld) (fun hHeld2 => ?_); clear hb2; (clear hHeld; rename _ => hHeld; clear hK K; have hHeld : Below wr.heap.size wr _ := hHeld); (try simp only [Act.put, List.getElem_toArray, List.getElem_cons_succ, List.getElem_cons_zero, List.setIfInBounds_toArray, List.set_cons_zero, List.set_cons_succ])
            refine wpAnyH_ready (rs := [14]) (by kernel_rfl) (by simp) ?_; refine AllReadyH.cons rfl (fun K hK => ?_) AllReadyH.nil
            obtain ⟨⟨a0, a1⟩, ⟨f0, f1⟩, az⟩ := Ha.out; go_simp; clear a0 f0 a1 f1 az
            have Hp := Lib.hid ((Hp.out.far ⟨Ga, 0, none⟩ (.int .i64 x0) (by show Gp ≠ Ga; exact ne_p_a)).far ⟨Ga, 1, none⟩ (.int .i64 y0) (by show Gp ≠ Ga; exact ne_p_a))
            have Ha := Lib.hid ((Ha.out.set0 x0).set1 y0)
            refine hK.out _ _ (Below.setCell (Below.setCell hHeld (p := ⟨Ga, 0, none⟩) le_a _) (p := ⟨Ga, 1, none⟩) le_a _) (fun hHeld2 => ?_); (clear hHeld; rename _ => hHeld; clear hK K; have hHeld : Below wr.heap.size wr _ := hHeld); (try simp only [Act.put, List.getElem_toArray, List.getElem_cons_succ, List.getElem_cons_zero, List.setIfInBounds_toArray, List.set_cons_zero, List.set_cons_succ])
            obtain ⟨yw3, hwx⟩ : ∃ wx, (yw2.setCell ⟨Ga, 0, none⟩ (.int .i64 x0)).setCell ⟨Ga, 1, none⟩ (.int .i64 y0) = wx := ⟨_, rfl⟩; rw [hwx] at Ha Hp hHeld ⊢; clear hwx
            refine wpAnyH_ready (rs := [15]) (by kernel_rfl) (by simp) ?_; refine AllReadyH.cons rfl (fun K hK => ?_) AllReadyH.nil
            obtain ⟨⟨a0, a1⟩, ⟨f0, f1⟩, az⟩ := Hp.out; go_simp; clear a0 f0 a1 f1 az
            have Ha := Lib.hid ((Ha.out.far ⟨Gp, 0, none⟩ (.int .i64 sx) (by show Ga ≠ Gp; exact ne_a_p)).far ⟨Gp, 1, none⟩ (.int .i64 sy) (by show Ga ≠ Gp; exact ne_a_p))
            have Hp := Lib.hid ((Hp.out.set0 sx).set1 sy)
            refine hK.out _ _ (Below.setCell (Below.setCell hHeld (p := ⟨Gp, 0, none⟩) le_p _) (p := ⟨Gp, 1, none⟩) le_p _) (fun hHeld2 => ?_); (clear hHeld; rename _ => hHeld; clear hK K; have hHeld : Below wr.heap.size wr _ := hHeld); (try simp only [Act.put, List.getElem_toArray, List.getElem_cons_succ, List.getElem_cons_zero, List.setIfInBounds_toArray, List.set_cons_zero, List.set_cons_succ])
            obtain ⟨yw4, hwx⟩ : ∃ wx, (yw3.setCell ⟨Gp, 0, none⟩ (.int .i64 sx)).setCell ⟨Gp, 1, none⟩ (.int .i64 sy) = wx := ⟨_, rfl⟩; rw [hwx] at Ha Hp hHeld ⊢; clear hwx
            refine wpAnyH_done (by kernel_rfl) ?_ _
            go_wp2_with fail
            go_meet
            exact ⟨Ga, Gp, rfl, rfl, Ha.out, Hp.out, hHeld⟩
        · skip
          go_simp; obtain ⟨Gp, hGp⟩ : ∃ G, wD.heap.size = G := ⟨_, rfl⟩; have le_p : wr.heap.size ≤ Gp := by rw [← hGp]; exact Below.size hHeld
          have Hp : Hid (Bk2 (wD.alloc (.cells #[.int .i64 0, .int .i64 0] 25)) Gp 0 0) := by rw [← hGp]; exact bk2_new wD 0 0 _
          refine hK.out _ _ (Below.alloc hHeld (Below.size hHeld) _) (fun hHeld2 => ?_); (clear hHeld; rename _ => hHeld; clear hK K; have hHeld : Below wr.heap.size wr _ := hHeld); (try simp only [Act.put, List.getElem_toArray, List.getElem_cons_succ, List.getElem_cons_zero, List.setIfInBounds_toArray, List.set_cons_zero, List.set_cons_succ])
          rw [hGp]; clear hGp; obtain ⟨yw0, hwx⟩ : ∃ wx, wD.alloc (.cells #[.int .i64 0, .int .i64 0] 25) = wx := ⟨_, rfl⟩; rw [hwx] at Hp hHeld ⊢; clear hwx
          refine wpAnyH_ready (rs := [11, 12]) (by kernel_rfl) (by simp) ?_; refine AllReadyH.cons rfl (fun K hK => ?_) (AllReadyH.cons rfl (fun K hK => ?_) AllReadyH.nil)
          · skip
            go_simp; (go_at_call 96; refine (HSB.out _).mono ?_; rintro en yw1 ⟨rfl, hb2⟩); have Hp := Lib.hid (Hp.out.below hb2); refine hK.out _ _ (below_after hb2 hHeld) (fun hHeld2 => ?_); clear hb2; (clear hHeld; rename _ => hHeld; clear hK K; have hHeld : Below wr.heap.size wr _ := hHeld); (try simp only [Act.put, List.getElem_toArray, List.getElem_cons_succ, List.getElem_cons_zero, List.setIfInBounds_toArray, List.set_cons_zero, List.set_cons_succ])
            refine wpAnyH_ready (rs := [12]) (by kernel_rfl) (by simp) ?_; refine AllReadyH.cons rfl (fun K hK => ?_) AllReadyH.nil
            go_simp; obtain ⟨Ga, hGa⟩ : ∃ G, yw1.heap.size = G := ⟨_, rfl⟩; have le_a : wr.heap.size ≤ Ga := by rw [← hGa]; exact Below.size hHeld
            have ne_a_p : Ga ≠ Gp := by have := Hp.out.2.2; omega
            have ne_p_a : Gp ≠ Ga := Ne.symm ne_a_p
            have Hp := Lib.hid (Hp.out.below ((Below.refl _ _).alloc (Nat.le_refl _) (.cells #[.int .i64 0, .int .i64 0] 25))); skip
            have Ha : Hid (Bk2 (yw1.alloc (.cells #[.int .i64 0, .int .i64 0] 25)) Ga 0 0) := by rw [← hGa]; exact bk2_new yw1 0 0 _
            refine hK.out _ _ (Below.alloc hHeld (Below.size hHeld) _) (fun hHeld2 => ?_); (clear hHeld; rename _ => hHeld; clear hK K; have hHeld : Below wr.heap.size wr _ := hHeld); (try simp only [Act.put, List.getElem_toArray, List.getElem_cons_succ, List.getElem_cons_zero, List.setIfInBounds_toArray, List.set_cons_zero, List.set_cons_succ])
            rw [hGa]; clear hGa; obtain ⟨yw2, hwx⟩ : ∃ wx, yw1.alloc (.cells #[.int .i64 0, .int .i64 0] 25) = wx := ⟨_, rfl⟩; rw [hwx] at Hp Ha hHeld ⊢; clear hwx
            refine wpAnyH_ready (rs := [14]) (by kernel_rfl) (by simp) ?_; refine AllReadyH.cons rfl (fun K hK => ?_) AllReadyH.nil
            obtain ⟨⟨a0, a1⟩, ⟨f0, f1⟩, az⟩ := Ha.out; go_simp; clear a0 f0 a1 f1 az
            have Hp := Lib.hid ((Hp.out.far ⟨Ga, 0, none⟩ (.int .i64 x0) (by show Gp ≠ Ga; exact ne_p_a)).far ⟨Ga, 1, none⟩ (.int .i64 y0) (by show Gp ≠ Ga; exact ne_p_a))
            have Ha := Lib.hid ((Ha.out.set0 x0).set1 y0)
            refine hK.out _ _ (Below.setCell (Below.setCell hHeld (p := ⟨Ga, 0, none⟩) le_a _) (p := ⟨Ga, 1, none⟩) le_a _) (fun hHeld2 => ?_); (clear hHeld; rename _ => hHeld; clear hK K; have hHeld : Below wr.heap.size wr _ := hHeld); (try simp only [Act.put, List.getElem_toArray, List.getElem_cons_succ, List.getElem_cons_zero, List.setIfInBounds_toArray, List.set_cons_zero, List.set_cons_succ])
            obtain ⟨yw3, hwx⟩ : ∃ wx, (yw2.setCell ⟨Ga, 0, none⟩ (.int .i64 x0)).setCell ⟨Ga, 1, none⟩ (.int .i64 y0) = wx := ⟨_, rfl⟩; rw [hwx] at Hp Ha hHeld ⊢; clear hwx
            refine wpAnyH_ready (rs := [15]) (by kernel_rfl) (by simp) ?_; refine AllReadyH.cons rfl (fun K hK => ?_) AllReadyH.nil
            obtain ⟨⟨a0, a1⟩, ⟨f0, f1⟩, az⟩ := Hp.out; go_simp; clear a0 f0 a1 f1 az
            have Ha := Lib.hid ((Ha.out.far ⟨Gp, 0, none⟩ (.int .i64 sx) (by show Ga ≠ Gp; exact ne_a_p)).far ⟨Gp, 1, none⟩ (.int .i64 sy) (by show Ga ≠ Gp; exact ne_a_p))
            have Hp := Lib.hid ((Hp.out.set0 sx).set1 sy)
            refine hK.out _ _ (Below.setCell (Below.setCell hHeld (p := ⟨Gp, 0, none⟩) le_p _) (p := ⟨Gp, 1, none⟩) le_p _) (fun hHeld2 => ?_); (clear hHeld; rename _ => hHeld; clear hK K; have hHeld : Below wr.heap.size wr _ := hHeld); (try simp only [Act.put, List.getElem_toArray, List.getElem_cons_succ, List.getElem_cons_zero, List.setIfInBounds_toArray, List.set_cons_zero, List.set_cons_succ])
            obtain ⟨yw4, hwx⟩ : ∃ wx, (yw3.setCell ⟨Gp, 0, none⟩ (.int .i64 sx)).setCell ⟨Gp, 1, none⟩ (.int .i64 sy) = wx := ⟨_, rfl⟩; rw [hwx] at Hp Ha hHeld ⊢; clear hwx
            refine wpAnyH_done (by kernel_rfl) ?_ _
            go_wp2_with fail
            go_meet
            exact ⟨Ga, Gp, rfl, rfl, Ha.out, Hp.out, hHeld⟩
          · skip
            go_simp; obtain ⟨Ga, hGa⟩ : ∃ G, yw0.heap.size = G := ⟨_, rfl⟩; have le_a : wr.heap.size ≤ Ga := by rw [← hGa]; exact Below.size hHeld
            have ne_a_p : Ga ≠ Gp := by have := Hp.out.2.2; omega
            have ne_p_a : Gp ≠ Ga := Ne.symm ne_a_p
            have Hp := Lib.hid (Hp.out.below ((Below.refl _ _).alloc (Nat.le_refl _) (.cells #[.int .i64 0, .int .i64 0] 25))); skip
            have Ha : Hid (Bk2 (yw0.alloc (.cells #[.int .i64 0, .int .i64 0] 25)) Ga 0 0) := by rw [← hGa]; exact bk2_new yw0 0 0 _
            refine hK.out _ _ (Below.alloc hHeld (Below.size hHeld) _) (fun hHeld2 => ?_); (clear hHeld; rename _ => hHeld; clear hK K; have hHeld : Below wr.heap.size wr _ := hHeld); (try simp only [Act.put, List.getElem_toArray, List.getElem_cons_succ, List.getElem_cons_zero, List.setIfInBounds_toArray, List.set_cons_zero, List.set_cons_succ])
            rw [hGa]; clear hGa; obtain ⟨yw1, hwx⟩ : ∃ wx, yw0.alloc (.cells #[.int .i64 0, .int .i64 0] 25) = wx := ⟨_, rfl⟩; rw [hwx] at Hp Ha hHeld ⊢; clear hwx
            refine wpAnyH_ready (rs := [11]) (by kernel_rfl) (by simp) ?_; refine AllReadyH.cons rfl (fun K hK => ?_) AllReadyH.nil
            go_simp; (go_at_call 96; refine (HSB.out _).mono ?_; rintro en yw2 ⟨rfl, hb2⟩); have Hp := Lib.hid (Hp.out.below hb2); have Ha := Lib.hid (Ha.out.below hb2); refine hK.out _ _ (below_after hb2 hHeld) (fun hHeld2 => ?_); clear hb2; (clear hHeld; rename _ => hHeld; clear hK K; have hHeld : Below wr.heap.size wr _ := hHeld); (try simp only [Act.put, List.getElem_toArray, List.getElem_cons_succ, List.getElem_cons_zero, List.setIfInBounds_toArray, List.set_cons_zero, List.set_cons_succ])
            refine wpAnyH_ready (rs := [14]) (by kernel_rfl) (by simp) ?_; refine AllReadyH.cons rfl (fun K hK => ?_) AllReadyH.nil
            obtain ⟨⟨a0, a1⟩, ⟨f0, f1⟩, az⟩ := Ha.out; go_simp; clear a0 f0 a1 f1 az
            have Hp := Lib.hid ((Hp.out.far ⟨Ga, 0, none⟩ (.int .i64 x0) (by show Gp ≠ Ga; exact ne_p_a)).far ⟨Ga, 1, none⟩ (.int .i64 y0) (by show Gp ≠ Ga; exact ne_p_a))
            have Ha := Lib.hid ((Ha.out.set0 x0).set1 y0)
            refine hK.out _ _ (Below.setCell (Below.setCell hHeld (p := ⟨Ga, 0, none⟩) le_a _) (p := ⟨Ga, 1, none⟩) le_a _) (fun hHeld2 => ?_); (clear hHeld; rename _ => hHeld; clear hK K; have hHeld : Below wr.heap.size wr _ := hHeld); (try simp only [Act.put, List.getElem_toArray, List.getElem_cons_succ, List.getElem_cons_zero, List.setIfInBounds_toArray, List.set_cons_zero, List.set_cons_succ])
            obtain ⟨yw3, hwx⟩ : ∃ wx, (yw2.setCell ⟨Ga, 0, none⟩ (.int .i64 x0)).setCell ⟨Ga, 1, none⟩ (.int .i64 y0) = wx := ⟨_, rfl⟩; rw [hwx] at Hp Ha hHeld ⊢; clear hwx
            refine wpAnyH_ready (rs := [15]) (by kernel_rfl) (by simp) ?_; refine AllReadyH.cons rfl (fun K hK => ?_) AllReadyH.nil
            obtain ⟨⟨a0, a1⟩, ⟨f0, f1⟩, az⟩ := Hp.out; go_simp; clear a0 f0 a1 f1 az
            have Ha := Lib.hid ((Ha.out.far ⟨Gp, 0, none⟩ (.int .i64 sx) (by show Ga ≠ Gp; exact ne_a_p)).far ⟨Gp, 1, none⟩ (.int .i64 sy) (by show Ga ≠ Gp; exact ne_a_p))
            have Hp := Lib.hid ((Hp.out.set0 sx).set1 sy)
            refine hK.out _ _ (Below.setCell (Below.setCell hHeld (p := ⟨Gp, 0, none⟩) le_p _) (p := ⟨Gp, 1, none⟩) le_p _) (fun hHeld2 => ?_); (clear hHeld; rename _ => hHeld; clear hK K; have hHeld : Below wr.heap.size wr _ := hHeld); (try simp only [Act.put, List.getElem_toArray, List.getElem_cons_succ, List.getElem_cons_zero, List.setIfInBounds_toArray, List.set_cons_zero, List.set_cons_succ])
            obtain ⟨yw4, hwx⟩ : ∃ wx, (yw3.setCell ⟨Gp, 0, none⟩ (.int .i64 sx)).setCell ⟨Gp, 1, none⟩ (.int .i64 sy) = wx := ⟨_, rfl⟩; rw [hwx] at Hp Ha hHeld ⊢; clear hwx
            refine wpAnyH_done (by kernel_rfl) ?_ _
            go_wp2_with fail
            go_meet
            exact ⟨Ga, Gp, rfl, rfl, Ha.out, Hp.out, hHeld⟩
      case rest =>
        obtain ⟨Ga, Gp, rfl, rfl, hA, hP, hbx⟩ := hcut
        obtain ⟨w2, rfl⟩ : ∃ w2, w2 = wc := ⟨_, rfl⟩
        have hbw : Below wB.heap.size wB w2 := below_after hbx HBL.out
        obtain ⟨⟨a0, a1⟩, _, az⟩ := id hA
        obtain ⟨⟨p0, p1⟩, _, pz⟩ := id hP
        clear n1 n2 hbx
        by_cases hd : 0 < sx
        · obtain ⟨hax, hpx⟩ := HA.out
          unfold Sml at hax
          unfold Q4 at hpx
          have wdx : IntKind.i64.wrap (px - x0) = px - x0 := by rw [IntKind.wrap_i64]; omega
          obtain ⟨pr, hpr⟩ : ∃ p, sy * (px - x0) = p := ⟨_, rfl⟩
          have hpb : -10000000 ≤ pr ∧ pr ≤ 10000000 := by rw [← hpr]; exact HE.out.2.2.1
          have hdb := div_bd hd hpb
          have wpr : IntKind.i64.wrap pr = pr := by rw [IntKind.wrap_i64]; omega
          have hHST := HST.out
          rw [if_pos hd, hpr] at hHST
          obtain ⟨q, hq⟩ : ∃ q, pr / sx = q := ⟨_, rfl⟩
          rw [hq] at hdb hHST
          have hay := HE.out.2.1
          unfold Sml at hay
          have w1q : IntKind.i64.wrap (y0 + q) = y0 + q := by rw [IntKind.wrap_i64]; omega
          have w2q : IntKind.i64.wrap (y0 + q + 1) = y0 + q + 1 := by rw [IntKind.wrap_i64]; omega
          have HDD : Hid (∀ w, Calls Try.prog 104 #[.int .i64 pr, .int .i64 sx] w fun e w' => e = .returned (.tuple #[.int .i64 q, .int .i64 (pr % sx)]) ∧ Below w.heap.size w w') := fun w => by
            have := divideDown_any pr sx w (by omega) (by have := HE.out.2.2.2; omega) (by omega) (by omega)
            rw [hq] at this
            exact this
          have HHST := Lib.hid hHST
          have HHQ := Lib.hid hq
          clear hHST hq hdb hpb hay hax hpx
          go_wp2_with fail
          go_at_call 104
          refine (HDD.out _).mono ?_
          rintro e w3 ⟨rfl, b3⟩
          have hbw3 := below_after b3 hbw
          have hA3 := hA.below b3
          clear a0 a1 az p0 p1 pz
          obtain ⟨⟨a0, a1⟩, _, az⟩ := id hA3
          go_wp2
          go_roundw
          case rel => exact ⟨1, by omega, by rw [HHST.out], by go_num, hbw3⟩
          case measure => simp [intOf]
        · have hHST := HST.out
          rw [if_neg hd] at hHST
          have HHST := Lib.hid hHST
          clear hHST
          go_wp2
          go_roundw
          case rel => exact ⟨1, by omega, by rw [HHST.out], by go_num, hbw⟩
          case measure => simp [intOf]
    · obtain ⟨⟨e1, e2⟩, ⟨e3, e4⟩, ⟨e5, e6⟩, ep⟩ := start_bd HB.out.2.2.1 HB.out.2.2.2.1 HB.out.2.2.2.2.1 HB.out.2.2.2.2.2.1 HB.out.2.2.2.2.2.2
      have hay := HB.out.2.2.2.1
      have hax := HB.out.2.2.1
      have hpx := HB.out.2.2.2.2.2.2
      have hst : stJ x0 y0 x1 y1 x2 y2 px 2 = if 0 < x2 - x1 then max (stJ x0 y0 x1 y1 x2 y2 px 1) (y1 + ((y2 - y1) * (px - x1)) / (x2 - x1) + 1) else stJ x0 y0 x1 y1 x2 y2 px 1 := rfl
      have hsb : ∀ w, Calls Try.prog 96 #[.agg #[.int .i64 x1, .int .i64 y1], .agg #[.int .i64 x2, .int .i64 y2]] w fun e w' => e = .returned (.agg #[.int .i64 (x2 - x1), .int .i64 (y2 - y1)]) ∧ Below w.heap.size w w' := fun w => stepBetween_any x1 y1 x2 y2 w HB.out.2.2.1.bn HB.out.2.2.2.1.bn HB.out.2.2.2.2.1.bn HB.out.2.2.2.2.2.1.bn
      have hs0 := HS.out.2.1
      obtain ⟨sx, hsx⟩ : ∃ s, x2 - x1 = s := ⟨_, rfl⟩
      obtain ⟨sy, hsy⟩ : ∃ s, y2 - y1 = s := ⟨_, rfl⟩
      obtain ⟨st, hst0⟩ : ∃ s, stJ x0 y0 x1 y1 x2 y2 px 1 = s := ⟨_, rfl⟩
      rw [hsx] at hst hsb e1 e2
      rw [hsy] at hst hsb ep e3 e4
      rw [hst0] at hst hs0 ⊢
      have HSB := Lib.hid hsb
      have HBL := Lib.hid hbel
      have HST := Lib.hid hst
      have HE := Lib.hid (And.intro hs0 (And.intro hay (And.intro ep (And.intro e1 e2))))
      have HA := Lib.hid (And.intro hax hpx)
      have n1 : IntKind.i64.wrap (1 + 1) = 2 := by decide
      have n2 : IntKind.i64.wrap (Int.tmod 2 3) = 2 := by decide
      have n3 : IntKind.i64.wrap 0 = 0 := by decide
      have n4 : IntKind.i64.wrap 1 = 1 := by decide
      have n5 : IntKind.i64.wrap 2 = 2 := by decide
      have n6 : IntKind.i64.wrap 3 = 3 := by decide
      clear hsx hsy hst0 hsb hbel hst hs0 hay ep e1 e2 e3 e4 e5 e6 hax hpx
      go_upto_region 5 with fail
      go_cut [7, 8] (fun v7 v8 wx => ∃ Ga Gp : Nat, v7 = .pointer (some ⟨Ga, 0, none⟩) ∧ v8 = .pointer (some ⟨Gp, 0, none⟩) ∧ Bk2 wx Ga x1 y1 ∧ Bk2 wx Gp sx sy ∧ Below wr.heap.size wr wx)
      case first =>
        refine wp_region_held_drew (S := fun W => Below wr.heap.size wr W) (by kernel_rfl) ?_ (fun hHeld => ?_); focus ((try dsimp only); exact (Below.refl _ _).drew)
        have hHeld : Below wr.heap.size wr _ := hHeld
        obtain ⟨wD, hwD⟩ : ∃ wD, wr.drew = wD := ⟨_, rfl⟩
        rw [hwD] at hHeld ⊢
        clear hwD
        (refine wpAnyH_take (i := 0) (v := ?_) rfl (by kernel_rfl) (by kernel_rfl) (by kernel_rfl) (fun _ _ _ h => h) (Or.inl ⟨rfl, ?_⟩) (by assumption) ?_; rotate_left; focus (intro W hSw; (try dsimp only at hSw); obtain ⟨⟨i0, i1, i2, i3, i4, i5⟩, _, iz⟩ := HX.out _ (below_after hSw HBL.out); go_simp; try (with_reducible rfl))); (try simp only [Act.put, List.getElem_toArray, List.getElem_cons_succ, List.getElem_cons_zero, List.setIfInBounds_toArray, List.set_cons_zero, List.set_cons_succ])
        (refine wpAnyH_take (i := 1) (v := ?_) rfl (by kernel_rfl) (by kernel_rfl) (by kernel_rfl) (fun _ _ _ h => h) (Or.inl ⟨rfl, ?_⟩) (by assumption) ?_; rotate_left; focus (intro W hSw; (try dsimp only at hSw); obtain ⟨⟨i0, i1, i2, i3, i4, i5⟩, _, iz⟩ := HX.out _ (below_after hSw HBL.out); go_simp; try (with_reducible rfl))); (try simp only [Act.put, List.getElem_toArray, List.getElem_cons_succ, List.getElem_cons_zero, List.setIfInBounds_toArray, List.set_cons_zero, List.set_cons_succ])
        (refine wpAnyH_take (i := 2) (v := ?_) rfl (by kernel_rfl) (by kernel_rfl) (by kernel_rfl) (fun _ _ _ h => h) (Or.inl ⟨rfl, ?_⟩) (by assumption) ?_; rotate_left; focus (intro W hSw; (try dsimp only at hSw); obtain ⟨⟨i0, i1, i2, i3, i4, i5⟩, _, iz⟩ := HX.out _ (below_after hSw HBL.out); go_simp; try (with_reducible rfl))); (try simp only [Act.put, List.getElem_toArray, List.getElem_cons_succ, List.getElem_cons_zero, List.setIfInBounds_toArray, List.set_cons_zero, List.set_cons_succ])
        (refine wpAnyH_take (i := 3) (v := ?_) rfl (by kernel_rfl) (by kernel_rfl) (by kernel_rfl) (fun _ _ _ h => h) (Or.inl ⟨rfl, ?_⟩) (by assumption) ?_; rotate_left; focus (intro W hSw; (try dsimp only at hSw); obtain ⟨⟨i0, i1, i2, i3, i4, i5⟩, _, iz⟩ := HX.out _ (below_after hSw HBL.out); go_simp; try (with_reducible rfl))); (try simp only [Act.put, List.getElem_toArray, List.getElem_cons_succ, List.getElem_cons_zero, List.setIfInBounds_toArray, List.set_cons_zero, List.set_cons_succ])
        (refine wpAnyH_take (i := 4) (v := ?_) rfl (by kernel_rfl) (by kernel_rfl) (by kernel_rfl) (fun _ _ _ h => h) (Or.inl ⟨rfl, ?_⟩) (by assumption) ?_; rotate_left; focus (intro W hSw; (try dsimp only at hSw); obtain ⟨⟨i0, i1, i2, i3, i4, i5⟩, _, iz⟩ := HX.out _ (below_after hSw HBL.out); go_simp; try (with_reducible rfl))); (try simp only [Act.put, List.getElem_toArray, List.getElem_cons_succ, List.getElem_cons_zero, List.setIfInBounds_toArray, List.set_cons_zero, List.set_cons_succ])
        (refine wpAnyH_take (i := 5) (v := ?_) rfl (by kernel_rfl) (by kernel_rfl) (by kernel_rfl) (fun _ _ _ h => h) (Or.inl ⟨rfl, ?_⟩) (by assumption) ?_; rotate_left; focus (intro W hSw; (try dsimp only at hSw); obtain ⟨⟨i0, i1, i2, i3, i4, i5⟩, _, iz⟩ := HX.out _ (below_after hSw HBL.out); go_simp; try (with_reducible rfl))); (try simp only [Act.put, List.getElem_toArray, List.getElem_cons_succ, List.getElem_cons_zero, List.setIfInBounds_toArray, List.set_cons_zero, List.set_cons_succ])
        (refine wpAnyH_take (i := 6) (v := ?_) rfl (by kernel_rfl) (by kernel_rfl) (by kernel_rfl) (fun _ _ _ h => h) (Or.inl ⟨rfl, ?_⟩) (by assumption) ?_; rotate_left; focus (intro W hSw; (try dsimp only at hSw); obtain ⟨⟨i0, i1, i2, i3, i4, i5⟩, _, iz⟩ := HX.out _ (below_after hSw HBL.out); go_simp; try (with_reducible rfl))); (try simp only [Act.put, List.getElem_toArray, List.getElem_cons_succ, List.getElem_cons_zero, List.setIfInBounds_toArray, List.set_cons_zero, List.set_cons_succ])
        (refine wpAnyH_take (i := 7) (v := ?_) rfl (by kernel_rfl) (by kernel_rfl) (by kernel_rfl) (fun _ _ _ h => h) (Or.inl ⟨rfl, ?_⟩) (by assumption) ?_; rotate_left; focus (intro W hSw; (try dsimp only at hSw); obtain ⟨⟨i0, i1, i2, i3, i4, i5⟩, _, iz⟩ := HX.out _ (below_after hSw HBL.out); go_simp; try (with_reducible rfl))); (try simp only [Act.put, List.getElem_toArray, List.getElem_cons_succ, List.getElem_cons_zero, List.setIfInBounds_toArray, List.set_cons_zero, List.set_cons_succ])
        (refine wpAnyH_take (i := 8) (v := ?_) rfl (by kernel_rfl) (by kernel_rfl) (by kernel_rfl) (fun _ _ _ h => h) (Or.inl ⟨rfl, ?_⟩) (by assumption) ?_; rotate_left; focus (intro W hSw; (try dsimp only at hSw); obtain ⟨⟨i0, i1, i2, i3, i4, i5⟩, _, iz⟩ := HX.out _ (below_after hSw HBL.out); go_simp; try (with_reducible rfl))); (try simp only [Act.put, List.getElem_toArray, List.getElem_cons_succ, List.getElem_cons_zero, List.setIfInBounds_toArray, List.set_cons_zero, List.set_cons_succ])
        (refine wpAnyH_take (i := 9) (v := ?_) rfl (by kernel_rfl) (by kernel_rfl) (by kernel_rfl) (fun _ _ _ h => h) (Or.inl ⟨rfl, ?_⟩) (by assumption) ?_; rotate_left; focus (intro W hSw; (try dsimp only at hSw); obtain ⟨⟨i0, i1, i2, i3, i4, i5⟩, _, iz⟩ := HX.out _ (below_after hSw HBL.out); go_simp; try (with_reducible rfl))); (try simp only [Act.put, List.getElem_toArray, List.getElem_cons_succ, List.getElem_cons_zero, List.setIfInBounds_toArray, List.set_cons_zero, List.set_cons_succ])
        (refine wpAnyH_take (i := 10) (v := ?_) rfl (by kernel_rfl) (by kernel_rfl) (by kernel_rfl) (fun _ _ _ h => h) (Or.inl ⟨rfl, ?_⟩) (by assumption) ?_; rotate_left; focus (intro W hSw; (try dsimp only at hSw); obtain ⟨⟨i0, i1, i2, i3, i4, i5⟩, _, iz⟩ := HX.out _ (below_after hSw HBL.out); go_simp; try (with_reducible rfl))); (try simp only [Act.put, List.getElem_toArray, List.getElem_cons_succ, List.getElem_cons_zero, List.setIfInBounds_toArray, List.set_cons_zero, List.set_cons_succ])
        refine wpAnyH_ready (rs := [11, 12, 13]) (by kernel_rfl) (by simp) ?_; refine AllReadyH.cons rfl (fun K hK => ?_) (AllReadyH.cons rfl (fun K hK => ?_) (AllReadyH.cons rfl (fun K hK => ?_) AllReadyH.nil))
        · skip
          go_simp; (go_at_call 96; refine (HSB.out _).mono ?_; rintro en yw0 ⟨rfl, hb2⟩); refine hK.out _ _ (below_after hb2 hHeld) (fun hHeld2 => ?_); clear hb2; (clear hHeld; rename _ => hHeld; clear hK K; have hHeld : Below wr.heap.size wr _ := hHeld); (try simp only [Act.put, List.getElem_toArray, List.getElem_cons_succ, List.getElem_cons_zero, List.setIfInBounds_toArray, List.set_cons_zero, List.set_cons_succ])
          refine wpAnyH_ready (rs := [12, 13]) (by kernel_rfl) (by simp) ?_; refine AllReadyH.cons rfl (fun K hK => ?_) (AllReadyH.cons rfl (fun K hK => ?_) AllReadyH.nil)
          · skip
            go_simp; obtain ⟨Ga, hGa⟩ : ∃ G, yw0.heap.size = G := ⟨_, rfl⟩; have le_a : wr.heap.size ≤ Ga := by rw [← hGa]; exact Below.size hHeld
            have Ha : Hid (Bk2 (yw0.alloc (.cells #[.int .i64 0, .int .i64 0] 25)) Ga 0 0) := by rw [← hGa]; exact bk2_new yw0 0 0 _
            refine hK.out _ _ (Below.alloc hHeld (Below.size hHeld) _) (fun hHeld2 => ?_); (clear hHeld; rename _ => hHeld; clear hK K; have hHeld : Below wr.heap.size wr _ := hHeld); (try simp only [Act.put, List.getElem_toArray, List.getElem_cons_succ, List.getElem_cons_zero, List.setIfInBounds_toArray, List.set_cons_zero, List.set_cons_succ])
            rw [hGa]; clear hGa; obtain ⟨yw1, hwx⟩ : ∃ wx, yw0.alloc (.cells #[.int .i64 0, .int .i64 0] 25) = wx := ⟨_, rfl⟩; rw [hwx] at Ha hHeld ⊢; clear hwx
            refine wpAnyH_ready (rs := [13]) (by kernel_rfl) (by simp) ?_; refine AllReadyH.cons rfl (fun K hK => ?_) AllReadyH.nil
            go_simp; obtain ⟨Gp, hGp⟩ : ∃ G, yw1.heap.size = G := ⟨_, rfl⟩; have le_p : wr.heap.size ≤ Gp := by rw [← hGp]; exact Below.size hHeld
            have ne_p_a : Gp ≠ Ga := by have := Ha.out.2.2; omega
            have ne_a_p : Ga ≠ Gp := Ne.symm ne_p_a
            have Ha := Lib.hid (Ha.out.below ((Below.refl _ _).alloc (Nat.le_refl _) (.cells #[.int .i64 0, .int .i64 0] 25))); skip
            have Hp : Hid (Bk2 (yw1.alloc (.cells #[.int .i64 0, .int .i64 0] 25)) Gp 0 0) := by rw [← hGp]; exact bk2_new yw1 0 0 _
            refine hK.out _ _ (Below.alloc hHeld (Below.size hHeld) _) (fun hHeld2 => ?_); (clear hHeld; rename _ => hHeld; clear hK K; have hHeld : Below wr.heap.size wr _ := hHeld); (try simp only [Act.put, List.getElem_toArray, List.getElem_cons_succ, List.getElem_cons_zero, List.setIfInBounds_toArray, List.set_cons_zero, List.set_cons_succ])
            rw [hGp]; clear hGp; obtain ⟨yw2, hwx⟩ : ∃ wx, yw1.alloc (.cells #[.int .i64 0, .int .i64 0] 25) = wx := ⟨_, rfl⟩; rw [hwx] at Ha Hp hHeld ⊢; clear hwx
            refine wpAnyH_ready (rs := [14]) (by kernel_rfl) (by simp) ?_; refine AllReadyH.cons rfl (fun K hK => ?_) AllReadyH.nil
            obtain ⟨⟨a0, a1⟩, ⟨f0, f1⟩, az⟩ := Ha.out; go_simp; clear a0 f0 a1 f1 az
            have Hp := Lib.hid ((Hp.out.far ⟨Ga, 0, none⟩ (.int .i64 x1) (by show Gp ≠ Ga; exact ne_p_a)).far ⟨Ga, 1, none⟩ (.int .i64 y1) (by show Gp ≠ Ga; exact ne_p_a))
            have Ha := Lib.hid ((Ha.out.set0 x1).set1 y1)
            refine hK.out _ _ (Below.setCell (Below.setCell hHeld (p := ⟨Ga, 0, none⟩) le_a _) (p := ⟨Ga, 1, none⟩) le_a _) (fun hHeld2 => ?_); (clear hHeld; rename _ => hHeld; clear hK K; have hHeld : Below wr.heap.size wr _ := hHeld); (try simp only [Act.put, List.getElem_toArray, List.getElem_cons_succ, List.getElem_cons_zero, List.setIfInBounds_toArray, List.set_cons_zero, List.set_cons_succ])
            obtain ⟨yw3, hwx⟩ : ∃ wx, (yw2.setCell ⟨Ga, 0, none⟩ (.int .i64 x1)).setCell ⟨Ga, 1, none⟩ (.int .i64 y1) = wx := ⟨_, rfl⟩; rw [hwx] at Ha Hp hHeld ⊢; clear hwx
            refine wpAnyH_ready (rs := [15]) (by kernel_rfl) (by simp) ?_; refine AllReadyH.cons rfl (fun K hK => ?_) AllReadyH.nil
            obtain ⟨⟨a0, a1⟩, ⟨f0, f1⟩, az⟩ := Hp.out; go_simp; clear a0 f0 a1 f1 az
            have Ha := Lib.hid ((Ha.out.far ⟨Gp, 0, none⟩ (.int .i64 sx) (by show Ga ≠ Gp; exact ne_a_p)).far ⟨Gp, 1, none⟩ (.int .i64 sy) (by show Ga ≠ Gp; exact ne_a_p))
            have Hp := Lib.hid ((Hp.out.set0 sx).set1 sy)
            refine hK.out _ _ (Below.setCell (Below.setCell hHeld (p := ⟨Gp, 0, none⟩) le_p _) (p := ⟨Gp, 1, none⟩) le_p _) (fun hHeld2 => ?_); (clear hHeld; rename _ => hHeld; clear hK K; have hHeld : Below wr.heap.size wr _ := hHeld); (try simp only [Act.put, List.getElem_toArray, List.getElem_cons_succ, List.getElem_cons_zero, List.setIfInBounds_toArray, List.set_cons_zero, List.set_cons_succ])
            obtain ⟨yw4, hwx⟩ : ∃ wx, (yw3.setCell ⟨Gp, 0, none⟩ (.int .i64 sx)).setCell ⟨Gp, 1, none⟩ (.int .i64 sy) = wx := ⟨_, rfl⟩; rw [hwx] at Ha Hp hHeld ⊢; clear hwx
            refine wpAnyH_done (by kernel_rfl) ?_ _
            go_wp2_with fail
            go_meet
            exact ⟨Ga, Gp, rfl, rfl, Ha.out, Hp.out, hHeld⟩
          · skip
            go_simp; obtain ⟨Gp, hGp⟩ : ∃ G, yw0.heap.size = G := ⟨_, rfl⟩; have le_p : wr.heap.size ≤ Gp := by rw [← hGp]; exact Below.size hHeld
            have Hp : Hid (Bk2 (yw0.alloc (.cells #[.int .i64 0, .int .i64 0] 25)) Gp 0 0) := by rw [← hGp]; exact bk2_new yw0 0 0 _
            refine hK.out _ _ (Below.alloc hHeld (Below.size hHeld) _) (fun hHeld2 => ?_); (clear hHeld; rename _ => hHeld; clear hK K; have hHeld : Below wr.heap.size wr _ := hHeld); (try simp only [Act.put, List.getElem_toArray, List.getElem_cons_succ, List.getElem_cons_zero, List.setIfInBounds_toArray, List.set_cons_zero, List.set_cons_succ])
            rw [hGp]; clear hGp; obtain ⟨yw1, hwx⟩ : ∃ wx, yw0.alloc (.cells #[.int .i64 0, .int .i64 0] 25) = wx := ⟨_, rfl⟩; rw [hwx] at Hp hHeld ⊢; clear hwx
            refine wpAnyH_ready (rs := [12]) (by kernel_rfl) (by simp) ?_; refine AllReadyH.cons rfl (fun K hK => ?_) AllReadyH.nil
            go_simp; obtain ⟨Ga, hGa⟩ : ∃ G, yw1.heap.size = G := ⟨_, rfl⟩; have le_a : wr.heap.size ≤ Ga := by rw [← hGa]; exact Below.size hHeld
            have ne_a_p : Ga ≠ Gp := by have := Hp.out.2.2; omega
            have ne_p_a : Gp ≠ Ga := Ne.symm ne_a_p
            have Hp := Lib.hid (Hp.out.below ((Below.refl _ _).alloc (Nat.le_refl _) (.cells #[.int .i64 0, .int .i64 0] 25))); skip
            have Ha : Hid (Bk2 (yw1.alloc (.cells #[.int .i64 0, .int .i64 0] 25)) Ga 0 0) := by rw [← hGa]; exact bk2_new yw1 0 0 _
            refine hK.out _ _ (Below.alloc hHeld (Below.size hHeld) _) (fun hHeld2 => ?_); (clear hHeld; rename _ => hHeld; clear hK K; have hHeld : Below wr.heap.size wr _ := hHeld); (try simp only [Act.put, List.getElem_toArray, List.getElem_cons_succ, List.getElem_cons_zero, List.setIfInBounds_toArray, List.set_cons_zero, List.set_cons_succ])
            rw [hGa]; clear hGa; obtain ⟨yw2, hwx⟩ : ∃ wx, yw1.alloc (.cells #[.int .i64 0, .int .i64 0] 25) = wx := ⟨_, rfl⟩; rw [hwx] at Hp Ha hHeld ⊢; clear hwx
            refine wpAnyH_ready (rs := [14]) (by kernel_rfl) (by simp) ?_; refine AllReadyH.cons rfl (fun K hK => ?_) AllReadyH.nil
            obtain ⟨⟨a0, a1⟩, ⟨f0, f1⟩, az⟩ := Ha.out; go_simp; clear a0 f0 a1 f1 az
            have Hp := Lib.hid ((Hp.out.far ⟨Ga, 0, none⟩ (.int .i64 x1) (by show Gp ≠ Ga; exact ne_p_a)).far ⟨Ga, 1, none⟩ (.int .i64 y1) (by show Gp ≠ Ga; exact ne_p_a))
            have Ha := Lib.hid ((Ha.out.set0 x1).set1 y1)
            refine hK.out _ _ (Below.setCell (Below.setCell hHeld (p := ⟨Ga, 0, none⟩) le_a _) (p := ⟨Ga, 1, none⟩) le_a _) (fun hHeld2 => ?_); (clear hHeld; rename _ => hHeld; clear hK K; have hHeld : Below wr.heap.size wr _ := hHeld); (try simp only [Act.put, List.getElem_toArray, List.getElem_cons_succ, List.getElem_cons_zero, List.setIfInBounds_toArray, List.set_cons_zero, List.set_cons_succ])
            obtain ⟨yw3, hwx⟩ : ∃ wx, (yw2.setCell ⟨Ga, 0, none⟩ (.int .i64 x1)).setCell ⟨Ga, 1, none⟩ (.int .i64 y1) = wx := ⟨_, rfl⟩; rw [hwx] at Hp Ha hHeld ⊢; clear hwx
            refine wpAnyH_ready (rs := [15]) (by kernel_rfl) (by simp) ?_; refine AllReadyH.cons rfl (fun K hK => ?_) AllReadyH.nil
            obtain ⟨⟨a0, a1⟩, ⟨f0, f1⟩, az⟩ := Hp.out; go_simp; clear a0 f0 a1 f1 az
            have Ha := Lib.hid ((Ha.out.far ⟨Gp, 0, none⟩ (.int .i64 sx) (by show Ga ≠ Gp; exact ne_a_p)).far ⟨Gp, 1, none⟩ (.int .i64 sy) (by show Ga ≠ Gp; exact ne_a_p))
            have Hp := Lib.hid ((Hp.out.set0 sx).set1 sy)
            refine hK.out _ _ (Below.setCell (Below.setCell hHeld (p := ⟨Gp, 0, none⟩) le_p _) (p := ⟨Gp, 1, none⟩) le_p _) (fun hHeld2 => ?_); (clear hHeld; rename _ => hHeld; clear hK K; have hHeld : Below wr.heap.size wr _ := hHeld); (try simp only [Act.put, List.getElem_toArray, List.getElem_cons_succ, List.getElem_cons_zero, List.setIfInBounds_toArray, List.set_cons_zero, List.set_cons_succ])
            obtain ⟨yw4, hwx⟩ : ∃ wx, (yw3.setCell ⟨Gp, 0, none⟩ (.int .i64 sx)).setCell ⟨Gp, 1, none⟩ (.int .i64 sy) = wx := ⟨_, rfl⟩; rw [hwx] at Hp Ha hHeld ⊢; clear hwx
            refine wpAnyH_done (by kernel_rfl) ?_ _
            go_wp2_with fail
            go_meet
            exact ⟨Ga, Gp, rfl, rfl, Ha.out, Hp.out, hHeld⟩
        · skip
          go_simp; obtain ⟨Ga, hGa⟩ : ∃ G, wD.heap.size = G := ⟨_, rfl⟩; have le_a : wr.heap.size ≤ Ga := by rw [← hGa]; exact Below.size hHeld
          have Ha : Hid (Bk2 (wD.alloc (.cells #[.int .i64 0, .int .i64 0] 25)) Ga 0 0) := by rw [← hGa]; exact bk2_new wD 0 0 _
          refine hK.out _ _ (Below.alloc hHeld (Below.size hHeld) _) (fun hHeld2 => ?_); (clear hHeld; rename _ => hHeld; clear hK K; have hHeld : Below wr.heap.size wr _ := hHeld); (try simp only [Act.put, List.getElem_toArray, List.getElem_cons_succ, List.getElem_cons_zero, List.setIfInBounds_toArray, List.set_cons_zero, List.set_cons_succ])
          rw [hGa]; clear hGa; obtain ⟨yw0, hwx⟩ : ∃ wx, wD.alloc (.cells #[.int .i64 0, .int .i64 0] 25) = wx := ⟨_, rfl⟩; rw [hwx] at Ha hHeld ⊢; clear hwx
          refine wpAnyH_ready (rs := [11, 13]) (by kernel_rfl) (by simp) ?_; refine AllReadyH.cons rfl (fun K hK => ?_) (AllReadyH.cons rfl (fun K hK => ?_) AllReadyH.nil)
          · skip
            go_simp; (go_at_call 96; refine (HSB.out _).mono ?_; rintro en yw1 ⟨rfl, hb2⟩); have Ha := Lib.hid (Ha.out.below hb2); refine hK.out _ _ (below_after hb2 hHeld) (fun hHeld2 => ?_); clear hb2; (clear hHeld; rename _ => hHeld; clear hK K; have hHeld : Below wr.heap.size wr _ := hHeld); (try simp only [Act.put, List.getElem_toArray, List.getElem_cons_succ, List.getElem_cons_zero, List.setIfInBounds_toArray, List.set_cons_zero, List.set_cons_succ])
            refine wpAnyH_ready (rs := [13]) (by kernel_rfl) (by simp) ?_; refine AllReadyH.cons rfl (fun K hK => ?_) AllReadyH.nil
            go_simp; obtain ⟨Gp, hGp⟩ : ∃ G, yw1.heap.size = G := ⟨_, rfl⟩; have le_p : wr.heap.size ≤ Gp := by rw [← hGp]; exact Below.size hHeld
            have ne_p_a : Gp ≠ Ga := by have := Ha.out.2.2; omega
            have ne_a_p : Ga ≠ Gp := Ne.symm ne_p_a
            have Ha := Lib.hid (Ha.out.below ((Below.refl _ _).alloc (Nat.le_refl _) (.cells #[.int .i64 0, .int .i64 0] 25))); skip
            have Hp : Hid (Bk2 (yw1.alloc (.cells #[.int .i64 0, .int .i64 0] 25)) Gp 0 0) := by rw [← hGp]; exact bk2_new yw1 0 0 _
            refine hK.out _ _ (Below.alloc hHeld (Below.size hHeld) _) (fun hHeld2 => ?_); (clear hHeld; rename _ => hHeld; clear hK K; have hHeld : Below wr.heap.size wr _ := hHeld); (try simp only [Act.put, List.getElem_toArray, List.getElem_cons_succ, List.getElem_cons_zero, List.setIfInBounds_toArray, List.set_cons_zero, List.set_cons_succ])
            rw [hGp]; clear hGp; obtain ⟨yw2, hwx⟩ : ∃ wx, yw1.alloc (.cells #[.int .i64 0, .int .i64 0] 25) = wx := ⟨_, rfl⟩; rw [hwx] at Ha Hp hHeld ⊢; clear hwx
            refine wpAnyH_ready (rs := [14]) (by kernel_rfl) (by simp) ?_; refine AllReadyH.cons rfl (fun K hK => ?_) AllReadyH.nil
            obtain ⟨⟨a0, a1⟩, ⟨f0, f1⟩, az⟩ := Ha.out; go_simp; clear a0 f0 a1 f1 az
            have Hp := Lib.hid ((Hp.out.far ⟨Ga, 0, none⟩ (.int .i64 x1) (by show Gp ≠ Ga; exact ne_p_a)).far ⟨Ga, 1, none⟩ (.int .i64 y1) (by show Gp ≠ Ga; exact ne_p_a))
            have Ha := Lib.hid ((Ha.out.set0 x1).set1 y1)
            refine hK.out _ _ (Below.setCell (Below.setCell hHeld (p := ⟨Ga, 0, none⟩) le_a _) (p := ⟨Ga, 1, none⟩) le_a _) (fun hHeld2 => ?_); (clear hHeld; rename _ => hHeld; clear hK K; have hHeld : Below wr.heap.size wr _ := hHeld); (try simp only [Act.put, List.getElem_toArray, List.getElem_cons_succ, List.getElem_cons_zero, List.setIfInBounds_toArray, List.set_cons_zero, List.set_cons_succ])
            obtain ⟨yw3, hwx⟩ : ∃ wx, (yw2.setCell ⟨Ga, 0, none⟩ (.int .i64 x1)).setCell ⟨Ga, 1, none⟩ (.int .i64 y1) = wx := ⟨_, rfl⟩; rw [hwx] at Ha Hp hHeld ⊢; clear hwx
            refine wpAnyH_ready (rs := [15]) (by kernel_rfl) (by simp) ?_; refine AllReadyH.cons rfl (fun K hK => ?_) AllReadyH.nil
            obtain ⟨⟨a0, a1⟩, ⟨f0, f1⟩, az⟩ := Hp.out; go_simp; clear a0 f0 a1 f1 az
            have Ha := Lib.hid ((Ha.out.far ⟨Gp, 0, none⟩ (.int .i64 sx) (by show Ga ≠ Gp; exact ne_a_p)).far ⟨Gp, 1, none⟩ (.int .i64 sy) (by show Ga ≠ Gp; exact ne_a_p))
            have Hp := Lib.hid ((Hp.out.set0 sx).set1 sy)
            refine hK.out _ _ (Below.setCell (Below.setCell hHeld (p := ⟨Gp, 0, none⟩) le_p _) (p := ⟨Gp, 1, none⟩) le_p _) (fun hHeld2 => ?_); (clear hHeld; rename _ => hHeld; clear hK K; have hHeld : Below wr.heap.size wr _ := hHeld); (try simp only [Act.put, List.getElem_toArray, List.getElem_cons_succ, List.getElem_cons_zero, List.setIfInBounds_toArray, List.set_cons_zero, List.set_cons_succ])
            obtain ⟨yw4, hwx⟩ : ∃ wx, (yw3.setCell ⟨Gp, 0, none⟩ (.int .i64 sx)).setCell ⟨Gp, 1, none⟩ (.int .i64 sy) = wx := ⟨_, rfl⟩; rw [hwx] at Ha Hp hHeld ⊢; clear hwx
            refine wpAnyH_done (by kernel_rfl) ?_ _
            go_wp2_with fail
            go_meet
            exact ⟨Ga, Gp, rfl, rfl, Ha.out, Hp.out, hHeld⟩
          · skip
            go_simp; obtain ⟨Gp, hGp⟩ : ∃ G, yw0.heap.size = G := ⟨_, rfl⟩; have le_p : wr.heap.size ≤ Gp := by rw [← hGp]; exact Below.size hHeld
            have ne_p_a : Gp ≠ Ga := by have := Ha.out.2.2; omega
            have ne_a_p : Ga ≠ Gp := Ne.symm ne_p_a
            have Ha := Lib.hid (Ha.out.below ((Below.refl _ _).alloc (Nat.le_refl _) (.cells #[.int .i64 0, .int .i64 0] 25))); skip
            have Hp : Hid (Bk2 (yw0.alloc (.cells #[.int .i64 0, .int .i64 0] 25)) Gp 0 0) := by rw [← hGp]; exact bk2_new yw0 0 0 _
            refine hK.out _ _ (Below.alloc hHeld (Below.size hHeld) _) (fun hHeld2 => ?_); (clear hHeld; rename _ => hHeld; clear hK K; have hHeld : Below wr.heap.size wr _ := hHeld); (try simp only [Act.put, List.getElem_toArray, List.getElem_cons_succ, List.getElem_cons_zero, List.setIfInBounds_toArray, List.set_cons_zero, List.set_cons_succ])
            rw [hGp]; clear hGp; obtain ⟨yw1, hwx⟩ : ∃ wx, yw0.alloc (.cells #[.int .i64 0, .int .i64 0] 25) = wx := ⟨_, rfl⟩; rw [hwx] at Ha Hp hHeld ⊢; clear hwx
            refine wpAnyH_ready (rs := [11]) (by kernel_rfl) (by simp) ?_; refine AllReadyH.cons rfl (fun K hK => ?_) AllReadyH.nil
            go_simp; (go_at_call 96; refine (HSB.out _).mono ?_; rintro en yw2 ⟨rfl, hb2⟩); have Ha := Lib.hid (Ha.out.below hb2); have Hp := Lib.hid (Hp.out.below hb2); refine hK.out _ _ (below_after hb2 hHeld) (fun hHeld2 => ?_); clear hb2; (clear hHeld; rename _ => hHeld; clear hK K; have hHeld : Below wr.heap.size wr _ := hHeld); (try simp only [Act.put, List.getElem_toArray, List.getElem_cons_succ, List.getElem_cons_zero, List.setIfInBounds_toArray, List.set_cons_zero, List.set_cons_succ])
            refine wpAnyH_ready (rs := [14]) (by kernel_rfl) (by simp) ?_; refine AllReadyH.cons rfl (fun K hK => ?_) AllReadyH.nil
            obtain ⟨⟨a0, a1⟩, ⟨f0, f1⟩, az⟩ := Ha.out; go_simp; clear a0 f0 a1 f1 az
            have Hp := Lib.hid ((Hp.out.far ⟨Ga, 0, none⟩ (.int .i64 x1) (by show Gp ≠ Ga; exact ne_p_a)).far ⟨Ga, 1, none⟩ (.int .i64 y1) (by show Gp ≠ Ga; exact ne_p_a))
            have Ha := Lib.hid ((Ha.out.set0 x1).set1 y1)
            refine hK.out _ _ (Below.setCell (Below.setCell hHeld (p := ⟨Ga, 0, none⟩) le_a _) (p := ⟨Ga, 1, none⟩) le_a _) (fun hHeld2 => ?_); (clear hHeld; rename _ => hHeld; clear hK K; have hHeld : Below wr.heap.size wr _ := hHeld); (try simp only [Act.put, List.getElem_toArray, List.getElem_cons_succ, List.getElem_cons_zero, List.setIfInBounds_toArray, List.set_cons_zero, List.set_cons_succ])
            obtain ⟨yw3, hwx⟩ : ∃ wx, (yw2.setCell ⟨Ga, 0, none⟩ (.int .i64 x1)).setCell ⟨Ga, 1, none⟩ (.int .i64 y1) = wx := ⟨_, rfl⟩; rw [hwx] at Ha Hp hHeld ⊢; clear hwx
            refine wpAnyH_ready (rs := [15]) (by kernel_rfl) (by simp) ?_; refine AllReadyH.cons rfl (fun K hK => ?_) AllReadyH.nil
            obtain ⟨⟨a0, a1⟩, ⟨f0, f1⟩, az⟩ := Hp.out; go_simp; clear a0 f0 a1 f1 az
            have Ha := Lib.hid ((Ha.out.far ⟨Gp, 0, none⟩ (.int .i64 sx) (by show Ga ≠ Gp; exact ne_a_p)).far ⟨Gp, 1, none⟩ (.int .i64 sy) (by show Ga ≠ Gp; exact ne_a_p))
            have Hp := Lib.hid ((Hp.out.set0 sx).set1 sy)
            refine hK.out _ _ (Below.setCell (Below.setCell hHeld (p := ⟨Gp, 0, none⟩) le_p _) (p := ⟨Gp, 1, none⟩) le_p _) (fun hHeld2 => ?_); (clear hHeld; rename _ => hHeld; clear hK K; have hHeld : Below wr.heap.size wr _ := hHeld); (try simp only [Act.put, List.getElem_toArray, List.getElem_cons_succ, List.getElem_cons_zero, List.setIfInBounds_toArray, List.set_cons_zero, List.set_cons_succ])
            obtain ⟨yw4, hwx⟩ : ∃ wx, (yw3.setCell ⟨Gp, 0, none⟩ (.int .i64 sx)).setCell ⟨Gp, 1, none⟩ (.int .i64 sy) = wx := ⟨_, rfl⟩; rw [hwx] at Ha Hp hHeld ⊢; clear hwx
            refine wpAnyH_done (by kernel_rfl) ?_ _
            go_wp2_with fail
            go_meet
            exact ⟨Ga, Gp, rfl, rfl, Ha.out, Hp.out, hHeld⟩
        · skip
          go_simp; obtain ⟨Gp, hGp⟩ : ∃ G, wD.heap.size = G := ⟨_, rfl⟩; have le_p : wr.heap.size ≤ Gp := by rw [← hGp]; exact Below.size hHeld
          have Hp : Hid (Bk2 (wD.alloc (.cells #[.int .i64 0, .int .i64 0] 25)) Gp 0 0) := by rw [← hGp]; exact bk2_new wD 0 0 _
          refine hK.out _ _ (Below.alloc hHeld (Below.size hHeld) _) (fun hHeld2 => ?_); (clear hHeld; rename _ => hHeld; clear hK K; have hHeld : Below wr.heap.size wr _ := hHeld); (try simp only [Act.put, List.getElem_toArray, List.getElem_cons_succ, List.getElem_cons_zero, List.setIfInBounds_toArray, List.set_cons_zero, List.set_cons_succ])
          rw [hGp]; clear hGp; obtain ⟨yw0, hwx⟩ : ∃ wx, wD.alloc (.cells #[.int .i64 0, .int .i64 0] 25) = wx := ⟨_, rfl⟩; rw [hwx] at Hp hHeld ⊢; clear hwx
          refine wpAnyH_ready (rs := [11, 12]) (by kernel_rfl) (by simp) ?_; refine AllReadyH.cons rfl (fun K hK => ?_) (AllReadyH.cons rfl (fun K hK => ?_) AllReadyH.nil)
          · skip
            go_simp; (go_at_call 96; refine (HSB.out _).mono ?_; rintro en yw1 ⟨rfl, hb2⟩); have Hp := Lib.hid (Hp.out.below hb2); refine hK.out _ _ (below_after hb2 hHeld) (fun hHeld2 => ?_); clear hb2; (clear hHeld; rename _ => hHeld; clear hK K; have hHeld : Below wr.heap.size wr _ := hHeld); (try simp only [Act.put, List.getElem_toArray, List.getElem_cons_succ, List.getElem_cons_zero, List.setIfInBounds_toArray, List.set_cons_zero, List.set_cons_succ])
            refine wpAnyH_ready (rs := [12]) (by kernel_rfl) (by simp) ?_; refine AllReadyH.cons rfl (fun K hK => ?_) AllReadyH.nil
            go_simp; obtain ⟨Ga, hGa⟩ : ∃ G, yw1.heap.size = G := ⟨_, rfl⟩; have le_a : wr.heap.size ≤ Ga := by rw [← hGa]; exact Below.size hHeld
            have ne_a_p : Ga ≠ Gp := by have := Hp.out.2.2; omega
            have ne_p_a : Gp ≠ Ga := Ne.symm ne_a_p
            have Hp := Lib.hid (Hp.out.below ((Below.refl _ _).alloc (Nat.le_refl _) (.cells #[.int .i64 0, .int .i64 0] 25))); skip
            have Ha : Hid (Bk2 (yw1.alloc (.cells #[.int .i64 0, .int .i64 0] 25)) Ga 0 0) := by rw [← hGa]; exact bk2_new yw1 0 0 _
            refine hK.out _ _ (Below.alloc hHeld (Below.size hHeld) _) (fun hHeld2 => ?_); (clear hHeld; rename _ => hHeld; clear hK K; have hHeld : Below wr.heap.size wr _ := hHeld); (try simp only [Act.put, List.getElem_toArray, List.getElem_cons_succ, List.getElem_cons_zero, List.setIfInBounds_toArray, List.set_cons_zero, List.set_cons_succ])
            rw [hGa]; clear hGa; obtain ⟨yw2, hwx⟩ : ∃ wx, yw1.alloc (.cells #[.int .i64 0, .int .i64 0] 25) = wx := ⟨_, rfl⟩; rw [hwx] at Hp Ha hHeld ⊢; clear hwx
            refine wpAnyH_ready (rs := [14]) (by kernel_rfl) (by simp) ?_; refine AllReadyH.cons rfl (fun K hK => ?_) AllReadyH.nil
            obtain ⟨⟨a0, a1⟩, ⟨f0, f1⟩, az⟩ := Ha.out; go_simp; clear a0 f0 a1 f1 az
            have Hp := Lib.hid ((Hp.out.far ⟨Ga, 0, none⟩ (.int .i64 x1) (by show Gp ≠ Ga; exact ne_p_a)).far ⟨Ga, 1, none⟩ (.int .i64 y1) (by show Gp ≠ Ga; exact ne_p_a))
            have Ha := Lib.hid ((Ha.out.set0 x1).set1 y1)
            refine hK.out _ _ (Below.setCell (Below.setCell hHeld (p := ⟨Ga, 0, none⟩) le_a _) (p := ⟨Ga, 1, none⟩) le_a _) (fun hHeld2 => ?_); (clear hHeld; rename _ => hHeld; clear hK K; have hHeld : Below wr.heap.size wr _ := hHeld); (try simp only [Act.put, List.getElem_toArray, List.getElem_cons_succ, List.getElem_cons_zero, List.setIfInBounds_toArray, List.set_cons_zero, List.set_cons_succ])
            obtain ⟨yw3, hwx⟩ : ∃ wx, (yw2.setCell ⟨Ga, 0, none⟩ (.int .i64 x1)).setCell ⟨Ga, 1, none⟩ (.int .i64 y1) = wx := ⟨_, rfl⟩; rw [hwx] at Hp Ha hHeld ⊢; clear hwx
            refine wpAnyH_ready (rs := [15]) (by kernel_rfl) (by simp) ?_; refine AllReadyH.cons rfl (fun K hK => ?_) AllReadyH.nil
            obtain ⟨⟨a0, a1⟩, ⟨f0, f1⟩, az⟩ := Hp.out; go_simp; clear a0 f0 a1 f1 az
            have Ha := Lib.hid ((Ha.out.far ⟨Gp, 0, none⟩ (.int .i64 sx) (by show Ga ≠ Gp; exact ne_a_p)).far ⟨Gp, 1, none⟩ (.int .i64 sy) (by show Ga ≠ Gp; exact ne_a_p))
            have Hp := Lib.hid ((Hp.out.set0 sx).set1 sy)
            refine hK.out _ _ (Below.setCell (Below.setCell hHeld (p := ⟨Gp, 0, none⟩) le_p _) (p := ⟨Gp, 1, none⟩) le_p _) (fun hHeld2 => ?_); (clear hHeld; rename _ => hHeld; clear hK K; have hHeld : Below wr.heap.size wr _ := hHeld); (try simp only [Act.put, List.getElem_toArray, List.getElem_cons_succ, List.getElem_cons_zero, List.setIfInBounds_toArray, List.set_cons_zero, List.set_cons_succ])
            obtain ⟨yw4, hwx⟩ : ∃ wx, (yw3.setCell ⟨Gp, 0, none⟩ (.int .i64 sx)).setCell ⟨Gp, 1, none⟩ (.int .i64 sy) = wx := ⟨_, rfl⟩; rw [hwx] at Hp Ha hHeld ⊢; clear hwx
            refine wpAnyH_done (by kernel_rfl) ?_ _
            go_wp2_with fail
            go_meet
            exact ⟨Ga, Gp, rfl, rfl, Ha.out, Hp.out, hHeld⟩
          · skip
            go_simp; obtain ⟨Ga, hGa⟩ : ∃ G, yw0.heap.size = G := ⟨_, rfl⟩; have le_a : wr.heap.size ≤ Ga := by rw [← hGa]; exact Below.size hHeld
            have ne_a_p : Ga ≠ Gp := by have := Hp.out.2.2; omega
            have ne_p_a : Gp ≠ Ga := Ne.symm ne_a_p
            have Hp := Lib.hid (Hp.out.below ((Below.refl _ _).alloc (Nat.le_refl _) (.cells #[.int .i64 0, .int .i64 0] 25))); skip
            have Ha : Hid (Bk2 (yw0.alloc (.cells #[.int .i64 0, .int .i64 0] 25)) Ga 0 0) := by rw [← hGa]; exact bk2_new yw0 0 0 _
            refine hK.out _ _ (Below.alloc hHeld (Below.size hHeld) _) (fun hHeld2 => ?_); (clear hHeld; rename _ => hHeld; clear hK K; have hHeld : Below wr.heap.size wr _ := hHeld); (try simp only [Act.put, List.getElem_toArray, List.getElem_cons_succ, List.getElem_cons_zero, List.setIfInBounds_toArray, List.set_cons_zero, List.set_cons_succ])
            rw [hGa]; clear hGa; obtain ⟨yw1, hwx⟩ : ∃ wx, yw0.alloc (.cells #[.int .i64 0, .int .i64 0] 25) = wx := ⟨_, rfl⟩; rw [hwx] at Hp Ha hHeld ⊢; clear hwx
            refine wpAnyH_ready (rs := [11]) (by kernel_rfl) (by simp) ?_; refine AllReadyH.cons rfl (fun K hK => ?_) AllReadyH.nil
            go_simp; (go_at_call 96; refine (HSB.out _).mono ?_; rintro en yw2 ⟨rfl, hb2⟩); have Hp := Lib.hid (Hp.out.below hb2); have Ha := Lib.hid (Ha.out.below hb2); refine hK.out _ _ (below_after hb2 hHeld) (fun hHeld2 => ?_); clear hb2; (clear hHeld; rename _ => hHeld; clear hK K; have hHeld : Below wr.heap.size wr _ := hHeld); (try simp only [Act.put, List.getElem_toArray, List.getElem_cons_succ, List.getElem_cons_zero, List.setIfInBounds_toArray, List.set_cons_zero, List.set_cons_succ])
            refine wpAnyH_ready (rs := [14]) (by kernel_rfl) (by simp) ?_; refine AllReadyH.cons rfl (fun K hK => ?_) AllReadyH.nil
            obtain ⟨⟨a0, a1⟩, ⟨f0, f1⟩, az⟩ := Ha.out; go_simp; clear a0 f0 a1 f1 az
            have Hp := Lib.hid ((Hp.out.far ⟨Ga, 0, none⟩ (.int .i64 x1) (by show Gp ≠ Ga; exact ne_p_a)).far ⟨Ga, 1, none⟩ (.int .i64 y1) (by show Gp ≠ Ga; exact ne_p_a))
            have Ha := Lib.hid ((Ha.out.set0 x1).set1 y1)
            refine hK.out _ _ (Below.setCell (Below.setCell hHeld (p := ⟨Ga, 0, none⟩) le_a _) (p := ⟨Ga, 1, none⟩) le_a _) (fun hHeld2 => ?_); (clear hHeld; rename _ => hHeld; clear hK K; have hHeld : Below wr.heap.size wr _ := hHeld); (try simp only [Act.put, List.getElem_toArray, List.getElem_cons_succ, List.getElem_cons_zero, List.setIfInBounds_toArray, List.set_cons_zero, List.set_cons_succ])
            obtain ⟨yw3, hwx⟩ : ∃ wx, (yw2.setCell ⟨Ga, 0, none⟩ (.int .i64 x1)).setCell ⟨Ga, 1, none⟩ (.int .i64 y1) = wx := ⟨_, rfl⟩; rw [hwx] at Hp Ha hHeld ⊢; clear hwx
            refine wpAnyH_ready (rs := [15]) (by kernel_rfl) (by simp) ?_; refine AllReadyH.cons rfl (fun K hK => ?_) AllReadyH.nil
            obtain ⟨⟨a0, a1⟩, ⟨f0, f1⟩, az⟩ := Hp.out; go_simp; clear a0 f0 a1 f1 az
            have Ha := Lib.hid ((Ha.out.far ⟨Gp, 0, none⟩ (.int .i64 sx) (by show Ga ≠ Gp; exact ne_a_p)).far ⟨Gp, 1, none⟩ (.int .i64 sy) (by show Ga ≠ Gp; exact ne_a_p))
            have Hp := Lib.hid ((Hp.out.set0 sx).set1 sy)
            refine hK.out _ _ (Below.setCell (Below.setCell hHeld (p := ⟨Gp, 0, none⟩) le_p _) (p := ⟨Gp, 1, none⟩) le_p _) (fun hHeld2 => ?_); (clear hHeld; rename _ => hHeld; clear hK K; have hHeld : Below wr.heap.size wr _ := hHeld); (try simp only [Act.put, List.getElem_toArray, List.getElem_cons_succ, List.getElem_cons_zero, List.setIfInBounds_toArray, List.set_cons_zero, List.set_cons_succ])
            obtain ⟨yw4, hwx⟩ : ∃ wx, (yw3.setCell ⟨Gp, 0, none⟩ (.int .i64 sx)).setCell ⟨Gp, 1, none⟩ (.int .i64 sy) = wx := ⟨_, rfl⟩; rw [hwx] at Hp Ha hHeld ⊢; clear hwx
            refine wpAnyH_done (by kernel_rfl) ?_ _
            go_wp2_with fail
            go_meet
            exact ⟨Ga, Gp, rfl, rfl, Ha.out, Hp.out, hHeld⟩
      case rest =>
        obtain ⟨Ga, Gp, rfl, rfl, hA, hP, hbx⟩ := hcut
        obtain ⟨w2, rfl⟩ : ∃ w2, w2 = wc := ⟨_, rfl⟩
        have hbw : Below wB.heap.size wB w2 := below_after hbx HBL.out
        obtain ⟨⟨a0, a1⟩, _, az⟩ := id hA
        obtain ⟨⟨p0, p1⟩, _, pz⟩ := id hP
        clear n1 n2 hbx
        by_cases hd : 0 < sx
        · obtain ⟨hax, hpx⟩ := HA.out
          unfold Sml at hax
          unfold Q4 at hpx
          have wdx : IntKind.i64.wrap (px - x1) = px - x1 := by rw [IntKind.wrap_i64]; omega
          obtain ⟨pr, hpr⟩ : ∃ p, sy * (px - x1) = p := ⟨_, rfl⟩
          have hpb : -10000000 ≤ pr ∧ pr ≤ 10000000 := by rw [← hpr]; exact HE.out.2.2.1
          have hdb := div_bd hd hpb
          have wpr : IntKind.i64.wrap pr = pr := by rw [IntKind.wrap_i64]; omega
          have hHST := HST.out
          rw [if_pos hd, hpr] at hHST
          obtain ⟨q, hq⟩ : ∃ q, pr / sx = q := ⟨_, rfl⟩
          rw [hq] at hdb hHST
          have hay := HE.out.2.1
          unfold Sml at hay
          have w1q : IntKind.i64.wrap (y1 + q) = y1 + q := by rw [IntKind.wrap_i64]; omega
          have w2q : IntKind.i64.wrap (y1 + q + 1) = y1 + q + 1 := by rw [IntKind.wrap_i64]; omega
          have HDD : Hid (∀ w, Calls Try.prog 104 #[.int .i64 pr, .int .i64 sx] w fun e w' => e = .returned (.tuple #[.int .i64 q, .int .i64 (pr % sx)]) ∧ Below w.heap.size w w') := fun w => by
            have := divideDown_any pr sx w (by omega) (by have := HE.out.2.2.2; omega) (by omega) (by omega)
            rw [hq] at this
            exact this
          have HHST := Lib.hid hHST
          have HHQ := Lib.hid hq
          clear hHST hq hdb hpb hay hax hpx
          go_wp2_with fail
          go_at_call 104
          refine (HDD.out _).mono ?_
          rintro e w3 ⟨rfl, b3⟩
          have hbw3 := below_after b3 hbw
          have hA3 := hA.below b3
          clear a0 a1 az p0 p1 pz
          obtain ⟨⟨a0, a1⟩, _, az⟩ := id hA3
          go_wp2
          go_roundw
          case rel => exact ⟨2, by omega, by rw [HHST.out], by go_num, hbw3⟩
          case measure => simp [intOf]
        · have hHST := HST.out
          rw [if_neg hd] at hHST
          have HHST := Lib.hid hHST
          clear hHST
          go_wp2
          go_roundw
          case rel => exact ⟨2, by omega, by rw [HHST.out], by go_num, hbw⟩
          case measure => simp [intOf]
    · obtain ⟨⟨e1, e2⟩, ⟨e3, e4⟩, ⟨e5, e6⟩, ep⟩ := start_bd HB.out.2.2.2.2.1 HB.out.2.2.2.2.2.1 HB.out.1 HB.out.2.1 HB.out.2.2.2.2.2.2
      have hay := HB.out.2.2.2.2.2.1
      have hax := HB.out.2.2.2.2.1
      have hpx := HB.out.2.2.2.2.2.2
      have hst : stJ x0 y0 x1 y1 x2 y2 px 3 = if 0 < x0 - x2 then max (stJ x0 y0 x1 y1 x2 y2 px 2) (y2 + ((y0 - y2) * (px - x2)) / (x0 - x2) + 1) else stJ x0 y0 x1 y1 x2 y2 px 2 := rfl
      have hsb : ∀ w, Calls Try.prog 96 #[.agg #[.int .i64 x2, .int .i64 y2], .agg #[.int .i64 x0, .int .i64 y0]] w fun e w' => e = .returned (.agg #[.int .i64 (x0 - x2), .int .i64 (y0 - y2)]) ∧ Below w.heap.size w w' := fun w => stepBetween_any x2 y2 x0 y0 w HB.out.2.2.2.2.1.bn HB.out.2.2.2.2.2.1.bn HB.out.1.bn HB.out.2.1.bn
      have hs0 := HS.out.2.2
      obtain ⟨sx, hsx⟩ : ∃ s, x0 - x2 = s := ⟨_, rfl⟩
      obtain ⟨sy, hsy⟩ : ∃ s, y0 - y2 = s := ⟨_, rfl⟩
      obtain ⟨st, hst0⟩ : ∃ s, stJ x0 y0 x1 y1 x2 y2 px 2 = s := ⟨_, rfl⟩
      rw [hsx] at hst hsb e1 e2
      rw [hsy] at hst hsb ep e3 e4
      rw [hst0] at hst hs0 ⊢
      have HSB := Lib.hid hsb
      have HBL := Lib.hid hbel
      have HST := Lib.hid hst
      have HE := Lib.hid (And.intro hs0 (And.intro hay (And.intro ep (And.intro e1 e2))))
      have HA := Lib.hid (And.intro hax hpx)
      have n1 : IntKind.i64.wrap (2 + 1) = 3 := by decide
      have n2 : IntKind.i64.wrap (Int.tmod 3 3) = 0 := by decide
      have n3 : IntKind.i64.wrap 0 = 0 := by decide
      have n4 : IntKind.i64.wrap 1 = 1 := by decide
      have n5 : IntKind.i64.wrap 2 = 2 := by decide
      have n6 : IntKind.i64.wrap 3 = 3 := by decide
      clear hsx hsy hst0 hsb hbel hst hs0 hay ep e1 e2 e3 e4 e5 e6 hax hpx
      go_upto_region 5 with fail
      go_cut [7, 8] (fun v7 v8 wx => ∃ Ga Gp : Nat, v7 = .pointer (some ⟨Ga, 0, none⟩) ∧ v8 = .pointer (some ⟨Gp, 0, none⟩) ∧ Bk2 wx Ga x2 y2 ∧ Bk2 wx Gp sx sy ∧ Below wr.heap.size wr wx)
      case first =>
        refine wp_region_held_drew (S := fun W => Below wr.heap.size wr W) (by kernel_rfl) ?_ (fun hHeld => ?_); focus ((try dsimp only); exact (Below.refl _ _).drew)
        have hHeld : Below wr.heap.size wr _ := hHeld
        obtain ⟨wD, hwD⟩ : ∃ wD, wr.drew = wD := ⟨_, rfl⟩
        rw [hwD] at hHeld ⊢
        clear hwD
        (refine wpAnyH_take (i := 0) (v := ?_) rfl (by kernel_rfl) (by kernel_rfl) (by kernel_rfl) (fun _ _ _ h => h) (Or.inl ⟨rfl, ?_⟩) (by assumption) ?_; rotate_left; focus (intro W hSw; (try dsimp only at hSw); obtain ⟨⟨i0, i1, i2, i3, i4, i5⟩, _, iz⟩ := HX.out _ (below_after hSw HBL.out); go_simp; try (with_reducible rfl))); (try simp only [Act.put, List.getElem_toArray, List.getElem_cons_succ, List.getElem_cons_zero, List.setIfInBounds_toArray, List.set_cons_zero, List.set_cons_succ])
        (refine wpAnyH_take (i := 1) (v := ?_) rfl (by kernel_rfl) (by kernel_rfl) (by kernel_rfl) (fun _ _ _ h => h) (Or.inl ⟨rfl, ?_⟩) (by assumption) ?_; rotate_left; focus (intro W hSw; (try dsimp only at hSw); obtain ⟨⟨i0, i1, i2, i3, i4, i5⟩, _, iz⟩ := HX.out _ (below_after hSw HBL.out); go_simp; try (with_reducible rfl))); (try simp only [Act.put, List.getElem_toArray, List.getElem_cons_succ, List.getElem_cons_zero, List.setIfInBounds_toArray, List.set_cons_zero, List.set_cons_succ])
        (refine wpAnyH_take (i := 2) (v := ?_) rfl (by kernel_rfl) (by kernel_rfl) (by kernel_rfl) (fun _ _ _ h => h) (Or.inl ⟨rfl, ?_⟩) (by assumption) ?_; rotate_left; focus (intro W hSw; (try dsimp only at hSw); obtain ⟨⟨i0, i1, i2, i3, i4, i5⟩, _, iz⟩ := HX.out _ (below_after hSw HBL.out); go_simp; try (with_reducible rfl))); (try simp only [Act.put, List.getElem_toArray, List.getElem_cons_succ, List.getElem_cons_zero, List.setIfInBounds_toArray, List.set_cons_zero, List.set_cons_succ])
        (refine wpAnyH_take (i := 3) (v := ?_) rfl (by kernel_rfl) (by kernel_rfl) (by kernel_rfl) (fun _ _ _ h => h) (Or.inl ⟨rfl, ?_⟩) (by assumption) ?_; rotate_left; focus (intro W hSw; (try dsimp only at hSw); obtain ⟨⟨i0, i1, i2, i3, i4, i5⟩, _, iz⟩ := HX.out _ (below_after hSw HBL.out); go_simp; try (with_reducible rfl))); (try simp only [Act.put, List.getElem_toArray, List.getElem_cons_succ, List.getElem_cons_zero, List.setIfInBounds_toArray, List.set_cons_zero, List.set_cons_succ])
        (refine wpAnyH_take (i := 4) (v := ?_) rfl (by kernel_rfl) (by kernel_rfl) (by kernel_rfl) (fun _ _ _ h => h) (Or.inl ⟨rfl, ?_⟩) (by assumption) ?_; rotate_left; focus (intro W hSw; (try dsimp only at hSw); obtain ⟨⟨i0, i1, i2, i3, i4, i5⟩, _, iz⟩ := HX.out _ (below_after hSw HBL.out); go_simp; try (with_reducible rfl))); (try simp only [Act.put, List.getElem_toArray, List.getElem_cons_succ, List.getElem_cons_zero, List.setIfInBounds_toArray, List.set_cons_zero, List.set_cons_succ])
        (refine wpAnyH_take (i := 5) (v := ?_) rfl (by kernel_rfl) (by kernel_rfl) (by kernel_rfl) (fun _ _ _ h => h) (Or.inl ⟨rfl, ?_⟩) (by assumption) ?_; rotate_left; focus (intro W hSw; (try dsimp only at hSw); obtain ⟨⟨i0, i1, i2, i3, i4, i5⟩, _, iz⟩ := HX.out _ (below_after hSw HBL.out); go_simp; try (with_reducible rfl))); (try simp only [Act.put, List.getElem_toArray, List.getElem_cons_succ, List.getElem_cons_zero, List.setIfInBounds_toArray, List.set_cons_zero, List.set_cons_succ])
        (refine wpAnyH_take (i := 6) (v := ?_) rfl (by kernel_rfl) (by kernel_rfl) (by kernel_rfl) (fun _ _ _ h => h) (Or.inl ⟨rfl, ?_⟩) (by assumption) ?_; rotate_left; focus (intro W hSw; (try dsimp only at hSw); obtain ⟨⟨i0, i1, i2, i3, i4, i5⟩, _, iz⟩ := HX.out _ (below_after hSw HBL.out); go_simp; try (with_reducible rfl))); (try simp only [Act.put, List.getElem_toArray, List.getElem_cons_succ, List.getElem_cons_zero, List.setIfInBounds_toArray, List.set_cons_zero, List.set_cons_succ])
        (refine wpAnyH_take (i := 7) (v := ?_) rfl (by kernel_rfl) (by kernel_rfl) (by kernel_rfl) (fun _ _ _ h => h) (Or.inl ⟨rfl, ?_⟩) (by assumption) ?_; rotate_left; focus (intro W hSw; (try dsimp only at hSw); obtain ⟨⟨i0, i1, i2, i3, i4, i5⟩, _, iz⟩ := HX.out _ (below_after hSw HBL.out); go_simp; try (with_reducible rfl))); (try simp only [Act.put, List.getElem_toArray, List.getElem_cons_succ, List.getElem_cons_zero, List.setIfInBounds_toArray, List.set_cons_zero, List.set_cons_succ])
        (refine wpAnyH_take (i := 8) (v := ?_) rfl (by kernel_rfl) (by kernel_rfl) (by kernel_rfl) (fun _ _ _ h => h) (Or.inl ⟨rfl, ?_⟩) (by assumption) ?_; rotate_left; focus (intro W hSw; (try dsimp only at hSw); obtain ⟨⟨i0, i1, i2, i3, i4, i5⟩, _, iz⟩ := HX.out _ (below_after hSw HBL.out); go_simp; try (with_reducible rfl))); (try simp only [Act.put, List.getElem_toArray, List.getElem_cons_succ, List.getElem_cons_zero, List.setIfInBounds_toArray, List.set_cons_zero, List.set_cons_succ])
        (refine wpAnyH_take (i := 9) (v := ?_) rfl (by kernel_rfl) (by kernel_rfl) (by kernel_rfl) (fun _ _ _ h => h) (Or.inl ⟨rfl, ?_⟩) (by assumption) ?_; rotate_left; focus (intro W hSw; (try dsimp only at hSw); obtain ⟨⟨i0, i1, i2, i3, i4, i5⟩, _, iz⟩ := HX.out _ (below_after hSw HBL.out); go_simp; try (with_reducible rfl))); (try simp only [Act.put, List.getElem_toArray, List.getElem_cons_succ, List.getElem_cons_zero, List.setIfInBounds_toArray, List.set_cons_zero, List.set_cons_succ])
        (refine wpAnyH_take (i := 10) (v := ?_) rfl (by kernel_rfl) (by kernel_rfl) (by kernel_rfl) (fun _ _ _ h => h) (Or.inl ⟨rfl, ?_⟩) (by assumption) ?_; rotate_left; focus (intro W hSw; (try dsimp only at hSw); obtain ⟨⟨i0, i1, i2, i3, i4, i5⟩, _, iz⟩ := HX.out _ (below_after hSw HBL.out); go_simp; try (with_reducible rfl))); (try simp only [Act.put, List.getElem_toArray, List.getElem_cons_succ, List.getElem_cons_zero, List.setIfInBounds_toArray, List.set_cons_zero, List.set_cons_succ])
        refine wpAnyH_ready (rs := [11, 12, 13]) (by kernel_rfl) (by simp) ?_; refine AllReadyH.cons rfl (fun K hK => ?_) (AllReadyH.cons rfl (fun K hK => ?_) (AllReadyH.cons rfl (fun K hK => ?_) AllReadyH.nil))
        · skip
          go_simp; (go_at_call 96; refine (HSB.out _).mono ?_; rintro en yw0 ⟨rfl, hb2⟩); refine hK.out _ _ (below_after hb2 hHeld) (fun hHeld2 => ?_); clear hb2; (clear hHeld; rename _ => hHeld; clear hK K; have hHeld : Below wr.heap.size wr _ := hHeld); (try simp only [Act.put, List.getElem_toArray, List.getElem_cons_succ, List.getElem_cons_zero, List.setIfInBounds_toArray, List.set_cons_zero, List.set_cons_succ])
          refine wpAnyH_ready (rs := [12, 13]) (by kernel_rfl) (by simp) ?_; refine AllReadyH.cons rfl (fun K hK => ?_) (AllReadyH.cons rfl (fun K hK => ?_) AllReadyH.nil)
          · skip
            go_simp; obtain ⟨Ga, hGa⟩ : ∃ G, yw0.heap.size = G := ⟨_, rfl⟩; have le_a : wr.heap.size ≤ Ga := by rw [← hGa]; exact Below.size hHeld
            have Ha : Hid (Bk2 (yw0.alloc (.cells #[.int .i64 0, .int .i64 0] 25)) Ga 0 0) := by rw [← hGa]; exact bk2_new yw0 0 0 _
            refine hK.out _ _ (Below.alloc hHeld (Below.size hHeld) _) (fun hHeld2 => ?_); (clear hHeld; rename _ => hHeld; clear hK K; have hHeld : Below wr.heap.size wr _ := hHeld); (try simp only [Act.put, List.getElem_toArray, List.getElem_cons_succ, List.getElem_cons_zero, List.setIfInBounds_toArray, List.set_cons_zero, List.set_cons_succ])
            rw [hGa]; clear hGa; obtain ⟨yw1, hwx⟩ : ∃ wx, yw0.alloc (.cells #[.int .i64 0, .int .i64 0] 25) = wx := ⟨_, rfl⟩; rw [hwx] at Ha hHeld ⊢; clear hwx
            refine wpAnyH_ready (rs := [13]) (by kernel_rfl) (by simp) ?_; refine AllReadyH.cons rfl (fun K hK => ?_) AllReadyH.nil
            go_simp; obtain ⟨Gp, hGp⟩ : ∃ G, yw1.heap.size = G := ⟨_, rfl⟩; have le_p : wr.heap.size ≤ Gp := by rw [← hGp]; exact Below.size hHeld
            have ne_p_a : Gp ≠ Ga := by have := Ha.out.2.2; omega
            have ne_a_p : Ga ≠ Gp := Ne.symm ne_p_a
            have Ha := Lib.hid (Ha.out.below ((Below.refl _ _).alloc (Nat.le_refl _) (.cells #[.int .i64 0, .int .i64 0] 25))); skip
            have Hp : Hid (Bk2 (yw1.alloc (.cells #[.int .i64 0, .int .i64 0] 25)) Gp 0 0) := by rw [← hGp]; exact bk2_new yw1 0 0 _
            refine hK.out _ _ (Below.alloc hHeld (Below.size hHeld) _) (fun hHeld2 => ?_); (clear hHeld; rename _ => hHeld; clear hK K; have hHeld : Below wr.heap.size wr _ := hHeld); (try simp only [Act.put, List.getElem_toArray, List.getElem_cons_succ, List.getElem_cons_zero, List.setIfInBounds_toArray, List.set_cons_zero, List.set_cons_succ])
            rw [hGp]; clear hGp; obtain ⟨yw2, hwx⟩ : ∃ wx, yw1.alloc (.cells #[.int .i64 0, .int .i64 0] 25) = wx := ⟨_, rfl⟩; rw [hwx] at Ha Hp hHeld ⊢; clear hwx
            refine wpAnyH_ready (rs := [14]) (by kernel_rfl) (by simp) ?_; refine AllReadyH.cons rfl (fun K hK => ?_) AllReadyH.nil
            obtain ⟨⟨a0, a1⟩, ⟨f0, f1⟩, az⟩ := Ha.out; go_simp; clear a0 f0 a1 f1 az
            have Hp := Lib.hid ((Hp.out.far ⟨Ga, 0, none⟩ (.int .i64 x2) (by show Gp ≠ Ga; exact ne_p_a)).far ⟨Ga, 1, none⟩ (.int .i64 y2) (by show Gp ≠ Ga; exact ne_p_a))
            have Ha := Lib.hid ((Ha.out.set0 x2).set1 y2)
            refine hK.out _ _ (Below.setCell (Below.setCell hHeld (p := ⟨Ga, 0, none⟩) le_a _) (p := ⟨Ga, 1, none⟩) le_a _) (fun hHeld2 => ?_); (clear hHeld; rename _ => hHeld; clear hK K; have hHeld : Below wr.heap.size wr _ := hHeld); (try simp only [Act.put, List.getElem_toArray, List.getElem_cons_succ, List.getElem_cons_zero, List.setIfInBounds_toArray, List.set_cons_zero, List.set_cons_succ])
            obtain ⟨yw3, hwx⟩ : ∃ wx, (yw2.setCell ⟨Ga, 0, none⟩ (.int .i64 x2)).setCell ⟨Ga, 1, none⟩ (.int .i64 y2) = wx := ⟨_, rfl⟩; rw [hwx] at Ha Hp hHeld ⊢; clear hwx
            refine wpAnyH_ready (rs := [15]) (by kernel_rfl) (by simp) ?_; refine AllReadyH.cons rfl (fun K hK => ?_) AllReadyH.nil
            obtain ⟨⟨a0, a1⟩, ⟨f0, f1⟩, az⟩ := Hp.out; go_simp; clear a0 f0 a1 f1 az
            have Ha := Lib.hid ((Ha.out.far ⟨Gp, 0, none⟩ (.int .i64 sx) (by show Ga ≠ Gp; exact ne_a_p)).far ⟨Gp, 1, none⟩ (.int .i64 sy) (by show Ga ≠ Gp; exact ne_a_p))
            have Hp := Lib.hid ((Hp.out.set0 sx).set1 sy)
            refine hK.out _ _ (Below.setCell (Below.setCell hHeld (p := ⟨Gp, 0, none⟩) le_p _) (p := ⟨Gp, 1, none⟩) le_p _) (fun hHeld2 => ?_); (clear hHeld; rename _ => hHeld; clear hK K; have hHeld : Below wr.heap.size wr _ := hHeld); (try simp only [Act.put, List.getElem_toArray, List.getElem_cons_succ, List.getElem_cons_zero, List.setIfInBounds_toArray, List.set_cons_zero, List.set_cons_succ])
            obtain ⟨yw4, hwx⟩ : ∃ wx, (yw3.setCell ⟨Gp, 0, none⟩ (.int .i64 sx)).setCell ⟨Gp, 1, none⟩ (.int .i64 sy) = wx := ⟨_, rfl⟩; rw [hwx] at Ha Hp hHeld ⊢; clear hwx
            refine wpAnyH_done (by kernel_rfl) ?_ _
            go_wp2_with fail
            go_meet
            exact ⟨Ga, Gp, rfl, rfl, Ha.out, Hp.out, hHeld⟩
          · skip
            go_simp; obtain ⟨Gp, hGp⟩ : ∃ G, yw0.heap.size = G := ⟨_, rfl⟩; have le_p : wr.heap.size ≤ Gp := by rw [← hGp]; exact Below.size hHeld
            have Hp : Hid (Bk2 (yw0.alloc (.cells #[.int .i64 0, .int .i64 0] 25)) Gp 0 0) := by rw [← hGp]; exact bk2_new yw0 0 0 _
            refine hK.out _ _ (Below.alloc hHeld (Below.size hHeld) _) (fun hHeld2 => ?_); (clear hHeld; rename _ => hHeld; clear hK K; have hHeld : Below wr.heap.size wr _ := hHeld); (try simp only [Act.put, List.getElem_toArray, List.getElem_cons_succ, List.getElem_cons_zero, List.setIfInBounds_toArray, List.set_cons_zero, List.set_cons_succ])
            rw [hGp]; clear hGp; obtain ⟨yw1, hwx⟩ : ∃ wx, yw0.alloc (.cells #[.int .i64 0, .int .i64 0] 25) = wx := ⟨_, rfl⟩; rw [hwx] at Hp hHeld ⊢; clear hwx
            refine wpAnyH_ready (rs := [12]) (by kernel_rfl) (by simp) ?_; refine AllReadyH.cons rfl (fun K hK => ?_) AllReadyH.nil
            go_simp; obtain ⟨Ga, hGa⟩ : ∃ G, yw1.heap.size = G := ⟨_, rfl⟩; have le_a : wr.heap.size ≤ Ga := by rw [← hGa]; exact Below.size hHeld
            have ne_a_p : Ga ≠ Gp := by have := Hp.out.2.2; omega
            have ne_p_a : Gp ≠ Ga := Ne.symm ne_a_p
            have Hp := Lib.hid (Hp.out.below ((Below.refl _ _).alloc (Nat.le_refl _) (.cells #[.int .i64 0, .int .i64 0] 25))); skip
            have Ha : Hid (Bk2 (yw1.alloc (.cells #[.int .i64 0, .int .i64 0] 25)) Ga 0 0) := by rw [← hGa]; exact bk2_new yw1 0 0 _
            refine hK.out _ _ (Below.alloc hHeld (Below.size hHeld) _) (fun hHeld2 => ?_); (clear hHeld; rename _ => hHeld; clear hK K; have hHeld : Below wr.heap.size wr _ := hHeld); (try simp only [Act.put, List.getElem_toArray, List.getElem_cons_succ, List.getElem_cons_zero, List.setIfInBounds_toArray, List.set_cons_zero, List.set_cons_succ])
            rw [hGa]; clear hGa; obtain ⟨yw2, hwx⟩ : ∃ wx, yw1.alloc (.cells #[.int .i64 0, .int .i64 0] 25) = wx := ⟨_, rfl⟩; rw [hwx] at Hp Ha hHeld ⊢; clear hwx
            refine wpAnyH_ready (rs := [14]) (by kernel_rfl) (by simp) ?_; refine AllReadyH.cons rfl (fun K hK => ?_) AllReadyH.nil
            obtain ⟨⟨a0, a1⟩, ⟨f0, f1⟩, az⟩ := Ha.out; go_simp; clear a0 f0 a1 f1 az
            have Hp := Lib.hid ((Hp.out.far ⟨Ga, 0, none⟩ (.int .i64 x2) (by show Gp ≠ Ga; exact ne_p_a)).far ⟨Ga, 1, none⟩ (.int .i64 y2) (by show Gp ≠ Ga; exact ne_p_a))
            have Ha := Lib.hid ((Ha.out.set0 x2).set1 y2)
            refine hK.out _ _ (Below.setCell (Below.setCell hHeld (p := ⟨Ga, 0, none⟩) le_a _) (p := ⟨Ga, 1, none⟩) le_a _) (fun hHeld2 => ?_); (clear hHeld; rename _ => hHeld; clear hK K; have hHeld : Below wr.heap.size wr _ := hHeld); (try simp only [Act.put, List.getElem_toArray, List.getElem_cons_succ, List.getElem_cons_zero, List.setIfInBounds_toArray, List.set_cons_zero, List.set_cons_succ])
            obtain ⟨yw3, hwx⟩ : ∃ wx, (yw2.setCell ⟨Ga, 0, none⟩ (.int .i64 x2)).setCell ⟨Ga, 1, none⟩ (.int .i64 y2) = wx := ⟨_, rfl⟩; rw [hwx] at Hp Ha hHeld ⊢; clear hwx
            refine wpAnyH_ready (rs := [15]) (by kernel_rfl) (by simp) ?_; refine AllReadyH.cons rfl (fun K hK => ?_) AllReadyH.nil
            obtain ⟨⟨a0, a1⟩, ⟨f0, f1⟩, az⟩ := Hp.out; go_simp; clear a0 f0 a1 f1 az
            have Ha := Lib.hid ((Ha.out.far ⟨Gp, 0, none⟩ (.int .i64 sx) (by show Ga ≠ Gp; exact ne_a_p)).far ⟨Gp, 1, none⟩ (.int .i64 sy) (by show Ga ≠ Gp; exact ne_a_p))
            have Hp := Lib.hid ((Hp.out.set0 sx).set1 sy)
            refine hK.out _ _ (Below.setCell (Below.setCell hHeld (p := ⟨Gp, 0, none⟩) le_p _) (p := ⟨Gp, 1, none⟩) le_p _) (fun hHeld2 => ?_); (clear hHeld; rename _ => hHeld; clear hK K; have hHeld : Below wr.heap.size wr _ := hHeld); (try simp only [Act.put, List.getElem_toArray, List.getElem_cons_succ, List.getElem_cons_zero, List.setIfInBounds_toArray, List.set_cons_zero, List.set_cons_succ])
            obtain ⟨yw4, hwx⟩ : ∃ wx, (yw3.setCell ⟨Gp, 0, none⟩ (.int .i64 sx)).setCell ⟨Gp, 1, none⟩ (.int .i64 sy) = wx := ⟨_, rfl⟩; rw [hwx] at Hp Ha hHeld ⊢; clear hwx
            refine wpAnyH_done (by kernel_rfl) ?_ _
            go_wp2_with fail
            go_meet
            exact ⟨Ga, Gp, rfl, rfl, Ha.out, Hp.out, hHeld⟩
        · skip
          go_simp; obtain ⟨Ga, hGa⟩ : ∃ G, wD.heap.size = G := ⟨_, rfl⟩; have le_a : wr.heap.size ≤ Ga := by rw [← hGa]; exact Below.size hHeld
          have Ha : Hid (Bk2 (wD.alloc (.cells #[.int .i64 0, .int .i64 0] 25)) Ga 0 0) := by rw [← hGa]; exact bk2_new wD 0 0 _
          refine hK.out _ _ (Below.alloc hHeld (Below.size hHeld) _) (fun hHeld2 => ?_); (clear hHeld; rename _ => hHeld; clear hK K; have hHeld : Below wr.heap.size wr _ := hHeld); (try simp only [Act.put, List.getElem_toArray, List.getElem_cons_succ, List.getElem_cons_zero, List.setIfInBounds_toArray, List.set_cons_zero, List.set_cons_succ])
          rw [hGa]; clear hGa; obtain ⟨yw0, hwx⟩ : ∃ wx, wD.alloc (.cells #[.int .i64 0, .int .i64 0] 25) = wx := ⟨_, rfl⟩; rw [hwx] at Ha hHeld ⊢; clear hwx
          refine wpAnyH_ready (rs := [11, 13]) (by kernel_rfl) (by simp) ?_; refine AllReadyH.cons rfl (fun K hK => ?_) (AllReadyH.cons rfl (fun K hK => ?_) AllReadyH.nil)
          · skip
            go_simp; (go_at_call 96; refine (HSB.out _).mono ?_; rintro en yw1 ⟨rfl, hb2⟩); have Ha := Lib.hid (Ha.out.below hb2); refine hK.out _ _ (below_after hb2 hHeld) (fun hHeld2 => ?_); clear hb2; (clear hHeld; rename _ => hHeld; clear hK K; have hHeld : Below wr.heap.size wr _ := hHeld); (try simp only [Act.put, List.getElem_toArray, List.getElem_cons_succ, List.getElem_cons_zero, List.setIfInBounds_toArray, List.set_cons_zero, List.set_cons_succ])
            refine wpAnyH_ready (rs := [13]) (by kernel_rfl) (by simp) ?_; refine AllReadyH.cons rfl (fun K hK => ?_) AllReadyH.nil
            go_simp; obtain ⟨Gp, hGp⟩ : ∃ G, yw1.heap.size = G := ⟨_, rfl⟩; have le_p : wr.heap.size ≤ Gp := by rw [← hGp]; exact Below.size hHeld
            have ne_p_a : Gp ≠ Ga := by have := Ha.out.2.2; omega
            have ne_a_p : Ga ≠ Gp := Ne.symm ne_p_a
            have Ha := Lib.hid (Ha.out.below ((Below.refl _ _).alloc (Nat.le_refl _) (.cells #[.int .i64 0, .int .i64 0] 25))); skip
            have Hp : Hid (Bk2 (yw1.alloc (.cells #[.int .i64 0, .int .i64 0] 25)) Gp 0 0) := by rw [← hGp]; exact bk2_new yw1 0 0 _
            refine hK.out _ _ (Below.alloc hHeld (Below.size hHeld) _) (fun hHeld2 => ?_); (clear hHeld; rename _ => hHeld; clear hK K; have hHeld : Below wr.heap.size wr _ := hHeld); (try simp only [Act.put, List.getElem_toArray, List.getElem_cons_succ, List.getElem_cons_zero, List.setIfInBounds_toArray, List.set_cons_zero, List.set_cons_succ])
            rw [hGp]; clear hGp; obtain ⟨yw2, hwx⟩ : ∃ wx, yw1.alloc (.cells #[.int .i64 0, .int .i64 0] 25) = wx := ⟨_, rfl⟩; rw [hwx] at Ha Hp hHeld ⊢; clear hwx
            refine wpAnyH_ready (rs := [14]) (by kernel_rfl) (by simp) ?_; refine AllReadyH.cons rfl (fun K hK => ?_) AllReadyH.nil
            obtain ⟨⟨a0, a1⟩, ⟨f0, f1⟩, az⟩ := Ha.out; go_simp; clear a0 f0 a1 f1 az
            have Hp := Lib.hid ((Hp.out.far ⟨Ga, 0, none⟩ (.int .i64 x2) (by show Gp ≠ Ga; exact ne_p_a)).far ⟨Ga, 1, none⟩ (.int .i64 y2) (by show Gp ≠ Ga; exact ne_p_a))
            have Ha := Lib.hid ((Ha.out.set0 x2).set1 y2)
            refine hK.out _ _ (Below.setCell (Below.setCell hHeld (p := ⟨Ga, 0, none⟩) le_a _) (p := ⟨Ga, 1, none⟩) le_a _) (fun hHeld2 => ?_); (clear hHeld; rename _ => hHeld; clear hK K; have hHeld : Below wr.heap.size wr _ := hHeld); (try simp only [Act.put, List.getElem_toArray, List.getElem_cons_succ, List.getElem_cons_zero, List.setIfInBounds_toArray, List.set_cons_zero, List.set_cons_succ])
            obtain ⟨yw3, hwx⟩ : ∃ wx, (yw2.setCell ⟨Ga, 0, none⟩ (.int .i64 x2)).setCell ⟨Ga, 1, none⟩ (.int .i64 y2) = wx := ⟨_, rfl⟩; rw [hwx] at Ha Hp hHeld ⊢; clear hwx
            refine wpAnyH_ready (rs := [15]) (by kernel_rfl) (by simp) ?_; refine AllReadyH.cons rfl (fun K hK => ?_) AllReadyH.nil
            obtain ⟨⟨a0, a1⟩, ⟨f0, f1⟩, az⟩ := Hp.out; go_simp; clear a0 f0 a1 f1 az
            have Ha := Lib.hid ((Ha.out.far ⟨Gp, 0, none⟩ (.int .i64 sx) (by show Ga ≠ Gp; exact ne_a_p)).far ⟨Gp, 1, none⟩ (.int .i64 sy) (by show Ga ≠ Gp; exact ne_a_p))
            have Hp := Lib.hid ((Hp.out.set0 sx).set1 sy)
            refine hK.out _ _ (Below.setCell (Below.setCell hHeld (p := ⟨Gp, 0, none⟩) le_p _) (p := ⟨Gp, 1, none⟩) le_p _) (fun hHeld2 => ?_); (clear hHeld; rename _ => hHeld; clear hK K; have hHeld : Below wr.heap.size wr _ := hHeld); (try simp only [Act.put, List.getElem_toArray, List.getElem_cons_succ, List.getElem_cons_zero, List.setIfInBounds_toArray, List.set_cons_zero, List.set_cons_succ])
            obtain ⟨yw4, hwx⟩ : ∃ wx, (yw3.setCell ⟨Gp, 0, none⟩ (.int .i64 sx)).setCell ⟨Gp, 1, none⟩ (.int .i64 sy) = wx := ⟨_, rfl⟩; rw [hwx] at Ha Hp hHeld ⊢; clear hwx
            refine wpAnyH_done (by kernel_rfl) ?_ _
            go_wp2_with fail
            go_meet
            exact ⟨Ga, Gp, rfl, rfl, Ha.out, Hp.out, hHeld⟩
          · skip
            go_simp; obtain ⟨Gp, hGp⟩ : ∃ G, yw0.heap.size = G := ⟨_, rfl⟩; have le_p : wr.heap.size ≤ Gp := by rw [← hGp]; exact Below.size hHeld
            have ne_p_a : Gp ≠ Ga := by have := Ha.out.2.2; omega
            have ne_a_p : Ga ≠ Gp := Ne.symm ne_p_a
            have Ha := Lib.hid (Ha.out.below ((Below.refl _ _).alloc (Nat.le_refl _) (.cells #[.int .i64 0, .int .i64 0] 25))); skip
            have Hp : Hid (Bk2 (yw0.alloc (.cells #[.int .i64 0, .int .i64 0] 25)) Gp 0 0) := by rw [← hGp]; exact bk2_new yw0 0 0 _
            refine hK.out _ _ (Below.alloc hHeld (Below.size hHeld) _) (fun hHeld2 => ?_); (clear hHeld; rename _ => hHeld; clear hK K; have hHeld : Below wr.heap.size wr _ := hHeld); (try simp only [Act.put, List.getElem_toArray, List.getElem_cons_succ, List.getElem_cons_zero, List.setIfInBounds_toArray, List.set_cons_zero, List.set_cons_succ])
            rw [hGp]; clear hGp; obtain ⟨yw1, hwx⟩ : ∃ wx, yw0.alloc (.cells #[.int .i64 0, .int .i64 0] 25) = wx := ⟨_, rfl⟩; rw [hwx] at Ha Hp hHeld ⊢; clear hwx
            refine wpAnyH_ready (rs := [11]) (by kernel_rfl) (by simp) ?_; refine AllReadyH.cons rfl (fun K hK => ?_) AllReadyH.nil
            go_simp; (go_at_call 96; refine (HSB.out _).mono ?_; rintro en yw2 ⟨rfl, hb2⟩); have Ha := Lib.hid (Ha.out.below hb2); have Hp := Lib.hid (Hp.out.below hb2); refine hK.out _ _ (below_after hb2 hHeld) (fun hHeld2 => ?_); clear hb2; (clear hHeld; rename _ => hHeld; clear hK K; have hHeld : Below wr.heap.size wr _ := hHeld); (try simp only [Act.put, List.getElem_toArray, List.getElem_cons_succ, List.getElem_cons_zero, List.setIfInBounds_toArray, List.set_cons_zero, List.set_cons_succ])
            refine wpAnyH_ready (rs := [14]) (by kernel_rfl) (by simp) ?_; refine AllReadyH.cons rfl (fun K hK => ?_) AllReadyH.nil
            obtain ⟨⟨a0, a1⟩, ⟨f0, f1⟩, az⟩ := Ha.out; go_simp; clear a0 f0 a1 f1 az
            have Hp := Lib.hid ((Hp.out.far ⟨Ga, 0, none⟩ (.int .i64 x2) (by show Gp ≠ Ga; exact ne_p_a)).far ⟨Ga, 1, none⟩ (.int .i64 y2) (by show Gp ≠ Ga; exact ne_p_a))
            have Ha := Lib.hid ((Ha.out.set0 x2).set1 y2)
            refine hK.out _ _ (Below.setCell (Below.setCell hHeld (p := ⟨Ga, 0, none⟩) le_a _) (p := ⟨Ga, 1, none⟩) le_a _) (fun hHeld2 => ?_); (clear hHeld; rename _ => hHeld; clear hK K; have hHeld : Below wr.heap.size wr _ := hHeld); (try simp only [Act.put, List.getElem_toArray, List.getElem_cons_succ, List.getElem_cons_zero, List.setIfInBounds_toArray, List.set_cons_zero, List.set_cons_succ])
            obtain ⟨yw3, hwx⟩ : ∃ wx, (yw2.setCell ⟨Ga, 0, none⟩ (.int .i64 x2)).setCell ⟨Ga, 1, none⟩ (.int .i64 y2) = wx := ⟨_, rfl⟩; rw [hwx] at Ha Hp hHeld ⊢; clear hwx
            refine wpAnyH_ready (rs := [15]) (by kernel_rfl) (by simp) ?_; refine AllReadyH.cons rfl (fun K hK => ?_) AllReadyH.nil
            obtain ⟨⟨a0, a1⟩, ⟨f0, f1⟩, az⟩ := Hp.out; go_simp; clear a0 f0 a1 f1 az
            have Ha := Lib.hid ((Ha.out.far ⟨Gp, 0, none⟩ (.int .i64 sx) (by show Ga ≠ Gp; exact ne_a_p)).far ⟨Gp, 1, none⟩ (.int .i64 sy) (by show Ga ≠ Gp; exact ne_a_p))
            have Hp := Lib.hid ((Hp.out.set0 sx).set1 sy)
            refine hK.out _ _ (Below.setCell (Below.setCell hHeld (p := ⟨Gp, 0, none⟩) le_p _) (p := ⟨Gp, 1, none⟩) le_p _) (fun hHeld2 => ?_); (clear hHeld; rename _ => hHeld; clear hK K; have hHeld : Below wr.heap.size wr _ := hHeld); (try simp only [Act.put, List.getElem_toArray, List.getElem_cons_succ, List.getElem_cons_zero, List.setIfInBounds_toArray, List.set_cons_zero, List.set_cons_succ])
            obtain ⟨yw4, hwx⟩ : ∃ wx, (yw3.setCell ⟨Gp, 0, none⟩ (.int .i64 sx)).setCell ⟨Gp, 1, none⟩ (.int .i64 sy) = wx := ⟨_, rfl⟩; rw [hwx] at Ha Hp hHeld ⊢; clear hwx
            refine wpAnyH_done (by kernel_rfl) ?_ _
            go_wp2_with fail
            go_meet
            exact ⟨Ga, Gp, rfl, rfl, Ha.out, Hp.out, hHeld⟩
        · skip
          go_simp; obtain ⟨Gp, hGp⟩ : ∃ G, wD.heap.size = G := ⟨_, rfl⟩; have le_p : wr.heap.size ≤ Gp := by rw [← hGp]; exact Below.size hHeld
          have Hp : Hid (Bk2 (wD.alloc (.cells #[.int .i64 0, .int .i64 0] 25)) Gp 0 0) := by rw [← hGp]; exact bk2_new wD 0 0 _
          refine hK.out _ _ (Below.alloc hHeld (Below.size hHeld) _) (fun hHeld2 => ?_); (clear hHeld; rename _ => hHeld; clear hK K; have hHeld : Below wr.heap.size wr _ := hHeld); (try simp only [Act.put, List.getElem_toArray, List.getElem_cons_succ, List.getElem_cons_zero, List.setIfInBounds_toArray, List.set_cons_zero, List.set_cons_succ])
          rw [hGp]; clear hGp; obtain ⟨yw0, hwx⟩ : ∃ wx, wD.alloc (.cells #[.int .i64 0, .int .i64 0] 25) = wx := ⟨_, rfl⟩; rw [hwx] at Hp hHeld ⊢; clear hwx
          refine wpAnyH_ready (rs := [11, 12]) (by kernel_rfl) (by simp) ?_; refine AllReadyH.cons rfl (fun K hK => ?_) (AllReadyH.cons rfl (fun K hK => ?_) AllReadyH.nil)
          · skip
            go_simp; (go_at_call 96; refine (HSB.out _).mono ?_; rintro en yw1 ⟨rfl, hb2⟩); have Hp := Lib.hid (Hp.out.below hb2); refine hK.out _ _ (below_after hb2 hHeld) (fun hHeld2 => ?_); clear hb2; (clear hHeld; rename _ => hHeld; clear hK K; have hHeld : Below wr.heap.size wr _ := hHeld); (try simp only [Act.put, List.getElem_toArray, List.getElem_cons_succ, List.getElem_cons_zero, List.setIfInBounds_toArray, List.set_cons_zero, List.set_cons_succ])
            refine wpAnyH_ready (rs := [12]) (by kernel_rfl) (by simp) ?_; refine AllReadyH.cons rfl (fun K hK => ?_) AllReadyH.nil
            go_simp; obtain ⟨Ga, hGa⟩ : ∃ G, yw1.heap.size = G := ⟨_, rfl⟩; have le_a : wr.heap.size ≤ Ga := by rw [← hGa]; exact Below.size hHeld
            have ne_a_p : Ga ≠ Gp := by have := Hp.out.2.2; omega
            have ne_p_a : Gp ≠ Ga := Ne.symm ne_a_p
            have Hp := Lib.hid (Hp.out.below ((Below.refl _ _).alloc (Nat.le_refl _) (.cells #[.int .i64 0, .int .i64 0] 25))); skip
            have Ha : Hid (Bk2 (yw1.alloc (.cells #[.int .i64 0, .int .i64 0] 25)) Ga 0 0) := by rw [← hGa]; exact bk2_new yw1 0 0 _
            refine hK.out _ _ (Below.alloc hHeld (Below.size hHeld) _) (fun hHeld2 => ?_); (clear hHeld; rename _ => hHeld; clear hK K; have hHeld : Below wr.heap.size wr _ := hHeld); (try simp only [Act.put, List.getElem_toArray, List.getElem_cons_succ, List.getElem_cons_zero, List.setIfInBounds_toArray, List.set_cons_zero, List.set_cons_succ])
            rw [hGa]; clear hGa; obtain ⟨yw2, hwx⟩ : ∃ wx, yw1.alloc (.cells #[.int .i64 0, .int .i64 0] 25) = wx := ⟨_, rfl⟩; rw [hwx] at Hp Ha hHeld ⊢; clear hwx
            refine wpAnyH_ready (rs := [14]) (by kernel_rfl) (by simp) ?_; refine AllReadyH.cons rfl (fun K hK => ?_) AllReadyH.nil
            obtain ⟨⟨a0, a1⟩, ⟨f0, f1⟩, az⟩ := Ha.out; go_simp; clear a0 f0 a1 f1 az
            have Hp := Lib.hid ((Hp.out.far ⟨Ga, 0, none⟩ (.int .i64 x2) (by show Gp ≠ Ga; exact ne_p_a)).far ⟨Ga, 1, none⟩ (.int .i64 y2) (by show Gp ≠ Ga; exact ne_p_a))
            have Ha := Lib.hid ((Ha.out.set0 x2).set1 y2)
            refine hK.out _ _ (Below.setCell (Below.setCell hHeld (p := ⟨Ga, 0, none⟩) le_a _) (p := ⟨Ga, 1, none⟩) le_a _) (fun hHeld2 => ?_); (clear hHeld; rename _ => hHeld; clear hK K; have hHeld : Below wr.heap.size wr _ := hHeld); (try simp only [Act.put, List.getElem_toArray, List.getElem_cons_succ, List.getElem_cons_zero, List.setIfInBounds_toArray, List.set_cons_zero, List.set_cons_succ])
            obtain ⟨yw3, hwx⟩ : ∃ wx, (yw2.setCell ⟨Ga, 0, none⟩ (.int .i64 x2)).setCell ⟨Ga, 1, none⟩ (.int .i64 y2) = wx := ⟨_, rfl⟩; rw [hwx] at Hp Ha hHeld ⊢; clear hwx
            refine wpAnyH_ready (rs := [15]) (by kernel_rfl) (by simp) ?_; refine AllReadyH.cons rfl (fun K hK => ?_) AllReadyH.nil
            obtain ⟨⟨a0, a1⟩, ⟨f0, f1⟩, az⟩ := Hp.out; go_simp; clear a0 f0 a1 f1 az
            have Ha := Lib.hid ((Ha.out.far ⟨Gp, 0, none⟩ (.int .i64 sx) (by show Ga ≠ Gp; exact ne_a_p)).far ⟨Gp, 1, none⟩ (.int .i64 sy) (by show Ga ≠ Gp; exact ne_a_p))
            have Hp := Lib.hid ((Hp.out.set0 sx).set1 sy)
            refine hK.out _ _ (Below.setCell (Below.setCell hHeld (p := ⟨Gp, 0, none⟩) le_p _) (p := ⟨Gp, 1, none⟩) le_p _) (fun hHeld2 => ?_); (clear hHeld; rename _ => hHeld; clear hK K; have hHeld : Below wr.heap.size wr _ := hHeld); (try simp only [Act.put, List.getElem_toArray, List.getElem_cons_succ, List.getElem_cons_zero, List.setIfInBounds_toArray, List.set_cons_zero, List.set_cons_succ])
            obtain ⟨yw4, hwx⟩ : ∃ wx, (yw3.setCell ⟨Gp, 0, none⟩ (.int .i64 sx)).setCell ⟨Gp, 1, none⟩ (.int .i64 sy) = wx := ⟨_, rfl⟩; rw [hwx] at Hp Ha hHeld ⊢; clear hwx
            refine wpAnyH_done (by kernel_rfl) ?_ _
            go_wp2_with fail
            go_meet
            exact ⟨Ga, Gp, rfl, rfl, Ha.out, Hp.out, hHeld⟩
          · skip
            go_simp; obtain ⟨Ga, hGa⟩ : ∃ G, yw0.heap.size = G := ⟨_, rfl⟩; have le_a : wr.heap.size ≤ Ga := by rw [← hGa]; exact Below.size hHeld
            have ne_a_p : Ga ≠ Gp := by have := Hp.out.2.2; omega
            have ne_p_a : Gp ≠ Ga := Ne.symm ne_a_p
            have Hp := Lib.hid (Hp.out.below ((Below.refl _ _).alloc (Nat.le_refl _) (.cells #[.int .i64 0, .int .i64 0] 25))); skip
            have Ha : Hid (Bk2 (yw0.alloc (.cells #[.int .i64 0, .int .i64 0] 25)) Ga 0 0) := by rw [← hGa]; exact bk2_new yw0 0 0 _
            refine hK.out _ _ (Below.alloc hHeld (Below.size hHeld) _) (fun hHeld2 => ?_); (clear hHeld; rename _ => hHeld; clear hK K; have hHeld : Below wr.heap.size wr _ := hHeld); (try simp only [Act.put, List.getElem_toArray, List.getElem_cons_succ, List.getElem_cons_zero, List.setIfInBounds_toArray, List.set_cons_zero, List.set_cons_succ])
            rw [hGa]; clear hGa; obtain ⟨yw1, hwx⟩ : ∃ wx, yw0.alloc (.cells #[.int .i64 0, .int .i64 0] 25) = wx := ⟨_, rfl⟩; rw [hwx] at Hp Ha hHeld ⊢; clear hwx
            refine wpAnyH_ready (rs := [11]) (by kernel_rfl) (by simp) ?_; refine AllReadyH.cons rfl (fun K hK => ?_) AllReadyH.nil
            go_simp; (go_at_call 96; refine (HSB.out _).mono ?_; rintro en yw2 ⟨rfl, hb2⟩); have Hp := Lib.hid (Hp.out.below hb2); have Ha := Lib.hid (Ha.out.below hb2); refine hK.out _ _ (below_after hb2 hHeld) (fun hHeld2 => ?_); clear hb2; (clear hHeld; rename _ => hHeld; clear hK K; have hHeld : Below wr.heap.size wr _ := hHeld); (try simp only [Act.put, List.getElem_toArray, List.getElem_cons_succ, List.getElem_cons_zero, List.setIfInBounds_toArray, List.set_cons_zero, List.set_cons_succ])
            refine wpAnyH_ready (rs := [14]) (by kernel_rfl) (by simp) ?_; refine AllReadyH.cons rfl (fun K hK => ?_) AllReadyH.nil
            obtain ⟨⟨a0, a1⟩, ⟨f0, f1⟩, az⟩ := Ha.out; go_simp; clear a0 f0 a1 f1 az
            have Hp := Lib.hid ((Hp.out.far ⟨Ga, 0, none⟩ (.int .i64 x2) (by show Gp ≠ Ga; exact ne_p_a)).far ⟨Ga, 1, none⟩ (.int .i64 y2) (by show Gp ≠ Ga; exact ne_p_a))
            have Ha := Lib.hid ((Ha.out.set0 x2).set1 y2)
            refine hK.out _ _ (Below.setCell (Below.setCell hHeld (p := ⟨Ga, 0, none⟩) le_a _) (p := ⟨Ga, 1, none⟩) le_a _) (fun hHeld2 => ?_); (clear hHeld; rename _ => hHeld; clear hK K; have hHeld : Below wr.heap.size wr _ := hHeld); (try simp only [Act.put, List.getElem_toArray, List.getElem_cons_succ, List.getElem_cons_zero, List.setIfInBounds_toArray, List.set_cons_zero, List.set_cons_succ])
            obtain ⟨yw3, hwx⟩ : ∃ wx, (yw2.setCell ⟨Ga, 0, none⟩ (.int .i64 x2)).setCell ⟨Ga, 1, none⟩ (.int .i64 y2) = wx := ⟨_, rfl⟩; rw [hwx] at Hp Ha hHeld ⊢; clear hwx
            refine wpAnyH_ready (rs := [15]) (by kernel_rfl) (by simp) ?_; refine AllReadyH.cons rfl (fun K hK => ?_) AllReadyH.nil
            obtain ⟨⟨a0, a1⟩, ⟨f0, f1⟩, az⟩ := Hp.out; go_simp; clear a0 f0 a1 f1 az
            have Ha := Lib.hid ((Ha.out.far ⟨Gp, 0, none⟩ (.int .i64 sx) (by show Ga ≠ Gp; exact ne_a_p)).far ⟨Gp, 1, none⟩ (.int .i64 sy) (by show Ga ≠ Gp; exact ne_a_p))
            have Hp := Lib.hid ((Hp.out.set0 sx).set1 sy)
            refine hK.out _ _ (Below.setCell (Below.setCell hHeld (p := ⟨Gp, 0, none⟩) le_p _) (p := ⟨Gp, 1, none⟩) le_p _) (fun hHeld2 => ?_); (clear hHeld; rename _ => hHeld; clear hK K; have hHeld : Below wr.heap.size wr _ := hHeld); (try simp only [Act.put, List.getElem_toArray, List.getElem_cons_succ, List.getElem_cons_zero, List.setIfInBounds_toArray, List.set_cons_zero, List.set_cons_succ])
            obtain ⟨yw4, hwx⟩ : ∃ wx, (yw3.setCell ⟨Gp, 0, none⟩ (.int .i64 sx)).setCell ⟨Gp, 1, none⟩ (.int .i64 sy) = wx := ⟨_, rfl⟩; rw [hwx] at Hp Ha hHeld ⊢; clear hwx
            refine wpAnyH_done (by kernel_rfl) ?_ _
            go_wp2_with fail
            go_meet
            exact ⟨Ga, Gp, rfl, rfl, Ha.out, Hp.out, hHeld⟩
      case rest =>
        obtain ⟨Ga, Gp, rfl, rfl, hA, hP, hbx⟩ := hcut
        obtain ⟨w2, rfl⟩ : ∃ w2, w2 = wc := ⟨_, rfl⟩
        have hbw : Below wB.heap.size wB w2 := below_after hbx HBL.out
        obtain ⟨⟨a0, a1⟩, _, az⟩ := id hA
        obtain ⟨⟨p0, p1⟩, _, pz⟩ := id hP
        clear n1 n2 hbx
        by_cases hd : 0 < sx
        · obtain ⟨hax, hpx⟩ := HA.out
          unfold Sml at hax
          unfold Q4 at hpx
          have wdx : IntKind.i64.wrap (px - x2) = px - x2 := by rw [IntKind.wrap_i64]; omega
          obtain ⟨pr, hpr⟩ : ∃ p, sy * (px - x2) = p := ⟨_, rfl⟩
          have hpb : -10000000 ≤ pr ∧ pr ≤ 10000000 := by rw [← hpr]; exact HE.out.2.2.1
          have hdb := div_bd hd hpb
          have wpr : IntKind.i64.wrap pr = pr := by rw [IntKind.wrap_i64]; omega
          have hHST := HST.out
          rw [if_pos hd, hpr] at hHST
          obtain ⟨q, hq⟩ : ∃ q, pr / sx = q := ⟨_, rfl⟩
          rw [hq] at hdb hHST
          have hay := HE.out.2.1
          unfold Sml at hay
          have w1q : IntKind.i64.wrap (y2 + q) = y2 + q := by rw [IntKind.wrap_i64]; omega
          have w2q : IntKind.i64.wrap (y2 + q + 1) = y2 + q + 1 := by rw [IntKind.wrap_i64]; omega
          have HDD : Hid (∀ w, Calls Try.prog 104 #[.int .i64 pr, .int .i64 sx] w fun e w' => e = .returned (.tuple #[.int .i64 q, .int .i64 (pr % sx)]) ∧ Below w.heap.size w w') := fun w => by
            have := divideDown_any pr sx w (by omega) (by have := HE.out.2.2.2; omega) (by omega) (by omega)
            rw [hq] at this
            exact this
          have HHST := Lib.hid hHST
          have HHQ := Lib.hid hq
          clear hHST hq hdb hpb hay hax hpx
          go_wp2_with fail
          go_at_call 104
          refine (HDD.out _).mono ?_
          rintro e w3 ⟨rfl, b3⟩
          have hbw3 := below_after b3 hbw
          have hA3 := hA.below b3
          clear a0 a1 az p0 p1 pz
          obtain ⟨⟨a0, a1⟩, _, az⟩ := id hA3
          go_wp2
          go_roundw
          case rel => exact ⟨3, by omega, by rw [HHST.out], by go_num, hbw3⟩
          case measure => simp [intOf]
        · have hHST := HST.out
          rw [if_neg hd] at hHST
          have HHST := Lib.hid hHST
          clear hHST
          go_wp2
          go_roundw
          case rel => exact ⟨3, by omega, by rw [HHST.out], by go_num, hbw⟩
          case measure => simp [intOf]
    · have hs3 : stJ x0 y0 x1 y1 x2 y2 px 3 = st3 x0 y0 x1 y1 x2 y2 px := rfl
      rw [hs3]
      go_wp2
      go_ret
      exact ⟨rfl, below_after hbel HBW.out⟩
end Go.Proofs.Ytcgaikedbhdbgaa
