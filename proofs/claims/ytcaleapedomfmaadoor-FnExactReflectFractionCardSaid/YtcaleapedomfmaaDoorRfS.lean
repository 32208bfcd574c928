/-
  ReflectFraction in the model (own work).
-/
import Derived.Test.YtcaleapedomfmaaDoorRfM
import Derived.Test.YtcaleapedomfmaaDoorBlk
import Derived.Deep.DeepCutAuto
namespace Go.Proofs.YtcaleapedomfmaaDoor
open Go.ChangeShapes Go.WideShapes Go.ChangeAt Go.RowKit Go.Shelf
set_option linter.unusedVariables false
set_option maxRecDepth 100000
set_option linter.unusedSimpArgs false
set_option maxRecDepth 100000

set_option maxHeartbeats 8000000 in
theorem spec_ReflectFraction_ok (x0 y0 x1 y1 x2 y2 U V D E C X Y : Int) (w : World) (h : allFr [(x0, y0), (x1, y1), (x2, y2)] = true) (hU : frX (x0 + x1) (y0 + y1) = U) (hV : frY (x0 + x1) (y0 + y1) = V) (hD : frX (x0 - x1) (y0 - y1) = D) (hE : frY (x0 - x1) (y0 - y1) = E) (hR : Rf x0 y0 x1 y1 x2 y2 U V D E C X Y) :
    Calls Tryd.prog 21 #[.agg #[.int .i64 x0, .int .i64 y0], .agg #[.int .i64 x1, .int .i64 y1], .agg #[.int .i64 x2, .int .i64 y2]] w fun e w' => e = .returned (.tuple #[.agg #[.int .i64 X, .int .i64 Y], .int .i64 C]) ∧ Below w.heap.size w w' := by
  have heq := eq_pt
  have HK := Lib.hid (frE_yes h)
  obtain ⟨f0, f1, f2⟩ := frs3 h
  have p0 := isFr_pt f0
  have p1 := isFr_pt f1
  have HN := Lib.hid (fun w => l05Near_any x0 y0 x1 y1 w p0 p1)
  have HP1 : Hid (∀ w, Calls Tryd.prog 50 #[.agg #[.int .i64 x0, .int .i64 y0], .agg #[.int .i64 x1, .int .i64 y1], .int .i64 1] w fun e w' => e = .returned (.agg #[.int .i64 (x0 + x1), .int .i64 (y0 + y1)]) ∧ Below w.heap.size w w') := fun w => by
    have := l01Plus_any x0 y0 x1 y1 1 w (isPt_bn1 p0) (isPt_bn2 p0) (isPt_bn1 p1) (isPt_bn2 p1) ⟨by decide, by decide⟩
    rw [Int.one_mul, Int.one_mul] at this
    exact this
  have HP2 := Lib.hid (fun w => l01Plus_minus x0 y0 x1 y1 w (isPt_bn1 p0) (isPt_bn2 p0) (isPt_bn1 p1) (isPt_bn2 p1))
  have HT1 := Lib.hid (fun w => l05Turn_any (x0 + x1) (y0 + y1) w (bn_tn_add (isPt_bn1 p0) (isPt_bn1 p1)) (bn_tn_add (isPt_bn2 p0) (isPt_bn2 p1)))
  have HT2 := Lib.hid (fun w => l05Turn_any (x0 - x1) (y0 - y1) w (bn_tn_sub (isPt_bn1 p0) (isPt_bn1 p1)) (bn_tn_sub (isPt_bn2 p0) (isPt_bn2 p1)))
  rw [hU, hV] at HT1
  rw [hD, hE] at HT2
  have HR := Lib.hid hR
  have HH := Lib.hid h
  generalize x0 + x1 = S1 at *
  generalize y0 + y1 = S2 at *
  generalize x0 - x1 = M1 at *
  generalize y0 - y1 = M2 at *
  clear h f0 f1 f2 p0 p1 hU hV hD hE hR
  have hs20 : w.heap.size < w.heap.size + 1 + 1 := (by omega); have hs30 : w.heap.size < w.heap.size + 1 + 1 + 1 := (by omega); have hs31 : w.heap.size + 1 < w.heap.size + 1 + 1 + 1 := (by omega); have hs40 : w.heap.size < w.heap.size + 1 + 1 + 1 + 1 := (by omega); have hs41 : w.heap.size + 1 < w.heap.size + 1 + 1 + 1 + 1 := (by omega); have hs42 : w.heap.size + 1 + 1 < w.heap.size + 1 + 1 + 1 + 1 := (by omega); have hs50 : w.heap.size < w.heap.size + 1 + 1 + 1 + 1 + 1 := (by omega); have hs51 : w.heap.size + 1 < w.heap.size + 1 + 1 + 1 + 1 + 1 := (by omega); have hs52 : w.heap.size + 1 + 1 < w.heap.size + 1 + 1 + 1 + 1 + 1 := (by omega); have hs53 : w.heap.size + 1 + 1 + 1 < w.heap.size + 1 + 1 + 1 + 1 + 1 := (by omega)
  go_enter Tryd.func21, Tryd.ntmps21
  go_wp2_with fail
  go_at_call 39
  refine (l05Code3_any x0 y0 x1 y1 x2 y2 0 _ _ _ HK.out (by simp) (by go_cell) (by go_cell) (by go_cell) (by go_cell) (by go_cell) (by go_cell)).mono ?_
  rintro e wB ⟨rfl, hb⟩
  obtain ⟨w4, hw4⟩ : ∃ w4, w4 = (((w.alloc (.cells #[.int .i64 x0, .int .i64 y0] 25)).alloc (.cells #[.int .i64 x1, .int .i64 y1] 25)).alloc (.cells #[.int .i64 x2, .int .i64 y2] 25)).alloc (.cells #[.int .i64 0, .int .i64 0] 25) := ⟨_, rfl⟩
  have hb4 : Below w4.heap.size w4 wB := by rw [hw4]; exact al_below hb
  have hz4 : w4.heap.size = w.heap.size + 1 + 1 + 1 + 1 := by rw [hw4]; simp
  have hB4 : Below w.heap.size w w4 := by rw [hw4]; (repeat' (first | (with_reducible exact Below.refl _ _) | (with_reducible refine Below.alloc ?_ ?_ _) | (with_reducible refine Below.setCell ?_ ?_ _) | (with_reducible refine Below.drew ?_) | (with_reducible refine below_drewN ?_ _) | (with_reducible assumption) | (with_reducible refine below_after (by with_reducible assumption) ?_) | go_size))
  have HX : Hid (∀ W', Below wB.heap.size wB W' → W'.cell? ⟨w.heap.size, 0, none⟩ = some (.int .i64 x0) ∧ W'.cell? ⟨w.heap.size, 1, none⟩ = some (.int .i64 y0) ∧ W'.cell? ⟨w.heap.size + 1, 0, none⟩ = some (.int .i64 x1) ∧ W'.cell? ⟨w.heap.size + 1, 1, none⟩ = some (.int .i64 y1) ∧ W'.cell? ⟨w.heap.size + 1 + 1, 0, none⟩ = some (.int .i64 x2) ∧ W'.cell? ⟨w.heap.size + 1 + 1, 1, none⟩ = some (.int .i64 y2) ∧ W'.cell? ⟨w.heap.size + 1 + 1 + 1, 0, none⟩ = some (.int .i64 0) ∧ W'.cell? ⟨w.heap.size + 1 + 1 + 1, 1, none⟩ = some (.int .i64 0) ∧ W'.frozen? ⟨w.heap.size + 1 + 1 + 1, 0, none⟩ = false ∧ W'.frozen? ⟨w.heap.size + 1 + 1 + 1, 1, none⟩ = false ∧ Below w.heap.size w W') := by
    intro W' hW
    have hW := below_after hW hb4
    refine ⟨?_, ?_, ?_, ?_, ?_, ?_, ?_, ?_, ?_, ?_, below_after hW hB4⟩
    · exact (hW.cell (p := ⟨w.heap.size, 0, none⟩) (by show w.heap.size < _; omega)).trans (by rw [hw4]; go_cell)
    · exact (hW.cell (p := ⟨w.heap.size, 1, none⟩) (by show w.heap.size < _; omega)).trans (by rw [hw4]; go_cell)
    · exact (hW.cell (p := ⟨w.heap.size + 1, 0, none⟩) (by show w.heap.size + 1 < _; omega)).trans (by rw [hw4]; go_cell)
    · exact (hW.cell (p := ⟨w.heap.size + 1, 1, none⟩) (by show w.heap.size + 1 < _; omega)).trans (by rw [hw4]; go_cell)
    · exact (hW.cell (p := ⟨w.heap.size + 1 + 1, 0, none⟩) (by show w.heap.size + 1 + 1 < _; omega)).trans (by rw [hw4]; go_cell)
    · exact (hW.cell (p := ⟨w.heap.size + 1 + 1, 1, none⟩) (by show w.heap.size + 1 + 1 < _; omega)).trans (by rw [hw4]; go_cell)
    · exact (hW.cell (p := ⟨w.heap.size + 1 + 1 + 1, 0, none⟩) (by show w.heap.size + 1 + 1 + 1 < _; omega)).trans (by rw [hw4]; go_cell)
    · exact (hW.cell (p := ⟨w.heap.size + 1 + 1 + 1, 1, none⟩) (by show w.heap.size + 1 + 1 + 1 < _; omega)).trans (by rw [hw4]; go_cell)
    · rw [(bcell hW).2 _ _ (by omega), hw4]; go_cell
    · rw [(bcell hW).2 _ _ (by omega), hw4]; go_cell
  have hzB : w.heap.size + 1 + 1 + 1 < wB.heap.size := by have := hb4.size; omega
  clear hb hb4 hB4 hw4 hz4
  go_upto_region 4 with fail
  go_cut [9, 10] (fun v9 v10 wx => ∃ Gs Gd : Nat, v9 = .pointer (some ⟨Gs, 0, none⟩) ∧ v10 = .pointer (some ⟨Gd, 0, none⟩) ∧ Bk2 wx Gs U V ∧ Bk2 wx Gd D E ∧ Gs ≠ Gd ∧ wB.heap.size ≤ Gs ∧ wB.heap.size ≤ Gd ∧ Below wB.heap.size wB wx)
  case first =>
    refine wp_region_held_drew (S := fun W => Below wB.heap.size wB W) (by kernel_rfl) ?_ (fun hHeld => ?_); focus ((try dsimp only); exact (Below.refl _ _).drew)
    have hHeld : Below wB.heap.size wB _ := hHeld
    obtain ⟨wD, hwD⟩ : ∃ wD, wB.drew = wD := ⟨_, rfl⟩
    rw [hwD] at hHeld ⊢
    clear hwD
    (refine wpAnyH_take (i := 0) (v := ?_) rfl (by kernel_rfl) (by kernel_rfl) (by kernel_rfl) (fun _ _ _ h => h) (Or.inl ⟨rfl, ?_⟩) (by assumption) ?_; rotate_left; focus (intro W hSw; (try dsimp only at hSw); obtain ⟨i0, i1, i2, i3, _⟩ := HX.out _ hSw; go_simp; try (with_reducible rfl))); (try simp only [Act.put, List.getElem_toArray, List.getElem_cons_succ, List.getElem_cons_zero, List.setIfInBounds_toArray, List.set_cons_zero, List.set_cons_succ])
    (refine wpAnyH_take (i := 1) (v := ?_) rfl (by kernel_rfl) (by kernel_rfl) (by kernel_rfl) (fun _ _ _ h => h) (Or.inl ⟨rfl, ?_⟩) (by assumption) ?_; rotate_left; focus (intro W hSw; (try dsimp only at hSw); obtain ⟨i0, i1, i2, i3, _⟩ := HX.out _ hSw; go_simp; try (with_reducible rfl))); (try simp only [Act.put, List.getElem_toArray, List.getElem_cons_succ, List.getElem_cons_zero, List.setIfInBounds_toArray, List.set_cons_zero, List.set_cons_succ])
    (refine wpAnyH_take (i := 4) (v := ?_) rfl (by kernel_rfl) (by kernel_rfl) (by kernel_rfl) (fun _ _ _ h => h) (Or.inl ⟨rfl, ?_⟩) (by assumption) ?_; rotate_left; focus (intro W hSw; (try dsimp only at hSw); obtain ⟨i0, i1, i2, i3, _⟩ := HX.out _ hSw; go_simp; try (with_reducible rfl))); (try simp only [Act.put, List.getElem_toArray, List.getElem_cons_succ, List.getElem_cons_zero, List.setIfInBounds_toArray, List.set_cons_zero, List.set_cons_succ])
    (refine wpAnyH_take (i := 5) (v := ?_) rfl (by kernel_rfl) (by kernel_rfl) (by kernel_rfl) (fun _ _ _ h => h) (Or.inl ⟨rfl, ?_⟩) (by assumption) ?_; rotate_left; focus (intro W hSw; (try dsimp only at hSw); obtain ⟨i0, i1, i2, i3, _⟩ := HX.out _ hSw; go_simp; try (with_reducible rfl))); (try simp only [Act.put, List.getElem_toArray, List.getElem_cons_succ, List.getElem_cons_zero, List.setIfInBounds_toArray, List.set_cons_zero, List.set_cons_succ])
    refine wpAnyH_ready (rs := [2, 8, 9]) (by kernel_rfl) (by simp) ?_; refine AllReadyH.cons rfl (fun K hK => ?_) (AllReadyH.cons rfl (fun K hK => ?_) (AllReadyH.cons rfl (fun K hK => ?_) AllReadyH.nil))
    · skip
      go_simp; (go_at_call 50; refine (HP1.out _).mono ?_; rintro en yw0 ⟨rfl, hb2⟩); refine hK.out _ _ (below_after hb2 hHeld) (fun hHeld2 => ?_); clear hb2; (clear hHeld; rename _ => hHeld; clear hK K; have hHeld : Below wB.heap.size wB _ := hHeld); (try simp only [Act.put, List.getElem_toArray, List.getElem_cons_succ, List.getElem_cons_zero, List.setIfInBounds_toArray, List.set_cons_zero, List.set_cons_succ])
      refine wpAnyH_ready (rs := [3, 8, 9]) (by kernel_rfl) (by simp) ?_; refine AllReadyH.cons rfl (fun K hK => ?_) (AllReadyH.cons rfl (fun K hK => ?_) (AllReadyH.cons rfl (fun K hK => ?_) AllReadyH.nil))
      · skip
        go_simp; (go_at_call 49; refine (HT1.out _).mono ?_; rintro en yw1 ⟨rfl, hb2⟩); refine hK.out _ _ (below_after hb2 hHeld) (fun hHeld2 => ?_); clear hb2; (clear hHeld; rename _ => hHeld; clear hK K; have hHeld : Below wB.heap.size wB _ := hHeld); (try simp only [Act.put, List.getElem_toArray, List.getElem_cons_succ, List.getElem_cons_zero, List.setIfInBounds_toArray, List.set_cons_zero, List.set_cons_succ])
        refine wpAnyH_ready (rs := [6, 8, 9]) (by kernel_rfl) (by simp) ?_; refine AllReadyH.cons rfl (fun K hK => ?_) (AllReadyH.cons rfl (fun K hK => ?_) (AllReadyH.cons rfl (fun K hK => ?_) AllReadyH.nil))
        · skip
          go_simp; (go_at_call 50; refine (HP2.out _).mono ?_; rintro en yw2 ⟨rfl, hb2⟩); refine hK.out _ _ (below_after hb2 hHeld) (fun hHeld2 => ?_); clear hb2; (clear hHeld; rename _ => hHeld; clear hK K; have hHeld : Below wB.heap.size wB _ := hHeld); (try simp only [Act.put, List.getElem_toArray, List.getElem_cons_succ, List.getElem_cons_zero, List.setIfInBounds_toArray, List.set_cons_zero, List.set_cons_succ])
          refine wpAnyH_ready (rs := [7, 8, 9]) (by kernel_rfl) (by simp) ?_; refine AllReadyH.cons rfl (fun K hK => ?_) (AllReadyH.cons rfl (fun K hK => ?_) (AllReadyH.cons rfl (fun K hK => ?_) AllReadyH.nil))
          · skip
            go_simp; (go_at_call 49; refine (HT2.out _).mono ?_; rintro en yw3 ⟨rfl, hb2⟩); refine hK.out _ _ (below_after hb2 hHeld) (fun hHeld2 => ?_); clear hb2; (clear hHeld; rename _ => hHeld; clear hK K; have hHeld : Below wB.heap.size wB _ := hHeld); (try simp only [Act.put, List.getElem_toArray, List.getElem_cons_succ, List.getElem_cons_zero, List.setIfInBounds_toArray, List.set_cons_zero, List.set_cons_succ])
            refine wpAnyH_ready (rs := [8, 9]) (by kernel_rfl) (by simp) ?_; refine AllReadyH.cons rfl (fun K hK => ?_) (AllReadyH.cons rfl (fun K hK => ?_) AllReadyH.nil)
            · skip
              go_simp; obtain ⟨Gs, hGs⟩ : ∃ G, yw3.heap.size = G := ⟨_, rfl⟩; have le_s : wB.heap.size ≤ Gs := by rw [← hGs]; exact Below.size hHeld
              have Hs : Hid (Bk2 (yw3.alloc (.cells #[.int .i64 0, .int .i64 0] 25)) Gs 0 0) := by rw [← hGs]; exact bk2_new yw3 0 0 _
              refine hK.out _ _ (Below.alloc hHeld (Below.size hHeld) _) (fun hHeld2 => ?_); (clear hHeld; rename _ => hHeld; clear hK K; have hHeld : Below wB.heap.size wB _ := hHeld); (try simp only [Act.put, List.getElem_toArray, List.getElem_cons_succ, List.getElem_cons_zero, List.setIfInBounds_toArray, List.set_cons_zero, List.set_cons_succ])
              rw [hGs]; clear hGs; obtain ⟨yw4, hwx⟩ : ∃ wx, yw3.alloc (.cells #[.int .i64 0, .int .i64 0] 25) = wx := ⟨_, rfl⟩; rw [hwx] at Hs hHeld ⊢; clear hwx
              refine wpAnyH_ready (rs := [9]) (by kernel_rfl) (by simp) ?_; refine AllReadyH.cons rfl (fun K hK => ?_) AllReadyH.nil
              go_simp; obtain ⟨Gd, hGd⟩ : ∃ G, yw4.heap.size = G := ⟨_, rfl⟩; have le_d : wB.heap.size ≤ Gd := by rw [← hGd]; exact Below.size hHeld
              have ne_d_s : Gd ≠ Gs := by have := Hs.out.2.2; omega
              have ne_s_d : Gs ≠ Gd := Ne.symm ne_d_s
              have Hs := Lib.hid (Hs.out.below ((Below.refl _ _).alloc (Nat.le_refl _) (.cells #[.int .i64 0, .int .i64 0] 25))); skip
              have Hd : Hid (Bk2 (yw4.alloc (.cells #[.int .i64 0, .int .i64 0] 25)) Gd 0 0) := by rw [← hGd]; exact bk2_new yw4 0 0 _
              refine hK.out _ _ (Below.alloc hHeld (Below.size hHeld) _) (fun hHeld2 => ?_); (clear hHeld; rename _ => hHeld; clear hK K; have hHeld : Below wB.heap.size wB _ := hHeld); (try simp only [Act.put, List.getElem_toArray, List.getElem_cons_succ, List.getElem_cons_zero, List.setIfInBounds_toArray, List.set_cons_zero, List.set_cons_succ])
              rw [hGd]; clear hGd; obtain ⟨yw5, hwx⟩ : ∃ wx, yw4.alloc (.cells #[.int .i64 0, .int .i64 0] 25) = wx := ⟨_, rfl⟩; rw [hwx] at Hs Hd hHeld ⊢; clear hwx
              refine wpAnyH_ready (rs := [10]) (by kernel_rfl) (by simp) ?_; refine AllReadyH.cons rfl (fun K hK => ?_) AllReadyH.nil
              obtain ⟨⟨a0, a1⟩, ⟨f0, f1⟩, az⟩ := Hs.out; go_simp; clear a0 f0 a1 f1 az
              have Hd := Lib.hid ((Hd.out.far ⟨Gs, 0, none⟩ (.int .i64 U) (by show Gd ≠ Gs; exact ne_d_s)).far ⟨Gs, 1, none⟩ (.int .i64 V) (by show Gd ≠ Gs; exact ne_d_s))
              have Hs := Lib.hid ((Hs.out.set0 U).set1 V)
              refine hK.out _ _ (Below.setCell (Below.setCell hHeld (p := ⟨Gs, 0, none⟩) le_s _) (p := ⟨Gs, 1, none⟩) le_s _) (fun hHeld2 => ?_); (clear hHeld; rename _ => hHeld; clear hK K; have hHeld : Below wB.heap.size wB _ := hHeld); (try simp only [Act.put, List.getElem_toArray, List.getElem_cons_succ, List.getElem_cons_zero, List.setIfInBounds_toArray, List.set_cons_zero, List.set_cons_succ])
              obtain ⟨yw6, hwx⟩ : ∃ wx, (yw5.setCell ⟨Gs, 0, none⟩ (.int .i64 U)).setCell ⟨Gs, 1, none⟩ (.int .i64 V) = wx := ⟨_, rfl⟩; rw [hwx] at Hs Hd hHeld ⊢; clear hwx
              refine wpAnyH_ready (rs := [11]) (by kernel_rfl) (by simp) ?_; refine AllReadyH.cons rfl (fun K hK => ?_) AllReadyH.nil
              obtain ⟨⟨a0, a1⟩, ⟨f0, f1⟩, az⟩ := Hd.out; go_simp; clear a0 f0 a1 f1 az
              have Hs := Lib.hid ((Hs.out.far ⟨Gd, 0, none⟩ (.int .i64 D) (by show Gs ≠ Gd; exact ne_s_d)).far ⟨Gd, 1, none⟩ (.int .i64 E) (by show Gs ≠ Gd; exact ne_s_d))
              have Hd := Lib.hid ((Hd.out.set0 D).set1 E)
              refine hK.out _ _ (Below.setCell (Below.setCell hHeld (p := ⟨Gd, 0, none⟩) le_d _) (p := ⟨Gd, 1, none⟩) le_d _) (fun hHeld2 => ?_); (clear hHeld; rename _ => hHeld; clear hK K; have hHeld : Below wB.heap.size wB _ := hHeld); (try simp only [Act.put, List.getElem_toArray, List.getElem_cons_succ, List.getElem_cons_zero, List.setIfInBounds_toArray, List.set_cons_zero, List.set_cons_succ])
              obtain ⟨yw7, hwx⟩ : ∃ wx, (yw6.setCell ⟨Gd, 0, none⟩ (.int .i64 D)).setCell ⟨Gd, 1, none⟩ (.int .i64 E) = wx := ⟨_, rfl⟩; rw [hwx] at Hs Hd hHeld ⊢; clear hwx
              refine wpAnyH_done (by kernel_rfl) ?_ _
              go_wp2_with fail
              go_meet
              exact ⟨Gs, Gd, rfl, rfl, Hs.out, Hd.out, by first | exact ne_s_d | exact Ne.symm ne_d_s, le_s, le_d, hHeld⟩
            · skip
              go_simp; obtain ⟨Gd, hGd⟩ : ∃ G, yw3.heap.size = G := ⟨_, rfl⟩; have le_d : wB.heap.size ≤ Gd := by rw [← hGd]; exact Below.size hHeld
              have Hd : Hid (Bk2 (yw3.alloc (.cells #[.int .i64 0, .int .i64 0] 25)) Gd 0 0) := by rw [← hGd]; exact bk2_new yw3 0 0 _
              refine hK.out _ _ (Below.alloc hHeld (Below.size hHeld) _) (fun hHeld2 => ?_); (clear hHeld; rename _ => hHeld; clear hK K; have hHeld : Below wB.heap.size wB _ := hHeld); (try simp only [Act.put, List.getElem_toArray, List.getElem_cons_succ, List.getElem_cons_zero, List.setIfInBounds_toArray, List.set_cons_zero, List.set_cons_succ])
              rw [hGd]; clear hGd; obtain ⟨yw4, hwx⟩ : ∃ wx, yw3.alloc (.cells #[.int .i64 0, .int .i64 0] 25) = wx := ⟨_, rfl⟩; rw [hwx] at Hd hHeld ⊢; clear hwx
              refine wpAnyH_ready (rs := [8]) (by kernel_rfl) (by simp) ?_; refine AllReadyH.cons rfl (fun K hK => ?_) AllReadyH.nil
              go_simp; obtain ⟨Gs, hGs⟩ : ∃ G, yw4.heap.size = G := ⟨_, rfl⟩; have le_s : wB.heap.size ≤ Gs := by rw [← hGs]; exact Below.size hHeld
              have ne_s_d : Gs ≠ Gd := by have := Hd.out.2.2; omega
              have ne_d_s : Gd ≠ Gs := Ne.symm ne_s_d
              have Hd := Lib.hid (Hd.out.below ((Below.refl _ _).alloc (Nat.le_refl _) (.cells #[.int .i64 0, .int .i64 0] 25))); skip
              have Hs : Hid (Bk2 (yw4.alloc (.cells #[.int .i64 0, .int .i64 0] 25)) Gs 0 0) := by rw [← hGs]; exact bk2_new yw4 0 0 _
              refine hK.out _ _ (Below.alloc hHeld (Below.size hHeld) _) (fun hHeld2 => ?_); (clear hHeld; rename _ => hHeld; clear hK K; have hHeld : Below wB.heap.size wB _ := hHeld); (try simp only [Act.put, List.getElem_toArray, List.getElem_cons_succ, List.getElem_cons_zero, List.setIfInBounds_toArray, List.set_cons_zero, List.set_cons_succ])
              rw [hGs]; clear hGs; obtain ⟨yw5, hwx⟩ : ∃ wx, yw4.alloc (.cells #[.int .i64 0, .int .i64 0] 25) = wx := ⟨_, rfl⟩; rw [hwx] at Hd Hs hHeld ⊢; clear hwx
              refine wpAnyH_ready (rs := [10]) (by kernel_rfl) (by simp) ?_; refine AllReadyH.cons rfl (fun K hK => ?_) AllReadyH.nil
              obtain ⟨⟨a0, a1⟩, ⟨f0, f1⟩, az⟩ := Hs.out; go_simp; clear a0 f0 a1 f1 az
              have Hd := Lib.hid ((Hd.out.far ⟨Gs, 0, none⟩ (.int .i64 U) (by show Gd ≠ Gs; exact ne_d_s)).far ⟨Gs, 1, none⟩ (.int .i64 V) (by show Gd ≠ Gs; exact ne_d_s))
              have Hs := Lib.hid ((Hs.out.set0 U).set1 V)
              refine hK.out _ _ (Below.setCell (Below.setCell hHeld (p := ⟨Gs, 0, none⟩) le_s _) (p := ⟨Gs, 1, none⟩) le_s _) (fun hHeld2 => ?_); (clear hHeld; rename _ => hHeld; clear hK K; have hHeld : Below wB.heap.size wB _ := hHeld); (try simp only [Act.put, List.getElem_toArray, List.getElem_cons_succ, List.getElem_cons_zero, List.setIfInBounds_toArray, List.set_cons_zero, List.set_cons_succ])
              obtain ⟨yw6, hwx⟩ : ∃ wx, (yw5.setCell ⟨Gs, 0, none⟩ (.int .i64 U)).setCell ⟨Gs, 1, none⟩ (.int .i64 V) = wx := ⟨_, rfl⟩; rw [hwx] at Hd Hs hHeld ⊢; clear hwx
              refine wpAnyH_ready (rs := [11]) (by kernel_rfl) (by simp) ?_; refine AllReadyH.cons rfl (fun K hK => ?_) AllReadyH.nil
              obtain ⟨⟨a0, a1⟩, ⟨f0, f1⟩, az⟩ := Hd.out; go_simp; clear a0 f0 a1 f1 az
              have Hs := Lib.hid ((Hs.out.far ⟨Gd, 0, none⟩ (.int .i64 D) (by show Gs ≠ Gd; exact ne_s_d)).far ⟨Gd, 1, none⟩ (.int .i64 E) (by show Gs ≠ Gd; exact ne_s_d))
              have Hd := Lib.hid ((Hd.out.set0 D).set1 E)
              refine hK.out _ _ (Below.setCell (Below.setCell hHeld (p := ⟨Gd, 0, none⟩) le_d _) (p := ⟨Gd, 1, none⟩) le_d _) (fun hHeld2 => ?_); (clear hHeld; rename _ => hHeld; clear hK K; have hHeld : Below wB.heap.size wB _ := hHeld); (try simp only [Act.put, List.getElem_toArray, List.getElem_cons_succ, List.getElem_cons_zero, List.setIfInBounds_toArray, List.set_cons_zero, List.set_cons_succ])
              obtain ⟨yw7, hwx⟩ : ∃ wx, (yw6.setCell ⟨Gd, 0, none⟩ (.int .i64 D)).setCell ⟨Gd, 1, none⟩ (.int .i64 E) = wx := ⟨_, rfl⟩; rw [hwx] at Hd Hs hHeld ⊢; clear hwx
              refine wpAnyH_done (by kernel_rfl) ?_ _
              go_wp2_with fail
              go_meet
              exact ⟨Gs, Gd, rfl, rfl, Hs.out, Hd.out, by first | exact ne_s_d | exact Ne.symm ne_d_s, le_s, le_d, hHeld⟩
          · skip
            go_simp; obtain ⟨Gs, hGs⟩ : ∃ G, yw2.heap.size = G := ⟨_, rfl⟩; have le_s : wB.heap.size ≤ Gs := by rw [← hGs]; exact Below.size hHeld
            have Hs : Hid (Bk2 (yw2.alloc (.cells #[.int .i64 0, .int .i64 0] 25)) Gs 0 0) := by rw [← hGs]; exact bk2_new yw2 0 0 _
            refine hK.out _ _ (Below.alloc hHeld (Below.size hHeld) _) (fun hHeld2 => ?_); (clear hHeld; rename _ => hHeld; clear hK K; have hHeld : Below wB.heap.size wB _ := hHeld); (try simp only [Act.put, List.getElem_toArray, List.getElem_cons_succ, List.getElem_cons_zero, List.setIfInBounds_toArray, List.set_cons_zero, List.set_cons_succ])
            rw [hGs]; clear hGs; obtain ⟨yw3, hwx⟩ : ∃ wx, yw2.alloc (.cells #[.int .i64 0, .int .i64 0] 25) = wx := ⟨_, rfl⟩; rw [hwx] at Hs hHeld ⊢; clear hwx
            refine wpAnyH_ready (rs := [7, 9]) (by kernel_rfl) (by simp) ?_; refine AllReadyH.cons rfl (fun K hK => ?_) (AllReadyH.cons rfl (fun K hK => ?_) AllReadyH.nil)
            · skip
              go_simp; (go_at_call 49; refine (HT2.out _).mono ?_; rintro en yw4 ⟨rfl, hb2⟩); have Hs := Lib.hid (Hs.out.below hb2); refine hK.out _ _ (below_after hb2 hHeld) (fun hHeld2 => ?_); clear hb2; (clear hHeld; rename _ => hHeld; clear hK K; have hHeld : Below wB.heap.size wB _ := hHeld); (try simp only [Act.put, List.getElem_toArray, List.getElem_cons_succ, List.getElem_cons_zero, List.setIfInBounds_toArray, List.set_cons_zero, List.set_cons_succ])
              refine wpAnyH_ready (rs := [9]) (by kernel_rfl) (by simp) ?_; refine AllReadyH.cons rfl (fun K hK => ?_) AllReadyH.nil
              go_simp; obtain ⟨Gd, hGd⟩ : ∃ G, yw4.heap.size = G := ⟨_, rfl⟩; have le_d : wB.heap.size ≤ Gd := by rw [← hGd]; exact Below.size hHeld
              have ne_d_s : Gd ≠ Gs := by have := Hs.out.2.2; omega
              have ne_s_d : Gs ≠ Gd := Ne.symm ne_d_s
              have Hs := Lib.hid (Hs.out.below ((Below.refl _ _).alloc (Nat.le_refl _) (.cells #[.int .i64 0, .int .i64 0] 25))); skip
              have Hd : Hid (Bk2 (yw4.alloc (.cells #[.int .i64 0, .int .i64 0] 25)) Gd 0 0) := by rw [← hGd]; exact bk2_new yw4 0 0 _
              refine hK.out _ _ (Below.alloc hHeld (Below.size hHeld) _) (fun hHeld2 => ?_); (clear hHeld; rename _ => hHeld; clear hK K; have hHeld : Below wB.heap.size wB _ := hHeld); (try simp only [Act.put, List.getElem_toArray, List.getElem_cons_succ, List.getElem_cons_zero, List.setIfInBounds_toArray, List.set_cons_zero, List.set_cons_succ])
              rw [hGd]; clear hGd; obtain ⟨yw5, hwx⟩ : ∃ wx, yw4.alloc (.cells #[.int .i64 0, .int .i64 0] 25) = wx := ⟨_, rfl⟩; rw [hwx] at Hs Hd hHeld ⊢; clear hwx
              refine wpAnyH_ready (rs := [10]) (by kernel_rfl) (by simp) ?_; refine AllReadyH.cons rfl (fun K hK => ?_) AllReadyH.nil
              obtain ⟨⟨a0, a1⟩, ⟨f0, f1⟩, az⟩ := Hs.out; go_simp; clear a0 f0 a1 f1 az
              have Hd := Lib.hid ((Hd.out.far ⟨Gs, 0, none⟩ (.int .i64 U) (by show Gd ≠ Gs; exact ne_d_s)).far ⟨Gs, 1, none⟩ (.int .i64 V) (by show Gd ≠ Gs; exact ne_d_s))
              have Hs := Lib.hid ((Hs.out.set0 U).set1 V)
              refine hK.out _ _ (Below.setCell (Below.setCell hHeld (p := ⟨Gs, 0, none⟩) le_s _) (p := ⟨Gs, 1, none⟩) le_s _) (fun hHeld2 => ?_); (clear hHeld; rename _ => hHeld; clear hK K; have hHeld : Below wB.heap.size wB _ := hHeld); (try simp only [Act.put, List.getElem_toArray, List.getElem_cons_succ, List.getElem_cons_zero, List.setIfInBounds_toArray, List.set_cons_zero, List.set_cons_succ])
              obtain ⟨yw6, hwx⟩ : ∃ wx, (yw5.setCell ⟨Gs, 0, none⟩ (.int .i64 U)).setCell ⟨Gs, 1, none⟩ (.int .i64 V) = wx := ⟨_, rfl⟩; rw [hwx] at Hs Hd hHeld ⊢; clear hwx
              refine wpAnyH_ready (rs := [11]) (by kernel_rfl) (by simp) ?_; refine AllReadyH.cons rfl (fun K hK => ?_) AllReadyH.nil
              obtain ⟨⟨a0, a1⟩, ⟨f0, f1⟩, az⟩ := Hd.out; go_simp; clear a0 f0 a1 f1 az
              have Hs := Lib.hid ((Hs.out.far ⟨Gd, 0, none⟩ (.int .i64 D) (by show Gs ≠ Gd; exact ne_s_d)).far ⟨Gd, 1, none⟩ (.int .i64 E) (by show Gs ≠ Gd; exact ne_s_d))
              have Hd := Lib.hid ((Hd.out.set0 D).set1 E)
              refine hK.out _ _ (Below.setCell (Below.setCell hHeld (p := ⟨Gd, 0, none⟩) le_d _) (p := ⟨Gd, 1, none⟩) le_d _) (fun hHeld2 => ?_); (clear hHeld; rename _ => hHeld; clear hK K; have hHeld : Below wB.heap.size wB _ := hHeld); (try simp only [Act.put, List.getElem_toArray, List.getElem_cons_succ, List.getElem_cons_zero, List.setIfInBounds_toArray, List.set_cons_zero, List.set_cons_succ])
              obtain ⟨yw7, hwx⟩ : ∃ wx, (yw6.setCell ⟨Gd, 0, none⟩ (.int .i64 D)).setCell ⟨Gd, 1, none⟩ (.int .i64 E) = wx := ⟨_, rfl⟩; rw [hwx] at Hs Hd hHeld ⊢; clear hwx
              refine wpAnyH_done (by kernel_rfl) ?_ _
              go_wp2_with fail
              go_meet
              exact ⟨Gs, Gd, rfl, rfl, Hs.out, Hd.out, by first | exact ne_s_d | exact Ne.symm ne_d_s, le_s, le_d, hHeld⟩
            · skip
              go_simp; obtain ⟨Gd, hGd⟩ : ∃ G, yw3.heap.size = G := ⟨_, rfl⟩; have le_d : wB.heap.size ≤ Gd := by rw [← hGd]; exact Below.size hHeld
              have ne_d_s : Gd ≠ Gs := by have := Hs.out.2.2; omega
              have ne_s_d : Gs ≠ Gd := Ne.symm ne_d_s
              have Hs := Lib.hid (Hs.out.below ((Below.refl _ _).alloc (Nat.le_refl _) (.cells #[.int .i64 0, .int .i64 0] 25))); skip
              have Hd : Hid (Bk2 (yw3.alloc (.cells #[.int .i64 0, .int .i64 0] 25)) Gd 0 0) := by rw [← hGd]; exact bk2_new yw3 0 0 _
              refine hK.out _ _ (Below.alloc hHeld (Below.size hHeld) _) (fun hHeld2 => ?_); (clear hHeld; rename _ => hHeld; clear hK K; have hHeld : Below wB.heap.size wB _ := hHeld); (try simp only [Act.put, List.getElem_toArray, List.getElem_cons_succ, List.getElem_cons_zero, List.setIfInBounds_toArray, List.set_cons_zero, List.set_cons_succ])
              rw [hGd]; clear hGd; obtain ⟨yw4, hwx⟩ : ∃ wx, yw3.alloc (.cells #[.int .i64 0, .int .i64 0] 25) = wx := ⟨_, rfl⟩; rw [hwx] at Hs Hd hHeld ⊢; clear hwx
              refine wpAnyH_ready (rs := [7]) (by kernel_rfl) (by simp) ?_; refine AllReadyH.cons rfl (fun K hK => ?_) AllReadyH.nil
              go_simp; (go_at_call 49; refine (HT2.out _).mono ?_; rintro en yw5 ⟨rfl, hb2⟩); have Hs := Lib.hid (Hs.out.below hb2); have Hd := Lib.hid (Hd.out.below hb2); refine hK.out _ _ (below_after hb2 hHeld) (fun hHeld2 => ?_); clear hb2; (clear hHeld; rename _ => hHeld; clear hK K; have hHeld : Below wB.heap.size wB _ := hHeld); (try simp only [Act.put, List.getElem_toArray, List.getElem_cons_succ, List.getElem_cons_zero, List.setIfInBounds_toArray, List.set_cons_zero, List.set_cons_succ])
              refine wpAnyH_ready (rs := [10]) (by kernel_rfl) (by simp) ?_; refine AllReadyH.cons rfl (fun K hK => ?_) AllReadyH.nil
              obtain ⟨⟨a0, a1⟩, ⟨f0, f1⟩, az⟩ := Hs.out; go_simp; clear a0 f0 a1 f1 az
              have Hd := Lib.hid ((Hd.out.far ⟨Gs, 0, none⟩ (.int .i64 U) (by show Gd ≠ Gs; exact ne_d_s)).far ⟨Gs, 1, none⟩ (.int .i64 V) (by show Gd ≠ Gs; exact ne_d_s))
              have Hs := Lib.hid ((Hs.out.set0 U).set1 V)
              refine hK.out _ _ (Below.setCell (Below.setCell hHeld (p := ⟨Gs, 0, none⟩) le_s _) (p := ⟨Gs, 1, none⟩) le_s _) (fun hHeld2 => ?_); (clear hHeld; rename _ => hHeld; clear hK K; have hHeld : Below wB.heap.size wB _ := hHeld); (try simp only [Act.put, List.getElem_toArray, List.getElem_cons_succ, List.getElem_cons_zero, List.setIfInBounds_toArray, List.set_cons_zero, List.set_cons_succ])
              obtain ⟨yw6, hwx⟩ : ∃ wx, (yw5.setCell ⟨Gs, 0, none⟩ (.int .i64 U)).setCell ⟨Gs, 1, none⟩ (.int .i64 V) = wx := ⟨_, rfl⟩; rw [hwx] at Hs Hd hHeld ⊢; clear hwx
              refine wpAnyH_ready (rs := [11]) (by kernel_rfl) (by simp) ?_; refine AllReadyH.cons rfl (fun K hK => ?_) AllReadyH.nil
              obtain ⟨⟨a0, a1⟩, ⟨f0, f1⟩, az⟩ := Hd.out; go_simp; clear a0 f0 a1 f1 az
              have Hs := Lib.hid ((Hs.out.far ⟨Gd, 0, none⟩ (.int .i64 D) (by show Gs ≠ Gd; exact ne_s_d)).far ⟨Gd, 1, none⟩ (.int .i64 E) (by show Gs ≠ Gd; exact ne_s_d))
              have Hd := Lib.hid ((Hd.out.set0 D).set1 E)
              refine hK.out _ _ (Below.setCell (Below.setCell hHeld (p := ⟨Gd, 0, none⟩) le_d _) (p := ⟨Gd, 1, none⟩) le_d _) (fun hHeld2 => ?_); (clear hHeld; rename _ => hHeld; clear hK K; have hHeld : Below wB.heap.size wB _ := hHeld); (try simp only [Act.put, List.getElem_toArray, List.getElem_cons_succ, List.getElem_cons_zero, List.setIfInBounds_toArray, List.set_cons_zero, List.set_cons_succ])
              obtain ⟨yw7, hwx⟩ : ∃ wx, (yw6.setCell ⟨Gd, 0, none⟩ (.int .i64 D)).setCell ⟨Gd, 1, none⟩ (.int .i64 E) = wx := ⟨_, rfl⟩; rw [hwx] at Hs Hd hHeld ⊢; clear hwx
              refine wpAnyH_done (by kernel_rfl) ?_ _
              go_wp2_with fail
              go_meet
              exact ⟨Gs, Gd, rfl, rfl, Hs.out, Hd.out, by first | exact ne_s_d | exact Ne.symm ne_d_s, le_s, le_d, hHeld⟩
          · skip
            go_simp; obtain ⟨Gd, hGd⟩ : ∃ G, yw2.heap.size = G := ⟨_, rfl⟩; have le_d : wB.heap.size ≤ Gd := by rw [← hGd]; exact Below.size hHeld
            have Hd : Hid (Bk2 (yw2.alloc (.cells #[.int .i64 0, .int .i64 0] 25)) Gd 0 0) := by rw [← hGd]; exact bk2_new yw2 0 0 _
            refine hK.out _ _ (Below.alloc hHeld (Below.size hHeld) _) (fun hHeld2 => ?_); (clear hHeld; rename _ => hHeld; clear hK K; have hHeld : Below wB.heap.size wB _ := hHeld); (try simp only [Act.put, List.getElem_toArray, List.getElem_cons_succ, List.getElem_cons_zero, List.setIfInBounds_toArray, List.set_cons_zero, List.set_cons_succ])
            rw [hGd]; clear hGd; obtain ⟨yw3, hwx⟩ : ∃ wx, yw2.alloc (.cells #[.int .i64 0, .int .i64 0] 25) = wx := ⟨_, rfl⟩; rw [hwx] at Hd hHeld ⊢; clear hwx
            refine wpAnyH_ready (rs := [7, 8]) (by kernel_rfl) (by simp) ?_; refine AllReadyH.cons rfl (fun K hK => ?_) (AllReadyH.cons rfl (fun K hK => ?_) AllReadyH.nil)
            · skip
              go_simp; (go_at_call 49; refine (HT2.out _).mono ?_; rintro en yw4 ⟨rfl, hb2⟩); have Hd := Lib.hid (Hd.out.below hb2); refine hK.out _ _ (below_after hb2 hHeld) (fun hHeld2 => ?_); clear hb2; (clear hHeld; rename _ => hHeld; clear hK K; have hHeld : Below wB.heap.size wB _ := hHeld); (try simp only [Act.put, List.getElem_toArray, List.getElem_cons_succ, List.getElem_cons_zero, List.setIfInBounds_toArray, List.set_cons_zero, List.set_cons_succ])
              refine wpAnyH_ready (rs := [8]) (by kernel_rfl) (by simp) ?_; refine AllReadyH.cons rfl (fun K hK => ?_) AllReadyH.nil
              go_simp; obtain ⟨Gs, hGs⟩ : ∃ G, yw4.heap.size = G := ⟨_, rfl⟩; have le_s : wB.heap.size ≤ Gs := by rw [← hGs]; exact Below.size hHeld
              have ne_s_d : Gs ≠ Gd := by have := Hd.out.2.2; omega
              have ne_d_s : Gd ≠ Gs := Ne.symm ne_s_d
              have Hd := Lib.hid (Hd.out.below ((Below.refl _ _).alloc (Nat.le_refl _) (.cells #[.int .i64 0, .int .i64 0] 25))); skip
              have Hs : Hid (Bk2 (yw4.alloc (.cells #[.int .i64 0, .int .i64 0] 25)) Gs 0 0) := by rw [← hGs]; exact bk2_new yw4 0 0 _
              refine hK.out _ _ (Below.alloc hHeld (Below.size hHeld) _) (fun hHeld2 => ?_); (clear hHeld; rename _ => hHeld; clear hK K; have hHeld : Below wB.heap.size wB _ := hHeld); (try simp only [Act.put, List.getElem_toArray, List.getElem_cons_succ, List.getElem_cons_zero, List.setIfInBounds_toArray, List.set_cons_zero, List.set_cons_succ])
              rw [hGs]; clear hGs; obtain ⟨yw5, hwx⟩ : ∃ wx, yw4.alloc (.cells #[.int .i64 0, .int .i64 0] 25) = wx := ⟨_, rfl⟩; rw [hwx] at Hd Hs hHeld ⊢; clear hwx
              refine wpAnyH_ready (rs := [10]) (by kernel_rfl) (by simp) ?_; refine AllReadyH.cons rfl (fun K hK => ?_) AllReadyH.nil
              obtain ⟨⟨a0, a1⟩, ⟨f0, f1⟩, az⟩ := Hs.out; go_simp; clear a0 f0 a1 f1 az
              have Hd := Lib.hid ((Hd.out.far ⟨Gs, 0, none⟩ (.int .i64 U) (by show Gd ≠ Gs; exact ne_d_s)).far ⟨Gs, 1, none⟩ (.int .i64 V) (by show Gd ≠ Gs; exact ne_d_s))
              have Hs := Lib.hid ((Hs.out.set0 U).set1 V)
              refine hK.out _ _ (Below.setCell (Below.setCell hHeld (p := ⟨Gs, 0, none⟩) le_s _) (p := ⟨Gs, 1, none⟩) le_s _) (fun hHeld2 => ?_); (clear hHeld; rename _ => hHeld; clear hK K; have hHeld : Below wB.heap.size wB _ := hHeld); (try simp only [Act.put, List.getElem_toArray, List.getElem_cons_succ, List.getElem_cons_zero, List.setIfInBounds_toArray, List.set_cons_zero, List.set_cons_succ])
              obtain ⟨yw6, hwx⟩ : ∃ wx, (yw5.setCell ⟨Gs, 0, none⟩ (.int .i64 U)).setCell ⟨Gs, 1, none⟩ (.int .i64 V) = wx := ⟨_, rfl⟩; rw [hwx] at Hd Hs hHeld ⊢; clear hwx
              refine wpAnyH_ready (rs := [11]) (by kernel_rfl) (by simp) ?_; refine AllReadyH.cons rfl (fun K hK => ?_) AllReadyH.nil
              obtain ⟨⟨a0, a1⟩, ⟨f0, f1⟩, az⟩ := Hd.out; go_simp; clear a0 f0 a1 f1 az
              have Hs := Lib.hid ((Hs.out.far ⟨Gd, 0, none⟩ (.int .i64 D) (by show Gs ≠ Gd; exact ne_s_d)).far ⟨Gd, 1, none⟩ (.int .i64 E) (by show Gs ≠ Gd; exact ne_s_d))
              have Hd := Lib.hid ((Hd.out.set0 D).set1 E)
              refine hK.out _ _ (Below.setCell (Below.setCell hHeld (p := ⟨Gd, 0, none⟩) le_d _) (p := ⟨Gd, 1, none⟩) le_d _) (fun hHeld2 => ?_); (clear hHeld; rename _ => hHeld; clear hK K; have hHeld : Below wB.heap.size wB _ := hHeld); (try simp only [Act.put, List.getElem_toArray, List.getElem_cons_succ, List.getElem_cons_zero, List.setIfInBounds_toArray, List.set_cons_zero, List.set_cons_succ])
              obtain ⟨yw7, hwx⟩ : ∃ wx, (yw6.setCell ⟨Gd, 0, none⟩ (.int .i64 D)).setCell ⟨Gd, 1, none⟩ (.int .i64 E) = wx := ⟨_, rfl⟩; rw [hwx] at Hd Hs hHeld ⊢; clear hwx
              refine wpAnyH_done (by kernel_rfl) ?_ _
              go_wp2_with fail
              go_meet
              exact ⟨Gs, Gd, rfl, rfl, Hs.out, Hd.out, by first | exact ne_s_d | exact Ne.symm ne_d_s, le_s, le_d, hHeld⟩
            · skip
              go_simp; obtain ⟨Gs, hGs⟩ : ∃ G, yw3.heap.size = G := ⟨_, rfl⟩; have le_s : wB.heap.size ≤ Gs := by rw [← hGs]; exact Below.size hHeld
              have ne_s_d : Gs ≠ Gd := by have := Hd.out.2.2; omega
              have ne_d_s : Gd ≠ Gs := Ne.symm ne_s_d
              have Hd := Lib.hid (Hd.out.below ((Below.refl _ _).alloc (Nat.le_refl _) (.cells #[.int .i64 0, .int .i64 0] 25))); skip
              have Hs : Hid (Bk2 (yw3.alloc (.cells #[.int .i64 0, .int .i64 0] 25)) Gs 0 0) := by rw [← hGs]; exact bk2_new yw3 0 0 _
              refine hK.out _ _ (Below.alloc hHeld (Below.size hHeld) _) (fun hHeld2 => ?_); (clear hHeld; rename _ => hHeld; clear hK K; have hHeld : Below wB.heap.size wB _ := hHeld); (try simp only [Act.put, List.getElem_toArray, List.getElem_cons_succ, List.getElem_cons_zero, List.setIfInBounds_toArray, List.set_cons_zero, List.set_cons_succ])
              rw [hGs]; clear hGs; obtain ⟨yw4, hwx⟩ : ∃ wx, yw3.alloc (.cells #[.int .i64 0, .int .i64 0] 25) = wx := ⟨_, rfl⟩; rw [hwx] at Hd Hs hHeld ⊢; clear hwx
              refine wpAnyH_ready (rs := [7]) (by kernel_rfl) (by simp) ?_; refine AllReadyH.cons rfl (fun K hK => ?_) AllReadyH.nil
              go_simp; (go_at_call 49; refine (HT2.out _).mono ?_; rintro en yw5 ⟨rfl, hb2⟩); have Hd := Lib.hid (Hd.out.below hb2); have Hs := Lib.hid (Hs.out.below hb2); refine hK.out _ _ (below_after hb2 hHeld) (fun hHeld2 => ?_); clear hb2; (clear hHeld; rename _ => hHeld; clear hK K; have hHeld : Below wB.heap.size wB _ := hHeld); (try simp only [Act.put, List.getElem_toArray, List.getElem_cons_succ, List.getElem_cons_zero, List.setIfInBounds_toArray, List.set_cons_zero, List.set_cons_succ])
              refine wpAnyH_ready (rs := [10]) (by kernel_rfl) (by simp) ?_; refine AllReadyH.cons rfl (fun K hK => ?_) AllReadyH.nil
              obtain ⟨⟨a0, a1⟩, ⟨f0, f1⟩, az⟩ := Hs.out; go_simp; clear a0 f0 a1 f1 az
              have Hd := Lib.hid ((Hd.out.far ⟨Gs, 0, none⟩ (.int .i64 U) (by show Gd ≠ Gs; exact ne_d_s)).far ⟨Gs, 1, none⟩ (.int .i64 V) (by show Gd ≠ Gs; exact ne_d_s))
              have Hs := Lib.hid ((Hs.out.set0 U).set1 V)
              refine hK.out _ _ (Below.setCell (Below.setCell hHeld (p := ⟨Gs, 0, none⟩) le_s _) (p := ⟨Gs, 1, none⟩) le_s _) (fun hHeld2 => ?_); (clear hHeld; rename _ => hHeld; clear hK K; have hHeld : Below wB.heap.size wB _ := hHeld); (try simp only [Act.put, List.getElem_toArray, List.getElem_cons_succ, List.getElem_cons_zero, List.setIfInBounds_toArray, List.set_cons_zero, List.set_cons_succ])
              obtain ⟨yw6, hwx⟩ : ∃ wx, (yw5.setCell ⟨Gs, 0, none⟩ (.int .i64 U)).setCell ⟨Gs, 1, none⟩ (.int .i64 V) = wx := ⟨_, rfl⟩; rw [hwx] at Hd Hs hHeld ⊢; clear hwx
              refine wpAnyH_ready (rs := [11]) (by kernel_rfl) (by simp) ?_; refine AllReadyH.cons rfl (fun K hK => ?_) AllReadyH.nil
              obtain ⟨⟨a0, a1⟩, ⟨f0, f1⟩, az⟩ := Hd.out; go_simp; clear a0 f0 a1 f1 az
              have Hs := Lib.hid ((Hs.out.far ⟨Gd, 0, none⟩ (.int .i64 D) (by show Gs ≠ Gd; exact ne_s_d)).far ⟨Gd, 1, none⟩ (.int .i64 E) (by show Gs ≠ Gd; exact ne_s_d))
              have Hd := Lib.hid ((Hd.out.set0 D).set1 E)
              refine hK.out _ _ (Below.setCell (Below.setCell hHeld (p := ⟨Gd, 0, none⟩) le_d _) (p := ⟨Gd, 1, none⟩) le_d _) (fun hHeld2 => ?_); (clear hHeld; rename _ => hHeld; clear hK K; have hHeld : Below wB.heap.size wB _ := hHeld); (try simp only [Act.put, List.getElem_toArray, List.getElem_cons_succ, List.getElem_cons_zero, List.setIfInBounds_toArray, List.set_cons_zero, List.set_cons_succ])
              obtain ⟨yw7, hwx⟩ : ∃ wx, (yw6.setCell ⟨Gd, 0, none⟩ (.int .i64 D)).setCell ⟨Gd, 1, none⟩ (.int .i64 E) = wx := ⟨_, rfl⟩; rw [hwx] at Hd Hs hHeld ⊢; clear hwx
              refine wpAnyH_done (by kernel_rfl) ?_ _
              go_wp2_with fail
              go_meet
              exact ⟨Gs, Gd, rfl, rfl, Hs.out, Hd.out, by first | exact ne_s_d | exact Ne.symm ne_d_s, le_s, le_d, hHeld⟩
        · skip
          go_simp; obtain ⟨Gs, hGs⟩ : ∃ G, yw1.heap.size = G := ⟨_, rfl⟩; have le_s : wB.heap.size ≤ Gs := by rw [← hGs]; exact Below.size hHeld
          have Hs : Hid (Bk2 (yw1.alloc (.cells #[.int .i64 0, .int .i64 0] 25)) Gs 0 0) := by rw [← hGs]; exact bk2_new yw1 0 0 _
          refine hK.out _ _ (Below.alloc hHeld (Below.size hHeld) _) (fun hHeld2 => ?_); (clear hHeld; rename _ => hHeld; clear hK K; have hHeld : Below wB.heap.size wB _ := hHeld); (try simp only [Act.put, List.getElem_toArray, List.getElem_cons_succ, List.getElem_cons_zero, List.setIfInBounds_toArray, List.set_cons_zero, List.set_cons_succ])
          rw [hGs]; clear hGs; obtain ⟨yw2, hwx⟩ : ∃ wx, yw1.alloc (.cells #[.int .i64 0, .int .i64 0] 25) = wx := ⟨_, rfl⟩; rw [hwx] at Hs hHeld ⊢; clear hwx
          refine wpAnyH_ready (rs := [6, 9]) (by kernel_rfl) (by simp) ?_; refine AllReadyH.cons rfl (fun K hK => ?_) (AllReadyH.cons rfl (fun K hK => ?_) AllReadyH.nil)
          · skip
            go_simp; (go_at_call 50; refine (HP2.out _).mono ?_; rintro en yw3 ⟨rfl, hb2⟩); have Hs := Lib.hid (Hs.out.below hb2); refine hK.out _ _ (below_after hb2 hHeld) (fun hHeld2 => ?_); clear hb2; (clear hHeld; rename _ => hHeld; clear hK K; have hHeld : Below wB.heap.size wB _ := hHeld); (try simp only [Act.put, List.getElem_toArray, List.getElem_cons_succ, List.getElem_cons_zero, List.setIfInBounds_toArray, List.set_cons_zero, List.set_cons_succ])
            refine wpAnyH_ready (rs := [7, 9]) (by kernel_rfl) (by simp) ?_; refine AllReadyH.cons rfl (fun K hK => ?_) (AllReadyH.cons rfl (fun K hK => ?_) AllReadyH.nil)
            · skip
              go_simp; (go_at_call 49; refine (HT2.out _).mono ?_; rintro en yw4 ⟨rfl, hb2⟩); have Hs := Lib.hid (Hs.out.below hb2); refine hK.out _ _ (below_after hb2 hHeld) (fun hHeld2 => ?_); clear hb2; (clear hHeld; rename _ => hHeld; clear hK K; have hHeld : Below wB.heap.size wB _ := hHeld); (try simp only [Act.put, List.getElem_toArray, List.getElem_cons_succ, List.getElem_cons_zero, List.setIfInBounds_toArray, List.set_cons_zero, List.set_cons_succ])
              refine wpAnyH_ready (rs := [9]) (by kernel_rfl) (by simp) ?_; refine AllReadyH.cons rfl (fun K hK => ?_) AllReadyH.nil
              go_simp; obtain ⟨Gd, hGd⟩ : ∃ G, yw4.heap.size = G := ⟨_, rfl⟩; have le_d : wB.heap.size ≤ Gd := by rw [← hGd]; exact Below.size hHeld
              have ne_d_s : Gd ≠ Gs := by have := Hs.out.2.2; omega
              have ne_s_d : Gs ≠ Gd := Ne.symm ne_d_s
              have Hs := Lib.hid (Hs.out.below ((Below.refl _ _).alloc (Nat.le_refl _) (.cells #[.int .i64 0, .int .i64 0] 25))); skip
              have Hd : Hid (Bk2 (yw4.alloc (.cells #[.int .i64 0, .int .i64 0] 25)) Gd 0 0) := by rw [← hGd]; exact bk2_new yw4 0 0 _
              refine hK.out _ _ (Below.alloc hHeld (Below.size hHeld) _) (fun hHeld2 => ?_); (clear hHeld; rename _ => hHeld; clear hK K; have hHeld : Below wB.heap.size wB _ := hHeld); (try simp only [Act.put, List.getElem_toArray, List.getElem_cons_succ, List.getElem_cons_zero, List.setIfInBounds_toArray, List.set_cons_zero, List.set_cons_succ])
              rw [hGd]; clear hGd; obtain ⟨yw5, hwx⟩ : ∃ wx, yw4.alloc (.cells #[.int .i64 0, .int .i64 0] 25) = wx := ⟨_, rfl⟩; rw [hwx] at Hs Hd hHeld ⊢; clear hwx
              refine wpAnyH_ready (rs := [10]) (by kernel_rfl) (by simp) ?_; refine AllReadyH.cons rfl (fun K hK => ?_) AllReadyH.nil
              obtain ⟨⟨a0, a1⟩, ⟨f0, f1⟩, az⟩ := Hs.out; go_simp; clear a0 f0 a1 f1 az
              have Hd := Lib.hid ((Hd.out.far ⟨Gs, 0, none⟩ (.int .i64 U) (by show Gd ≠ Gs; exact ne_d_s)).far ⟨Gs, 1, none⟩ (.int .i64 V) (by show Gd ≠ Gs; exact ne_d_s))
              have Hs := Lib.hid ((Hs.out.set0 U).set1 V)
              refine hK.out _ _ (Below.setCell (Below.setCell hHeld (p := ⟨Gs, 0, none⟩) le_s _) (p := ⟨Gs, 1, none⟩) le_s _) (fun hHeld2 => ?_); (clear hHeld; rename _ => hHeld; clear hK K; have hHeld : Below wB.heap.size wB _ := hHeld); (try simp only [Act.put, List.getElem_toArray, List.getElem_cons_succ, List.getElem_cons_zero, List.setIfInBounds_toArray, List.set_cons_zero, List.set_cons_succ])
              obtain ⟨yw6, hwx⟩ : ∃ wx, (yw5.setCell ⟨Gs, 0, none⟩ (.int .i64 U)).setCell ⟨Gs, 1, none⟩ (.int .i64 V) = wx := ⟨_, rfl⟩; rw [hwx] at Hs Hd hHeld ⊢; clear hwx
              refine wpAnyH_ready (rs := [11]) (by kernel_rfl) (by simp) ?_; refine AllReadyH.cons rfl (fun K hK => ?_) AllReadyH.nil
              obtain ⟨⟨a0, a1⟩, ⟨f0, f1⟩, az⟩ := Hd.out; go_simp; clear a0 f0 a1 f1 az
              have Hs := Lib.hid ((Hs.out.far ⟨Gd, 0, none⟩ (.int .i64 D) (by show Gs ≠ Gd; exact ne_s_d)).far ⟨Gd, 1, none⟩ (.int .i64 E) (by show Gs ≠ Gd; exact ne_s_d))
              have Hd := Lib.hid ((Hd.out.set0 D).set1 E)
              refine hK.out _ _ (Below.setCell (Below.setCell hHeld (p := ⟨Gd, 0, none⟩) le_d _) (p := ⟨Gd, 1, none⟩) le_d _) (fun hHeld2 => ?_); (clear hHeld; rename _ => hHeld; clear hK K; have hHeld : Below wB.heap.size wB _ := hHeld); (try simp only [Act.put, List.getElem_toArray, List.getElem_cons_succ, List.getElem_cons_zero, List.setIfInBounds_toArray, List.set_cons_zero, List.set_cons_succ])
              obtain ⟨yw7, hwx⟩ : ∃ wx, (yw6.setCell ⟨Gd, 0, none⟩ (.int .i64 D)).setCell ⟨Gd, 1, none⟩ (.int .i64 E) = wx := ⟨_, rfl⟩; rw [hwx] at Hs Hd hHeld ⊢; clear hwx
              refine wpAnyH_done (by kernel_rfl) ?_ _
              go_wp2_with fail
              go_meet
              exact ⟨Gs, Gd, rfl, rfl, Hs.out, Hd.out, by first | exact ne_s_d | exact Ne.symm ne_d_s, le_s, le_d, hHeld⟩
            · skip
              go_simp; obtain ⟨Gd, hGd⟩ : ∃ G, yw3.heap.size = G := ⟨_, rfl⟩; have le_d : wB.heap.size ≤ Gd := by rw [← hGd]; exact Below.size hHeld
              have ne_d_s : Gd ≠ Gs := by have := Hs.out.2.2; omega
              have ne_s_d : Gs ≠ Gd := Ne.symm ne_d_s
              have Hs := Lib.hid (Hs.out.below ((Below.refl _ _).alloc (Nat.le_refl _) (.cells #[.int .i64 0, .int .i64 0] 25))); skip
              have Hd : Hid (Bk2 (yw3.alloc (.cells #[.int .i64 0, .int .i64 0] 25)) Gd 0 0) := by rw [← hGd]; exact bk2_new yw3 0 0 _
              refine hK.out _ _ (Below.alloc hHeld (Below.size hHeld) _) (fun hHeld2 => ?_); (clear hHeld; rename _ => hHeld; clear hK K; have hHeld : Below wB.heap.size wB _ := hHeld); (try simp only [Act.put, List.getElem_toArray, List.getElem_cons_succ, List.getElem_cons_zero, List.setIfInBounds_toArray, List.set_cons_zero, List.set_cons_succ])
              rw [hGd]; clear hGd; obtain ⟨yw4, hwx⟩ : ∃ wx, yw3.alloc (.cells #[.int .i64 0, .int .i64 0] 25) = wx := ⟨_, rfl⟩; rw [hwx] at Hs Hd hHeld ⊢; clear hwx
              refine wpAnyH_ready (rs := [7]) (by kernel_rfl) (by simp) ?_; refine AllReadyH.cons rfl (fun K hK => ?_) AllReadyH.nil
              go_simp; (go_at_call 49; refine (HT2.out _).mono ?_; rintro en yw5 ⟨rfl, hb2⟩); have Hs := Lib.hid (Hs.out.below hb2); have Hd := Lib.hid (Hd.out.below hb2); refine hK.out _ _ (below_after hb2 hHeld) (fun hHeld2 => ?_); clear hb2; (clear hHeld; rename _ => hHeld; clear hK K; have hHeld : Below wB.heap.size wB _ := hHeld); (try simp only [Act.put, List.getElem_toArray, List.getElem_cons_succ, List.getElem_cons_zero, List.setIfInBounds_toArray, List.set_cons_zero, List.set_cons_succ])
              refine wpAnyH_ready (rs := [10]) (by kernel_rfl) (by simp) ?_; refine AllReadyH.cons rfl (fun K hK => ?_) AllReadyH.nil
              obtain ⟨⟨a0, a1⟩, ⟨f0, f1⟩, az⟩ := Hs.out; go_simp; clear a0 f0 a1 f1 az
              have Hd := Lib.hid ((Hd.out.far ⟨Gs, 0, none⟩ (.int .i64 U) (by show Gd ≠ Gs; exact ne_d_s)).far ⟨Gs, 1, none⟩ (.int .i64 V) (by show Gd ≠ Gs; exact ne_d_s))
              have Hs := Lib.hid ((Hs.out.set0 U).set1 V)
              refine hK.out _ _ (Below.setCell (Below.setCell hHeld (p := ⟨Gs, 0, none⟩) le_s _) (p := ⟨Gs, 1, none⟩) le_s _) (fun hHeld2 => ?_); (clear hHeld; rename _ => hHeld; clear hK K; have hHeld : Below wB.heap.size wB _ := hHeld); (try simp only [Act.put, List.getElem_toArray, List.getElem_cons_succ, List.getElem_cons_zero, List.setIfInBounds_toArray, List.set_cons_zero, List.set_cons_succ])
              obtain ⟨yw6, hwx⟩ : ∃ wx, (yw5.setCell ⟨Gs, 0, none⟩ (.int .i64 U)).setCell ⟨Gs, 1, none⟩ (.int .i64 V) = wx := ⟨_, rfl⟩; rw [hwx] at Hs Hd hHeld ⊢; clear hwx
              refine wpAnyH_ready (rs := [11]) (by kernel_rfl) (by simp) ?_; refine AllReadyH.cons rfl (fun K hK => ?_) AllReadyH.nil
              obtain ⟨⟨a0, a1⟩, ⟨f0, f1⟩, az⟩ := Hd.out; go_simp; clear a0 f0 a1 f1 az
              have Hs := Lib.hid ((Hs.out.far ⟨Gd, 0, none⟩ (.int .i64 D) (by show Gs ≠ Gd; exact ne_s_d)).far ⟨Gd, 1, none⟩ (.int .i64 E) (by show Gs ≠ Gd; exact ne_s_d))
              have Hd := Lib.hid ((Hd.out.set0 D).set1 E)
              refine hK.out _ _ (Below.setCell (Below.setCell hHeld (p := ⟨Gd, 0, none⟩) le_d _) (p := ⟨Gd, 1, none⟩) le_d _) (fun hHeld2 => ?_); (clear hHeld; rename _ => hHeld; clear hK K; have hHeld : Below wB.heap.size wB _ := hHeld); (try simp only [Act.put, List.getElem_toArray, List.getElem_cons_succ, List.getElem_cons_zero, List.setIfInBounds_toArray, List.set_cons_zero, List.set_cons_succ])
              obtain ⟨yw7, hwx⟩ : ∃ wx, (yw6.setCell ⟨Gd, 0, none⟩ (.int .i64 D)).setCell ⟨Gd, 1, none⟩ (.int .i64 E) = wx := ⟨_, rfl⟩; rw [hwx] at Hs Hd hHeld ⊢; clear hwx
              refine wpAnyH_done (by kernel_rfl) ?_ _
              go_wp2_with fail
              go_meet
              exact ⟨Gs, Gd, rfl, rfl, Hs.out, Hd.out, by first | exact ne_s_d | exact Ne.symm ne_d_s, le_s, le_d, hHeld⟩
          · skip
            go_simp; obtain ⟨Gd, hGd⟩ : ∃ G, yw2.heap.size = G := ⟨_, rfl⟩; have le_d : wB.heap.size ≤ Gd := by rw [← hGd]; exact Below.size hHeld
            have ne_d_s : Gd ≠ Gs := by have := Hs.out.2.2; omega
            have ne_s_d : Gs ≠ Gd := Ne.symm ne_d_s
            have Hs := Lib.hid (Hs.out.below ((Below.refl _ _).alloc (Nat.le_refl _) (.cells #[.int .i64 0, .int .i64 0] 25))); skip
            have Hd : Hid (Bk2 (yw2.alloc (.cells #[.int .i64 0, .int .i64 0] 25)) Gd 0 0) := by rw [← hGd]; exact bk2_new yw2 0 0 _
            refine hK.out _ _ (Below.alloc hHeld (Below.size hHeld) _) (fun hHeld2 => ?_); (clear hHeld; rename _ => hHeld; clear hK K; have hHeld : Below wB.heap.size wB _ := hHeld); (try simp only [Act.put, List.getElem_toArray, List.getElem_cons_succ, List.getElem_cons_zero, List.setIfInBounds_toArray, List.set_cons_zero, List.set_cons_succ])
            rw [hGd]; clear hGd; obtain ⟨yw3, hwx⟩ : ∃ wx, yw2.alloc (.cells #[.int .i64 0, .int .i64 0] 25) = wx := ⟨_, rfl⟩; rw [hwx] at Hs Hd hHeld ⊢; clear hwx
            refine wpAnyH_ready (rs := [6]) (by kernel_rfl) (by simp) ?_; refine AllReadyH.cons rfl (fun K hK => ?_) AllReadyH.nil
            go_simp; (go_at_call 50; refine (HP2.out _).mono ?_; rintro en yw4 ⟨rfl, hb2⟩); have Hs := Lib.hid (Hs.out.below hb2); have Hd := Lib.hid (Hd.out.below hb2); refine hK.out _ _ (below_after hb2 hHeld) (fun hHeld2 => ?_); clear hb2; (clear hHeld; rename _ => hHeld; clear hK K; have hHeld : Below wB.heap.size wB _ := hHeld); (try simp only [Act.put, List.getElem_toArray, List.getElem_cons_succ, List.getElem_cons_zero, List.setIfInBounds_toArray, List.set_cons_zero, List.set_cons_succ])
            refine wpAnyH_ready (rs := [7]) (by kernel_rfl) (by simp) ?_; refine AllReadyH.cons rfl (fun K hK => ?_) AllReadyH.nil
            go_simp; (go_at_call 49; refine (HT2.out _).mono ?_; rintro en yw5 ⟨rfl, hb2⟩); have Hs := Lib.hid (Hs.out.below hb2); have Hd := Lib.hid (Hd.out.below hb2); refine hK.out _ _ (below_after hb2 hHeld) (fun hHeld2 => ?_); clear hb2; (clear hHeld; rename _ => hHeld; clear hK K; have hHeld : Below wB.heap.size wB _ := hHeld); (try simp only [Act.put, List.getElem_toArray, List.getElem_cons_succ, List.getElem_cons_zero, List.setIfInBounds_toArray, List.set_cons_zero, List.set_cons_succ])
            refine wpAnyH_ready (rs := [10]) (by kernel_rfl) (by simp) ?_; refine AllReadyH.cons rfl (fun K hK => ?_) AllReadyH.nil
            obtain ⟨⟨a0, a1⟩, ⟨f0, f1⟩, az⟩ := Hs.out; go_simp; clear a0 f0 a1 f1 az
            have Hd := Lib.hid ((Hd.out.far ⟨Gs, 0, none⟩ (.int .i64 U) (by show Gd ≠ Gs; exact ne_d_s)).far ⟨Gs, 1, none⟩ (.int .i64 V) (by show Gd ≠ Gs; exact ne_d_s))
            have Hs := Lib.hid ((Hs.out.set0 U).set1 V)
            refine hK.out _ _ (Below.setCell (Below.setCell hHeld (p := ⟨Gs, 0, none⟩) le_s _) (p := ⟨Gs, 1, none⟩) le_s _) (fun hHeld2 => ?_); (clear hHeld; rename _ => hHeld; clear hK K; have hHeld : Below wB.heap.size wB _ := hHeld); (try simp only [Act.put, List.getElem_toArray, List.getElem_cons_succ, List.getElem_cons_zero, List.setIfInBounds_toArray, List.set_cons_zero, List.set_cons_succ])
            obtain ⟨yw6, hwx⟩ : ∃ wx, (yw5.setCell ⟨Gs, 0, none⟩ (.int .i64 U)).setCell ⟨Gs, 1, none⟩ (.int .i64 V) = wx := ⟨_, rfl⟩; rw [hwx] at Hs Hd hHeld ⊢; clear hwx
            refine wpAnyH_ready (rs := [11]) (by kernel_rfl) (by simp) ?_; refine AllReadyH.cons rfl (fun K hK => ?_) AllReadyH.nil
            obtain ⟨⟨a0, a1⟩, ⟨f0, f1⟩, az⟩ := Hd.out; go_simp; clear a0 f0 a1 f1 az
            have Hs := Lib.hid ((Hs.out.far ⟨Gd, 0, none⟩ (.int .i64 D) (by show Gs ≠ Gd; exact ne_s_d)).far ⟨Gd, 1, none⟩ (.int .i64 E) (by show Gs ≠ Gd; exact ne_s_d))
            have Hd := Lib.hid ((Hd.out.set0 D).set1 E)
            refine hK.out _ _ (Below.setCell (Below.setCell hHeld (p := ⟨Gd, 0, none⟩) le_d _) (p := ⟨Gd, 1, none⟩) le_d _) (fun hHeld2 => ?_); (clear hHeld; rename _ => hHeld; clear hK K; have hHeld : Below wB.heap.size wB _ := hHeld); (try simp only [Act.put, List.getElem_toArray, List.getElem_cons_succ, List.getElem_cons_zero, List.setIfInBounds_toArray, List.set_cons_zero, List.set_cons_succ])
            obtain ⟨yw7, hwx⟩ : ∃ wx, (yw6.setCell ⟨Gd, 0, none⟩ (.int .i64 D)).setCell ⟨Gd, 1, none⟩ (.int .i64 E) = wx := ⟨_, rfl⟩; rw [hwx] at Hs Hd hHeld ⊢; clear hwx
            refine wpAnyH_done (by kernel_rfl) ?_ _
            go_wp2_with fail
            go_meet
            exact ⟨Gs, Gd, rfl, rfl, Hs.out, Hd.out, by first | exact ne_s_d | exact Ne.symm ne_d_s, le_s, le_d, hHeld⟩
        · skip
          go_simp; obtain ⟨Gd, hGd⟩ : ∃ G, yw1.heap.size = G := ⟨_, rfl⟩; have le_d : wB.heap.size ≤ Gd := by rw [← hGd]; exact Below.size hHeld
          have Hd : Hid (Bk2 (yw1.alloc (.cells #[.int .i64 0, .int .i64 0] 25)) Gd 0 0) := by rw [← hGd]; exact bk2_new yw1 0 0 _
          refine hK.out _ _ (Below.alloc hHeld (Below.size hHeld) _) (fun hHeld2 => ?_); (clear hHeld; rename _ => hHeld; clear hK K; have hHeld : Below wB.heap.size wB _ := hHeld); (try simp only [Act.put, List.getElem_toArray, List.getElem_cons_succ, List.getElem_cons_zero, List.setIfInBounds_toArray, List.set_cons_zero, List.set_cons_succ])
          rw [hGd]; clear hGd; obtain ⟨yw2, hwx⟩ : ∃ wx, yw1.alloc (.cells #[.int .i64 0, .int .i64 0] 25) = wx := ⟨_, rfl⟩; rw [hwx] at Hd hHeld ⊢; clear hwx
          refine wpAnyH_ready (rs := [6, 8]) (by kernel_rfl) (by simp) ?_; refine AllReadyH.cons rfl (fun K hK => ?_) (AllReadyH.cons rfl (fun K hK => ?_) AllReadyH.nil)
          · skip
            go_simp; (go_at_call 50; refine (HP2.out _).mono ?_; rintro en yw3 ⟨rfl, hb2⟩); have Hd := Lib.hid (Hd.out.below hb2); refine hK.out _ _ (below_after hb2 hHeld) (fun hHeld2 => ?_); clear hb2; (clear hHeld; rename _ => hHeld; clear hK K; have hHeld : Below wB.heap.size wB _ := hHeld); (try simp only [Act.put, List.getElem_toArray, List.getElem_cons_succ, List.getElem_cons_zero, List.setIfInBounds_toArray, List.set_cons_zero, List.set_cons_succ])
            refine wpAnyH_ready (rs := [7, 8]) (by kernel_rfl) (by simp) ?_; refine AllReadyH.cons rfl (fun K hK => ?_) (AllReadyH.cons rfl (fun K hK => ?_) AllReadyH.nil)
            · skip
              go_simp; (go_at_call 49; refine (HT2.out _).mono ?_; rintro en yw4 ⟨rfl, hb2⟩); have Hd := Lib.hid (Hd.out.below hb2); refine hK.out _ _ (below_after hb2 hHeld) (fun hHeld2 => ?_); clear hb2; (clear hHeld; rename _ => hHeld; clear hK K; have hHeld : Below wB.heap.size wB _ := hHeld); (try simp only [Act.put, List.getElem_toArray, List.getElem_cons_succ, List.getElem_cons_zero, List.setIfInBounds_toArray, List.set_cons_zero, List.set_cons_succ])
              refine wpAnyH_ready (rs := [8]) (by kernel_rfl) (by simp) ?_; refine AllReadyH.cons rfl (fun K hK => ?_) AllReadyH.nil
              go_simp; obtain ⟨Gs, hGs⟩ : ∃ G, yw4.heap.size = G := ⟨_, rfl⟩; have le_s : wB.heap.size ≤ Gs := by rw [← hGs]; exact Below.size hHeld
              have ne_s_d : Gs ≠ Gd := by have := Hd.out.2.2; omega
              have ne_d_s : Gd ≠ Gs := Ne.symm ne_s_d
              have Hd := Lib.hid (Hd.out.below ((Below.refl _ _).alloc (Nat.le_refl _) (.cells #[.int .i64 0, .int .i64 0] 25))); skip
              have Hs : Hid (Bk2 (yw4.alloc (.cells #[.int .i64 0, .int .i64 0] 25)) Gs 0 0) := by rw [← hGs]; exact bk2_new yw4 0 0 _
              refine hK.out _ _ (Below.alloc hHeld (Below.size hHeld) _) (fun hHeld2 => ?_); (clear hHeld; rename _ => hHeld; clear hK K; have hHeld : Below wB.heap.size wB _ := hHeld); (try simp only [Act.put, List.getElem_toArray, List.getElem_cons_succ, List.getElem_cons_zero, List.setIfInBounds_toArray, List.set_cons_zero, List.set_cons_succ])
              rw [hGs]; clear hGs; obtain ⟨yw5, hwx⟩ : ∃ wx, yw4.alloc (.cells #[.int .i64 0, .int .i64 0] 25) = wx := ⟨_, rfl⟩; rw [hwx] at Hd Hs hHeld ⊢; clear hwx
              refine wpAnyH_ready (rs := [10]) (by kernel_rfl) (by simp) ?_; refine AllReadyH.cons rfl (fun K hK => ?_) AllReadyH.nil
              obtain ⟨⟨a0, a1⟩, ⟨f0, f1⟩, az⟩ := Hs.out; go_simp; clear a0 f0 a1 f1 az
              have Hd := Lib.hid ((Hd.out.far ⟨Gs, 0, none⟩ (.int .i64 U) (by show Gd ≠ Gs; exact ne_d_s)).far ⟨Gs, 1, none⟩ (.int .i64 V) (by show Gd ≠ Gs; exact ne_d_s))
              have Hs := Lib.hid ((Hs.out.set0 U).set1 V)
              refine hK.out _ _ (Below.setCell (Below.setCell hHeld (p := ⟨Gs, 0, none⟩) le_s _) (p := ⟨Gs, 1, none⟩) le_s _) (fun hHeld2 => ?_); (clear hHeld; rename _ => hHeld; clear hK K; have hHeld : Below wB.heap.size wB _ := hHeld); (try simp only [Act.put, List.getElem_toArray, List.getElem_cons_succ, List.getElem_cons_zero, List.setIfInBounds_toArray, List.set_cons_zero, List.set_cons_succ])
              obtain ⟨yw6, hwx⟩ : ∃ wx, (yw5.setCell ⟨Gs, 0, none⟩ (.int .i64 U)).setCell ⟨Gs, 1, none⟩ (.int .i64 V) = wx := ⟨_, rfl⟩; rw [hwx] at Hd Hs hHeld ⊢; clear hwx
              refine wpAnyH_ready (rs := [11]) (by kernel_rfl) (by simp) ?_; refine AllReadyH.cons rfl (fun K hK => ?_) AllReadyH.nil
              obtain ⟨⟨a0, a1⟩, ⟨f0, f1⟩, az⟩ := Hd.out; go_simp; clear a0 f0 a1 f1 az
              have Hs := Lib.hid ((Hs.out.far ⟨Gd, 0, none⟩ (.int .i64 D) (by show Gs ≠ Gd; exact ne_s_d)).far ⟨Gd, 1, none⟩ (.int .i64 E) (by show Gs ≠ Gd; exact ne_s_d))
              have Hd := Lib.hid ((Hd.out.set0 D).set1 E)
              refine hK.out _ _ (Below.setCell (Below.setCell hHeld (p := ⟨Gd, 0, none⟩) le_d _) (p := ⟨Gd, 1, none⟩) le_d _) (fun hHeld2 => ?_); (clear hHeld; rename _ => hHeld; clear hK K; have hHeld : Below wB.heap.size wB _ := hHeld); (try simp only [Act.put, List.getElem_toArray, List.getElem_cons_succ, List.getElem_cons_zero, List.setIfInBounds_toArray, List.set_cons_zero, List.set_cons_succ])
              obtain ⟨yw7, hwx⟩ : ∃ wx, (yw6.setCell ⟨Gd, 0, none⟩ (.int .i64 D)).setCell ⟨Gd, 1, none⟩ (.int .i64 E) = wx := ⟨_, rfl⟩; rw [hwx] at Hd Hs hHeld ⊢; clear hwx
              refine wpAnyH_done (by kernel_rfl) ?_ _
              go_wp2_with fail
              go_meet
              exact ⟨Gs, Gd, rfl, rfl, Hs.out, Hd.out, by first | exact ne_s_d | exact Ne.symm ne_d_s, le_s, le_d, hHeld⟩
            · skip
              go_simp; obtain ⟨Gs, hGs⟩ : ∃ G, yw3.heap.size = G := ⟨_, rfl⟩; have le_s : wB.heap.size ≤ Gs := by rw [← hGs]; exact Below.size hHeld
              have ne_s_d : Gs ≠ Gd := by have := Hd.out.2.2; omega
              have ne_d_s : Gd ≠ Gs := Ne.symm ne_s_d
              have Hd := Lib.hid (Hd.out.below ((Below.refl _ _).alloc (Nat.le_refl _) (.cells #[.int .i64 0, .int .i64 0] 25))); skip
              have Hs : Hid (Bk2 (yw3.alloc (.cells #[.int .i64 0, .int .i64 0] 25)) Gs 0 0) := by rw [← hGs]; exact bk2_new yw3 0 0 _
              refine hK.out _ _ (Below.alloc hHeld (Below.size hHeld) _) (fun hHeld2 => ?_); (clear hHeld; rename _ => hHeld; clear hK K; have hHeld : Below wB.heap.size wB _ := hHeld); (try simp only [Act.put, List.getElem_toArray, List.getElem_cons_succ, List.getElem_cons_zero, List.setIfInBounds_toArray, List.set_cons_zero, List.set_cons_succ])
              rw [hGs]; clear hGs; obtain ⟨yw4, hwx⟩ : ∃ wx, yw3.alloc (.cells #[.int .i64 0, .int .i64 0] 25) = wx := ⟨_, rfl⟩; rw [hwx] at Hd Hs hHeld ⊢; clear hwx
              refine wpAnyH_ready (rs := [7]) (by kernel_rfl) (by simp) ?_; refine AllReadyH.cons rfl (fun K hK => ?_) AllReadyH.nil
              go_simp; (go_at_call 49; refine (HT2.out _).mono ?_; rintro en yw5 ⟨rfl, hb2⟩); have Hd := Lib.hid (Hd.out.below hb2); have Hs := Lib.hid (Hs.out.below hb2); refine hK.out _ _ (below_after hb2 hHeld) (fun hHeld2 => ?_); clear hb2; (clear hHeld; rename _ => hHeld; clear hK K; have hHeld : Below wB.heap.size wB _ := hHeld); (try simp only [Act.put, List.getElem_toArray, List.getElem_cons_succ, List.getElem_cons_zero, List.setIfInBounds_toArray, List.set_cons_zero, List.set_cons_succ])
              refine wpAnyH_ready (rs := [10]) (by kernel_rfl) (by simp) ?_; refine AllReadyH.cons rfl (fun K hK => ?_) AllReadyH.nil
              obtain ⟨⟨a0, a1⟩, ⟨f0, f1⟩, az⟩ := Hs.out; go_simp; clear a0 f0 a1 f1 az
              have Hd := Lib.hid ((Hd.out.far ⟨Gs, 0, none⟩ (.int .i64 U) (by show Gd ≠ Gs; exact ne_d_s)).far ⟨Gs, 1, none⟩ (.int .i64 V) (by show Gd ≠ Gs; exact ne_d_s))
              have Hs := Lib.hid ((Hs.out.set0 U).set1 V)
              refine hK.out _ _ (Below.setCell (Below.setCell hHeld (p := ⟨Gs, 0, none⟩) le_s _) (p := ⟨Gs, 1, none⟩) le_s _) (fun hHeld2 => ?_); (clear hHeld; rename _ => hHeld; clear hK K; have hHeld : Below wB.heap.size wB _ := hHeld); (try simp only [Act.put, List.getElem_toArray, List.getElem_cons_succ, List.getElem_cons_zero, List.setIfInBounds_toArray, List.set_cons_zero, List.set_cons_succ])
              obtain ⟨yw6, hwx⟩ : ∃ wx, (yw5.setCell ⟨Gs, 0, none⟩ (.int .i64 U)).setCell ⟨Gs, 1, none⟩ (.int .i64 V) = wx := ⟨_, rfl⟩; rw [hwx] at Hd Hs hHeld ⊢; clear hwx
              refine wpAnyH_ready (rs := [11]) (by kernel_rfl) (by simp) ?_; refine AllReadyH.cons rfl (fun K hK => ?_) AllReadyH.nil
              obtain ⟨⟨a0, a1⟩, ⟨f0, f1⟩, az⟩ := Hd.out; go_simp; clear a0 f0 a1 f1 az
              have Hs := Lib.hid ((Hs.out.far ⟨Gd, 0, none⟩ (.int .i64 D) (by show Gs ≠ Gd; exact ne_s_d)).far ⟨Gd, 1, none⟩ (.int .i64 E) (by show Gs ≠ Gd; exact ne_s_d))
              have Hd := Lib.hid ((Hd.out.set0 D).set1 E)
              refine hK.out _ _ (Below.setCell (Below.setCell hHeld (p := ⟨Gd, 0, none⟩) le_d _) (p := ⟨Gd, 1, none⟩) le_d _) (fun hHeld2 => ?_); (clear hHeld; rename _ => hHeld; clear hK K; have hHeld : Below wB.heap.size wB _ := hHeld); (try simp only [Act.put, List.getElem_toArray, List.getElem_cons_succ, List.getElem_cons_zero, List.setIfInBounds_toArray, List.set_cons_zero, List.set_cons_succ])
              obtain ⟨yw7, hwx⟩ : ∃ wx, (yw6.setCell ⟨Gd, 0, none⟩ (.int .i64 D)).setCell ⟨Gd, 1, none⟩ (.int .i64 E) = wx := ⟨_, rfl⟩; rw [hwx] at Hd Hs hHeld ⊢; clear hwx
              refine wpAnyH_done (by kernel_rfl) ?_ _
              go_wp2_with fail
              go_meet
              exact ⟨Gs, Gd, rfl, rfl, Hs.out, Hd.out, by first | exact ne_s_d | exact Ne.symm ne_d_s, le_s, le_d, hHeld⟩
          · skip
            go_simp; obtain ⟨Gs, hGs⟩ : ∃ G, yw2.heap.size = G := ⟨_, rfl⟩; have le_s : wB.heap.size ≤ Gs := by rw [← hGs]; exact Below.size hHeld
            have ne_s_d : Gs ≠ Gd := by have := Hd.out.2.2; omega
            have ne_d_s : Gd ≠ Gs := Ne.symm ne_s_d
            have Hd := Lib.hid (Hd.out.below ((Below.refl _ _).alloc (Nat.le_refl _) (.cells #[.int .i64 0, .int .i64 0] 25))); skip
            have Hs : Hid (Bk2 (yw2.alloc (.cells #[.int .i64 0, .int .i64 0] 25)) Gs 0 0) := by rw [← hGs]; exact bk2_new yw2 0 0 _
            refine hK.out _ _ (Below.alloc hHeld (Below.size hHeld) _) (fun hHeld2 => ?_); (clear hHeld; rename _ => hHeld; clear hK K; have hHeld : Below wB.heap.size wB _ := hHeld); (try simp only [Act.put, List.getElem_toArray, List.getElem_cons_succ, List.getElem_cons_zero, List.setIfInBounds_toArray, List.set_cons_zero, List.set_cons_succ])
            rw [hGs]; clear hGs; obtain ⟨yw3, hwx⟩ : ∃ wx, yw2.alloc (.cells #[.int .i64 0, .int .i64 0] 25) = wx := ⟨_, rfl⟩; rw [hwx] at Hd Hs hHeld ⊢; clear hwx
            refine wpAnyH_ready (rs := [6]) (by kernel_rfl) (by simp) ?_; refine AllReadyH.cons rfl (fun K hK => ?_) AllReadyH.nil
            go_simp; (go_at_call 50; refine (HP2.out _).mono ?_; rintro en yw4 ⟨rfl, hb2⟩); have Hd := Lib.hid (Hd.out.below hb2); have Hs := Lib.hid (Hs.out.below hb2); refine hK.out _ _ (below_after hb2 hHeld) (fun hHeld2 => ?_); clear hb2; (clear hHeld; rename _ => hHeld; clear hK K; have hHeld : Below wB.heap.size wB _ := hHeld); (try simp only [Act.put, List.getElem_toArray, List.getElem_cons_succ, List.getElem_cons_zero, List.setIfInBounds_toArray, List.set_cons_zero, List.set_cons_succ])
            refine wpAnyH_ready (rs := [7]) (by kernel_rfl) (by simp) ?_; refine AllReadyH.cons rfl (fun K hK => ?_) AllReadyH.nil
            go_simp; (go_at_call 49; refine (HT2.out _).mono ?_; rintro en yw5 ⟨rfl, hb2⟩); have Hd := Lib.hid (Hd.out.below hb2); have Hs := Lib.hid (Hs.out.below hb2); refine hK.out _ _ (below_after hb2 hHeld) (fun hHeld2 => ?_); clear hb2; (clear hHeld; rename _ => hHeld; clear hK K; have hHeld : Below wB.heap.size wB _ := hHeld); (try simp only [Act.put, List.getElem_toArray, List.getElem_cons_succ, List.getElem_cons_zero, List.setIfInBounds_toArray, List.set_cons_zero, List.set_cons_succ])
            refine wpAnyH_ready (rs := [10]) (by kernel_rfl) (by simp) ?_; refine AllReadyH.cons rfl (fun K hK => ?_) AllReadyH.nil
            obtain ⟨⟨a0, a1⟩, ⟨f0, f1⟩, az⟩ := Hs.out; go_simp; clear a0 f0 a1 f1 az
            have Hd := Lib.hid ((Hd.out.far ⟨Gs, 0, none⟩ (.int .i64 U) (by show Gd ≠ Gs; exact ne_d_s)).far ⟨Gs, 1, none⟩ (.int .i64 V) (by show Gd ≠ Gs; exact ne_d_s))
            have Hs := Lib.hid ((Hs.out.set0 U).set1 V)
            refine hK.out _ _ (Below.setCell (Below.setCell hHeld (p := ⟨Gs, 0, none⟩) le_s _) (p := ⟨Gs, 1, none⟩) le_s _) (fun hHeld2 => ?_); (clear hHeld; rename _ => hHeld; clear hK K; have hHeld : Below wB.heap.size wB _ := hHeld); (try simp only [Act.put, List.getElem_toArray, List.getElem_cons_succ, List.getElem_cons_zero, List.setIfInBounds_toArray, List.set_cons_zero, List.set_cons_succ])
            obtain ⟨yw6, hwx⟩ : ∃ wx, (yw5.setCell ⟨Gs, 0, none⟩ (.int .i64 U)).setCell ⟨Gs, 1, none⟩ (.int .i64 V) = wx := ⟨_, rfl⟩; rw [hwx] at Hd Hs hHeld ⊢; clear hwx
            refine wpAnyH_ready (rs := [11]) (by kernel_rfl) (by simp) ?_; refine AllReadyH.cons rfl (fun K hK => ?_) AllReadyH.nil
            obtain ⟨⟨a0, a1⟩, ⟨f0, f1⟩, az⟩ := Hd.out; go_simp; clear a0 f0 a1 f1 az
            have Hs := Lib.hid ((Hs.out.far ⟨Gd, 0, none⟩ (.int .i64 D) (by show Gs ≠ Gd; exact ne_s_d)).far ⟨Gd, 1, none⟩ (.int .i64 E) (by show Gs ≠ Gd; exact ne_s_d))
            have Hd := Lib.hid ((Hd.out.set0 D).set1 E)
            refine hK.out _ _ (Below.setCell (Below.setCell hHeld (p := ⟨Gd, 0, none⟩) le_d _) (p := ⟨Gd, 1, none⟩) le_d _) (fun hHeld2 => ?_); (clear hHeld; rename _ => hHeld; clear hK K; have hHeld : Below wB.heap.size wB _ := hHeld); (try simp only [Act.put, List.getElem_toArray, List.getElem_cons_succ, List.getElem_cons_zero, List.setIfInBounds_toArray, List.set_cons_zero, List.set_cons_succ])
            obtain ⟨yw7, hwx⟩ : ∃ wx, (yw6.setCell ⟨Gd, 0, none⟩ (.int .i64 D)).setCell ⟨Gd, 1, none⟩ (.int .i64 E) = wx := ⟨_, rfl⟩; rw [hwx] at Hd Hs hHeld ⊢; clear hwx
            refine wpAnyH_done (by kernel_rfl) ?_ _
            go_wp2_with fail
            go_meet
            exact ⟨Gs, Gd, rfl, rfl, Hs.out, Hd.out, by first | exact ne_s_d | exact Ne.symm ne_d_s, le_s, le_d, hHeld⟩
      · skip
        go_simp; obtain ⟨Gs, hGs⟩ : ∃ G, yw0.heap.size = G := ⟨_, rfl⟩; have le_s : wB.heap.size ≤ Gs := by rw [← hGs]; exact Below.size hHeld
        have Hs : Hid (Bk2 (yw0.alloc (.cells #[.int .i64 0, .int .i64 0] 25)) Gs 0 0) := by rw [← hGs]; exact bk2_new yw0 0 0 _
        refine hK.out _ _ (Below.alloc hHeld (Below.size hHeld) _) (fun hHeld2 => ?_); (clear hHeld; rename _ => hHeld; clear hK K; have hHeld : Below wB.heap.size wB _ := hHeld); (try simp only [Act.put, List.getElem_toArray, List.getElem_cons_succ, List.getElem_cons_zero, List.setIfInBounds_toArray, List.set_cons_zero, List.set_cons_succ])
        rw [hGs]; clear hGs; obtain ⟨yw1, hwx⟩ : ∃ wx, yw0.alloc (.cells #[.int .i64 0, .int .i64 0] 25) = wx := ⟨_, rfl⟩; rw [hwx] at Hs hHeld ⊢; clear hwx
        refine wpAnyH_ready (rs := [3, 9]) (by kernel_rfl) (by simp) ?_; refine AllReadyH.cons rfl (fun K hK => ?_) (AllReadyH.cons rfl (fun K hK => ?_) AllReadyH.nil)
        · skip
          go_simp; (go_at_call 49; refine (HT1.out _).mono ?_; rintro en yw2 ⟨rfl, hb2⟩); have Hs := Lib.hid (Hs.out.below hb2); refine hK.out _ _ (below_after hb2 hHeld) (fun hHeld2 => ?_); clear hb2; (clear hHeld; rename _ => hHeld; clear hK K; have hHeld : Below wB.heap.size wB _ := hHeld); (try simp only [Act.put, List.getElem_toArray, List.getElem_cons_succ, List.getElem_cons_zero, List.setIfInBounds_toArray, List.set_cons_zero, List.set_cons_succ])
          refine wpAnyH_ready (rs := [6, 9]) (by kernel_rfl) (by simp) ?_; refine AllReadyH.cons rfl (fun K hK => ?_) (AllReadyH.cons rfl (fun K hK => ?_) AllReadyH.nil)
          · skip
            go_simp; (go_at_call 50; refine (HP2.out _).mono ?_; rintro en yw3 ⟨rfl, hb2⟩); have Hs := Lib.hid (Hs.out.below hb2); refine hK.out _ _ (below_after hb2 hHeld) (fun hHeld2 => ?_); clear hb2; (clear hHeld; rename _ => hHeld; clear hK K; have hHeld : Below wB.heap.size wB _ := hHeld); (try simp only [Act.put, List.getElem_toArray, List.getElem_cons_succ, List.getElem_cons_zero, List.setIfInBounds_toArray, List.set_cons_zero, List.set_cons_succ])
            refine wpAnyH_ready (rs := [7, 9]) (by kernel_rfl) (by simp) ?_; refine AllReadyH.cons rfl (fun K hK => ?_) (AllReadyH.cons rfl (fun K hK => ?_) AllReadyH.nil)
            · skip
              go_simp; (go_at_call 49; refine (HT2.out _).mono ?_; rintro en yw4 ⟨rfl, hb2⟩); have Hs := Lib.hid (Hs.out.below hb2); refine hK.out _ _ (below_after hb2 hHeld) (fun hHeld2 => ?_); clear hb2; (clear hHeld; rename _ => hHeld; clear hK K; have hHeld : Below wB.heap.size wB _ := hHeld); (try simp only [Act.put, List.getElem_toArray, List.getElem_cons_succ, List.getElem_cons_zero, List.setIfInBounds_toArray, List.set_cons_zero, List.set_cons_succ])
              refine wpAnyH_ready (rs := [9]) (by kernel_rfl) (by simp) ?_; refine AllReadyH.cons rfl (fun K hK => ?_) AllReadyH.nil
              go_simp; obtain ⟨Gd, hGd⟩ : ∃ G, yw4.heap.size = G := ⟨_, rfl⟩; have le_d : wB.heap.size ≤ Gd := by rw [← hGd]; exact Below.size hHeld
              have ne_d_s : Gd ≠ Gs := by have := Hs.out.2.2; omega
              have ne_s_d : Gs ≠ Gd := Ne.symm ne_d_s
              have Hs := Lib.hid (Hs.out.below ((Below.refl _ _).alloc (Nat.le_refl _) (.cells #[.int .i64 0, .int .i64 0] 25))); skip
              have Hd : Hid (Bk2 (yw4.alloc (.cells #[.int .i64 0, .int .i64 0] 25)) Gd 0 0) := by rw [← hGd]; exact bk2_new yw4 0 0 _
              refine hK.out _ _ (Below.alloc hHeld (Below.size hHeld) _) (fun hHeld2 => ?_); (clear hHeld; rename _ => hHeld; clear hK K; have hHeld : Below wB.heap.size wB _ := hHeld); (try simp only [Act.put, List.getElem_toArray, List.getElem_cons_succ, List.getElem_cons_zero, List.setIfInBounds_toArray, List.set_cons_zero, List.set_cons_succ])
              rw [hGd]; clear hGd; obtain ⟨yw5, hwx⟩ : ∃ wx, yw4.alloc (.cells #[.int .i64 0, .int .i64 0] 25) = wx := ⟨_, rfl⟩; rw [hwx] at Hs Hd hHeld ⊢; clear hwx
              refine wpAnyH_ready (rs := [10]) (by kernel_rfl) (by simp) ?_; refine AllReadyH.cons rfl (fun K hK => ?_) AllReadyH.nil
              obtain ⟨⟨a0, a1⟩, ⟨f0, f1⟩, az⟩ := Hs.out; go_simp; clear a0 f0 a1 f1 az
              have Hd := Lib.hid ((Hd.out.far ⟨Gs, 0, none⟩ (.int .i64 U) (by show Gd ≠ Gs; exact ne_d_s)).far ⟨Gs, 1, none⟩ (.int .i64 V) (by show Gd ≠ Gs; exact ne_d_s))
              have Hs := Lib.hid ((Hs.out.set0 U).set1 V)
              refine hK.out _ _ (Below.setCell (Below.setCell hHeld (p := ⟨Gs, 0, none⟩) le_s _) (p := ⟨Gs, 1, none⟩) le_s _) (fun hHeld2 => ?_); (clear hHeld; rename _ => hHeld; clear hK K; have hHeld : Below wB.heap.size wB _ := hHeld); (try simp only [Act.put, List.getElem_toArray, List.getElem_cons_succ, List.getElem_cons_zero, List.setIfInBounds_toArray, List.set_cons_zero, List.set_cons_succ])
              obtain ⟨yw6, hwx⟩ : ∃ wx, (yw5.setCell ⟨Gs, 0, none⟩ (.int .i64 U)).setCell ⟨Gs, 1, none⟩ (.int .i64 V) = wx := ⟨_, rfl⟩; rw [hwx] at Hs Hd hHeld ⊢; clear hwx
              refine wpAnyH_ready (rs := [11]) (by kernel_rfl) (by simp) ?_; refine AllReadyH.cons rfl (fun K hK => ?_) AllReadyH.nil
              obtain ⟨⟨a0, a1⟩, ⟨f0, f1⟩, az⟩ := Hd.out; go_simp; clear a0 f0 a1 f1 az
              have Hs := Lib.hid ((Hs.out.far ⟨Gd, 0, none⟩ (.int .i64 D) (by show Gs ≠ Gd; exact ne_s_d)).far ⟨Gd, 1, none⟩ (.int .i64 E) (by show Gs ≠ Gd; exact ne_s_d))
              have Hd := Lib.hid ((Hd.out.set0 D).set1 E)
              refine hK.out _ _ (Below.setCell (Below.setCell hHeld (p := ⟨Gd, 0, none⟩) le_d _) (p := ⟨Gd, 1, none⟩) le_d _) (fun hHeld2 => ?_); (clear hHeld; rename _ => hHeld; clear hK K; have hHeld : Below wB.heap.size wB _ := hHeld); (try simp only [Act.put, List.getElem_toArray, List.getElem_cons_succ, List.getElem_cons_zero, List.setIfInBounds_toArray, List.set_cons_zero, List.set_cons_succ])
              obtain ⟨yw7, hwx⟩ : ∃ wx, (yw6.setCell ⟨Gd, 0, none⟩ (.int .i64 D)).setCell ⟨Gd, 1, none⟩ (.int .i64 E) = wx := ⟨_, rfl⟩; rw [hwx] at Hs Hd hHeld ⊢; clear hwx
              refine wpAnyH_done (by kernel_rfl) ?_ _
              go_wp2_with fail
              go_meet
              exact ⟨Gs, Gd, rfl, rfl, Hs.out, Hd.out, by first | exact ne_s_d | exact Ne.symm ne_d_s, le_s, le_d, hHeld⟩
            · skip
              go_simp; obtain ⟨Gd, hGd⟩ : ∃ G, yw3.heap.size = G := ⟨_, rfl⟩; have le_d : wB.heap.size ≤ Gd := by rw [← hGd]; exact Below.size hHeld
              have ne_d_s : Gd ≠ Gs := by have := Hs.out.2.2; omega
              have ne_s_d : Gs ≠ Gd := Ne.symm ne_d_s
              have Hs := Lib.hid (Hs.out.below ((Below.refl _ _).alloc (Nat.le_refl _) (.cells #[.int .i64 0, .int .i64 0] 25))); skip
              have Hd : Hid (Bk2 (yw3.alloc (.cells #[.int .i64 0, .int .i64 0] 25)) Gd 0 0) := by rw [← hGd]; exact bk2_new yw3 0 0 _
              refine hK.out _ _ (Below.alloc hHeld (Below.size hHeld) _) (fun hHeld2 => ?_); (clear hHeld; rename _ => hHeld; clear hK K; have hHeld : Below wB.heap.size wB _ := hHeld); (try simp only [Act.put, List.getElem_toArray, List.getElem_cons_succ, List.getElem_cons_zero, List.setIfInBounds_toArray, List.set_cons_zero, List.set_cons_succ])
              rw [hGd]; clear hGd; obtain ⟨yw4, hwx⟩ : ∃ wx, yw3.alloc (.cells #[.int .i64 0, .int .i64 0] 25) = wx := ⟨_, rfl⟩; rw [hwx] at Hs Hd hHeld ⊢; clear hwx
              refine wpAnyH_ready (rs := [7]) (by kernel_rfl) (by simp) ?_; refine AllReadyH.cons rfl (fun K hK => ?_) AllReadyH.nil
              go_simp; (go_at_call 49; refine (HT2.out _).mono ?_; rintro en yw5 ⟨rfl, hb2⟩); have Hs := Lib.hid (Hs.out.below hb2); have Hd := Lib.hid (Hd.out.below hb2); refine hK.out _ _ (below_after hb2 hHeld) (fun hHeld2 => ?_); clear hb2; (clear hHeld; rename _ => hHeld; clear hK K; have hHeld : Below wB.heap.size wB _ := hHeld); (try simp only [Act.put, List.getElem_toArray, List.getElem_cons_succ, List.getElem_cons_zero, List.setIfInBounds_toArray, List.set_cons_zero, List.set_cons_succ])
              refine wpAnyH_ready (rs := [10]) (by kernel_rfl) (by simp) ?_; refine AllReadyH.cons rfl (fun K hK => ?_) AllReadyH.nil
              obtain ⟨⟨a0, a1⟩, ⟨f0, f1⟩, az⟩ := Hs.out; go_simp; clear a0 f0 a1 f1 az
              have Hd := Lib.hid ((Hd.out.far ⟨Gs, 0, none⟩ (.int .i64 U) (by show Gd ≠ Gs; exact ne_d_s)).far ⟨Gs, 1, none⟩ (.int .i64 V) (by show Gd ≠ Gs; exact ne_d_s))
              have Hs := Lib.hid ((Hs.out.set0 U).set1 V)
              refine hK.out _ _ (Below.setCell (Below.setCell hHeld (p := ⟨Gs, 0, none⟩) le_s _) (p := ⟨Gs, 1, none⟩) le_s _) (fun hHeld2 => ?_); (clear hHeld; rename _ => hHeld; clear hK K; have hHeld : Below wB.heap.size wB _ := hHeld); (try simp only [Act.put, List.getElem_toArray, List.getElem_cons_succ, List.getElem_cons_zero, List.setIfInBounds_toArray, List.set_cons_zero, List.set_cons_succ])
              obtain ⟨yw6, hwx⟩ : ∃ wx, (yw5.setCell ⟨Gs, 0, none⟩ (.int .i64 U)).setCell ⟨Gs, 1, none⟩ (.int .i64 V) = wx := ⟨_, rfl⟩; rw [hwx] at Hs Hd hHeld ⊢; clear hwx
              refine wpAnyH_ready (rs := [11]) (by kernel_rfl) (by simp) ?_; refine AllReadyH.cons rfl (fun K hK => ?_) AllReadyH.nil
              obtain ⟨⟨a0, a1⟩, ⟨f0, f1⟩, az⟩ := Hd.out; go_simp; clear a0 f0 a1 f1 az
              have Hs := Lib.hid ((Hs.out.far ⟨Gd, 0, none⟩ (.int .i64 D) (by show Gs ≠ Gd; exact ne_s_d)).far ⟨Gd, 1, none⟩ (.int .i64 E) (by show Gs ≠ Gd; exact ne_s_d))
              have Hd := Lib.hid ((Hd.out.set0 D).set1 E)
              refine hK.out _ _ (Below.setCell (Below.setCell hHeld (p := ⟨Gd, 0, none⟩) le_d _) (p := ⟨Gd, 1, none⟩) le_d _) (fun hHeld2 => ?_); (clear hHeld; rename _ => hHeld; clear hK K; have hHeld : Below wB.heap.size wB _ := hHeld); (try simp only [Act.put, List.getElem_toArray, List.getElem_cons_succ, List.getElem_cons_zero, List.setIfInBounds_toArray, List.set_cons_zero, List.set_cons_succ])
              obtain ⟨yw7, hwx⟩ : ∃ wx, (yw6.setCell ⟨Gd, 0, none⟩ (.int .i64 D)).setCell ⟨Gd, 1, none⟩ (.int .i64 E) = wx := ⟨_, rfl⟩; rw [hwx] at Hs Hd hHeld ⊢; clear hwx
              refine wpAnyH_done (by kernel_rfl) ?_ _
              go_wp2_with fail
              go_meet
              exact ⟨Gs, Gd, rfl, rfl, Hs.out, Hd.out, by first | exact ne_s_d | exact Ne.symm ne_d_s, le_s, le_d, hHeld⟩
          · skip
            go_simp; obtain ⟨Gd, hGd⟩ : ∃ G, yw2.heap.size = G := ⟨_, rfl⟩; have le_d : wB.heap.size ≤ Gd := by rw [← hGd]; exact Below.size hHeld
            have ne_d_s : Gd ≠ Gs := by have := Hs.out.2.2; omega
            have ne_s_d : Gs ≠ Gd := Ne.symm ne_d_s
            have Hs := Lib.hid (Hs.out.below ((Below.refl _ _).alloc (Nat.le_refl _) (.cells #[.int .i64 0, .int .i64 0] 25))); skip
            have Hd : Hid (Bk2 (yw2.alloc (.cells #[.int .i64 0, .int .i64 0] 25)) Gd 0 0) := by rw [← hGd]; exact bk2_new yw2 0 0 _
            refine hK.out _ _ (Below.alloc hHeld (Below.size hHeld) _) (fun hHeld2 => ?_); (clear hHeld; rename _ => hHeld; clear hK K; have hHeld : Below wB.heap.size wB _ := hHeld); (try simp only [Act.put, List.getElem_toArray, List.getElem_cons_succ, List.getElem_cons_zero, List.setIfInBounds_toArray, List.set_cons_zero, List.set_cons_succ])
            rw [hGd]; clear hGd; obtain ⟨yw3, hwx⟩ : ∃ wx, yw2.alloc (.cells #[.int .i64 0, .int .i64 0] 25) = wx := ⟨_, rfl⟩; rw [hwx] at Hs Hd hHeld ⊢; clear hwx
            refine wpAnyH_ready (rs := [6]) (by kernel_rfl) (by simp) ?_; refine AllReadyH.cons rfl (fun K hK => ?_) AllReadyH.nil
            go_simp; (go_at_call 50; refine (HP2.out _).mono ?_; rintro en yw4 ⟨rfl, hb2⟩); have Hs := Lib.hid (Hs.out.below hb2); have Hd := Lib.hid (Hd.out.below hb2); refine hK.out _ _ (below_after hb2 hHeld) (fun hHeld2 => ?_); clear hb2; (clear hHeld; rename _ => hHeld; clear hK K; have hHeld : Below wB.heap.size wB _ := hHeld); (try simp only [Act.put, List.getElem_toArray, List.getElem_cons_succ, List.getElem_cons_zero, List.setIfInBounds_toArray, List.set_cons_zero, List.set_cons_succ])
            refine wpAnyH_ready (rs := [7]) (by kernel_rfl) (by simp) ?_; refine AllReadyH.cons rfl (fun K hK => ?_) AllReadyH.nil
            go_simp; (go_at_call 49; refine (HT2.out _).mono ?_; rintro en yw5 ⟨rfl, hb2⟩); have Hs := Lib.hid (Hs.out.below hb2); have Hd := Lib.hid (Hd.out.below hb2); refine hK.out _ _ (below_after hb2 hHeld) (fun hHeld2 => ?_); clear hb2; (clear hHeld; rename _ => hHeld; clear hK K; have hHeld : Below wB.heap.size wB _ := hHeld); (try simp only [Act.put, List.getElem_toArray, List.getElem_cons_succ, List.getElem_cons_zero, List.setIfInBounds_toArray, List.set_cons_zero, List.set_cons_succ])
            refine wpAnyH_ready (rs := [10]) (by kernel_rfl) (by simp) ?_; refine AllReadyH.cons rfl (fun K hK => ?_) AllReadyH.nil
            obtain ⟨⟨a0, a1⟩, ⟨f0, f1⟩, az⟩ := Hs.out; go_simp; clear a0 f0 a1 f1 az
            have Hd := Lib.hid ((Hd.out.far ⟨Gs, 0, none⟩ (.int .i64 U) (by show Gd ≠ Gs; exact ne_d_s)).far ⟨Gs, 1, none⟩ (.int .i64 V) (by show Gd ≠ Gs; exact ne_d_s))
            have Hs := Lib.hid ((Hs.out.set0 U).set1 V)
            refine hK.out _ _ (Below.setCell (Below.setCell hHeld (p := ⟨Gs, 0, none⟩) le_s _) (p := ⟨Gs, 1, none⟩) le_s _) (fun hHeld2 => ?_); (clear hHeld; rename _ => hHeld; clear hK K; have hHeld : Below wB.heap.size wB _ := hHeld); (try simp only [Act.put, List.getElem_toArray, List.getElem_cons_succ, List.getElem_cons_zero, List.setIfInBounds_toArray, List.set_cons_zero, List.set_cons_succ])
            obtain ⟨yw6, hwx⟩ : ∃ wx, (yw5.setCell ⟨Gs, 0, none⟩ (.int .i64 U)).setCell ⟨Gs, 1, none⟩ (.int .i64 V) = wx := ⟨_, rfl⟩; rw [hwx] at Hs Hd hHeld ⊢; clear hwx
            refine wpAnyH_ready (rs := [11]) (by kernel_rfl) (by simp) ?_; refine AllReadyH.cons rfl (fun K hK => ?_) AllReadyH.nil
            obtain ⟨⟨a0, a1⟩, ⟨f0, f1⟩, az⟩ := Hd.out; go_simp; clear a0 f0 a1 f1 az
            have Hs := Lib.hid ((Hs.out.far ⟨Gd, 0, none⟩ (.int .i64 D) (by show Gs ≠ Gd; exact ne_s_d)).far ⟨Gd, 1, none⟩ (.int .i64 E) (by show Gs ≠ Gd; exact ne_s_d))
            have Hd := Lib.hid ((Hd.out.set0 D).set1 E)
            refine hK.out _ _ (Below.setCell (Below.setCell hHeld (p := ⟨Gd, 0, none⟩) le_d _) (p := ⟨Gd, 1, none⟩) le_d _) (fun hHeld2 => ?_); (clear hHeld; rename _ => hHeld; clear hK K; have hHeld : Below wB.heap.size wB _ := hHeld); (try simp only [Act.put, List.getElem_toArray, List.getElem_cons_succ, List.getElem_cons_zero, List.setIfInBounds_toArray, List.set_cons_zero, List.set_cons_succ])
            obtain ⟨yw7, hwx⟩ : ∃ wx, (yw6.setCell ⟨Gd, 0, none⟩ (.int .i64 D)).setCell ⟨Gd, 1, none⟩ (.int .i64 E) = wx := ⟨_, rfl⟩; rw [hwx] at Hs Hd hHeld ⊢; clear hwx
            refine wpAnyH_done (by kernel_rfl) ?_ _
            go_wp2_with fail
            go_meet
            exact ⟨Gs, Gd, rfl, rfl, Hs.out, Hd.out, by first | exact ne_s_d | exact Ne.symm ne_d_s, le_s, le_d, hHeld⟩
        · skip
          go_simp; obtain ⟨Gd, hGd⟩ : ∃ G, yw1.heap.size = G := ⟨_, rfl⟩; have le_d : wB.heap.size ≤ Gd := by rw [← hGd]; exact Below.size hHeld
          have ne_d_s : Gd ≠ Gs := by have := Hs.out.2.2; omega
          have ne_s_d : Gs ≠ Gd := Ne.symm ne_d_s
          have Hs := Lib.hid (Hs.out.below ((Below.refl _ _).alloc (Nat.le_refl _) (.cells #[.int .i64 0, .int .i64 0] 25))); skip
          have Hd : Hid (Bk2 (yw1.alloc (.cells #[.int .i64 0, .int .i64 0] 25)) Gd 0 0) := by rw [← hGd]; exact bk2_new yw1 0 0 _
          refine hK.out _ _ (Below.alloc hHeld (Below.size hHeld) _) (fun hHeld2 => ?_); (clear hHeld; rename _ => hHeld; clear hK K; have hHeld : Below wB.heap.size wB _ := hHeld); (try simp only [Act.put, List.getElem_toArray, List.getElem_cons_succ, List.getElem_cons_zero, List.setIfInBounds_toArray, List.set_cons_zero, List.set_cons_succ])
          rw [hGd]; clear hGd; obtain ⟨yw2, hwx⟩ : ∃ wx, yw1.alloc (.cells #[.int .i64 0, .int .i64 0] 25) = wx := ⟨_, rfl⟩; rw [hwx] at Hs Hd hHeld ⊢; clear hwx
          refine wpAnyH_ready (rs := [3]) (by kernel_rfl) (by simp) ?_; refine AllReadyH.cons rfl (fun K hK => ?_) AllReadyH.nil
          go_simp; (go_at_call 49; refine (HT1.out _).mono ?_; rintro en yw3 ⟨rfl, hb2⟩); have Hs := Lib.hid (Hs.out.below hb2); have Hd := Lib.hid (Hd.out.below hb2); refine hK.out _ _ (below_after hb2 hHeld) (fun hHeld2 => ?_); clear hb2; (clear hHeld; rename _ => hHeld; clear hK K; have hHeld : Below wB.heap.size wB _ := hHeld); (try simp only [Act.put, List.getElem_toArray, List.getElem_cons_succ, List.getElem_cons_zero, List.setIfInBounds_toArray, List.set_cons_zero, List.set_cons_succ])
          refine wpAnyH_ready (rs := [6]) (by kernel_rfl) (by simp) ?_; refine AllReadyH.cons rfl (fun K hK => ?_) AllReadyH.nil
          go_simp; (go_at_call 50; refine (HP2.out _).mono ?_; rintro en yw4 ⟨rfl, hb2⟩); have Hs := Lib.hid (Hs.out.below hb2); have Hd := Lib.hid (Hd.out.below hb2); refine hK.out _ _ (below_after hb2 hHeld) (fun hHeld2 => ?_); clear hb2; (clear hHeld; rename _ => hHeld; clear hK K; have hHeld : Below wB.heap.size wB _ := hHeld); (try simp only [Act.put, List.getElem_toArray, List.getElem_cons_succ, List.getElem_cons_zero, List.setIfInBounds_toArray, List.set_cons_zero, List.set_cons_succ])
          refine wpAnyH_ready (rs := [7]) (by kernel_rfl) (by simp) ?_; refine AllReadyH.cons rfl (fun K hK => ?_) AllReadyH.nil
          go_simp; (go_at_call 49; refine (HT2.out _).mono ?_; rintro en yw5 ⟨rfl, hb2⟩); have Hs := Lib.hid (Hs.out.below hb2); have Hd := Lib.hid (Hd.out.below hb2); refine hK.out _ _ (below_after hb2 hHeld) (fun hHeld2 => ?_); clear hb2; (clear hHeld; rename _ => hHeld; clear hK K; have hHeld : Below wB.heap.size wB _ := hHeld); (try simp only [Act.put, List.getElem_toArray, List.getElem_cons_succ, List.getElem_cons_zero, List.setIfInBounds_toArray, List.set_cons_zero, List.set_cons_succ])
          refine wpAnyH_ready (rs := [10]) (by kernel_rfl) (by simp) ?_; refine AllReadyH.cons rfl (fun K hK => ?_) AllReadyH.nil
          obtain ⟨⟨a0, a1⟩, ⟨f0, f1⟩, az⟩ := Hs.out; go_simp; clear a0 f0 a1 f1 az
          have Hd := Lib.hid ((Hd.out.far ⟨Gs, 0, none⟩ (.int .i64 U) (by show Gd ≠ Gs; exact ne_d_s)).far ⟨Gs, 1, none⟩ (.int .i64 V) (by show Gd ≠ Gs; exact ne_d_s))
          have Hs := Lib.hid ((Hs.out.set0 U).set1 V)
          refine hK.out _ _ (Below.setCell (Below.setCell hHeld (p := ⟨Gs, 0, none⟩) le_s _) (p := ⟨Gs, 1, none⟩) le_s _) (fun hHeld2 => ?_); (clear hHeld; rename _ => hHeld; clear hK K; have hHeld : Below wB.heap.size wB _ := hHeld); (try simp only [Act.put, List.getElem_toArray, List.getElem_cons_succ, List.getElem_cons_zero, List.setIfInBounds_toArray, List.set_cons_zero, List.set_cons_succ])
          obtain ⟨yw6, hwx⟩ : ∃ wx, (yw5.setCell ⟨Gs, 0, none⟩ (.int .i64 U)).setCell ⟨Gs, 1, none⟩ (.int .i64 V) = wx := ⟨_, rfl⟩; rw [hwx] at Hs Hd hHeld ⊢; clear hwx
          refine wpAnyH_ready (rs := [11]) (by kernel_rfl) (by simp) ?_; refine AllReadyH.cons rfl (fun K hK => ?_) AllReadyH.nil
          obtain ⟨⟨a0, a1⟩, ⟨f0, f1⟩, az⟩ := Hd.out; go_simp; clear a0 f0 a1 f1 az
          have Hs := Lib.hid ((Hs.out.far ⟨Gd, 0, none⟩ (.int .i64 D) (by show Gs ≠ Gd; exact ne_s_d)).far ⟨Gd, 1, none⟩ (.int .i64 E) (by show Gs ≠ Gd; exact ne_s_d))
          have Hd := Lib.hid ((Hd.out.set0 D).set1 E)
          refine hK.out _ _ (Below.setCell (Below.setCell hHeld (p := ⟨Gd, 0, none⟩) le_d _) (p := ⟨Gd, 1, none⟩) le_d _) (fun hHeld2 => ?_); (clear hHeld; rename _ => hHeld; clear hK K; have hHeld : Below wB.heap.size wB _ := hHeld); (try simp only [Act.put, List.getElem_toArray, List.getElem_cons_succ, List.getElem_cons_zero, List.setIfInBounds_toArray, List.set_cons_zero, List.set_cons_succ])
          obtain ⟨yw7, hwx⟩ : ∃ wx, (yw6.setCell ⟨Gd, 0, none⟩ (.int .i64 D)).setCell ⟨Gd, 1, none⟩ (.int .i64 E) = wx := ⟨_, rfl⟩; rw [hwx] at Hs Hd hHeld ⊢; clear hwx
          refine wpAnyH_done (by kernel_rfl) ?_ _
          go_wp2_with fail
          go_meet
          exact ⟨Gs, Gd, rfl, rfl, Hs.out, Hd.out, by first | exact ne_s_d | exact Ne.symm ne_d_s, le_s, le_d, hHeld⟩
      · skip
        go_simp; obtain ⟨Gd, hGd⟩ : ∃ G, yw0.heap.size = G := ⟨_, rfl⟩; have le_d : wB.heap.size ≤ Gd := by rw [← hGd]; exact Below.size hHeld
        have Hd : Hid (Bk2 (yw0.alloc (.cells #[.int .i64 0, .int .i64 0] 25)) Gd 0 0) := by rw [← hGd]; exact bk2_new yw0 0 0 _
        refine hK.out _ _ (Below.alloc hHeld (Below.size hHeld) _) (fun hHeld2 => ?_); (clear hHeld; rename _ => hHeld; clear hK K; have hHeld : Below wB.heap.size wB _ := hHeld); (try simp only [Act.put, List.getElem_toArray, List.getElem_cons_succ, List.getElem_cons_zero, List.setIfInBounds_toArray, List.set_cons_zero, List.set_cons_succ])
        rw [hGd]; clear hGd; obtain ⟨yw1, hwx⟩ : ∃ wx, yw0.alloc (.cells #[.int .i64 0, .int .i64 0] 25) = wx := ⟨_, rfl⟩; rw [hwx] at Hd hHeld ⊢; clear hwx
        refine wpAnyH_ready (rs := [3, 8]) (by kernel_rfl) (by simp) ?_; refine AllReadyH.cons rfl (fun K hK => ?_) (AllReadyH.cons rfl (fun K hK => ?_) AllReadyH.nil)
        · skip
          go_simp; (go_at_call 49; refine (HT1.out _).mono ?_; rintro en yw2 ⟨rfl, hb2⟩); have Hd := Lib.hid (Hd.out.below hb2); refine hK.out _ _ (below_after hb2 hHeld) (fun hHeld2 => ?_); clear hb2; (clear hHeld; rename _ => hHeld; clear hK K; have hHeld : Below wB.heap.size wB _ := hHeld); (try simp only [Act.put, List.getElem_toArray, List.getElem_cons_succ, List.getElem_cons_zero, List.setIfInBounds_toArray, List.set_cons_zero, List.set_cons_succ])
          refine wpAnyH_ready (rs := [6, 8]) (by kernel_rfl) (by simp) ?_; refine AllReadyH.cons rfl (fun K hK => ?_) (AllReadyH.cons rfl (fun K hK => ?_) AllReadyH.nil)
          · skip
            go_simp; (go_at_call 50; refine (HP2.out _).mono ?_; rintro en yw3 ⟨rfl, hb2⟩); have Hd := Lib.hid (Hd.out.below hb2); refine hK.out _ _ (below_after hb2 hHeld) (fun hHeld2 => ?_); clear hb2; (clear hHeld; rename _ => hHeld; clear hK K; have hHeld : Below wB.heap.size wB _ := hHeld); (try simp only [Act.put, List.getElem_toArray, List.getElem_cons_succ, List.getElem_cons_zero, List.setIfInBounds_toArray, List.set_cons_zero, List.set_cons_succ])
            refine wpAnyH_ready (rs := [7, 8]) (by kernel_rfl) (by simp) ?_; refine AllReadyH.cons rfl (fun K hK => ?_) (AllReadyH.cons rfl (fun K hK => ?_) AllReadyH.nil)
            · skip
              go_simp; (go_at_call 49; refine (HT2.out _).mono ?_; rintro en yw4 ⟨rfl, hb2⟩); have Hd := Lib.hid (Hd.out.below hb2); refine hK.out _ _ (below_after hb2 hHeld) (fun hHeld2 => ?_); clear hb2; (clear hHeld; rename _ => hHeld; clear hK K; have hHeld : Below wB.heap.size wB _ := hHeld); (try simp only [Act.put, List.getElem_toArray, List.getElem_cons_succ, List.getElem_cons_zero, List.setIfInBounds_toArray, List.set_cons_zero, List.set_cons_succ])
              refine wpAnyH_ready (rs := [8]) (by kernel_rfl) (by simp) ?_; refine AllReadyH.cons rfl (fun K hK => ?_) AllReadyH.nil
              go_simp; obtain ⟨Gs, hGs⟩ : ∃ G, yw4.heap.size = G := ⟨_, rfl⟩; have le_s : wB.heap.size ≤ Gs := by rw [← hGs]; exact Below.size hHeld
              have ne_s_d : Gs ≠ Gd := by have := Hd.out.2.2; omega
              have ne_d_s : Gd ≠ Gs := Ne.symm ne_s_d
              have Hd := Lib.hid (Hd.out.below ((Below.refl _ _).alloc (Nat.le_refl _) (.cells #[.int .i64 0, .int .i64 0] 25))); skip
              have Hs : Hid (Bk2 (yw4.alloc (.cells #[.int .i64 0, .int .i64 0] 25)) Gs 0 0) := by rw [← hGs]; exact bk2_new yw4 0 0 _
              refine hK.out _ _ (Below.alloc hHeld (Below.size hHeld) _) (fun hHeld2 => ?_); (clear hHeld; rename _ => hHeld; clear hK K; have hHeld : Below wB.heap.size wB _ := hHeld); (try simp only [Act.put, List.getElem_toArray, List.getElem_cons_succ, List.getElem_cons_zero, List.setIfInBounds_toArray, List.set_cons_zero, List.set_cons_succ])
              rw [hGs]; clear hGs; obtain ⟨yw5, hwx⟩ : ∃ wx, yw4.alloc (.cells #[.int .i64 0, .int .i64 0] 25) = wx := ⟨_, rfl⟩; rw [hwx] at Hd Hs hHeld ⊢; clear hwx
              refine wpAnyH_ready (rs := [10]) (by kernel_rfl) (by simp) ?_; refine AllReadyH.cons rfl (fun K hK => ?_) AllReadyH.nil
              obtain ⟨⟨a0, a1⟩, ⟨f0, f1⟩, az⟩ := Hs.out; go_simp; clear a0 f0 a1 f1 az
              have Hd := Lib.hid ((Hd.out.far ⟨Gs, 0, none⟩ (.int .i64 U) (by show Gd ≠ Gs; exact ne_d_s)).far ⟨Gs, 1, none⟩ (.int .i64 V) (by show Gd ≠ Gs; exact ne_d_s))
              have Hs := Lib.hid ((Hs.out.set0 U).set1 V)
              refine hK.out _ _ (Below.setCell (Below.setCell hHeld (p := ⟨Gs, 0, none⟩) le_s _) (p := ⟨Gs, 1, none⟩) le_s _) (fun hHeld2 => ?_); (clear hHeld; rename _ => hHeld; clear hK K; have hHeld : Below wB.heap.size wB _ := hHeld); (try simp only [Act.put, List.getElem_toArray, List.getElem_cons_succ, List.getElem_cons_zero, List.setIfInBounds_toArray, List.set_cons_zero, List.set_cons_succ])
              obtain ⟨yw6, hwx⟩ : ∃ wx, (yw5.setCell ⟨Gs, 0, none⟩ (.int .i64 U)).setCell ⟨Gs, 1, none⟩ (.int .i64 V) = wx := ⟨_, rfl⟩; rw [hwx] at Hd Hs hHeld ⊢; clear hwx
              refine wpAnyH_ready (rs := [11]) (by kernel_rfl) (by simp) ?_; refine AllReadyH.cons rfl (fun K hK => ?_) AllReadyH.nil
              obtain ⟨⟨a0, a1⟩, ⟨f0, f1⟩, az⟩ := Hd.out; go_simp; clear a0 f0 a1 f1 az
              have Hs := Lib.hid ((Hs.out.far ⟨Gd, 0, none⟩ (.int .i64 D) (by show Gs ≠ Gd; exact ne_s_d)).far ⟨Gd, 1, none⟩ (.int .i64 E) (by show Gs ≠ Gd; exact ne_s_d))
              have Hd := Lib.hid ((Hd.out.set0 D).set1 E)
              refine hK.out _ _ (Below.setCell (Below.setCell hHeld (p := ⟨Gd, 0, none⟩) le_d _) (p := ⟨Gd, 1, none⟩) le_d _) (fun hHeld2 => ?_); (clear hHeld; rename _ => hHeld; clear hK K; have hHeld : Below wB.heap.size wB _ := hHeld); (try simp only [Act.put, List.getElem_toArray, List.getElem_cons_succ, List.getElem_cons_zero, List.setIfInBounds_toArray, List.set_cons_zero, List.set_cons_succ])
              obtain ⟨yw7, hwx⟩ : ∃ wx, (yw6.setCell ⟨Gd, 0, none⟩ (.int .i64 D)).setCell ⟨Gd, 1, none⟩ (.int .i64 E) = wx := ⟨_, rfl⟩; rw [hwx] at Hd Hs hHeld ⊢; clear hwx
              refine wpAnyH_done (by kernel_rfl) ?_ _
              go_wp2_with fail
              go_meet
              exact ⟨Gs, Gd, rfl, rfl, Hs.out, Hd.out, by first | exact ne_s_d | exact Ne.symm ne_d_s, le_s, le_d, hHeld⟩
            · skip
              go_simp; obtain ⟨Gs, hGs⟩ : ∃ G, yw3.heap.size = G := ⟨_, rfl⟩; have le_s : wB.heap.size ≤ Gs := by rw [← hGs]; exact Below.size hHeld
              have ne_s_d : Gs ≠ Gd := by have := Hd.out.2.2; omega
              have ne_d_s : Gd ≠ Gs := Ne.symm ne_s_d
              have Hd := Lib.hid (Hd.out.below ((Below.refl _ _).alloc (Nat.le_refl _) (.cells #[.int .i64 0, .int .i64 0] 25))); skip
              have Hs : Hid (Bk2 (yw3.alloc (.cells #[.int .i64 0, .int .i64 0] 25)) Gs 0 0) := by rw [← hGs]; exact bk2_new yw3 0 0 _
              refine hK.out _ _ (Below.alloc hHeld (Below.size hHeld) _) (fun hHeld2 => ?_); (clear hHeld; rename _ => hHeld; clear hK K; have hHeld : Below wB.heap.size wB _ := hHeld); (try simp only [Act.put, List.getElem_toArray, List.getElem_cons_succ, List.getElem_cons_zero, List.setIfInBounds_toArray, List.set_cons_zero, List.set_cons_succ])
              rw [hGs]; clear hGs; obtain ⟨yw4, hwx⟩ : ∃ wx, yw3.alloc (.cells #[.int .i64 0, .int .i64 0] 25) = wx := ⟨_, rfl⟩; rw [hwx] at Hd Hs hHeld ⊢; clear hwx
              refine wpAnyH_ready (rs := [7]) (by kernel_rfl) (by simp) ?_; refine AllReadyH.cons rfl (fun K hK => ?_) AllReadyH.nil
              go_simp; (go_at_call 49; refine (HT2.out _).mono ?_; rintro en yw5 ⟨rfl, hb2⟩); have Hd := Lib.hid (Hd.out.below hb2); have Hs := Lib.hid (Hs.out.below hb2); refine hK.out _ _ (below_after hb2 hHeld) (fun hHeld2 => ?_); clear hb2; (clear hHeld; rename _ => hHeld; clear hK K; have hHeld : Below wB.heap.size wB _ := hHeld); (try simp only [Act.put, List.getElem_toArray, List.getElem_cons_succ, List.getElem_cons_zero, List.setIfInBounds_toArray, List.set_cons_zero, List.set_cons_succ])
              refine wpAnyH_ready (rs := [10]) (by kernel_rfl) (by simp) ?_; refine AllReadyH.cons rfl (fun K hK => ?_) AllReadyH.nil
              obtain ⟨⟨a0, a1⟩, ⟨f0, f1⟩, az⟩ := Hs.out; go_simp; clear a0 f0 a1 f1 az
              have Hd := Lib.hid ((Hd.out.far ⟨Gs, 0, none⟩ (.int .i64 U) (by show Gd ≠ Gs; exact ne_d_s)).far ⟨Gs, 1, none⟩ (.int .i64 V) (by show Gd ≠ Gs; exact ne_d_s))
              have Hs := Lib.hid ((Hs.out.set0 U).set1 V)
              refine hK.out _ _ (Below.setCell (Below.setCell hHeld (p := ⟨Gs, 0, none⟩) le_s _) (p := ⟨Gs, 1, none⟩) le_s _) (fun hHeld2 => ?_); (clear hHeld; rename _ => hHeld; clear hK K; have hHeld : Below wB.heap.size wB _ := hHeld); (try simp only [Act.put, List.getElem_toArray, List.getElem_cons_succ, List.getElem_cons_zero, List.setIfInBounds_toArray, List.set_cons_zero, List.set_cons_succ])
              obtain ⟨yw6, hwx⟩ : ∃ wx, (yw5.setCell ⟨Gs, 0, none⟩ (.int .i64 U)).setCell ⟨Gs, 1, none⟩ (.int .i64 V) = wx := ⟨_, rfl⟩; rw [hwx] at Hd Hs hHeld ⊢; clear hwx
              refine wpAnyH_ready (rs := [11]) (by kernel_rfl) (by simp) ?_; refine AllReadyH.cons rfl (fun K hK => ?_) AllReadyH.nil
              obtain ⟨⟨a0, a1⟩, ⟨f0, f1⟩, az⟩ := Hd.out; go_simp; clear a0 f0 a1 f1 az
              have Hs := Lib.hid ((Hs.out.far ⟨Gd, 0, none⟩ (.int .i64 D) (by show Gs ≠ Gd; exact ne_s_d)).far ⟨Gd, 1, none⟩ (.int .i64 E) (by show Gs ≠ Gd; exact ne_s_d))
              have Hd := Lib.hid ((Hd.out.set0 D).set1 E)
              refine hK.out _ _ (Below.setCell (Below.setCell hHeld (p := ⟨Gd, 0, none⟩) le_d _) (p := ⟨Gd, 1, none⟩) le_d _) (fun hHeld2 => ?_); (clear hHeld; rename _ => hHeld; clear hK K; have hHeld : Below wB.heap.size wB _ := hHeld); (try simp only [Act.put, List.getElem_toArray, List.getElem_cons_succ, List.getElem_cons_zero, List.setIfInBounds_toArray, List.set_cons_zero, List.set_cons_succ])
              obtain ⟨yw7, hwx⟩ : ∃ wx, (yw6.setCell ⟨Gd, 0, none⟩ (.int .i64 D)).setCell ⟨Gd, 1, none⟩ (.int .i64 E) = wx := ⟨_, rfl⟩; rw [hwx] at Hd Hs hHeld ⊢; clear hwx
              refine wpAnyH_done (by kernel_rfl) ?_ _
              go_wp2_with fail
              go_meet
              exact ⟨Gs, Gd, rfl, rfl, Hs.out, Hd.out, by first | exact ne_s_d | exact Ne.symm ne_d_s, le_s, le_d, hHeld⟩
          · skip
            go_simp; obtain ⟨Gs, hGs⟩ : ∃ G, yw2.heap.size = G := ⟨_, rfl⟩; have le_s : wB.heap.size ≤ Gs := by rw [← hGs]; exact Below.size hHeld
            have ne_s_d : Gs ≠ Gd := by have := Hd.out.2.2; omega
            have ne_d_s : Gd ≠ Gs := Ne.symm ne_s_d
            have Hd := Lib.hid (Hd.out.below ((Below.refl _ _).alloc (Nat.le_refl _) (.cells #[.int .i64 0, .int .i64 0] 25))); skip
            have Hs : Hid (Bk2 (yw2.alloc (.cells #[.int .i64 0, .int .i64 0] 25)) Gs 0 0) := by rw [← hGs]; exact bk2_new yw2 0 0 _
            refine hK.out _ _ (Below.alloc hHeld (Below.size hHeld) _) (fun hHeld2 => ?_); (clear hHeld; rename _ => hHeld; clear hK K; have hHeld : Below wB.heap.size wB _ := hHeld); (try simp only [Act.put, List.getElem_toArray, List.getElem_cons_succ, List.getElem_cons_zero, List.setIfInBounds_toArray, List.set_cons_zero, List.set_cons_succ])
            rw [hGs]; clear hGs; obtain ⟨yw3, hwx⟩ : ∃ wx, yw2.alloc (.cells #[.int .i64 0, .int .i64 0] 25) = wx := ⟨_, rfl⟩; rw [hwx] at Hd Hs hHeld ⊢; clear hwx
            refine wpAnyH_ready (rs := [6]) (by kernel_rfl) (by simp) ?_; refine AllReadyH.cons rfl (fun K hK => ?_) AllReadyH.nil
            go_simp; (go_at_call 50; refine (HP2.out _).mono ?_; rintro en yw4 ⟨rfl, hb2⟩); have Hd := Lib.hid (Hd.out.below hb2); have Hs := Lib.hid (Hs.out.below hb2); refine hK.out _ _ (below_after hb2 hHeld) (fun hHeld2 => ?_); clear hb2; (clear hHeld; rename _ => hHeld; clear hK K; have hHeld : Below wB.heap.size wB _ := hHeld); (try simp only [Act.put, List.getElem_toArray, List.getElem_cons_succ, List.getElem_cons_zero, List.setIfInBounds_toArray, List.set_cons_zero, List.set_cons_succ])
            refine wpAnyH_ready (rs := [7]) (by kernel_rfl) (by simp) ?_; refine AllReadyH.cons rfl (fun K hK => ?_) AllReadyH.nil
            go_simp; (go_at_call 49; refine (HT2.out _).mono ?_; rintro en yw5 ⟨rfl, hb2⟩); have Hd := Lib.hid (Hd.out.below hb2); have Hs := Lib.hid (Hs.out.below hb2); refine hK.out _ _ (below_after hb2 hHeld) (fun hHeld2 => ?_); clear hb2; (clear hHeld; rename _ => hHeld; clear hK K; have hHeld : Below wB.heap.size wB _ := hHeld); (try simp only [Act.put, List.getElem_toArray, List.getElem_cons_succ, List.getElem_cons_zero, List.setIfInBounds_toArray, List.set_cons_zero, List.set_cons_succ])
            refine wpAnyH_ready (rs := [10]) (by kernel_rfl) (by simp) ?_; refine AllReadyH.cons rfl (fun K hK => ?_) AllReadyH.nil
            obtain ⟨⟨a0, a1⟩, ⟨f0, f1⟩, az⟩ := Hs.out; go_simp; clear a0 f0 a1 f1 az
            have Hd := Lib.hid ((Hd.out.far ⟨Gs, 0, none⟩ (.int .i64 U) (by show Gd ≠ Gs; exact ne_d_s)).far ⟨Gs, 1, none⟩ (.int .i64 V) (by show Gd ≠ Gs; exact ne_d_s))
            have Hs := Lib.hid ((Hs.out.set0 U).set1 V)
            refine hK.out _ _ (Below.setCell (Below.setCell hHeld (p := ⟨Gs, 0, none⟩) le_s _) (p := ⟨Gs, 1, none⟩) le_s _) (fun hHeld2 => ?_); (clear hHeld; rename _ => hHeld; clear hK K; have hHeld : Below wB.heap.size wB _ := hHeld); (try simp only [Act.put, List.getElem_toArray, List.getElem_cons_succ, List.getElem_cons_zero, List.setIfInBounds_toArray, List.set_cons_zero, List.set_cons_succ])
            obtain ⟨yw6, hwx⟩ : ∃ wx, (yw5.setCell ⟨Gs, 0, none⟩ (.int .i64 U)).setCell ⟨Gs, 1, none⟩ (.int .i64 V) = wx := ⟨_, rfl⟩; rw [hwx] at Hd Hs hHeld ⊢; clear hwx
            refine wpAnyH_ready (rs := [11]) (by kernel_rfl) (by simp) ?_; refine AllReadyH.cons rfl (fun K hK => ?_) AllReadyH.nil
            obtain ⟨⟨a0, a1⟩, ⟨f0, f1⟩, az⟩ := Hd.out; go_simp; clear a0 f0 a1 f1 az
            have Hs := Lib.hid ((Hs.out.far ⟨Gd, 0, none⟩ (.int .i64 D) (by show Gs ≠ Gd; exact ne_s_d)).far ⟨Gd, 1, none⟩ (.int .i64 E) (by show Gs ≠ Gd; exact ne_s_d))
            have Hd := Lib.hid ((Hd.out.set0 D).set1 E)
            refine hK.out _ _ (Below.setCell (Below.setCell hHeld (p := ⟨Gd, 0, none⟩) le_d _) (p := ⟨Gd, 1, none⟩) le_d _) (fun hHeld2 => ?_); (clear hHeld; rename _ => hHeld; clear hK K; have hHeld : Below wB.heap.size wB _ := hHeld); (try simp only [Act.put, List.getElem_toArray, List.getElem_cons_succ, List.getElem_cons_zero, List.setIfInBounds_toArray, List.set_cons_zero, List.set_cons_succ])
            obtain ⟨yw7, hwx⟩ : ∃ wx, (yw6.setCell ⟨Gd, 0, none⟩ (.int .i64 D)).setCell ⟨Gd, 1, none⟩ (.int .i64 E) = wx := ⟨_, rfl⟩; rw [hwx] at Hd Hs hHeld ⊢; clear hwx
            refine wpAnyH_done (by kernel_rfl) ?_ _
            go_wp2_with fail
            go_meet
            exact ⟨Gs, Gd, rfl, rfl, Hs.out, Hd.out, by first | exact ne_s_d | exact Ne.symm ne_d_s, le_s, le_d, hHeld⟩
        · skip
          go_simp; obtain ⟨Gs, hGs⟩ : ∃ G, yw1.heap.size = G := ⟨_, rfl⟩; have le_s : wB.heap.size ≤ Gs := by rw [← hGs]; exact Below.size hHeld
          have ne_s_d : Gs ≠ Gd := by have := Hd.out.2.2; omega
          have ne_d_s : Gd ≠ Gs := Ne.symm ne_s_d
          have Hd := Lib.hid (Hd.out.below ((Below.refl _ _).alloc (Nat.le_refl _) (.cells #[.int .i64 0, .int .i64 0] 25))); skip
          have Hs : Hid (Bk2 (yw1.alloc (.cells #[.int .i64 0, .int .i64 0] 25)) Gs 0 0) := by rw [← hGs]; exact bk2_new yw1 0 0 _
          refine hK.out _ _ (Below.alloc hHeld (Below.size hHeld) _) (fun hHeld2 => ?_); (clear hHeld; rename _ => hHeld; clear hK K; have hHeld : Below wB.heap.size wB _ := hHeld); (try simp only [Act.put, List.getElem_toArray, List.getElem_cons_succ, List.getElem_cons_zero, List.setIfInBounds_toArray, List.set_cons_zero, List.set_cons_succ])
          rw [hGs]; clear hGs; obtain ⟨yw2, hwx⟩ : ∃ wx, yw1.alloc (.cells #[.int .i64 0, .int .i64 0] 25) = wx := ⟨_, rfl⟩; rw [hwx] at Hd Hs hHeld ⊢; clear hwx
          refine wpAnyH_ready (rs := [3]) (by kernel_rfl) (by simp) ?_; refine AllReadyH.cons rfl (fun K hK => ?_) AllReadyH.nil
          go_simp; (go_at_call 49; refine (HT1.out _).mono ?_; rintro en yw3 ⟨rfl, hb2⟩); have Hd := Lib.hid (Hd.out.below hb2); have Hs := Lib.hid (Hs.out.below hb2); refine hK.out _ _ (below_after hb2 hHeld) (fun hHeld2 => ?_); clear hb2; (clear hHeld; rename _ => hHeld; clear hK K; have hHeld : Below wB.heap.size wB _ := hHeld); (try simp only [Act.put, List.getElem_toArray, List.getElem_cons_succ, List.getElem_cons_zero, List.setIfInBounds_toArray, List.set_cons_zero, List.set_cons_succ])
          refine wpAnyH_ready (rs := [6]) (by kernel_rfl) (by simp) ?_; refine AllReadyH.cons rfl (fun K hK => ?_) AllReadyH.nil
          go_simp; (go_at_call 50; refine (HP2.out _).mono ?_; rintro en yw4 ⟨rfl, hb2⟩); have Hd := Lib.hid (Hd.out.below hb2); have Hs := Lib.hid (Hs.out.below hb2); refine hK.out _ _ (below_after hb2 hHeld) (fun hHeld2 => ?_); clear hb2; (clear hHeld; rename _ => hHeld; clear hK K; have hHeld : Below wB.heap.size wB _ := hHeld); (try simp only [Act.put, List.getElem_toArray, List.getElem_cons_succ, List.getElem_cons_zero, List.setIfInBounds_toArray, List.set_cons_zero, List.set_cons_succ])
          refine wpAnyH_ready (rs := [7]) (by kernel_rfl) (by simp) ?_; refine AllReadyH.cons rfl (fun K hK => ?_) AllReadyH.nil
          go_simp; (go_at_call 49; refine (HT2.out _).mono ?_; rintro en yw5 ⟨rfl, hb2⟩); have Hd := Lib.hid (Hd.out.below hb2); have Hs := Lib.hid (Hs.out.below hb2); refine hK.out _ _ (below_after hb2 hHeld) (fun hHeld2 => ?_); clear hb2; (clear hHeld; rename _ => hHeld; clear hK K; have hHeld : Below wB.heap.size wB _ := hHeld); (try simp only [Act.put, List.getElem_toArray, List.getElem_cons_succ, List.getElem_cons_zero, List.setIfInBounds_toArray, List.set_cons_zero, List.set_cons_succ])
          refine wpAnyH_ready (rs := [10]) (by kernel_rfl) (by simp) ?_; refine AllReadyH.cons rfl (fun K hK => ?_) AllReadyH.nil
          obtain ⟨⟨a0, a1⟩, ⟨f0, f1⟩, az⟩ := Hs.out; go_simp; clear a0 f0 a1 f1 az
          have Hd := Lib.hid ((Hd.out.far ⟨Gs, 0, none⟩ (.int .i64 U) (by show Gd ≠ Gs; exact ne_d_s)).far ⟨Gs, 1, none⟩ (.int .i64 V) (by show Gd ≠ Gs; exact ne_d_s))
          have Hs := Lib.hid ((Hs.out.set0 U).set1 V)
          refine hK.out _ _ (Below.setCell (Below.setCell hHeld (p := ⟨Gs, 0, none⟩) le_s _) (p := ⟨Gs, 1, none⟩) le_s _) (fun hHeld2 => ?_); (clear hHeld; rename _ => hHeld; clear hK K; have hHeld : Below wB.heap.size wB _ := hHeld); (try simp only [Act.put, List.getElem_toArray, List.getElem_cons_succ, List.getElem_cons_zero, List.setIfInBounds_toArray, List.set_cons_zero, List.set_cons_succ])
          obtain ⟨yw6, hwx⟩ : ∃ wx, (yw5.setCell ⟨Gs, 0, none⟩ (.int .i64 U)).setCell ⟨Gs, 1, none⟩ (.int .i64 V) = wx := ⟨_, rfl⟩; rw [hwx] at Hd Hs hHeld ⊢; clear hwx
          refine wpAnyH_ready (rs := [11]) (by kernel_rfl) (by simp) ?_; refine AllReadyH.cons rfl (fun K hK => ?_) AllReadyH.nil
          obtain ⟨⟨a0, a1⟩, ⟨f0, f1⟩, az⟩ := Hd.out; go_simp; clear a0 f0 a1 f1 az
          have Hs := Lib.hid ((Hs.out.far ⟨Gd, 0, none⟩ (.int .i64 D) (by show Gs ≠ Gd; exact ne_s_d)).far ⟨Gd, 1, none⟩ (.int .i64 E) (by show Gs ≠ Gd; exact ne_s_d))
          have Hd := Lib.hid ((Hd.out.set0 D).set1 E)
          refine hK.out _ _ (Below.setCell (Below.setCell hHeld (p := ⟨Gd, 0, none⟩) le_d _) (p := ⟨Gd, 1, none⟩) le_d _) (fun hHeld2 => ?_); (clear hHeld; rename _ => hHeld; clear hK K; have hHeld : Below wB.heap.size wB _ := hHeld); (try simp only [Act.put, List.getElem_toArray, List.getElem_cons_succ, List.getElem_cons_zero, List.setIfInBounds_toArray, List.set_cons_zero, List.set_cons_succ])
          obtain ⟨yw7, hwx⟩ : ∃ wx, (yw6.setCell ⟨Gd, 0, none⟩ (.int .i64 D)).setCell ⟨Gd, 1, none⟩ (.int .i64 E) = wx := ⟨_, rfl⟩; rw [hwx] at Hd Hs hHeld ⊢; clear hwx
          refine wpAnyH_done (by kernel_rfl) ?_ _
          go_wp2_with fail
          go_meet
          exact ⟨Gs, Gd, rfl, rfl, Hs.out, Hd.out, by first | exact ne_s_d | exact Ne.symm ne_d_s, le_s, le_d, hHeld⟩
    · skip
      go_simp; obtain ⟨Gs, hGs⟩ : ∃ G, wD.heap.size = G := ⟨_, rfl⟩; have le_s : wB.heap.size ≤ Gs := by rw [← hGs]; exact Below.size hHeld
      have Hs : Hid (Bk2 (wD.alloc (.cells #[.int .i64 0, .int .i64 0] 25)) Gs 0 0) := by rw [← hGs]; exact bk2_new wD 0 0 _
      refine hK.out _ _ (Below.alloc hHeld (Below.size hHeld) _) (fun hHeld2 => ?_); (clear hHeld; rename _ => hHeld; clear hK K; have hHeld : Below wB.heap.size wB _ := hHeld); (try simp only [Act.put, List.getElem_toArray, List.getElem_cons_succ, List.getElem_cons_zero, List.setIfInBounds_toArray, List.set_cons_zero, List.set_cons_succ])
      rw [hGs]; clear hGs; obtain ⟨yw0, hwx⟩ : ∃ wx, wD.alloc (.cells #[.int .i64 0, .int .i64 0] 25) = wx := ⟨_, rfl⟩; rw [hwx] at Hs hHeld ⊢; clear hwx
      refine wpAnyH_ready (rs := [2, 9]) (by kernel_rfl) (by simp) ?_; refine AllReadyH.cons rfl (fun K hK => ?_) (AllReadyH.cons rfl (fun K hK => ?_) AllReadyH.nil)
      · skip
        go_simp; (go_at_call 50; refine (HP1.out _).mono ?_; rintro en yw1 ⟨rfl, hb2⟩); have Hs := Lib.hid (Hs.out.below hb2); refine hK.out _ _ (below_after hb2 hHeld) (fun hHeld2 => ?_); clear hb2; (clear hHeld; rename _ => hHeld; clear hK K; have hHeld : Below wB.heap.size wB _ := hHeld); (try simp only [Act.put, List.getElem_toArray, List.getElem_cons_succ, List.getElem_cons_zero, List.setIfInBounds_toArray, List.set_cons_zero, List.set_cons_succ])
        refine wpAnyH_ready (rs := [3, 9]) (by kernel_rfl) (by simp) ?_; refine AllReadyH.cons rfl (fun K hK => ?_) (AllReadyH.cons rfl (fun K hK => ?_) AllReadyH.nil)
        · skip
          go_simp; (go_at_call 49; refine (HT1.out _).mono ?_; rintro en yw2 ⟨rfl, hb2⟩); have Hs := Lib.hid (Hs.out.below hb2); refine hK.out _ _ (below_after hb2 hHeld) (fun hHeld2 => ?_); clear hb2; (clear hHeld; rename _ => hHeld; clear hK K; have hHeld : Below wB.heap.size wB _ := hHeld); (try simp only [Act.put, List.getElem_toArray, List.getElem_cons_succ, List.getElem_cons_zero, List.setIfInBounds_toArray, List.set_cons_zero, List.set_cons_succ])
          refine wpAnyH_ready (rs := [6, 9]) (by kernel_rfl) (by simp) ?_; refine AllReadyH.cons rfl (fun K hK => ?_) (AllReadyH.cons rfl (fun K hK => ?_) AllReadyH.nil)
          · skip
            go_simp; (go_at_call 50; refine (HP2.out _).mono ?_; rintro en yw3 ⟨rfl, hb2⟩); have Hs := Lib.hid (Hs.out.below hb2); refine hK.out _ _ (below_after hb2 hHeld) (fun hHeld2 => ?_); clear hb2; (clear hHeld; rename _ => hHeld; clear hK K; have hHeld : Below wB.heap.size wB _ := hHeld); (try simp only [Act.put, List.getElem_toArray, List.getElem_cons_succ, List.getElem_cons_zero, List.setIfInBounds_toArray, List.set_cons_zero, List.set_cons_succ])
            refine wpAnyH_ready (rs := [7, 9]) (by kernel_rfl) (by simp) ?_; refine AllReadyH.cons rfl (fun K hK => ?_) (AllReadyH.cons rfl (fun K hK => ?_) AllReadyH.nil)
            · skip
              go_simp; (go_at_call 49; refine (HT2.out _).mono ?_; rintro en yw4 ⟨rfl, hb2⟩); have Hs := Lib.hid (Hs.out.below hb2); refine hK.out _ _ (below_after hb2 hHeld) (fun hHeld2 => ?_); clear hb2; (clear hHeld; rename _ => hHeld; clear hK K; have hHeld : Below wB.heap.size wB _ := hHeld); (try simp only [Act.put, List.getElem_toArray, List.getElem_cons_succ, List.getElem_cons_zero, List.setIfInBounds_toArray, List.set_cons_zero, List.set_cons_succ])
              refine wpAnyH_ready (rs := [9]) (by kernel_rfl) (by simp) ?_; refine AllReadyH.cons rfl (fun K hK => ?_) AllReadyH.nil
              go_simp; obtain ⟨Gd, hGd⟩ : ∃ G, yw4.heap.size = G := ⟨_, rfl⟩; have le_d : wB.heap.size ≤ Gd := by rw [← hGd]; exact Below.size hHeld
              have ne_d_s : Gd ≠ Gs := by have := Hs.out.2.2; omega
              have ne_s_d : Gs ≠ Gd := Ne.symm ne_d_s
              have Hs := Lib.hid (Hs.out.below ((Below.refl _ _).alloc (Nat.le_refl _) (.cells #[.int .i64 0, .int .i64 0] 25))); skip
              have Hd : Hid (Bk2 (yw4.alloc (.cells #[.int .i64 0, .int .i64 0] 25)) Gd 0 0) := by rw [← hGd]; exact bk2_new yw4 0 0 _
              refine hK.out _ _ (Below.alloc hHeld (Below.size hHeld) _) (fun hHeld2 => ?_); (clear hHeld; rename _ => hHeld; clear hK K; have hHeld : Below wB.heap.size wB _ := hHeld); (try simp only [Act.put, List.getElem_toArray, List.getElem_cons_succ, List.getElem_cons_zero, List.setIfInBounds_toArray, List.set_cons_zero, List.set_cons_succ])
              rw [hGd]; clear hGd; obtain ⟨yw5, hwx⟩ : ∃ wx, yw4.alloc (.cells #[.int .i64 0, .int .i64 0] 25) = wx := ⟨_, rfl⟩; rw [hwx] at Hs Hd hHeld ⊢; clear hwx
              refine wpAnyH_ready (rs := [10]) (by kernel_rfl) (by simp) ?_; refine AllReadyH.cons rfl (fun K hK => ?_) AllReadyH.nil
              obtain ⟨⟨a0, a1⟩, ⟨f0, f1⟩, az⟩ := Hs.out; go_simp; clear a0 f0 a1 f1 az
              have Hd := Lib.hid ((Hd.out.far ⟨Gs, 0, none⟩ (.int .i64 U) (by show Gd ≠ Gs; exact ne_d_s)).far ⟨Gs, 1, none⟩ (.int .i64 V) (by show Gd ≠ Gs; exact ne_d_s))
              have Hs := Lib.hid ((Hs.out.set0 U).set1 V)
              refine hK.out _ _ (Below.setCell (Below.setCell hHeld (p := ⟨Gs, 0, none⟩) le_s _) (p := ⟨Gs, 1, none⟩) le_s _) (fun hHeld2 => ?_); (clear hHeld; rename _ => hHeld; clear hK K; have hHeld : Below wB.heap.size wB _ := hHeld); (try simp only [Act.put, List.getElem_toArray, List.getElem_cons_succ, List.getElem_cons_zero, List.setIfInBounds_toArray, List.set_cons_zero, List.set_cons_succ])
              obtain ⟨yw6, hwx⟩ : ∃ wx, (yw5.setCell ⟨Gs, 0, none⟩ (.int .i64 U)).setCell ⟨Gs, 1, none⟩ (.int .i64 V) = wx := ⟨_, rfl⟩; rw [hwx] at Hs Hd hHeld ⊢; clear hwx
              refine wpAnyH_ready (rs := [11]) (by kernel_rfl) (by simp) ?_; refine AllReadyH.cons rfl (fun K hK => ?_) AllReadyH.nil
              obtain ⟨⟨a0, a1⟩, ⟨f0, f1⟩, az⟩ := Hd.out; go_simp; clear a0 f0 a1 f1 az
              have Hs := Lib.hid ((Hs.out.far ⟨Gd, 0, none⟩ (.int .i64 D) (by show Gs ≠ Gd; exact ne_s_d)).far ⟨Gd, 1, none⟩ (.int .i64 E) (by show Gs ≠ Gd; exact ne_s_d))
              have Hd := Lib.hid ((Hd.out.set0 D).set1 E)
              refine hK.out _ _ (Below.setCell (Below.setCell hHeld (p := ⟨Gd, 0, none⟩) le_d _) (p := ⟨Gd, 1, none⟩) le_d _) (fun hHeld2 => ?_); (clear hHeld; rename _ => hHeld; clear hK K; have hHeld : Below wB.heap.size wB _ := hHeld); (try simp only [Act.put, List.getElem_toArray, List.getElem_cons_succ, List.getElem_cons_zero, List.setIfInBounds_toArray, List.set_cons_zero, List.set_cons_succ])
              obtain ⟨yw7, hwx⟩ : ∃ wx, (yw6.setCell ⟨Gd, 0, none⟩ (.int .i64 D)).setCell ⟨Gd, 1, none⟩ (.int .i64 E) = wx := ⟨_, rfl⟩; rw [hwx] at Hs Hd hHeld ⊢; clear hwx
              refine wpAnyH_done (by kernel_rfl) ?_ _
              go_wp2_with fail
              go_meet
              exact ⟨Gs, Gd, rfl, rfl, Hs.out, Hd.out, by first | exact ne_s_d | exact Ne.symm ne_d_s, le_s, le_d, hHeld⟩
            · skip
              go_simp; obtain ⟨Gd, hGd⟩ : ∃ G, yw3.heap.size = G := ⟨_, rfl⟩; have le_d : wB.heap.size ≤ Gd := by rw [← hGd]; exact Below.size hHeld
              have ne_d_s : Gd ≠ Gs := by have := Hs.out.2.2; omega
              have ne_s_d : Gs ≠ Gd := Ne.symm ne_d_s
              have Hs := Lib.hid (Hs.out.below ((Below.refl _ _).alloc (Nat.le_refl _) (.cells #[.int .i64 0, .int .i64 0] 25))); skip
              have Hd : Hid (Bk2 (yw3.alloc (.cells #[.int .i64 0, .int .i64 0] 25)) Gd 0 0) := by rw [← hGd]; exact bk2_new yw3 0 0 _
              refine hK.out _ _ (Below.alloc hHeld (Below.size hHeld) _) (fun hHeld2 => ?_); (clear hHeld; rename _ => hHeld; clear hK K; have hHeld : Below wB.heap.size wB _ := hHeld); (try simp only [Act.put, List.getElem_toArray, List.getElem_cons_succ, List.getElem_cons_zero, List.setIfInBounds_toArray, List.set_cons_zero, List.set_cons_succ])
              rw [hGd]; clear hGd; obtain ⟨yw4, hwx⟩ : ∃ wx, yw3.alloc (.cells #[.int .i64 0, .int .i64 0] 25) = wx := ⟨_, rfl⟩; rw [hwx] at Hs Hd hHeld ⊢; clear hwx
              refine wpAnyH_ready (rs := [7]) (by kernel_rfl) (by simp) ?_; refine AllReadyH.cons rfl (fun K hK => ?_) AllReadyH.nil
              go_simp; (go_at_call 49; refine (HT2.out _).mono ?_; rintro en yw5 ⟨rfl, hb2⟩); have Hs := Lib.hid (Hs.out.below hb2); have Hd := Lib.hid (Hd.out.below hb2); refine hK.out _ _ (below_after hb2 hHeld) (fun hHeld2 => ?_); clear hb2; (clear hHeld; rename _ => hHeld; clear hK K; have hHeld : Below wB.heap.size wB _ := hHeld); (try simp only [Act.put, List.getElem_toArray, List.getElem_cons_succ, List.getElem_cons_zero, List.setIfInBounds_toArray, List.set_cons_zero, List.set_cons_succ])
              refine wpAnyH_ready (rs := [10]) (by kernel_rfl) (by simp) ?_; refine AllReadyH.cons rfl (fun K hK => ?_) AllReadyH.nil
              obtain ⟨⟨a0, a1⟩, ⟨f0, f1⟩, az⟩ := Hs.out; go_simp; clear a0 f0 a1 f1 az
              have Hd := Lib.hid ((Hd.out.far ⟨Gs, 0, none⟩ (.int .i64 U) (by show Gd ≠ Gs; exact ne_d_s)).far ⟨Gs, 1, none⟩ (.int .i64 V) (by show Gd ≠ Gs; exact ne_d_s))
              have Hs := Lib.hid ((Hs.out.set0 U).set1 V)
              refine hK.out _ _ (Below.setCell (Below.setCell hHeld (p := ⟨Gs, 0, none⟩) le_s _) (p := ⟨Gs, 1, none⟩) le_s _) (fun hHeld2 => ?_); (clear hHeld; rename _ => hHeld; clear hK K; have hHeld : Below wB.heap.size wB _ := hHeld); (try simp only [Act.put, List.getElem_toArray, List.getElem_cons_succ, List.getElem_cons_zero, List.setIfInBounds_toArray, List.set_cons_zero, List.set_cons_succ])
              obtain ⟨yw6, hwx⟩ : ∃ wx, (yw5.setCell ⟨Gs, 0, none⟩ (.int .i64 U)).setCell ⟨Gs, 1, none⟩ (.int .i64 V) = wx := ⟨_, rfl⟩; rw [hwx] at Hs Hd hHeld ⊢; clear hwx
              refine wpAnyH_ready (rs := [11]) (by kernel_rfl) (by simp) ?_; refine AllReadyH.cons rfl (fun K hK => ?_) AllReadyH.nil
              obtain ⟨⟨a0, a1⟩, ⟨f0, f1⟩, az⟩ := Hd.out; go_simp; clear a0 f0 a1 f1 az
              have Hs := Lib.hid ((Hs.out.far ⟨Gd, 0, none⟩ (.int .i64 D) (by show Gs ≠ Gd; exact ne_s_d)).far ⟨Gd, 1, none⟩ (.int .i64 E) (by show Gs ≠ Gd; exact ne_s_d))
              have Hd := Lib.hid ((Hd.out.set0 D).set1 E)
              refine hK.out _ _ (Below.setCell (Below.setCell hHeld (p := ⟨Gd, 0, none⟩) le_d _) (p := ⟨Gd, 1, none⟩) le_d _) (fun hHeld2 => ?_); (clear hHeld; rename _ => hHeld; clear hK K; have hHeld : Below wB.heap.size wB _ := hHeld); (try simp only [Act.put, List.getElem_toArray, List.getElem_cons_succ, List.getElem_cons_zero, List.setIfInBounds_toArray, List.set_cons_zero, List.set_cons_succ])
              obtain ⟨yw7, hwx⟩ : ∃ wx, (yw6.setCell ⟨Gd, 0, none⟩ (.int .i64 D)).setCell ⟨Gd, 1, none⟩ (.int .i64 E) = wx := ⟨_, rfl⟩; rw [hwx] at Hs Hd hHeld ⊢; clear hwx
              refine wpAnyH_done (by kernel_rfl) ?_ _
              go_wp2_with fail
              go_meet
              exact ⟨Gs, Gd, rfl, rfl, Hs.out, Hd.out, by first | exact ne_s_d | exact Ne.symm ne_d_s, le_s, le_d, hHeld⟩
          · skip
            go_simp; obtain ⟨Gd, hGd⟩ : ∃ G, yw2.heap.size = G := ⟨_, rfl⟩; have le_d : wB.heap.size ≤ Gd := by rw [← hGd]; exact Below.size hHeld
            have ne_d_s : Gd ≠ Gs := by have := Hs.out.2.2; omega
            have ne_s_d : Gs ≠ Gd := Ne.symm ne_d_s
            have Hs := Lib.hid (Hs.out.below ((Below.refl _ _).alloc (Nat.le_refl _) (.cells #[.int .i64 0, .int .i64 0] 25))); skip
            have Hd : Hid (Bk2 (yw2.alloc (.cells #[.int .i64 0, .int .i64 0] 25)) Gd 0 0) := by rw [← hGd]; exact bk2_new yw2 0 0 _
            refine hK.out _ _ (Below.alloc hHeld (Below.size hHeld) _) (fun hHeld2 => ?_); (clear hHeld; rename _ => hHeld; clear hK K; have hHeld : Below wB.heap.size wB _ := hHeld); (try simp only [Act.put, List.getElem_toArray, List.getElem_cons_succ, List.getElem_cons_zero, List.setIfInBounds_toArray, List.set_cons_zero, List.set_cons_succ])
            rw [hGd]; clear hGd; obtain ⟨yw3, hwx⟩ : ∃ wx, yw2.alloc (.cells #[.int .i64 0, .int .i64 0] 25) = wx := ⟨_, rfl⟩; rw [hwx] at Hs Hd hHeld ⊢; clear hwx
            refine wpAnyH_ready (rs := [6]) (by kernel_rfl) (by simp) ?_; refine AllReadyH.cons rfl (fun K hK => ?_) AllReadyH.nil
            go_simp; (go_at_call 50; refine (HP2.out _).mono ?_; rintro en yw4 ⟨rfl, hb2⟩); have Hs := Lib.hid (Hs.out.below hb2); have Hd := Lib.hid (Hd.out.below hb2); refine hK.out _ _ (below_after hb2 hHeld) (fun hHeld2 => ?_); clear hb2; (clear hHeld; rename _ => hHeld; clear hK K; have hHeld : Below wB.heap.size wB _ := hHeld); (try simp only [Act.put, List.getElem_toArray, List.getElem_cons_succ, List.getElem_cons_zero, List.setIfInBounds_toArray, List.set_cons_zero, List.set_cons_succ])
            refine wpAnyH_ready (rs := [7]) (by kernel_rfl) (by simp) ?_; refine AllReadyH.cons rfl (fun K hK => ?_) AllReadyH.nil
            go_simp; (go_at_call 49; refine (HT2.out _).mono ?_; rintro en yw5 ⟨rfl, hb2⟩); have Hs := Lib.hid (Hs.out.below hb2); have Hd := Lib.hid (Hd.out.below hb2); refine hK.out _ _ (below_after hb2 hHeld) (fun hHeld2 => ?_); clear hb2; (clear hHeld; rename _ => hHeld; clear hK K; have hHeld : Below wB.heap.size wB _ := hHeld); (try simp only [Act.put, List.getElem_toArray, List.getElem_cons_succ, List.getElem_cons_zero, List.setIfInBounds_toArray, List.set_cons_zero, List.set_cons_succ])
            refine wpAnyH_ready (rs := [10]) (by kernel_rfl) (by simp) ?_; refine AllReadyH.cons rfl (fun K hK => ?_) AllReadyH.nil
            obtain ⟨⟨a0, a1⟩, ⟨f0, f1⟩, az⟩ := Hs.out; go_simp; clear a0 f0 a1 f1 az
            have Hd := Lib.hid ((Hd.out.far ⟨Gs, 0, none⟩ (.int .i64 U) (by show Gd ≠ Gs; exact ne_d_s)).far ⟨Gs, 1, none⟩ (.int .i64 V) (by show Gd ≠ Gs; exact ne_d_s))
            have Hs := Lib.hid ((Hs.out.set0 U).set1 V)
            refine hK.out _ _ (Below.setCell (Below.setCell hHeld (p := ⟨Gs, 0, none⟩) le_s _) (p := ⟨Gs, 1, none⟩) le_s _) (fun hHeld2 => ?_); (clear hHeld; rename _ => hHeld; clear hK K; have hHeld : Below wB.heap.size wB _ := hHeld); (try simp only [Act.put, List.getElem_toArray, List.getElem_cons_succ, List.getElem_cons_zero, List.setIfInBounds_toArray, List.set_cons_zero, List.set_cons_succ])
            obtain ⟨yw6, hwx⟩ : ∃ wx, (yw5.setCell ⟨Gs, 0, none⟩ (.int .i64 U)).setCell ⟨Gs, 1, none⟩ (.int .i64 V) = wx := ⟨_, rfl⟩; rw [hwx] at Hs Hd hHeld ⊢; clear hwx
            refine wpAnyH_ready (rs := [11]) (by kernel_rfl) (by simp) ?_; refine AllReadyH.cons rfl (fun K hK => ?_) AllReadyH.nil
            obtain ⟨⟨a0, a1⟩, ⟨f0, f1⟩, az⟩ := Hd.out; go_simp; clear a0 f0 a1 f1 az
            have Hs := Lib.hid ((Hs.out.far ⟨Gd, 0, none⟩ (.int .i64 D) (by show Gs ≠ Gd; exact ne_s_d)).far ⟨Gd, 1, none⟩ (.int .i64 E) (by show Gs ≠ Gd; exact ne_s_d))
            have Hd := Lib.hid ((Hd.out.set0 D).set1 E)
            refine hK.out _ _ (Below.setCell (Below.setCell hHeld (p := ⟨Gd, 0, none⟩) le_d _) (p := ⟨Gd, 1, none⟩) le_d _) (fun hHeld2 => ?_); (clear hHeld; rename _ => hHeld; clear hK K; have hHeld : Below wB.heap.size wB _ := hHeld); (try simp only [Act.put, List.getElem_toArray, List.getElem_cons_succ, List.getElem_cons_zero, List.setIfInBounds_toArray, List.set_cons_zero, List.set_cons_succ])
            obtain ⟨yw7, hwx⟩ : ∃ wx, (yw6.setCell ⟨Gd, 0, none⟩ (.int .i64 D)).setCell ⟨Gd, 1, none⟩ (.int .i64 E) = wx := ⟨_, rfl⟩; rw [hwx] at Hs Hd hHeld ⊢; clear hwx
            refine wpAnyH_done (by kernel_rfl) ?_ _
            go_wp2_with fail
            go_meet
            exact ⟨Gs, Gd, rfl, rfl, Hs.out, Hd.out, by first | exact ne_s_d | exact Ne.symm ne_d_s, le_s, le_d, hHeld⟩
        · skip
          go_simp; obtain ⟨Gd, hGd⟩ : ∃ G, yw1.heap.size = G := ⟨_, rfl⟩; have le_d : wB.heap.size ≤ Gd := by rw [← hGd]; exact Below.size hHeld
          have ne_d_s : Gd ≠ Gs := by have := Hs.out.2.2; omega
          have ne_s_d : Gs ≠ Gd := Ne.symm ne_d_s
          have Hs := Lib.hid (Hs.out.below ((Below.refl _ _).alloc (Nat.le_refl _) (.cells #[.int .i64 0, .int .i64 0] 25))); skip
          have Hd : Hid (Bk2 (yw1.alloc (.cells #[.int .i64 0, .int .i64 0] 25)) Gd 0 0) := by rw [← hGd]; exact bk2_new yw1 0 0 _
          refine hK.out _ _ (Below.alloc hHeld (Below.size hHeld) _) (fun hHeld2 => ?_); (clear hHeld; rename _ => hHeld; clear hK K; have hHeld : Below wB.heap.size wB _ := hHeld); (try simp only [Act.put, List.getElem_toArray, List.getElem_cons_succ, List.getElem_cons_zero, List.setIfInBounds_toArray, List.set_cons_zero, List.set_cons_succ])
          rw [hGd]; clear hGd; obtain ⟨yw2, hwx⟩ : ∃ wx, yw1.alloc (.cells #[.int .i64 0, .int .i64 0] 25) = wx := ⟨_, rfl⟩; rw [hwx] at Hs Hd hHeld ⊢; clear hwx
          refine wpAnyH_ready (rs := [3]) (by kernel_rfl) (by simp) ?_; refine AllReadyH.cons rfl (fun K hK => ?_) AllReadyH.nil
          go_simp; (go_at_call 49; refine (HT1.out _).mono ?_; rintro en yw3 ⟨rfl, hb2⟩); have Hs := Lib.hid (Hs.out.below hb2); have Hd := Lib.hid (Hd.out.below hb2); refine hK.out _ _ (below_after hb2 hHeld) (fun hHeld2 => ?_); clear hb2; (clear hHeld; rename _ => hHeld; clear hK K; have hHeld : Below wB.heap.size wB _ := hHeld); (try simp only [Act.put, List.getElem_toArray, List.getElem_cons_succ, List.getElem_cons_zero, List.setIfInBounds_toArray, List.set_cons_zero, List.set_cons_succ])
          refine wpAnyH_ready (rs := [6]) (by kernel_rfl) (by simp) ?_; refine AllReadyH.cons rfl (fun K hK => ?_) AllReadyH.nil
          go_simp; (go_at_call 50; refine (HP2.out _).mono ?_; rintro en yw4 ⟨rfl, hb2⟩); have Hs := Lib.hid (Hs.out.below hb2); have Hd := Lib.hid (Hd.out.below hb2); refine hK.out _ _ (below_after hb2 hHeld) (fun hHeld2 => ?_); clear hb2; (clear hHeld; rename _ => hHeld; clear hK K; have hHeld : Below wB.heap.size wB _ := hHeld); (try simp only [Act.put, List.getElem_toArray, List.getElem_cons_succ, List.getElem_cons_zero, List.setIfInBounds_toArray, List.set_cons_zero, List.set_cons_succ])
          refine wpAnyH_ready (rs := [7]) (by kernel_rfl) (by simp) ?_; refine AllReadyH.cons rfl (fun K hK => ?_) AllReadyH.nil
          go_simp; (go_at_call 49; refine (HT2.out _).mono ?_; rintro en yw5 ⟨rfl, hb2⟩); have Hs := Lib.hid (Hs.out.below hb2); have Hd := Lib.hid (Hd.out.below hb2); refine hK.out _ _ (below_after hb2 hHeld) (fun hHeld2 => ?_); clear hb2; (clear hHeld; rename _ => hHeld; clear hK K; have hHeld : Below wB.heap.size wB _ := hHeld); (try simp only [Act.put, List.getElem_toArray, List.getElem_cons_succ, List.getElem_cons_zero, List.setIfInBounds_toArray, List.set_cons_zero, List.set_cons_succ])
          refine wpAnyH_ready (rs := [10]) (by kernel_rfl) (by simp) ?_; refine AllReadyH.cons rfl (fun K hK => ?_) AllReadyH.nil
          obtain ⟨⟨a0, a1⟩, ⟨f0, f1⟩, az⟩ := Hs.out; go_simp; clear a0 f0 a1 f1 az
          have Hd := Lib.hid ((Hd.out.far ⟨Gs, 0, none⟩ (.int .i64 U) (by show Gd ≠ Gs; exact ne_d_s)).far ⟨Gs, 1, none⟩ (.int .i64 V) (by show Gd ≠ Gs; exact ne_d_s))
          have Hs := Lib.hid ((Hs.out.set0 U).set1 V)
          refine hK.out _ _ (Below.setCell (Below.setCell hHeld (p := ⟨Gs, 0, none⟩) le_s _) (p := ⟨Gs, 1, none⟩) le_s _) (fun hHeld2 => ?_); (clear hHeld; rename _ => hHeld; clear hK K; have hHeld : Below wB.heap.size wB _ := hHeld); (try simp only [Act.put, List.getElem_toArray, List.getElem_cons_succ, List.getElem_cons_zero, List.setIfInBounds_toArray, List.set_cons_zero, List.set_cons_succ])
          obtain ⟨yw6, hwx⟩ : ∃ wx, (yw5.setCell ⟨Gs, 0, none⟩ (.int .i64 U)).setCell ⟨Gs, 1, none⟩ (.int .i64 V) = wx := ⟨_, rfl⟩; rw [hwx] at Hs Hd hHeld ⊢; clear hwx
          refine wpAnyH_ready (rs := [11]) (by kernel_rfl) (by simp) ?_; refine AllReadyH.cons rfl (fun K hK => ?_) AllReadyH.nil
          obtain ⟨⟨a0, a1⟩, ⟨f0, f1⟩, az⟩ := Hd.out; go_simp; clear a0 f0 a1 f1 az
          have Hs := Lib.hid ((Hs.out.far ⟨Gd, 0, none⟩ (.int .i64 D) (by show Gs ≠ Gd; exact ne_s_d)).far ⟨Gd, 1, none⟩ (.int .i64 E) (by show Gs ≠ Gd; exact ne_s_d))
          have Hd := Lib.hid ((Hd.out.set0 D).set1 E)
          refine hK.out _ _ (Below.setCell (Below.setCell hHeld (p := ⟨Gd, 0, none⟩) le_d _) (p := ⟨Gd, 1, none⟩) le_d _) (fun hHeld2 => ?_); (clear hHeld; rename _ => hHeld; clear hK K; have hHeld : Below wB.heap.size wB _ := hHeld); (try simp only [Act.put, List.getElem_toArray, List.getElem_cons_succ, List.getElem_cons_zero, List.setIfInBounds_toArray, List.set_cons_zero, List.set_cons_succ])
          obtain ⟨yw7, hwx⟩ : ∃ wx, (yw6.setCell ⟨Gd, 0, none⟩ (.int .i64 D)).setCell ⟨Gd, 1, none⟩ (.int .i64 E) = wx := ⟨_, rfl⟩; rw [hwx] at Hs Hd hHeld ⊢; clear hwx
          refine wpAnyH_done (by kernel_rfl) ?_ _
          go_wp2_with fail
          go_meet
          exact ⟨Gs, Gd, rfl, rfl, Hs.out, Hd.out, by first | exact ne_s_d | exact Ne.symm ne_d_s, le_s, le_d, hHeld⟩
      · skip
        go_simp; obtain ⟨Gd, hGd⟩ : ∃ G, yw0.heap.size = G := ⟨_, rfl⟩; have le_d : wB.heap.size ≤ Gd := by rw [← hGd]; exact Below.size hHeld
        have ne_d_s : Gd ≠ Gs := by have := Hs.out.2.2; omega
        have ne_s_d : Gs ≠ Gd := Ne.symm ne_d_s
        have Hs := Lib.hid (Hs.out.below ((Below.refl _ _).alloc (Nat.le_refl _) (.cells #[.int .i64 0, .int .i64 0] 25))); skip
        have Hd : Hid (Bk2 (yw0.alloc (.cells #[.int .i64 0, .int .i64 0] 25)) Gd 0 0) := by rw [← hGd]; exact bk2_new yw0 0 0 _
        refine hK.out _ _ (Below.alloc hHeld (Below.size hHeld) _) (fun hHeld2 => ?_); (clear hHeld; rename _ => hHeld; clear hK K; have hHeld : Below wB.heap.size wB _ := hHeld); (try simp only [Act.put, List.getElem_toArray, List.getElem_cons_succ, List.getElem_cons_zero, List.setIfInBounds_toArray, List.set_cons_zero, List.set_cons_succ])
        rw [hGd]; clear hGd; obtain ⟨yw1, hwx⟩ : ∃ wx, yw0.alloc (.cells #[.int .i64 0, .int .i64 0] 25) = wx := ⟨_, rfl⟩; rw [hwx] at Hs Hd hHeld ⊢; clear hwx
        refine wpAnyH_ready (rs := [2]) (by kernel_rfl) (by simp) ?_; refine AllReadyH.cons rfl (fun K hK => ?_) AllReadyH.nil
        go_simp; (go_at_call 50; refine (HP1.out _).mono ?_; rintro en yw2 ⟨rfl, hb2⟩); have Hs := Lib.hid (Hs.out.below hb2); have Hd := Lib.hid (Hd.out.below hb2); refine hK.out _ _ (below_after hb2 hHeld) (fun hHeld2 => ?_); clear hb2; (clear hHeld; rename _ => hHeld; clear hK K; have hHeld : Below wB.heap.size wB _ := hHeld); (try simp only [Act.put, List.getElem_toArray, List.getElem_cons_succ, List.getElem_cons_zero, List.setIfInBounds_toArray, List.set_cons_zero, List.set_cons_succ])
        refine wpAnyH_ready (rs := [3]) (by kernel_rfl) (by simp) ?_; refine AllReadyH.cons rfl (fun K hK => ?_) AllReadyH.nil
        go_simp; (go_at_call 49; refine (HT1.out _).mono ?_; rintro en yw3 ⟨rfl, hb2⟩); have Hs := Lib.hid (Hs.out.below hb2); have Hd := Lib.hid (Hd.out.below hb2); refine hK.out _ _ (below_after hb2 hHeld) (fun hHeld2 => ?_); clear hb2; (clear hHeld; rename _ => hHeld; clear hK K; have hHeld : Below wB.heap.size wB _ := hHeld); (try simp only [Act.put, List.getElem_toArray, List.getElem_cons_succ, List.getElem_cons_zero, List.setIfInBounds_toArray, List.set_cons_zero, List.set_cons_succ])
        refine wpAnyH_ready (rs := [6]) (by kernel_rfl) (by simp) ?_; refine AllReadyH.cons rfl (fun K hK => ?_) AllReadyH.nil
        go_simp; (go_at_call 50; refine (HP2.out _).mono ?_; rintro en yw4 ⟨rfl, hb2⟩); have Hs := Lib.hid (Hs.out.below hb2); have Hd := Lib.hid (Hd.out.below hb2); refine hK.out _ _ (below_after hb2 hHeld) (fun hHeld2 => ?_); clear hb2; (clear hHeld; rename _ => hHeld; clear hK K; have hHeld : Below wB.heap.size wB _ := hHeld); (try simp only [Act.put, List.getElem_toArray, List.getElem_cons_succ, List.getElem_cons_zero, List.setIfInBounds_toArray, List.set_cons_zero, List.set_cons_succ])
        refine wpAnyH_ready (rs := [7]) (by kernel_rfl) (by simp) ?_; refine AllReadyH.cons rfl (fun K hK => ?_) AllReadyH.nil
        go_simp; (go_at_call 49; refine (HT2.out _).mono ?_; rintro en yw5 ⟨rfl, hb2⟩); have Hs := Lib.hid (Hs.out.below hb2); have Hd := Lib.hid (Hd.out.below hb2); refine hK.out _ _ (below_after hb2 hHeld) (fun hHeld2 => ?_); clear hb2; (clear hHeld; rename _ => hHeld; clear hK K; have hHeld : Below wB.heap.size wB _ := hHeld); (try simp only [Act.put, List.getElem_toArray, List.getElem_cons_succ, List.getElem_cons_zero, List.setIfInBounds_toArray, List.set_cons_zero, List.set_cons_succ])
        refine wpAnyH_ready (rs := [10]) (by kernel_rfl) (by simp) ?_; refine AllReadyH.cons rfl (fun K hK => ?_) AllReadyH.nil
        obtain ⟨⟨a0, a1⟩, ⟨f0, f1⟩, az⟩ := Hs.out; go_simp; clear a0 f0 a1 f1 az
        have Hd := Lib.hid ((Hd.out.far ⟨Gs, 0, none⟩ (.int .i64 U) (by show Gd ≠ Gs; exact ne_d_s)).far ⟨Gs, 1, none⟩ (.int .i64 V) (by show Gd ≠ Gs; exact ne_d_s))
        have Hs := Lib.hid ((Hs.out.set0 U).set1 V)
        refine hK.out _ _ (Below.setCell (Below.setCell hHeld (p := ⟨Gs, 0, none⟩) le_s _) (p := ⟨Gs, 1, none⟩) le_s _) (fun hHeld2 => ?_); (clear hHeld; rename _ => hHeld; clear hK K; have hHeld : Below wB.heap.size wB _ := hHeld); (try simp only [Act.put, List.getElem_toArray, List.getElem_cons_succ, List.getElem_cons_zero, List.setIfInBounds_toArray, List.set_cons_zero, List.set_cons_succ])
        obtain ⟨yw6, hwx⟩ : ∃ wx, (yw5.setCell ⟨Gs, 0, none⟩ (.int .i64 U)).setCell ⟨Gs, 1, none⟩ (.int .i64 V) = wx := ⟨_, rfl⟩; rw [hwx] at Hs Hd hHeld ⊢; clear hwx
        refine wpAnyH_ready (rs := [11]) (by kernel_rfl) (by simp) ?_; refine AllReadyH.cons rfl (fun K hK => ?_) AllReadyH.nil
        obtain ⟨⟨a0, a1⟩, ⟨f0, f1⟩, az⟩ := Hd.out; go_simp; clear a0 f0 a1 f1 az
        have Hs := Lib.hid ((Hs.out.far ⟨Gd, 0, none⟩ (.int .i64 D) (by show Gs ≠ Gd; exact ne_s_d)).far ⟨Gd, 1, none⟩ (.int .i64 E) (by show Gs ≠ Gd; exact ne_s_d))
        have Hd := Lib.hid ((Hd.out.set0 D).set1 E)
        refine hK.out _ _ (Below.setCell (Below.setCell hHeld (p := ⟨Gd, 0, none⟩) le_d _) (p := ⟨Gd, 1, none⟩) le_d _) (fun hHeld2 => ?_); (clear hHeld; rename _ => hHeld; clear hK K; have hHeld : Below wB.heap.size wB _ := hHeld); (try simp only [Act.put, List.getElem_toArray, List.getElem_cons_succ, List.getElem_cons_zero, List.setIfInBounds_toArray, List.set_cons_zero, List.set_cons_succ])
        obtain ⟨yw7, hwx⟩ : ∃ wx, (yw6.setCell ⟨Gd, 0, none⟩ (.int .i64 D)).setCell ⟨Gd, 1, none⟩ (.int .i64 E) = wx := ⟨_, rfl⟩; rw [hwx] at Hs Hd hHeld ⊢; clear hwx
        refine wpAnyH_done (by kernel_rfl) ?_ _
        go_wp2_with fail
        go_meet
        exact ⟨Gs, Gd, rfl, rfl, Hs.out, Hd.out, by first | exact ne_s_d | exact Ne.symm ne_d_s, le_s, le_d, hHeld⟩
    · skip
      go_simp; obtain ⟨Gd, hGd⟩ : ∃ G, wD.heap.size = G := ⟨_, rfl⟩; have le_d : wB.heap.size ≤ Gd := by rw [← hGd]; exact Below.size hHeld
      have Hd : Hid (Bk2 (wD.alloc (.cells #[.int .i64 0, .int .i64 0] 25)) Gd 0 0) := by rw [← hGd]; exact bk2_new wD 0 0 _
      refine hK.out _ _ (Below.alloc hHeld (Below.size hHeld) _) (fun hHeld2 => ?_); (clear hHeld; rename _ => hHeld; clear hK K; have hHeld : Below wB.heap.size wB _ := hHeld); (try simp only [Act.put, List.getElem_toArray, List.getElem_cons_succ, List.getElem_cons_zero, List.setIfInBounds_toArray, List.set_cons_zero, List.set_cons_succ])
      rw [hGd]; clear hGd; obtain ⟨yw0, hwx⟩ : ∃ wx, wD.alloc (.cells #[.int .i64 0, .int .i64 0] 25) = wx := ⟨_, rfl⟩; rw [hwx] at Hd hHeld ⊢; clear hwx
      refine wpAnyH_ready (rs := [2, 8]) (by kernel_rfl) (by simp) ?_; refine AllReadyH.cons rfl (fun K hK => ?_) (AllReadyH.cons rfl (fun K hK => ?_) AllReadyH.nil)
      · skip
        go_simp; (go_at_call 50; refine (HP1.out _).mono ?_; rintro en yw1 ⟨rfl, hb2⟩); have Hd := Lib.hid (Hd.out.below hb2); refine hK.out _ _ (below_after hb2 hHeld) (fun hHeld2 => ?_); clear hb2; (clear hHeld; rename _ => hHeld; clear hK K; have hHeld : Below wB.heap.size wB _ := hHeld); (try simp only [Act.put, List.getElem_toArray, List.getElem_cons_succ, List.getElem_cons_zero, List.setIfInBounds_toArray, List.set_cons_zero, List.set_cons_succ])
        refine wpAnyH_ready (rs := [3, 8]) (by kernel_rfl) (by simp) ?_; refine AllReadyH.cons rfl (fun K hK => ?_) (AllReadyH.cons rfl (fun K hK => ?_) AllReadyH.nil)
        · skip
          go_simp; (go_at_call 49; refine (HT1.out _).mono ?_; rintro en yw2 ⟨rfl, hb2⟩); have Hd := Lib.hid (Hd.out.below hb2); refine hK.out _ _ (below_after hb2 hHeld) (fun hHeld2 => ?_); clear hb2; (clear hHeld; rename _ => hHeld; clear hK K; have hHeld : Below wB.heap.size wB _ := hHeld); (try simp only [Act.put, List.getElem_toArray, List.getElem_cons_succ, List.getElem_cons_zero, List.setIfInBounds_toArray, List.set_cons_zero, List.set_cons_succ])
          refine wpAnyH_ready (rs := [6, 8]) (by kernel_rfl) (by simp) ?_; refine AllReadyH.cons rfl (fun K hK => ?_) (AllReadyH.cons rfl (fun K hK => ?_) AllReadyH.nil)
          · skip
            go_simp; (go_at_call 50; refine (HP2.out _).mono ?_; rintro en yw3 ⟨rfl, hb2⟩); have Hd := Lib.hid (Hd.out.below hb2); refine hK.out _ _ (below_after hb2 hHeld) (fun hHeld2 => ?_); clear hb2; (clear hHeld; rename _ => hHeld; clear hK K; have hHeld : Below wB.heap.size wB _ := hHeld); (try simp only [Act.put, List.getElem_toArray, List.getElem_cons_succ, List.getElem_cons_zero, List.setIfInBounds_toArray, List.set_cons_zero, List.set_cons_succ])
            refine wpAnyH_ready (rs := [7, 8]) (by kernel_rfl) (by simp) ?_; refine AllReadyH.cons rfl (fun K hK => ?_) (AllReadyH.cons rfl (fun K hK => ?_) AllReadyH.nil)
            · skip
              go_simp; (go_at_call 49; refine (HT2.out _).mono ?_; rintro en yw4 ⟨rfl, hb2⟩); have Hd := Lib.hid (Hd.out.below hb2); refine hK.out _ _ (below_after hb2 hHeld) (fun hHeld2 => ?_); clear hb2; (clear hHeld; rename _ => hHeld; clear hK K; have hHeld : Below wB.heap.size wB _ := hHeld); (try simp only [Act.put, List.getElem_toArray, List.getElem_cons_succ, List.getElem_cons_zero, List.setIfInBounds_toArray, List.set_cons_zero, List.set_cons_succ])
              refine wpAnyH_ready (rs := [8]) (by kernel_rfl) (by simp) ?_; refine AllReadyH.cons rfl (fun K hK => ?_) AllReadyH.nil
              go_simp; obtain ⟨Gs, hGs⟩ : ∃ G, yw4.heap.size = G := ⟨_, rfl⟩; have le_s : wB.heap.size ≤ Gs := by rw [← hGs]; exact Below.size hHeld
              have ne_s_d : Gs ≠ Gd := by have := Hd.out.2.2; omega
              have ne_d_s : Gd ≠ Gs := Ne.symm ne_s_d
              have Hd := Lib.hid (Hd.out.below ((Below.refl _ _).alloc (Nat.le_refl _) (.cells #[.int .i64 0, .int .i64 0] 25))); skip
              have Hs : Hid (Bk2 (yw4.alloc (.cells #[.int .i64 0, .int .i64 0] 25)) Gs 0 0) := by rw [← hGs]; exact bk2_new yw4 0 0 _
              refine hK.out _ _ (Below.alloc hHeld (Below.size hHeld) _) (fun hHeld2 => ?_); (clear hHeld; rename _ => hHeld; clear hK K; have hHeld : Below wB.heap.size wB _ := hHeld); (try simp only [Act.put, List.getElem_toArray, List.getElem_cons_succ, List.getElem_cons_zero, List.setIfInBounds_toArray, List.set_cons_zero, List.set_cons_succ])
              rw [hGs]; clear hGs; obtain ⟨yw5, hwx⟩ : ∃ wx, yw4.alloc (.cells #[.int .i64 0, .int .i64 0] 25) = wx := ⟨_, rfl⟩; rw [hwx] at Hd Hs hHeld ⊢; clear hwx
              refine wpAnyH_ready (rs := [10]) (by kernel_rfl) (by simp) ?_; refine AllReadyH.cons rfl (fun K hK => ?_) AllReadyH.nil
              obtain ⟨⟨a0, a1⟩, ⟨f0, f1⟩, az⟩ := Hs.out; go_simp; clear a0 f0 a1 f1 az
              have Hd := Lib.hid ((Hd.out.far ⟨Gs, 0, none⟩ (.int .i64 U) (by show Gd ≠ Gs; exact ne_d_s)).far ⟨Gs, 1, none⟩ (.int .i64 V) (by show Gd ≠ Gs; exact ne_d_s))
              have Hs := Lib.hid ((Hs.out.set0 U).set1 V)
              refine hK.out _ _ (Below.setCell (Below.setCell hHeld (p := ⟨Gs, 0, none⟩) le_s _) (p := ⟨Gs, 1, none⟩) le_s _) (fun hHeld2 => ?_); (clear hHeld; rename _ => hHeld; clear hK K; have hHeld : Below wB.heap.size wB _ := hHeld); (try simp only [Act.put, List.getElem_toArray, List.getElem_cons_succ, List.getElem_cons_zero, List.setIfInBounds_toArray, List.set_cons_zero, List.set_cons_succ])
              obtain ⟨yw6, hwx⟩ : ∃ wx, (yw5.setCell ⟨Gs, 0, none⟩ (.int .i64 U)).setCell ⟨Gs, 1, none⟩ (.int .i64 V) = wx := ⟨_, rfl⟩; rw [hwx] at Hd Hs hHeld ⊢; clear hwx
              refine wpAnyH_ready (rs := [11]) (by kernel_rfl) (by simp) ?_; refine AllReadyH.cons rfl (fun K hK => ?_) AllReadyH.nil
              obtain ⟨⟨a0, a1⟩, ⟨f0, f1⟩, az⟩ := Hd.out; go_simp; clear a0 f0 a1 f1 az
              have Hs := Lib.hid ((Hs.out.far ⟨Gd, 0, none⟩ (.int .i64 D) (by show Gs ≠ Gd; exact ne_s_d)).far ⟨Gd, 1, none⟩ (.int .i64 E) (by show Gs ≠ Gd; exact ne_s_d))
              have Hd := Lib.hid ((Hd.out.set0 D).set1 E)
              refine hK.out _ _ (Below.setCell (Below.setCell hHeld (p := ⟨Gd, 0, none⟩) le_d _) (p := ⟨Gd, 1, none⟩) le_d _) (fun hHeld2 => ?_); (clear hHeld; rename _ => hHeld; clear hK K; have hHeld : Below wB.heap.size wB _ := hHeld); (try simp only [Act.put, List.getElem_toArray, List.getElem_cons_succ, List.getElem_cons_zero, List.setIfInBounds_toArray, List.set_cons_zero, List.set_cons_succ])
              obtain ⟨yw7, hwx⟩ : ∃ wx, (yw6.setCell ⟨Gd, 0, none⟩ (.int .i64 D)).setCell ⟨Gd, 1, none⟩ (.int .i64 E) = wx := ⟨_, rfl⟩; rw [hwx] at Hd Hs hHeld ⊢; clear hwx
              refine wpAnyH_done (by kernel_rfl) ?_ _
              go_wp2_with fail
              go_meet
              exact ⟨Gs, Gd, rfl, rfl, Hs.out, Hd.out, by first | exact ne_s_d | exact Ne.symm ne_d_s, le_s, le_d, hHeld⟩
            · skip
              go_simp; obtain ⟨Gs, hGs⟩ : ∃ G, yw3.heap.size = G := ⟨_, rfl⟩; have le_s : wB.heap.size ≤ Gs := by rw [← hGs]; exact Below.size hHeld
              have ne_s_d : Gs ≠ Gd := by have := Hd.out.2.2; omega
              have ne_d_s : Gd ≠ Gs := Ne.symm ne_s_d
              have Hd := Lib.hid (Hd.out.below ((Below.refl _ _).alloc (Nat.le_refl _) (.cells #[.int .i64 0, .int .i64 0] 25))); skip
              have Hs : Hid (Bk2 (yw3.alloc (.cells #[.int .i64 0, .int .i64 0] 25)) Gs 0 0) := by rw [← hGs]; exact bk2_new yw3 0 0 _
              refine hK.out _ _ (Below.alloc hHeld (Below.size hHeld) _) (fun hHeld2 => ?_); (clear hHeld; rename _ => hHeld; clear hK K; have hHeld : Below wB.heap.size wB _ := hHeld); (try simp only [Act.put, List.getElem_toArray, List.getElem_cons_succ, List.getElem_cons_zero, List.setIfInBounds_toArray, List.set_cons_zero, List.set_cons_succ])
              rw [hGs]; clear hGs; obtain ⟨yw4, hwx⟩ : ∃ wx, yw3.alloc (.cells #[.int .i64 0, .int .i64 0] 25) = wx := ⟨_, rfl⟩; rw [hwx] at Hd Hs hHeld ⊢; clear hwx
              refine wpAnyH_ready (rs := [7]) (by kernel_rfl) (by simp) ?_; refine AllReadyH.cons rfl (fun K hK => ?_) AllReadyH.nil
              go_simp; (go_at_call 49; refine (HT2.out _).mono ?_; rintro en yw5 ⟨rfl, hb2⟩); have Hd := Lib.hid (Hd.out.below hb2); have Hs := Lib.hid (Hs.out.below hb2); refine hK.out _ _ (below_after hb2 hHeld) (fun hHeld2 => ?_); clear hb2; (clear hHeld; rename _ => hHeld; clear hK K; have hHeld : Below wB.heap.size wB _ := hHeld); (try simp only [Act.put, List.getElem_toArray, List.getElem_cons_succ, List.getElem_cons_zero, List.setIfInBounds_toArray, List.set_cons_zero, List.set_cons_succ])
              refine wpAnyH_ready (rs := [10]) (by kernel_rfl) (by simp) ?_; refine AllReadyH.cons rfl (fun K hK => ?_) AllReadyH.nil
              obtain ⟨⟨a0, a1⟩, ⟨f0, f1⟩, az⟩ := Hs.out; go_simp; clear a0 f0 a1 f1 az
              have Hd := Lib.hid ((Hd.out.far ⟨Gs, 0, none⟩ (.int .i64 U) (by show Gd ≠ Gs; exact ne_d_s)).far ⟨Gs, 1, none⟩ (.int .i64 V) (by show Gd ≠ Gs; exact ne_d_s))
              have Hs := Lib.hid ((Hs.out.set0 U).set1 V)
              refine hK.out _ _ (Below.setCell (Below.setCell hHeld (p := ⟨Gs, 0, none⟩) le_s _) (p := ⟨Gs, 1, none⟩) le_s _) (fun hHeld2 => ?_); (clear hHeld; rename _ => hHeld; clear hK K; have hHeld : Below wB.heap.size wB _ := hHeld); (try simp only [Act.put, List.getElem_toArray, List.getElem_cons_succ, List.getElem_cons_zero, List.setIfInBounds_toArray, List.set_cons_zero, List.set_cons_succ])
              obtain ⟨yw6, hwx⟩ : ∃ wx, (yw5.setCell ⟨Gs, 0, none⟩ (.int .i64 U)).setCell ⟨Gs, 1, none⟩ (.int .i64 V) = wx := ⟨_, rfl⟩; rw [hwx] at Hd Hs hHeld ⊢; clear hwx
              refine wpAnyH_ready (rs := [11]) (by kernel_rfl) (by simp) ?_; refine AllReadyH.cons rfl (fun K hK => ?_) AllReadyH.nil
              obtain ⟨⟨a0, a1⟩, ⟨f0, f1⟩, az⟩ := Hd.out; go_simp; clear a0 f0 a1 f1 az
              have Hs := Lib.hid ((Hs.out.far ⟨Gd, 0, none⟩ (.int .i64 D) (by show Gs ≠ Gd; exact ne_s_d)).far ⟨Gd, 1, none⟩ (.int .i64 E) (by show Gs ≠ Gd; exact ne_s_d))
              have Hd := Lib.hid ((Hd.out.set0 D).set1 E)
              refine hK.out _ _ (Below.setCell (Below.setCell hHeld (p := ⟨Gd, 0, none⟩) le_d _) (p := ⟨Gd, 1, none⟩) le_d _) (fun hHeld2 => ?_); (clear hHeld; rename _ => hHeld; clear hK K; have hHeld : Below wB.heap.size wB _ := hHeld); (try simp only [Act.put, List.getElem_toArray, List.getElem_cons_succ, List.getElem_cons_zero, List.setIfInBounds_toArray, List.set_cons_zero, List.set_cons_succ])
              obtain ⟨yw7, hwx⟩ : ∃ wx, (yw6.setCell ⟨Gd, 0, none⟩ (.int .i64 D)).setCell ⟨Gd, 1, none⟩ (.int .i64 E) = wx := ⟨_, rfl⟩; rw [hwx] at Hd Hs hHeld ⊢; clear hwx
              refine wpAnyH_done (by kernel_rfl) ?_ _
              go_wp2_with fail
              go_meet
              exact ⟨Gs, Gd, rfl, rfl, Hs.out, Hd.out, by first | exact ne_s_d | exact Ne.symm ne_d_s, le_s, le_d, hHeld⟩
          · skip
            go_simp; obtain ⟨Gs, hGs⟩ : ∃ G, yw2.heap.size = G := ⟨_, rfl⟩; have le_s : wB.heap.size ≤ Gs := by rw [← hGs]; exact Below.size hHeld
            have ne_s_d : Gs ≠ Gd := by have := Hd.out.2.2; omega
            have ne_d_s : Gd ≠ Gs := Ne.symm ne_s_d
            have Hd := Lib.hid (Hd.out.below ((Below.refl _ _).alloc (Nat.le_refl _) (.cells #[.int .i64 0, .int .i64 0] 25))); skip
            have Hs : Hid (Bk2 (yw2.alloc (.cells #[.int .i64 0, .int .i64 0] 25)) Gs 0 0) := by rw [← hGs]; exact bk2_new yw2 0 0 _
            refine hK.out _ _ (Below.alloc hHeld (Below.size hHeld) _) (fun hHeld2 => ?_); (clear hHeld; rename _ => hHeld; clear hK K; have hHeld : Below wB.heap.size wB _ := hHeld); (try simp only [Act.put, List.getElem_toArray, List.getElem_cons_succ, List.getElem_cons_zero, List.setIfInBounds_toArray, List.set_cons_zero, List.set_cons_succ])
            rw [hGs]; clear hGs; obtain ⟨yw3, hwx⟩ : ∃ wx, yw2.alloc (.cells #[.int .i64 0, .int .i64 0] 25) = wx := ⟨_, rfl⟩; rw [hwx] at Hd Hs hHeld ⊢; clear hwx
            refine wpAnyH_ready (rs := [6]) (by kernel_rfl) (by simp) ?_; refine AllReadyH.cons rfl (fun K hK => ?_) AllReadyH.nil
            go_simp; (go_at_call 50; refine (HP2.out _).mono ?_; rintro en yw4 ⟨rfl, hb2⟩); have Hd := Lib.hid (Hd.out.below hb2); have Hs := Lib.hid (Hs.out.below hb2); refine hK.out _ _ (below_after hb2 hHeld) (fun hHeld2 => ?_); clear hb2; (clear hHeld; rename _ => hHeld; clear hK K; have hHeld : Below wB.heap.size wB _ := hHeld); (try simp only [Act.put, List.getElem_toArray, List.getElem_cons_succ, List.getElem_cons_zero, List.setIfInBounds_toArray, List.set_cons_zero, List.set_cons_succ])
            refine wpAnyH_ready (rs := [7]) (by kernel_rfl) (by simp) ?_; refine AllReadyH.cons rfl (fun K hK => ?_) AllReadyH.nil
            go_simp; (go_at_call 49; refine (HT2.out _).mono ?_; rintro en yw5 ⟨rfl, hb2⟩); have Hd := Lib.hid (Hd.out.below hb2); have Hs := Lib.hid (Hs.out.below hb2); refine hK.out _ _ (below_after hb2 hHeld) (fun hHeld2 => ?_); clear hb2; (clear hHeld; rename _ => hHeld; clear hK K; have hHeld : Below wB.heap.size wB _ := hHeld); (try simp only [Act.put, List.getElem_toArray, List.getElem_cons_succ, List.getElem_cons_zero, List.setIfInBounds_toArray, List.set_cons_zero, List.set_cons_succ])
            refine wpAnyH_ready (rs := [10]) (by kernel_rfl) (by simp) ?_; refine AllReadyH.cons rfl (fun K hK => ?_) AllReadyH.nil
            obtain ⟨⟨a0, a1⟩, ⟨f0, f1⟩, az⟩ := Hs.out; go_simp; clear a0 f0 a1 f1 az
            have Hd := Lib.hid ((Hd.out.far ⟨Gs, 0, none⟩ (.int .i64 U) (by show Gd ≠ Gs; exact ne_d_s)).far ⟨Gs, 1, none⟩ (.int .i64 V) (by show Gd ≠ Gs; exact ne_d_s))
            have Hs := Lib.hid ((Hs.out.set0 U).set1 V)
            refine hK.out _ _ (Below.setCell (Below.setCell hHeld (p := ⟨Gs, 0, none⟩) le_s _) (p := ⟨Gs, 1, none⟩) le_s _) (fun hHeld2 => ?_); (clear hHeld; rename _ => hHeld; clear hK K; have hHeld : Below wB.heap.size wB _ := hHeld); (try simp only [Act.put, List.getElem_toArray, List.getElem_cons_succ, List.getElem_cons_zero, List.setIfInBounds_toArray, List.set_cons_zero, List.set_cons_succ])
            obtain ⟨yw6, hwx⟩ : ∃ wx, (yw5.setCell ⟨Gs, 0, none⟩ (.int .i64 U)).setCell ⟨Gs, 1, none⟩ (.int .i64 V) = wx := ⟨_, rfl⟩; rw [hwx] at Hd Hs hHeld ⊢; clear hwx
            refine wpAnyH_ready (rs := [11]) (by kernel_rfl) (by simp) ?_; refine AllReadyH.cons rfl (fun K hK => ?_) AllReadyH.nil
            obtain ⟨⟨a0, a1⟩, ⟨f0, f1⟩, az⟩ := Hd.out; go_simp; clear a0 f0 a1 f1 az
            have Hs := Lib.hid ((Hs.out.far ⟨Gd, 0, none⟩ (.int .i64 D) (by show Gs ≠ Gd; exact ne_s_d)).far ⟨Gd, 1, none⟩ (.int .i64 E) (by show Gs ≠ Gd; exact ne_s_d))
            have Hd := Lib.hid ((Hd.out.set0 D).set1 E)
            refine hK.out _ _ (Below.setCell (Below.setCell hHeld (p := ⟨Gd, 0, none⟩) le_d _) (p := ⟨Gd, 1, none⟩) le_d _) (fun hHeld2 => ?_); (clear hHeld; rename _ => hHeld; clear hK K; have hHeld : Below wB.heap.size wB _ := hHeld); (try simp only [Act.put, List.getElem_toArray, List.getElem_cons_succ, List.getElem_cons_zero, List.setIfInBounds_toArray, List.set_cons_zero, List.set_cons_succ])
            obtain ⟨yw7, hwx⟩ : ∃ wx, (yw6.setCell ⟨Gd, 0, none⟩ (.int .i64 D)).setCell ⟨Gd, 1, none⟩ (.int .i64 E) = wx := ⟨_, rfl⟩; rw [hwx] at Hd Hs hHeld ⊢; clear hwx
            refine wpAnyH_done (by kernel_rfl) ?_ _
            go_wp2_with fail
            go_meet
            exact ⟨Gs, Gd, rfl, rfl, Hs.out, Hd.out, by first | exact ne_s_d | exact Ne.symm ne_d_s, le_s, le_d, hHeld⟩
        · skip
          go_simp; obtain ⟨Gs, hGs⟩ : ∃ G, yw1.heap.size = G := ⟨_, rfl⟩; have le_s : wB.heap.size ≤ Gs := by rw [← hGs]; exact Below.size hHeld
          have ne_s_d : Gs ≠ Gd := by have := Hd.out.2.2; omega
          have ne_d_s : Gd ≠ Gs := Ne.symm ne_s_d
          have Hd := Lib.hid (Hd.out.below ((Below.refl _ _).alloc (Nat.le_refl _) (.cells #[.int .i64 0, .int .i64 0] 25))); skip
          have Hs : Hid (Bk2 (yw1.alloc (.cells #[.int .i64 0, .int .i64 0] 25)) Gs 0 0) := by rw [← hGs]; exact bk2_new yw1 0 0 _
          refine hK.out _ _ (Below.alloc hHeld (Below.size hHeld) _) (fun hHeld2 => ?_); (clear hHeld; rename _ => hHeld; clear hK K; have hHeld : Below wB.heap.size wB _ := hHeld); (try simp only [Act.put, List.getElem_toArray, List.getElem_cons_succ, List.getElem_cons_zero, List.setIfInBounds_toArray, List.set_cons_zero, List.set_cons_succ])
          rw [hGs]; clear hGs; obtain ⟨yw2, hwx⟩ : ∃ wx, yw1.alloc (.cells #[.int .i64 0, .int .i64 0] 25) = wx := ⟨_, rfl⟩; rw [hwx] at Hd Hs hHeld ⊢; clear hwx
          refine wpAnyH_ready (rs := [3]) (by kernel_rfl) (by simp) ?_; refine AllReadyH.cons rfl (fun K hK => ?_) AllReadyH.nil
          go_simp; (go_at_call 49; refine (HT1.out _).mono ?_; rintro en yw3 ⟨rfl, hb2⟩); have Hd := Lib.hid (Hd.out.below hb2); have Hs := Lib.hid (Hs.out.below hb2); refine hK.out _ _ (below_after hb2 hHeld) (fun hHeld2 => ?_); clear hb2; (clear hHeld; rename _ => hHeld; clear hK K; have hHeld : Below wB.heap.size wB _ := hHeld); (try simp only [Act.put, List.getElem_toArray, List.getElem_cons_succ, List.getElem_cons_zero, List.setIfInBounds_toArray, List.set_cons_zero, List.set_cons_succ])
          refine wpAnyH_ready (rs := [6]) (by kernel_rfl) (by simp) ?_; refine AllReadyH.cons rfl (fun K hK => ?_) AllReadyH.nil
          go_simp; (go_at_call 50; refine (HP2.out _).mono ?_; rintro en yw4 ⟨rfl, hb2⟩); have Hd := Lib.hid (Hd.out.below hb2); have Hs := Lib.hid (Hs.out.below hb2); refine hK.out _ _ (below_after hb2 hHeld) (fun hHeld2 => ?_); clear hb2; (clear hHeld; rename _ => hHeld; clear hK K; have hHeld : Below wB.heap.size wB _ := hHeld); (try simp only [Act.put, List.getElem_toArray, List.getElem_cons_succ, List.getElem_cons_zero, List.setIfInBounds_toArray, List.set_cons_zero, List.set_cons_succ])
          refine wpAnyH_ready (rs := [7]) (by kernel_rfl) (by simp) ?_; refine AllReadyH.cons rfl (fun K hK => ?_) AllReadyH.nil
          go_simp; (go_at_call 49; refine (HT2.out _).mono ?_; rintro en yw5 ⟨rfl, hb2⟩); have Hd := Lib.hid (Hd.out.below hb2); have Hs := Lib.hid (Hs.out.below hb2); refine hK.out _ _ (below_after hb2 hHeld) (fun hHeld2 => ?_); clear hb2; (clear hHeld; rename _ => hHeld; clear hK K; have hHeld : Below wB.heap.size wB _ := hHeld); (try simp only [Act.put, List.getElem_toArray, List.getElem_cons_succ, List.getElem_cons_zero, List.setIfInBounds_toArray, List.set_cons_zero, List.set_cons_succ])
          refine wpAnyH_ready (rs := [10]) (by kernel_rfl) (by simp) ?_; refine AllReadyH.cons rfl (fun K hK => ?_) AllReadyH.nil
          obtain ⟨⟨a0, a1⟩, ⟨f0, f1⟩, az⟩ := Hs.out; go_simp; clear a0 f0 a1 f1 az
          have Hd := Lib.hid ((Hd.out.far ⟨Gs, 0, none⟩ (.int .i64 U) (by show Gd ≠ Gs; exact ne_d_s)).far ⟨Gs, 1, none⟩ (.int .i64 V) (by show Gd ≠ Gs; exact ne_d_s))
          have Hs := Lib.hid ((Hs.out.set0 U).set1 V)
          refine hK.out _ _ (Below.setCell (Below.setCell hHeld (p := ⟨Gs, 0, none⟩) le_s _) (p := ⟨Gs, 1, none⟩) le_s _) (fun hHeld2 => ?_); (clear hHeld; rename _ => hHeld; clear hK K; have hHeld : Below wB.heap.size wB _ := hHeld); (try simp only [Act.put, List.getElem_toArray, List.getElem_cons_succ, List.getElem_cons_zero, List.setIfInBounds_toArray, List.set_cons_zero, List.set_cons_succ])
          obtain ⟨yw6, hwx⟩ : ∃ wx, (yw5.setCell ⟨Gs, 0, none⟩ (.int .i64 U)).setCell ⟨Gs, 1, none⟩ (.int .i64 V) = wx := ⟨_, rfl⟩; rw [hwx] at Hd Hs hHeld ⊢; clear hwx
          refine wpAnyH_ready (rs := [11]) (by kernel_rfl) (by simp) ?_; refine AllReadyH.cons rfl (fun K hK => ?_) AllReadyH.nil
          obtain ⟨⟨a0, a1⟩, ⟨f0, f1⟩, az⟩ := Hd.out; go_simp; clear a0 f0 a1 f1 az
          have Hs := Lib.hid ((Hs.out.far ⟨Gd, 0, none⟩ (.int .i64 D) (by show Gs ≠ Gd; exact ne_s_d)).far ⟨Gd, 1, none⟩ (.int .i64 E) (by show Gs ≠ Gd; exact ne_s_d))
          have Hd := Lib.hid ((Hd.out.set0 D).set1 E)
          refine hK.out _ _ (Below.setCell (Below.setCell hHeld (p := ⟨Gd, 0, none⟩) le_d _) (p := ⟨Gd, 1, none⟩) le_d _) (fun hHeld2 => ?_); (clear hHeld; rename _ => hHeld; clear hK K; have hHeld : Below wB.heap.size wB _ := hHeld); (try simp only [Act.put, List.getElem_toArray, List.getElem_cons_succ, List.getElem_cons_zero, List.setIfInBounds_toArray, List.set_cons_zero, List.set_cons_succ])
          obtain ⟨yw7, hwx⟩ : ∃ wx, (yw6.setCell ⟨Gd, 0, none⟩ (.int .i64 D)).setCell ⟨Gd, 1, none⟩ (.int .i64 E) = wx := ⟨_, rfl⟩; rw [hwx] at Hd Hs hHeld ⊢; clear hwx
          refine wpAnyH_done (by kernel_rfl) ?_ _
          go_wp2_with fail
          go_meet
          exact ⟨Gs, Gd, rfl, rfl, Hs.out, Hd.out, by first | exact ne_s_d | exact Ne.symm ne_d_s, le_s, le_d, hHeld⟩
      · skip
        go_simp; obtain ⟨Gs, hGs⟩ : ∃ G, yw0.heap.size = G := ⟨_, rfl⟩; have le_s : wB.heap.size ≤ Gs := by rw [← hGs]; exact Below.size hHeld
        have ne_s_d : Gs ≠ Gd := by have := Hd.out.2.2; omega
        have ne_d_s : Gd ≠ Gs := Ne.symm ne_s_d
        have Hd := Lib.hid (Hd.out.below ((Below.refl _ _).alloc (Nat.le_refl _) (.cells #[.int .i64 0, .int .i64 0] 25))); skip
        have Hs : Hid (Bk2 (yw0.alloc (.cells #[.int .i64 0, .int .i64 0] 25)) Gs 0 0) := by rw [← hGs]; exact bk2_new yw0 0 0 _
        refine hK.out _ _ (Below.alloc hHeld (Below.size hHeld) _) (fun hHeld2 => ?_); (clear hHeld; rename _ => hHeld; clear hK K; have hHeld : Below wB.heap.size wB _ := hHeld); (try simp only [Act.put, List.getElem_toArray, List.getElem_cons_succ, List.getElem_cons_zero, List.setIfInBounds_toArray, List.set_cons_zero, List.set_cons_succ])
        rw [hGs]; clear hGs; obtain ⟨yw1, hwx⟩ : ∃ wx, yw0.alloc (.cells #[.int .i64 0, .int .i64 0] 25) = wx := ⟨_, rfl⟩; rw [hwx] at Hd Hs hHeld ⊢; clear hwx
        refine wpAnyH_ready (rs := [2]) (by kernel_rfl) (by simp) ?_; refine AllReadyH.cons rfl (fun K hK => ?_) AllReadyH.nil
        go_simp; (go_at_call 50; refine (HP1.out _).mono ?_; rintro en yw2 ⟨rfl, hb2⟩); have Hd := Lib.hid (Hd.out.below hb2); have Hs := Lib.hid (Hs.out.below hb2); refine hK.out _ _ (below_after hb2 hHeld) (fun hHeld2 => ?_); clear hb2; (clear hHeld; rename _ => hHeld; clear hK K; have hHeld : Below wB.heap.size wB _ := hHeld); (try simp only [Act.put, List.getElem_toArray, List.getElem_cons_succ, List.getElem_cons_zero, List.setIfInBounds_toArray, List.set_cons_zero, List.set_cons_succ])
        refine wpAnyH_ready (rs := [3]) (by kernel_rfl) (by simp) ?_; refine AllReadyH.cons rfl (fun K hK => ?_) AllReadyH.nil
        go_simp; (go_at_call 49; refine (HT1.out _).mono ?_; rintro en yw3 ⟨rfl, hb2⟩); have Hd := Lib.hid (Hd.out.below hb2); have Hs := Lib.hid (Hs.out.below hb2); refine hK.out _ _ (below_after hb2 hHeld) (fun hHeld2 => ?_); clear hb2; (clear hHeld; rename _ => hHeld; clear hK K; have hHeld : Below wB.heap.size wB _ := hHeld); (try simp only [Act.put, List.getElem_toArray, List.getElem_cons_succ, List.getElem_cons_zero, List.setIfInBounds_toArray, List.set_cons_zero, List.set_cons_succ])
        refine wpAnyH_ready (rs := [6]) (by kernel_rfl) (by simp) ?_; refine AllReadyH.cons rfl (fun K hK => ?_) AllReadyH.nil
        go_simp; (go_at_call 50; refine (HP2.out _).mono ?_; rintro en yw4 ⟨rfl, hb2⟩); have Hd := Lib.hid (Hd.out.below hb2); have Hs := Lib.hid (Hs.out.below hb2); refine hK.out _ _ (below_after hb2 hHeld) (fun hHeld2 => ?_); clear hb2; (clear hHeld; rename _ => hHeld; clear hK K; have hHeld : Below wB.heap.size wB _ := hHeld); (try simp only [Act.put, List.getElem_toArray, List.getElem_cons_succ, List.getElem_cons_zero, List.setIfInBounds_toArray, List.set_cons_zero, List.set_cons_succ])
        refine wpAnyH_ready (rs := [7]) (by kernel_rfl) (by simp) ?_; refine AllReadyH.cons rfl (fun K hK => ?_) AllReadyH.nil
        go_simp; (go_at_call 49; refine (HT2.out _).mono ?_; rintro en yw5 ⟨rfl, hb2⟩); have Hd := Lib.hid (Hd.out.below hb2); have Hs := Lib.hid (Hs.out.below hb2); refine hK.out _ _ (below_after hb2 hHeld) (fun hHeld2 => ?_); clear hb2; (clear hHeld; rename _ => hHeld; clear hK K; have hHeld : Below wB.heap.size wB _ := hHeld); (try simp only [Act.put, List.getElem_toArray, List.getElem_cons_succ, List.getElem_cons_zero, List.setIfInBounds_toArray, List.set_cons_zero, List.set_cons_succ])
        refine wpAnyH_ready (rs := [10]) (by kernel_rfl) (by simp) ?_; refine AllReadyH.cons rfl (fun K hK => ?_) AllReadyH.nil
        obtain ⟨⟨a0, a1⟩, ⟨f0, f1⟩, az⟩ := Hs.out; go_simp; clear a0 f0 a1 f1 az
        have Hd := Lib.hid ((Hd.out.far ⟨Gs, 0, none⟩ (.int .i64 U) (by show Gd ≠ Gs; exact ne_d_s)).far ⟨Gs, 1, none⟩ (.int .i64 V) (by show Gd ≠ Gs; exact ne_d_s))
        have Hs := Lib.hid ((Hs.out.set0 U).set1 V)
        refine hK.out _ _ (Below.setCell (Below.setCell hHeld (p := ⟨Gs, 0, none⟩) le_s _) (p := ⟨Gs, 1, none⟩) le_s _) (fun hHeld2 => ?_); (clear hHeld; rename _ => hHeld; clear hK K; have hHeld : Below wB.heap.size wB _ := hHeld); (try simp only [Act.put, List.getElem_toArray, List.getElem_cons_succ, List.getElem_cons_zero, List.setIfInBounds_toArray, List.set_cons_zero, List.set_cons_succ])
        obtain ⟨yw6, hwx⟩ : ∃ wx, (yw5.setCell ⟨Gs, 0, none⟩ (.int .i64 U)).setCell ⟨Gs, 1, none⟩ (.int .i64 V) = wx := ⟨_, rfl⟩; rw [hwx] at Hd Hs hHeld ⊢; clear hwx
        refine wpAnyH_ready (rs := [11]) (by kernel_rfl) (by simp) ?_; refine AllReadyH.cons rfl (fun K hK => ?_) AllReadyH.nil
        obtain ⟨⟨a0, a1⟩, ⟨f0, f1⟩, az⟩ := Hd.out; go_simp; clear a0 f0 a1 f1 az
        have Hs := Lib.hid ((Hs.out.far ⟨Gd, 0, none⟩ (.int .i64 D) (by show Gs ≠ Gd; exact ne_s_d)).far ⟨Gd, 1, none⟩ (.int .i64 E) (by show Gs ≠ Gd; exact ne_s_d))
        have Hd := Lib.hid ((Hd.out.set0 D).set1 E)
        refine hK.out _ _ (Below.setCell (Below.setCell hHeld (p := ⟨Gd, 0, none⟩) le_d _) (p := ⟨Gd, 1, none⟩) le_d _) (fun hHeld2 => ?_); (clear hHeld; rename _ => hHeld; clear hK K; have hHeld : Below wB.heap.size wB _ := hHeld); (try simp only [Act.put, List.getElem_toArray, List.getElem_cons_succ, List.getElem_cons_zero, List.setIfInBounds_toArray, List.set_cons_zero, List.set_cons_succ])
        obtain ⟨yw7, hwx⟩ : ∃ wx, (yw6.setCell ⟨Gd, 0, none⟩ (.int .i64 D)).setCell ⟨Gd, 1, none⟩ (.int .i64 E) = wx := ⟨_, rfl⟩; rw [hwx] at Hd Hs hHeld ⊢; clear hwx
        refine wpAnyH_done (by kernel_rfl) ?_ _
        go_wp2_with fail
        go_meet
        exact ⟨Gs, Gd, rfl, rfl, Hs.out, Hd.out, by first | exact ne_s_d | exact Ne.symm ne_d_s, le_s, le_d, hHeld⟩
  case rest =>
    obtain ⟨Gs, Gd, rfl, rfl, hbs, hbd, hne, hls, hld, hbx⟩ := hcut
    obtain ⟨w2, rfl⟩ : ∃ w2, w2 = wc := ⟨_, rfl⟩
    have HX2 : Hid (∀ W', Below w2.heap.size w2 W' → (W'.cell? ⟨w.heap.size, 0, none⟩ = some (.int .i64 x0) ∧ W'.cell? ⟨w.heap.size, 1, none⟩ = some (.int .i64 y0) ∧ W'.cell? ⟨w.heap.size + 1, 0, none⟩ = some (.int .i64 x1) ∧ W'.cell? ⟨w.heap.size + 1, 1, none⟩ = some (.int .i64 y1) ∧ W'.cell? ⟨w.heap.size + 1 + 1, 0, none⟩ = some (.int .i64 x2) ∧ W'.cell? ⟨w.heap.size + 1 + 1, 1, none⟩ = some (.int .i64 y2) ∧ W'.cell? ⟨w.heap.size + 1 + 1 + 1, 0, none⟩ = some (.int .i64 0) ∧ W'.cell? ⟨w.heap.size + 1 + 1 + 1, 1, none⟩ = some (.int .i64 0) ∧ W'.frozen? ⟨w.heap.size + 1 + 1 + 1, 0, none⟩ = false ∧ W'.frozen? ⟨w.heap.size + 1 + 1 + 1, 1, none⟩ = false ∧ Below w.heap.size w W') ∧ Bk2 W' Gs U V ∧ Bk2 W' Gd D E) := fun W' h => ⟨HX.out W' (below_after h hbx), hbs.below h, hbd.below h⟩
    obtain ⟨⟨i0, i1, i2, i3, i4, i5, r0, r1, s0, s1, hbF⟩, ⟨⟨u0, u1⟩, ⟨u2, u3⟩, uz⟩, ⟨⟨v0, v1⟩, ⟨v2, v3⟩, vz⟩⟩ := HX2.out _ (Below.refl _ _)
    have n1 : ¬ Gs = Gd := hne
    have n2 : ¬ Gd = Gs := fun h => hne h.symm
    have n3 : ¬ Gs = w.heap.size + 1 + 1 + 1 := by omega
    have n4 : ¬ w.heap.size + 1 + 1 + 1 = Gs := by omega
    have n5 : ¬ Gs = w.heap.size := by omega
    have n6 : ¬ w.heap.size = Gs := by omega
    have lw : w.heap.size ≤ Gs := by omega
    clear hbs hbd hne hls hld hbx hzB
    go_wp2_with fail
    go_at_call 40
    refine (HN.out _).mono ?_
    rintro e w3 ⟨rfl, hb⟩
    have HB3 := Lib.hid hb
    clear hb i0 i1 i2 i3 i4 i5 r0 r1 s0 s1 hbF u0 u1 u2 u3 uz v0 v1 v2 v3 vz
    obtain ⟨⟨i0, i1, i2, i3, i4, i5, r0, r1, s0, s1, hbF⟩, ⟨⟨u0, u1⟩, ⟨u2, u3⟩, uz⟩, ⟨⟨v0, v1⟩, ⟨v2, v3⟩, vz⟩⟩ := HX2.out _ HB3.out
    cases hn : nearB x0 y0 x1 y1
    · obtain ⟨rfl, rfl, rfl⟩ := HR.out.2.1 HH.out hn
      go_wp2_with fail
      refine bodyPost_ret (v := .tuple #[.agg #[.int .i64 0, .int .i64 0], .int .i64 5]) (by simp (maxDischargeDepth := 8) [results, Tryd.results21, go_sem, *]) rfl ?_
      exact ⟨rfl, Below.setCell (Below.setCell hbF (by show w.heap.size ≤ w.heap.size + 1 + 1 + 1; omega) _) (by show w.heap.size ≤ w.heap.size + 1 + 1 + 1; omega) _⟩
    · cases eS : (x2 == U && y2 == V)
      · have eS2 : (!(x2 == U && y2 == V)) = true := by rw [eS]; rfl
        cases eD : (x2 == D && y2 == E)
        · have eD2 : (!(x2 == D && y2 == E)) = true := by rw [eD]; rfl
          obtain ⟨rfl, rfl, rfl⟩ := HR.out.2.2.2.2.2.2 HH.out hn eS eD
          go_wp2_with fail
          refine bodyPost_ret (v := .tuple #[.agg #[.int .i64 0, .int .i64 0], .int .i64 5]) (by simp (maxDischargeDepth := 8) [results, Tryd.results21, go_sem, *]) rfl ?_
          exact ⟨rfl, Below.setCell (Below.setCell hbF (by show w.heap.size ≤ w.heap.size + 1 + 1 + 1; omega) _) (by show w.heap.size ≤ w.heap.size + 1 + 1 + 1; omega) _⟩
        · have eD2 : (!(x2 == D && y2 == E)) = false := by rw [eD]; rfl
          cases hp : isPt (U, V)
          · obtain ⟨rfl, rfl, rfl⟩ := HR.out.2.2.2.2.1 HH.out hn eS eD hp
            go_wp2_with fail
            go_at_call 51
            refine (l01Told_no _ _ _ hp).mono ?_
            rintro e w5 ⟨rfl, hb⟩
            have hb2 := below_after hb HB3.out
            clear hb i0 i1 i2 i3 i4 i5 r0 r1 s0 s1 hbF u0 u1 u2 u3 uz v0 v1 v2 v3 vz
            obtain ⟨⟨i0, i1, i2, i3, i4, i5, r0, r1, s0, s1, hbF⟩, _, _⟩ := HX2.out _ hb2
            have lt5 : w.heap.size + 1 + 1 + 1 < w5.heap.size := World.block_lt_of_cell? _ _ r0
            have nz5 : ¬ w.heap.size + 1 + 1 + 1 = w5.heap.size := by omega
            go_wp2_with fail
            refine bodyPost_ret (v := .tuple #[.agg #[.int .i64 0, .int .i64 0], .int .i64 3]) (by simp (maxDischargeDepth := 8) [results, Tryd.results21, go_sem, *]) rfl ?_
            exact ⟨rfl, by (repeat' (first | (with_reducible exact Below.refl _ _) | (with_reducible refine Below.alloc ?_ ?_ _) | (with_reducible refine Below.setCell ?_ ?_ _) | (with_reducible refine Below.drew ?_) | (with_reducible refine below_drewN ?_ _) | (with_reducible assumption) | (with_reducible refine below_after (by with_reducible assumption) ?_) | go_size))⟩
          · obtain ⟨rfl, rfl, rfl⟩ := HR.out.2.2.2.2.2.1 HH.out hn eS eD hp
            go_wp2_with fail
            go_at_call 51
            refine (l01Told_yes _ _ _ hp).mono ?_
            rintro e w5 ⟨rfl, hb⟩
            have hb2 := below_after hb HB3.out
            clear hb i0 i1 i2 i3 i4 i5 r0 r1 s0 s1 hbF u0 u1 u2 u3 uz v0 v1 v2 v3 vz
            obtain ⟨⟨i0, i1, i2, i3, i4, i5, r0, r1, s0, s1, hbF⟩, _, _⟩ := HX2.out _ hb2
            have lt5 : w.heap.size + 1 + 1 + 1 < w5.heap.size := World.block_lt_of_cell? _ _ r0
            have nz5 : ¬ w.heap.size + 1 + 1 + 1 = w5.heap.size := by omega
            go_wp2_with fail
            refine bodyPost_ret (v := .tuple #[.agg #[.int .i64 X, .int .i64 Y], .int .i64 0]) (by simp (maxDischargeDepth := 8) [results, Tryd.results21, go_sem, *]) rfl ?_
            exact ⟨rfl, by (repeat' (first | (with_reducible exact Below.refl _ _) | (with_reducible refine Below.alloc ?_ ?_ _) | (with_reducible refine Below.setCell ?_ ?_ _) | (with_reducible refine Below.drew ?_) | (with_reducible refine below_drewN ?_ _) | (with_reducible assumption) | (with_reducible refine below_after (by with_reducible assumption) ?_) | go_size))⟩
      · have eS2 : (!(x2 == U && y2 == V)) = false := by rw [eS]; rfl
        go_upto_region 9 with fail
        obtain ⟨w4, hw4⟩ : ∃ w4, (w3.setCell ⟨Gs, 0, none⟩ (.int .i64 D)).setCell ⟨Gs, 1, none⟩ (.int .i64 E) = w4 := ⟨_, rfl⟩
        have hbF4 : Below w.heap.size w w4 := by rw [← hw4]; exact Below.setCell (Below.setCell hbF lw _) lw _
        have r04 : w4.cell? ⟨w.heap.size + 1 + 1 + 1, 0, none⟩ = some (.int .i64 0) := by rw [← hw4]; go_cell
        have r14 : w4.cell? ⟨w.heap.size + 1 + 1 + 1, 1, none⟩ = some (.int .i64 0) := by rw [← hw4]; go_cell
        have s04 : w4.frozen? ⟨w.heap.size + 1 + 1 + 1, 0, none⟩ = false := by rw [← hw4]; simpa using s0
        have s14 : w4.frozen? ⟨w.heap.size + 1 + 1 + 1, 1, none⟩ = false := by rw [← hw4]; simpa using s1
        have u04 : w4.cell? ⟨Gs, 0, none⟩ = some (.int .i64 D) := by rw [← hw4]; go_cell
        have u14 : w4.cell? ⟨Gs, 1, none⟩ = some (.int .i64 E) := by rw [← hw4]; go_cell
        rw [hw4]
        clear hw4 i0 i1 i2 i3 i4 i5 r0 r1 s0 s1 hbF u0 u1 u2 u3 uz v0 v1 v2 v3 vz
        cases hp : isPt (D, E)
        · obtain ⟨rfl, rfl, rfl⟩ := HR.out.2.2.1 HH.out hn eS hp
          go_wp2_with fail
          go_at_call 51
          refine (l01Told_no _ _ _ hp).mono ?_
          rintro e w5 ⟨rfl, hb⟩
          have lt4 : w.heap.size + 1 + 1 + 1 < w4.heap.size := World.block_lt_of_cell? _ _ r04
          have r05 : w5.cell? ⟨w.heap.size + 1 + 1 + 1, 0, none⟩ = some (.int .i64 0) := (hb.cell (p := ⟨w.heap.size + 1 + 1 + 1, 0, none⟩) lt4).trans r04
          have r15 : w5.cell? ⟨w.heap.size + 1 + 1 + 1, 1, none⟩ = some (.int .i64 0) := (hb.cell (p := ⟨w.heap.size + 1 + 1 + 1, 1, none⟩) lt4).trans r14
          have s05 : w5.frozen? ⟨w.heap.size + 1 + 1 + 1, 0, none⟩ = false := by rw [(bcell hb).2 _ _ lt4]; exact s04
          have s15 : w5.frozen? ⟨w.heap.size + 1 + 1 + 1, 1, none⟩ = false := by rw [(bcell hb).2 _ _ lt4]; exact s14
          have hbF5 := below_after hb hbF4
          have lt5 : w.heap.size + 1 + 1 + 1 < w5.heap.size := World.block_lt_of_cell? _ _ r05
          have nz5 : ¬ w.heap.size + 1 + 1 + 1 = w5.heap.size := by omega
          clear hb r04 r14 s04 s14 u04 u14 hbF4
          go_wp2_with fail
          refine bodyPost_ret (v := .tuple #[.agg #[.int .i64 0, .int .i64 0], .int .i64 3]) (by simp (maxDischargeDepth := 8) [results, Tryd.results21, go_sem, *]) rfl ?_
          exact ⟨rfl, by (repeat' (first | (with_reducible exact Below.refl _ _) | (with_reducible refine Below.alloc ?_ ?_ _) | (with_reducible refine Below.setCell ?_ ?_ _) | (with_reducible refine Below.drew ?_) | (with_reducible refine below_drewN ?_ _) | (with_reducible assumption) | (with_reducible refine below_after (by with_reducible assumption) ?_) | go_size))⟩
        · obtain ⟨rfl, rfl, rfl⟩ := HR.out.2.2.2.1 HH.out hn eS hp
          go_wp2_with fail
          go_at_call 51
          refine (l01Told_yes _ _ _ hp).mono ?_
          rintro e w5 ⟨rfl, hb⟩
          have lt4 : w.heap.size + 1 + 1 + 1 < w4.heap.size := World.block_lt_of_cell? _ _ r04
          have r05 : w5.cell? ⟨w.heap.size + 1 + 1 + 1, 0, none⟩ = some (.int .i64 0) := (hb.cell (p := ⟨w.heap.size + 1 + 1 + 1, 0, none⟩) lt4).trans r04
          have r15 : w5.cell? ⟨w.heap.size + 1 + 1 + 1, 1, none⟩ = some (.int .i64 0) := (hb.cell (p := ⟨w.heap.size + 1 + 1 + 1, 1, none⟩) lt4).trans r14
          have s05 : w5.frozen? ⟨w.heap.size + 1 + 1 + 1, 0, none⟩ = false := by rw [(bcell hb).2 _ _ lt4]; exact s04
          have s15 : w5.frozen? ⟨w.heap.size + 1 + 1 + 1, 1, none⟩ = false := by rw [(bcell hb).2 _ _ lt4]; exact s14
          have hbF5 := below_after hb hbF4
          have lt5 : w.heap.size + 1 + 1 + 1 < w5.heap.size := World.block_lt_of_cell? _ _ r05
          have nz5 : ¬ w.heap.size + 1 + 1 + 1 = w5.heap.size := by omega
          clear hb r04 r14 s04 s14 u04 u14 hbF4
          go_wp2_with fail
          refine bodyPost_ret (v := .tuple #[.agg #[.int .i64 X, .int .i64 Y], .int .i64 0]) (by simp (maxDischargeDepth := 8) [results, Tryd.results21, go_sem, *]) rfl ?_
          exact ⟨rfl, by (repeat' (first | (with_reducible exact Below.refl _ _) | (with_reducible refine Below.alloc ?_ ?_ _) | (with_reducible refine Below.setCell ?_ ?_ _) | (with_reducible refine Below.drew ?_) | (with_reducible refine below_drewN ?_ _) | (with_reducible assumption) | (with_reducible refine below_after (by with_reducible assumption) ?_) | go_size))⟩
end Go.Proofs.YtcaleapedomfmaaDoor
