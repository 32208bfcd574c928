/-
  SplitTriangle in the model (own work).
-/
import Derived.Test.YtcgaikedbhdbgaaSpt
namespace Go.Proofs.Ytcgaikedbhdbgaa
open Go.ChangeShapes Go.WideShapes Go.ChangeAt Go.RowKit
set_option linter.unusedVariables false
set_option maxRecDepth 100000
set_option linter.unusedSimpArgs false
set_option maxRecDepth 100000

set_option maxHeartbeats 4000000 in
theorem spec_Split_0n (x0 y0 x1 y1 x2 y2 sx sy : Int) (w : World) (h : isT x0 y0 x1 y1 x2 y2 = true) (hx : (x1 + 1 * x2) = sx) (hy : (y1 + 1 * y2) = sy) (hw : whI sx sy = false) : Calls Try.prog 57 #[.agg #[.int .i64 x0, .int .i64 y0, .int .i64 x1, .int .i64 y1, .int .i64 x2, .int .i64 y2], .int .i64 0] w fun e w' => ∃ v, e = .returned (.tuple #[v, .int .i64 5]) ∧ OwnTr w.heap.size w' v 0 [] ∧ Below w.heap.size w w' := by
  have HT := Lib.hid h
  obtain ⟨t0, t1, t2, t3, t4, t5, _⟩ := isT_iff.1 h
  have hP : ∀ w, Calls Try.prog 91 #[.agg #[.int .i64 x1, .int .i64 y1], .agg #[.int .i64 x2, .int .i64 y2], .int .i64 1] w fun e w' => e = .returned (.agg #[.int .i64 sx, .int .i64 sy]) ∧ Below w.heap.size w w' := by
    intro w
    have := l01Plus_any x1 y1 x2 y2 1 w t2.bn t3.bn t4.bn t5.bn ⟨by decide, by decide⟩
    rw [hx, hy] at this
    exact this
  have HP := Lib.hid hP
  have sxb : -2000 ≤ sx ∧ sx ≤ 2000 := by unfold Sml at t2 t4; omega
  have syb : -2000 ≤ sy ∧ sy ≤ 2000 := by unfold Sml at t3 t5; omega
  have wx1 : IntKind.i64.wrap (sx.tmod 2) = sx.tmod 2 := by rw [IntKind.wrap_i64]; have := Int.tmod_lt_of_pos sx (show (0 : Int) < 2 by decide); have := Int.lt_tmod_of_pos sx (show (0 : Int) < 2 by decide); omega
  have wy1 : IntKind.i64.wrap (sy.tmod 2) = sy.tmod 2 := by rw [IntKind.wrap_i64]; have := Int.tmod_lt_of_pos sy (show (0 : Int) < 2 by decide); have := Int.lt_tmod_of_pos sy (show (0 : Int) < 2 by decide); omega
  have qx := tdiv2_bd sxb
  have qy := tdiv2_bd syb
  have n1 : IntKind.i64.wrap (0 + 1) = 1 := by decide
  have n2 : IntKind.i64.wrap (0 + 2) = 2 := by decide
  have n3 : IntKind.i64.wrap (Int.tmod 1 3) = 1 := by decide
  have n4 : IntKind.i64.wrap (Int.tmod 2 3) = 2 := by decide
  have n5 : inB 0 0 2 = true := by decide
  have HW := Lib.hid hw
  clear h hx hy t0 t1 t2 t3 t4 t5 hP sxb syb hw qx qy
  go_enter Try.func57, Try.ntmps57
  go_upto_region 1 with fail
  obtain ⟨wB, hwB⟩ : ∃ wB, wB = w.alloc (.cells #[.int .i64 x0, .int .i64 y0, .int .i64 x1, .int .i64 y1, .int .i64 x2, .int .i64 y2] 27) := ⟨_, rfl⟩
  rw [← hwB]
  have HBW : Hid (Below w.heap.size w wB) := by
    show Below w.heap.size w wB
    rw [hwB]; (repeat' (first | (with_reducible exact Below.refl _ _) | (with_reducible refine Below.alloc ?_ ?_ _) | (with_reducible refine Below.setCell ?_ ?_ _) | (with_reducible refine Below.drew ?_) | (with_reducible refine below_drewN ?_ _) | (with_reducible assumption) | (with_reducible refine below_after (by with_reducible assumption) ?_) | go_size))
  have HK : Hid (∀ W', Below wB.heap.size wB W' → W'.cell? ⟨w.heap.size, 0, none⟩ = some (.int .i64 x0) ∧ W'.cell? ⟨w.heap.size, 1, none⟩ = some (.int .i64 y0) ∧ W'.cell? ⟨w.heap.size, 2, none⟩ = some (.int .i64 x1) ∧ W'.cell? ⟨w.heap.size, 3, none⟩ = some (.int .i64 y1) ∧ W'.cell? ⟨w.heap.size, 4, none⟩ = some (.int .i64 x2) ∧ W'.cell? ⟨w.heap.size, 5, none⟩ = some (.int .i64 y2) ∧ w.heap.size < W'.heap.size) := by
    intro W' hB
    have hz := hB.size
    have hbs : wB.heap.size = w.heap.size + 1 := by rw [hwB]; simp
    refine ⟨?_, ?_, ?_, ?_, ?_, ?_, by omega⟩
    all_goals (rw [hB.cell (p := ⟨w.heap.size, _, none⟩) (by rw [hbs]; exact Nat.lt_succ_self _), hwB]; go_cell)
  clear hwB
  obtain ⟨s0, s1, s2, s3, s4, s5, sz⟩ := HK.out wB (Below.refl _ _)
  go_wp2_with fail
  go_at_call 62
  refine (l04Is_any _ _ _ _ _ _ _).mono ?_
  rw [HT.out]
  rintro e w1 ⟨rfl, b1⟩
  clear s0 s1 s2 s3 s4 s5 sz
  have HBB := Lib.hid b1
  clear b1
  go_upto_region 6 with (first | (go_at_call 74; refine (l01In_any _ _ _ _).mono ?_; rintro e wn ⟨rfl, rfl⟩))
  clear n1 n2 n3 n4 n5
  go_cut [8] (fun v8 wx => ∃ Gs : Nat, v8 = .pointer (some ⟨Gs, 0, none⟩) ∧ w1.heap.size ≤ Gs ∧ Bk2 wx Gs sx sy ∧ Below w1.heap.size w1 wx)
  case first =>
    refine wp_region_held_drew (S := fun W => Below w1.heap.size w1 W) (by kernel_rfl) ?_ (fun hHeld => ?_); focus ((try dsimp only); exact (Below.refl _ _).drew)
    have hHeld : Below w1.heap.size w1 _ := hHeld
    obtain ⟨wD, hwD⟩ : ∃ wD, w1.drew = wD := ⟨_, rfl⟩
    rw [hwD] at hHeld ⊢
    clear hwD
    (refine wpAnyH_take (i := 0) (v := ?_) rfl (by kernel_rfl) (by kernel_rfl) (by kernel_rfl) (fun _ _ _ h => h) (Or.inl ⟨rfl, ?_⟩) (by assumption) ?_; rotate_left; focus (intro W hSw; (try dsimp only at hSw); obtain ⟨i0, i1, i2, i3, i4, i5, iz⟩ := HK.out _ (below_after hSw HBB.out); go_simp; try (with_reducible rfl))); (try simp only [Act.put, List.getElem_toArray, List.getElem_cons_succ, List.getElem_cons_zero, List.setIfInBounds_toArray, List.set_cons_zero, List.set_cons_succ])
    (refine wpAnyH_take (i := 1) (v := ?_) rfl (by kernel_rfl) (by kernel_rfl) (by kernel_rfl) (fun _ _ _ h => h) (Or.inl ⟨rfl, ?_⟩) (by assumption) ?_; rotate_left; focus (intro W hSw; (try dsimp only at hSw); obtain ⟨i0, i1, i2, i3, i4, i5, iz⟩ := HK.out _ (below_after hSw HBB.out); go_simp; try (with_reducible rfl))); (try simp only [Act.put, List.getElem_toArray, List.getElem_cons_succ, List.getElem_cons_zero, List.setIfInBounds_toArray, List.set_cons_zero, List.set_cons_succ])
    (refine wpAnyH_take (i := 2) (v := ?_) rfl (by kernel_rfl) (by kernel_rfl) (by kernel_rfl) (fun _ _ _ h => h) (Or.inl ⟨rfl, ?_⟩) (by assumption) ?_; rotate_left; focus (intro W hSw; (try dsimp only at hSw); obtain ⟨i0, i1, i2, i3, i4, i5, iz⟩ := HK.out _ (below_after hSw HBB.out); go_simp; try (with_reducible rfl))); (try simp only [Act.put, List.getElem_toArray, List.getElem_cons_succ, List.getElem_cons_zero, List.setIfInBounds_toArray, List.set_cons_zero, List.set_cons_succ])
    (refine wpAnyH_take (i := 3) (v := ?_) rfl (by kernel_rfl) (by kernel_rfl) (by kernel_rfl) (fun _ _ _ h => h) (Or.inl ⟨rfl, ?_⟩) (by assumption) ?_; rotate_left; focus (intro W hSw; (try dsimp only at hSw); obtain ⟨i0, i1, i2, i3, i4, i5, iz⟩ := HK.out _ (below_after hSw HBB.out); go_simp; try (with_reducible rfl))); (try simp only [Act.put, List.getElem_toArray, List.getElem_cons_succ, List.getElem_cons_zero, List.setIfInBounds_toArray, List.set_cons_zero, List.set_cons_succ])
    (refine wpAnyH_take (i := 4) (v := ?_) rfl (by kernel_rfl) (by kernel_rfl) (by kernel_rfl) (fun _ _ _ h => h) (Or.inl ⟨rfl, ?_⟩) (by assumption) ?_; rotate_left; focus (intro W hSw; (try dsimp only at hSw); obtain ⟨i0, i1, i2, i3, i4, i5, iz⟩ := HK.out _ (below_after hSw HBB.out); go_simp; try (with_reducible rfl))); (try simp only [Act.put, List.getElem_toArray, List.getElem_cons_succ, List.getElem_cons_zero, List.setIfInBounds_toArray, List.set_cons_zero, List.set_cons_succ])
    (refine wpAnyH_take (i := 5) (v := ?_) rfl (by kernel_rfl) (by kernel_rfl) (by kernel_rfl) (fun _ _ _ h => h) (Or.inl ⟨rfl, ?_⟩) (by assumption) ?_; rotate_left; focus (intro W hSw; (try dsimp only at hSw); obtain ⟨i0, i1, i2, i3, i4, i5, iz⟩ := HK.out _ (below_after hSw HBB.out); go_simp; try (with_reducible rfl))); (try simp only [Act.put, List.getElem_toArray, List.getElem_cons_succ, List.getElem_cons_zero, List.setIfInBounds_toArray, List.set_cons_zero, List.set_cons_succ])
    refine wpAnyH_ready (rs := [6, 7]) (by kernel_rfl) (by simp) ?_; refine AllReadyH.cons rfl (fun K hK => ?_) (AllReadyH.cons rfl (fun K hK => ?_) AllReadyH.nil)
    · skip
      go_simp; (go_at_call 91; refine (HP.out _).mono ?_; rintro en yw0 ⟨rfl, hb2⟩); refine hK.out _ _ (below_after hb2 hHeld) (fun hHeld2 => ?_); clear hb2; (clear hHeld; rename _ => hHeld; clear hK K; have hHeld : Below w1.heap.size w1 _ := hHeld); (try simp only [Act.put, List.getElem_toArray, List.getElem_cons_succ, List.getElem_cons_zero, List.setIfInBounds_toArray, List.set_cons_zero, List.set_cons_succ])
      refine wpAnyH_ready (rs := [7]) (by kernel_rfl) (by simp) ?_; refine AllReadyH.cons rfl (fun K hK => ?_) AllReadyH.nil
      go_simp; obtain ⟨Gs, hGs⟩ : ∃ G, yw0.heap.size = G := ⟨_, rfl⟩; have le_s : w1.heap.size ≤ Gs := by rw [← hGs]; exact Below.size hHeld
      have Hs : Hid (Bk2 (yw0.alloc (.cells #[.int .i64 0, .int .i64 0] 25)) Gs 0 0) := by rw [← hGs]; exact bk2_new yw0 0 0 _
      refine hK.out _ _ (Below.alloc hHeld (Below.size hHeld) _) (fun hHeld2 => ?_); (clear hHeld; rename _ => hHeld; clear hK K; have hHeld : Below w1.heap.size w1 _ := hHeld); (try simp only [Act.put, List.getElem_toArray, List.getElem_cons_succ, List.getElem_cons_zero, List.setIfInBounds_toArray, List.set_cons_zero, List.set_cons_succ])
      rw [hGs]; clear hGs; obtain ⟨yw1, hwx⟩ : ∃ wx, yw0.alloc (.cells #[.int .i64 0, .int .i64 0] 25) = wx := ⟨_, rfl⟩; rw [hwx] at Hs hHeld ⊢; clear hwx
      refine wpAnyH_ready (rs := [8]) (by kernel_rfl) (by simp) ?_; refine AllReadyH.cons rfl (fun K hK => ?_) AllReadyH.nil
      obtain ⟨⟨a0, a1⟩, ⟨f0, f1⟩, az⟩ := Hs.out; go_simp; clear a0 f0 a1 f1 az
      have Hs := Lib.hid ((Hs.out.set0 sx).set1 sy)
      refine hK.out _ _ (Below.setCell (Below.setCell hHeld (p := ⟨Gs, 0, none⟩) le_s _) (p := ⟨Gs, 1, none⟩) le_s _) (fun hHeld2 => ?_); (clear hHeld; rename _ => hHeld; clear hK K; have hHeld : Below w1.heap.size w1 _ := hHeld); (try simp only [Act.put, List.getElem_toArray, List.getElem_cons_succ, List.getElem_cons_zero, List.setIfInBounds_toArray, List.set_cons_zero, List.set_cons_succ])
      obtain ⟨yw2, hwx⟩ : ∃ wx, (yw1.setCell ⟨Gs, 0, none⟩ (.int .i64 sx)).setCell ⟨Gs, 1, none⟩ (.int .i64 sy) = wx := ⟨_, rfl⟩; rw [hwx] at Hs hHeld ⊢; clear hwx
      refine wpAnyH_done (by kernel_rfl) ?_ _
      go_wp2_with fail
      go_meet
      exact ⟨Gs, rfl, le_s, Hs.out, hHeld⟩
    · skip
      go_simp; obtain ⟨Gs, hGs⟩ : ∃ G, wD.heap.size = G := ⟨_, rfl⟩; have le_s : w1.heap.size ≤ Gs := by rw [← hGs]; exact Below.size hHeld
      have Hs : Hid (Bk2 (wD.alloc (.cells #[.int .i64 0, .int .i64 0] 25)) Gs 0 0) := by rw [← hGs]; exact bk2_new wD 0 0 _
      refine hK.out _ _ (Below.alloc hHeld (Below.size hHeld) _) (fun hHeld2 => ?_); (clear hHeld; rename _ => hHeld; clear hK K; have hHeld : Below w1.heap.size w1 _ := hHeld); (try simp only [Act.put, List.getElem_toArray, List.getElem_cons_succ, List.getElem_cons_zero, List.setIfInBounds_toArray, List.set_cons_zero, List.set_cons_succ])
      rw [hGs]; clear hGs; obtain ⟨yw0, hwx⟩ : ∃ wx, wD.alloc (.cells #[.int .i64 0, .int .i64 0] 25) = wx := ⟨_, rfl⟩; rw [hwx] at Hs hHeld ⊢; clear hwx
      refine wpAnyH_ready (rs := [6]) (by kernel_rfl) (by simp) ?_; refine AllReadyH.cons rfl (fun K hK => ?_) AllReadyH.nil
      go_simp; (go_at_call 91; refine (HP.out _).mono ?_; rintro en yw1 ⟨rfl, hb2⟩); have Hs := Lib.hid (Hs.out.below hb2); refine hK.out _ _ (below_after hb2 hHeld) (fun hHeld2 => ?_); clear hb2; (clear hHeld; rename _ => hHeld; clear hK K; have hHeld : Below w1.heap.size w1 _ := hHeld); (try simp only [Act.put, List.getElem_toArray, List.getElem_cons_succ, List.getElem_cons_zero, List.setIfInBounds_toArray, List.set_cons_zero, List.set_cons_succ])
      refine wpAnyH_ready (rs := [8]) (by kernel_rfl) (by simp) ?_; refine AllReadyH.cons rfl (fun K hK => ?_) AllReadyH.nil
      obtain ⟨⟨a0, a1⟩, ⟨f0, f1⟩, az⟩ := Hs.out; go_simp; clear a0 f0 a1 f1 az
      have Hs := Lib.hid ((Hs.out.set0 sx).set1 sy)
      refine hK.out _ _ (Below.setCell (Below.setCell hHeld (p := ⟨Gs, 0, none⟩) le_s _) (p := ⟨Gs, 1, none⟩) le_s _) (fun hHeld2 => ?_); (clear hHeld; rename _ => hHeld; clear hK K; have hHeld : Below w1.heap.size w1 _ := hHeld); (try simp only [Act.put, List.getElem_toArray, List.getElem_cons_succ, List.getElem_cons_zero, List.setIfInBounds_toArray, List.set_cons_zero, List.set_cons_succ])
      obtain ⟨yw2, hwx⟩ : ∃ wx, (yw1.setCell ⟨Gs, 0, none⟩ (.int .i64 sx)).setCell ⟨Gs, 1, none⟩ (.int .i64 sy) = wx := ⟨_, rfl⟩; rw [hwx] at Hs hHeld ⊢; clear hwx
      refine wpAnyH_done (by kernel_rfl) ?_ _
      go_wp2_with fail
      go_meet
      exact ⟨Gs, rfl, le_s, Hs.out, hHeld⟩
  case rest =>
    obtain ⟨Gs, rfl, le_s, hS, hbx⟩ := hcut
    obtain ⟨w2, rfl⟩ : ∃ w2, w2 = wc := ⟨_, rfl⟩
    obtain ⟨⟨a0, a1⟩, _, az⟩ := id hS
    by_cases hm : sx.tmod 2 = 0
    · have hn : ¬ sy.tmod 2 = 0 := by have := HW.out; unfold whI at this; rw [decide_eq_true hm] at this; simpa using this
      go_wp2
      refine bodyPost_ret (v := .tuple #[.slice none 0 0, .int .i64 5]) (by simp (maxDischargeDepth := 8) [results, Try.results57, go_sem, *]) rfl ?_
      exact ⟨_, rfl, World.ownsRow_nil _ _ _ _, below_after (below_after hbx HBB.out) HBW.out⟩
    · go_wp2
      refine bodyPost_ret (v := .tuple #[.slice none 0 0, .int .i64 5]) (by simp (maxDischargeDepth := 8) [results, Try.results57, go_sem, *]) rfl ?_
      exact ⟨_, rfl, World.ownsRow_nil _ _ _ _, below_after (below_after hbx HBB.out) HBW.out⟩
set_option maxHeartbeats 4000000 in
theorem spec_Split_0y (x0 y0 x1 y1 x2 y2 sx sy mx my : Int) (w : World) (h : isT x0 y0 x1 y1 x2 y2 = true) (hx : (x1 + 1 * x2) = sx) (hy : (y1 + 1 * y2) = sy) (hw : whI sx sy = true) (hmx : sx.tdiv 2 = mx) (hmy : sy.tdiv 2 = my) : Calls Try.prog 57 #[.agg #[.int .i64 x0, .int .i64 y0, .int .i64 x1, .int .i64 y1, .int .i64 x2, .int .i64 y2], .int .i64 0] w fun e w' => ∃ v, e = .returned (.tuple #[v, .int .i64 0]) ∧ OwnTr w.heap.size w' v 2 (stZ x0 y0 x1 y1 x2 y2 0 mx my) ∧ Below w.heap.size w w' := by
  have HT := Lib.hid h
  obtain ⟨t0, t1, t2, t3, t4, t5, _⟩ := isT_iff.1 h
  have hP : ∀ w, Calls Try.prog 91 #[.agg #[.int .i64 x1, .int .i64 y1], .agg #[.int .i64 x2, .int .i64 y2], .int .i64 1] w fun e w' => e = .returned (.agg #[.int .i64 sx, .int .i64 sy]) ∧ Below w.heap.size w w' := by
    intro w
    have := l01Plus_any x1 y1 x2 y2 1 w t2.bn t3.bn t4.bn t5.bn ⟨by decide, by decide⟩
    rw [hx, hy] at this
    exact this
  have HP := Lib.hid hP
  have sxb : -2000 ≤ sx ∧ sx ≤ 2000 := by unfold Sml at t2 t4; omega
  have syb : -2000 ≤ sy ∧ sy ≤ 2000 := by unfold Sml at t3 t5; omega
  have wx1 : IntKind.i64.wrap (sx.tmod 2) = sx.tmod 2 := by rw [IntKind.wrap_i64]; have := Int.tmod_lt_of_pos sx (show (0 : Int) < 2 by decide); have := Int.lt_tmod_of_pos sx (show (0 : Int) < 2 by decide); omega
  have wy1 : IntKind.i64.wrap (sy.tmod 2) = sy.tmod 2 := by rw [IntKind.wrap_i64]; have := Int.tmod_lt_of_pos sy (show (0 : Int) < 2 by decide); have := Int.lt_tmod_of_pos sy (show (0 : Int) < 2 by decide); omega
  have qx := tdiv2_bd sxb
  have qy := tdiv2_bd syb
  have wx2 : IntKind.i64.wrap mx = mx := by rw [← hmx]; exact wr (by omega) (by omega)
  have wy2 : IntKind.i64.wrap my = my := by rw [← hmy]; exact wr (by omega) (by omega)
  have n1 : IntKind.i64.wrap (0 + 1) = 1 := by decide
  have n2 : IntKind.i64.wrap (0 + 2) = 2 := by decide
  have n3 : IntKind.i64.wrap (Int.tmod 1 3) = 1 := by decide
  have n4 : IntKind.i64.wrap (Int.tmod 2 3) = 2 := by decide
  have n5 : inB 0 0 2 = true := by decide
  have HW := Lib.hid hw
  clear h hx hy t0 t1 t2 t3 t4 t5 hP sxb syb hw qx qy
  go_enter Try.func57, Try.ntmps57
  go_upto_region 1 with fail
  obtain ⟨wB, hwB⟩ : ∃ wB, wB = w.alloc (.cells #[.int .i64 x0, .int .i64 y0, .int .i64 x1, .int .i64 y1, .int .i64 x2, .int .i64 y2] 27) := ⟨_, rfl⟩
  rw [← hwB]
  have HBW : Hid (Below w.heap.size w wB) := by
    show Below w.heap.size w wB
    rw [hwB]; (repeat' (first | (with_reducible exact Below.refl _ _) | (with_reducible refine Below.alloc ?_ ?_ _) | (with_reducible refine Below.setCell ?_ ?_ _) | (with_reducible refine Below.drew ?_) | (with_reducible refine below_drewN ?_ _) | (with_reducible assumption) | (with_reducible refine below_after (by with_reducible assumption) ?_) | go_size))
  have HK : Hid (∀ W', Below wB.heap.size wB W' → W'.cell? ⟨w.heap.size, 0, none⟩ = some (.int .i64 x0) ∧ W'.cell? ⟨w.heap.size, 1, none⟩ = some (.int .i64 y0) ∧ W'.cell? ⟨w.heap.size, 2, none⟩ = some (.int .i64 x1) ∧ W'.cell? ⟨w.heap.size, 3, none⟩ = some (.int .i64 y1) ∧ W'.cell? ⟨w.heap.size, 4, none⟩ = some (.int .i64 x2) ∧ W'.cell? ⟨w.heap.size, 5, none⟩ = some (.int .i64 y2) ∧ w.heap.size < W'.heap.size) := by
    intro W' hB
    have hz := hB.size
    have hbs : wB.heap.size = w.heap.size + 1 := by rw [hwB]; simp
    refine ⟨?_, ?_, ?_, ?_, ?_, ?_, by omega⟩
    all_goals (rw [hB.cell (p := ⟨w.heap.size, _, none⟩) (by rw [hbs]; exact Nat.lt_succ_self _), hwB]; go_cell)
  clear hwB
  obtain ⟨s0, s1, s2, s3, s4, s5, sz⟩ := HK.out wB (Below.refl _ _)
  go_wp2_with fail
  go_at_call 62
  refine (l04Is_any _ _ _ _ _ _ _).mono ?_
  rw [HT.out]
  rintro e w1 ⟨rfl, b1⟩
  clear s0 s1 s2 s3 s4 s5 sz
  have HBB := Lib.hid b1
  clear b1
  go_upto_region 6 with (first | (go_at_call 74; refine (l01In_any _ _ _ _).mono ?_; rintro e wn ⟨rfl, rfl⟩))
  clear n1 n2 n3 n4 n5
  go_cut [8] (fun v8 wx => ∃ Gs : Nat, v8 = .pointer (some ⟨Gs, 0, none⟩) ∧ w1.heap.size ≤ Gs ∧ Bk2 wx Gs sx sy ∧ Below w1.heap.size w1 wx)
  case first =>
    refine wp_region_held_drew (S := fun W => Below w1.heap.size w1 W) (by kernel_rfl) ?_ (fun hHeld => ?_); focus ((try dsimp only); exact (Below.refl _ _).drew)
    have hHeld : Below w1.heap.size w1 _ := hHeld
    obtain ⟨wD, hwD⟩ : ∃ wD, w1.drew = wD := ⟨_, rfl⟩
    rw [hwD] at hHeld ⊢
    clear hwD
    (refine wpAnyH_take (i := 0) (v := ?_) rfl (by kernel_rfl) (by kernel_rfl) (by kernel_rfl) (fun _ _ _ h => h) (Or.inl ⟨rfl, ?_⟩) (by assumption) ?_; rotate_left; focus (intro W hSw; (try dsimp only at hSw); obtain ⟨i0, i1, i2, i3, i4, i5, iz⟩ := HK.out _ (below_after hSw HBB.out); go_simp; try (with_reducible rfl))); (try simp only [Act.put, List.getElem_toArray, List.getElem_cons_succ, List.getElem_cons_zero, List.setIfInBounds_toArray, List.set_cons_zero, List.set_cons_succ])
    (refine wpAnyH_take (i := 1) (v := ?_) rfl (by kernel_rfl) (by kernel_rfl) (by kernel_rfl) (fun _ _ _ h => h) (Or.inl ⟨rfl, ?_⟩) (by assumption) ?_; rotate_left; focus (intro W hSw; (try dsimp only at hSw); obtain ⟨i0, i1, i2, i3, i4, i5, iz⟩ := HK.out _ (below_after hSw HBB.out); go_simp; try (with_reducible rfl))); (try simp only [Act.put, List.getElem_toArray, List.getElem_cons_succ, List.getElem_cons_zero, List.setIfInBounds_toArray, List.set_cons_zero, List.set_cons_succ])
    (refine wpAnyH_take (i := 2) (v := ?_) rfl (by kernel_rfl) (by kernel_rfl) (by kernel_rfl) (fun _ _ _ h => h) (Or.inl ⟨rfl, ?_⟩) (by assumption) ?_; rotate_left; focus (intro W hSw; (try dsimp only at hSw); obtain ⟨i0, i1, i2, i3, i4, i5, iz⟩ := HK.out _ (below_after hSw HBB.out); go_simp; try (with_reducible rfl))); (try simp only [Act.put, List.getElem_toArray, List.getElem_cons_succ, List.getElem_cons_zero, List.setIfInBounds_toArray, List.set_cons_zero, List.set_cons_succ])
    (refine wpAnyH_take (i := 3) (v := ?_) rfl (by kernel_rfl) (by kernel_rfl) (by kernel_rfl) (fun _ _ _ h => h) (Or.inl ⟨rfl, ?_⟩) (by assumption) ?_; rotate_left; focus (intro W hSw; (try dsimp only at hSw); obtain ⟨i0, i1, i2, i3, i4, i5, iz⟩ := HK.out _ (below_after hSw HBB.out); go_simp; try (with_reducible rfl))); (try simp only [Act.put, List.getElem_toArray, List.getElem_cons_succ, List.getElem_cons_zero, List.setIfInBounds_toArray, List.set_cons_zero, List.set_cons_succ])
    (refine wpAnyH_take (i := 4) (v := ?_) rfl (by kernel_rfl) (by kernel_rfl) (by kernel_rfl) (fun _ _ _ h => h) (Or.inl ⟨rfl, ?_⟩) (by assumption) ?_; rotate_left; focus (intro W hSw; (try dsimp only at hSw); obtain ⟨i0, i1, i2, i3, i4, i5, iz⟩ := HK.out _ (below_after hSw HBB.out); go_simp; try (with_reducible rfl))); (try simp only [Act.put, List.getElem_toArray, List.getElem_cons_succ, List.getElem_cons_zero, List.setIfInBounds_toArray, List.set_cons_zero, List.set_cons_succ])
    (refine wpAnyH_take (i := 5) (v := ?_) rfl (by kernel_rfl) (by kernel_rfl) (by kernel_rfl) (fun _ _ _ h => h) (Or.inl ⟨rfl, ?_⟩) (by assumption) ?_; rotate_left; focus (intro W hSw; (try dsimp only at hSw); obtain ⟨i0, i1, i2, i3, i4, i5, iz⟩ := HK.out _ (below_after hSw HBB.out); go_simp; try (with_reducible rfl))); (try simp only [Act.put, List.getElem_toArray, List.getElem_cons_succ, List.getElem_cons_zero, List.setIfInBounds_toArray, List.set_cons_zero, List.set_cons_succ])
    refine wpAnyH_ready (rs := [6, 7]) (by kernel_rfl) (by simp) ?_; refine AllReadyH.cons rfl (fun K hK => ?_) (AllReadyH.cons rfl (fun K hK => ?_) AllReadyH.nil)
    · skip
      go_simp; (go_at_call 91; refine (HP.out _).mono ?_; rintro en yw0 ⟨rfl, hb2⟩); refine hK.out _ _ (below_after hb2 hHeld) (fun hHeld2 => ?_); clear hb2; (clear hHeld; rename _ => hHeld; clear hK K; have hHeld : Below w1.heap.size w1 _ := hHeld); (try simp only [Act.put, List.getElem_toArray, List.getElem_cons_succ, List.getElem_cons_zero, List.setIfInBounds_toArray, List.set_cons_zero, List.set_cons_succ])
      refine wpAnyH_ready (rs := [7]) (by kernel_rfl) (by simp) ?_; refine AllReadyH.cons rfl (fun K hK => ?_) AllReadyH.nil
      go_simp; obtain ⟨Gs, hGs⟩ : ∃ G, yw0.heap.size = G := ⟨_, rfl⟩; have le_s : w1.heap.size ≤ Gs := by rw [← hGs]; exact Below.size hHeld
      have Hs : Hid (Bk2 (yw0.alloc (.cells #[.int .i64 0, .int .i64 0] 25)) Gs 0 0) := by rw [← hGs]; exact bk2_new yw0 0 0 _
      refine hK.out _ _ (Below.alloc hHeld (Below.size hHeld) _) (fun hHeld2 => ?_); (clear hHeld; rename _ => hHeld; clear hK K; have hHeld : Below w1.heap.size w1 _ := hHeld); (try simp only [Act.put, List.getElem_toArray, List.getElem_cons_succ, List.getElem_cons_zero, List.setIfInBounds_toArray, List.set_cons_zero, List.set_cons_succ])
      rw [hGs]; clear hGs; obtain ⟨yw1, hwx⟩ : ∃ wx, yw0.alloc (.cells #[.int .i64 0, .int .i64 0] 25) = wx := ⟨_, rfl⟩; rw [hwx] at Hs hHeld ⊢; clear hwx
      refine wpAnyH_ready (rs := [8]) (by kernel_rfl) (by simp) ?_; refine AllReadyH.cons rfl (fun K hK => ?_) AllReadyH.nil
      obtain ⟨⟨a0, a1⟩, ⟨f0, f1⟩, az⟩ := Hs.out; go_simp; clear a0 f0 a1 f1 az
      have Hs := Lib.hid ((Hs.out.set0 sx).set1 sy)
      refine hK.out _ _ (Below.setCell (Below.setCell hHeld (p := ⟨Gs, 0, none⟩) le_s _) (p := ⟨Gs, 1, none⟩) le_s _) (fun hHeld2 => ?_); (clear hHeld; rename _ => hHeld; clear hK K; have hHeld : Below w1.heap.size w1 _ := hHeld); (try simp only [Act.put, List.getElem_toArray, List.getElem_cons_succ, List.getElem_cons_zero, List.setIfInBounds_toArray, List.set_cons_zero, List.set_cons_succ])
      obtain ⟨yw2, hwx⟩ : ∃ wx, (yw1.setCell ⟨Gs, 0, none⟩ (.int .i64 sx)).setCell ⟨Gs, 1, none⟩ (.int .i64 sy) = wx := ⟨_, rfl⟩; rw [hwx] at Hs hHeld ⊢; clear hwx
      refine wpAnyH_done (by kernel_rfl) ?_ _
      go_wp2_with fail
      go_meet
      exact ⟨Gs, rfl, le_s, Hs.out, hHeld⟩
    · skip
      go_simp; obtain ⟨Gs, hGs⟩ : ∃ G, wD.heap.size = G := ⟨_, rfl⟩; have le_s : w1.heap.size ≤ Gs := by rw [← hGs]; exact Below.size hHeld
      have Hs : Hid (Bk2 (wD.alloc (.cells #[.int .i64 0, .int .i64 0] 25)) Gs 0 0) := by rw [← hGs]; exact bk2_new wD 0 0 _
      refine hK.out _ _ (Below.alloc hHeld (Below.size hHeld) _) (fun hHeld2 => ?_); (clear hHeld; rename _ => hHeld; clear hK K; have hHeld : Below w1.heap.size w1 _ := hHeld); (try simp only [Act.put, List.getElem_toArray, List.getElem_cons_succ, List.getElem_cons_zero, List.setIfInBounds_toArray, List.set_cons_zero, List.set_cons_succ])
      rw [hGs]; clear hGs; obtain ⟨yw0, hwx⟩ : ∃ wx, wD.alloc (.cells #[.int .i64 0, .int .i64 0] 25) = wx := ⟨_, rfl⟩; rw [hwx] at Hs hHeld ⊢; clear hwx
      refine wpAnyH_ready (rs := [6]) (by kernel_rfl) (by simp) ?_; refine AllReadyH.cons rfl (fun K hK => ?_) AllReadyH.nil
      go_simp; (go_at_call 91; refine (HP.out _).mono ?_; rintro en yw1 ⟨rfl, hb2⟩); have Hs := Lib.hid (Hs.out.below hb2); refine hK.out _ _ (below_after hb2 hHeld) (fun hHeld2 => ?_); clear hb2; (clear hHeld; rename _ => hHeld; clear hK K; have hHeld : Below w1.heap.size w1 _ := hHeld); (try simp only [Act.put, List.getElem_toArray, List.getElem_cons_succ, List.getElem_cons_zero, List.setIfInBounds_toArray, List.set_cons_zero, List.set_cons_succ])
      refine wpAnyH_ready (rs := [8]) (by kernel_rfl) (by simp) ?_; refine AllReadyH.cons rfl (fun K hK => ?_) AllReadyH.nil
      obtain ⟨⟨a0, a1⟩, ⟨f0, f1⟩, az⟩ := Hs.out; go_simp; clear a0 f0 a1 f1 az
      have Hs := Lib.hid ((Hs.out.set0 sx).set1 sy)
      refine hK.out _ _ (Below.setCell (Below.setCell hHeld (p := ⟨Gs, 0, none⟩) le_s _) (p := ⟨Gs, 1, none⟩) le_s _) (fun hHeld2 => ?_); (clear hHeld; rename _ => hHeld; clear hK K; have hHeld : Below w1.heap.size w1 _ := hHeld); (try simp only [Act.put, List.getElem_toArray, List.getElem_cons_succ, List.getElem_cons_zero, List.setIfInBounds_toArray, List.set_cons_zero, List.set_cons_succ])
      obtain ⟨yw2, hwx⟩ : ∃ wx, (yw1.setCell ⟨Gs, 0, none⟩ (.int .i64 sx)).setCell ⟨Gs, 1, none⟩ (.int .i64 sy) = wx := ⟨_, rfl⟩; rw [hwx] at Hs hHeld ⊢; clear hwx
      refine wpAnyH_done (by kernel_rfl) ?_ _
      go_wp2_with fail
      go_meet
      exact ⟨Gs, rfl, le_s, Hs.out, hHeld⟩
  case rest =>
    obtain ⟨Gs, rfl, le_s, hS, hbx⟩ := hcut
    obtain ⟨w2, rfl⟩ : ∃ w2, w2 = wc := ⟨_, rfl⟩
    obtain ⟨⟨a0, a1⟩, _, az⟩ := id hS
    have hm0 : sx.tmod 2 = 0 := by have := HW.out; unfold whI at this; simp only [Bool.and_eq_true, decide_eq_true_eq] at this; exact this.1
    have hm1 : sy.tmod 2 = 0 := by have := HW.out; unfold whI at this; simp only [Bool.and_eq_true, decide_eq_true_eq] at this; exact this.2
    go_upto_region 9 with fail
    clear a0 a1 az hm0 hm1 wx1 wy1
    have HX2 : Hid (∀ W, Below w2.heap.size w2 W → Bk2 W Gs sx sy ∧ Below wB.heap.size wB W) := fun W hW => ⟨hS.below hW, below_after (below_after hW hbx) HBB.out⟩
    clear hS hbx le_s HBB
    go_cut [9, 10, 11] (fun v9 v10 v11 wx => ∃ Gm Ga Gb : Nat, v9 = .pointer (some ⟨Gm, 0, none⟩) ∧ v10 = .pointer (some ⟨Ga, 0, none⟩) ∧ v11 = .pointer (some ⟨Gb, 0, none⟩) ∧ Ga ≠ Gb ∧ Gm ≠ Ga ∧ Gm ≠ Gb ∧ w2.heap.size ≤ Ga ∧ w2.heap.size ≤ Gb ∧ Bk2 wx Gm mx my ∧ Bk6 wx Ga x0 y0 x1 y1 x2 y2 ∧ Bk6 wx Gb x0 y0 x1 y1 x2 y2 ∧ Below w2.heap.size w2 wx)
    case first =>
      refine wp_region_held_drew (S := fun W => Below w2.heap.size w2 W) (by kernel_rfl) ?_ (fun hHeld => ?_); focus ((try dsimp only); exact (Below.refl _ _).drew)
      have hHeld : Below w2.heap.size w2 _ := hHeld
      obtain ⟨wD, hwD⟩ : ∃ wD, w2.drew = wD := ⟨_, rfl⟩
      rw [hwD] at hHeld ⊢
      clear hwD
      (refine wpAnyH_take (i := 0) (v := ?_) rfl (by kernel_rfl) (by kernel_rfl) (by kernel_rfl) (fun _ _ _ h => h) (Or.inl ⟨rfl, ?_⟩) (by assumption) ?_; rotate_left; focus (intro W hSw; (try dsimp only at hSw); obtain ⟨hS2, hW2⟩ := HX2.out _ hSw; obtain ⟨⟨b0, b1⟩, _, bz⟩ := hS2; obtain ⟨i0, i1, i2, i3, i4, i5, iz⟩ := HK.out _ hW2; go_simp; try (with_reducible rfl))); (try simp only [Act.put, List.getElem_toArray, List.getElem_cons_succ, List.getElem_cons_zero, List.setIfInBounds_toArray, List.set_cons_zero, List.set_cons_succ])
      (refine wpAnyH_take (i := 1) (v := ?_) rfl (by kernel_rfl) (by kernel_rfl) (by kernel_rfl) (fun _ _ _ h => h) (Or.inl ⟨rfl, ?_⟩) (by assumption) ?_; rotate_left; focus (intro W hSw; (try dsimp only at hSw); obtain ⟨hS2, hW2⟩ := HX2.out _ hSw; obtain ⟨⟨b0, b1⟩, _, bz⟩ := hS2; obtain ⟨i0, i1, i2, i3, i4, i5, iz⟩ := HK.out _ hW2; go_simp; try (with_reducible rfl))); (try simp only [Act.put, List.getElem_toArray, List.getElem_cons_succ, List.getElem_cons_zero, List.setIfInBounds_toArray, List.set_cons_zero, List.set_cons_succ])
      (refine wpAnyH_take (i := 2) (v := ?_) rfl (by kernel_rfl) (by kernel_rfl) (by kernel_rfl) (fun _ _ _ h => h) (Or.inl ⟨rfl, ?_⟩) (by assumption) ?_; rotate_left; focus (intro W hSw; (try dsimp only at hSw); obtain ⟨hS2, hW2⟩ := HX2.out _ hSw; obtain ⟨⟨b0, b1⟩, _, bz⟩ := hS2; obtain ⟨i0, i1, i2, i3, i4, i5, iz⟩ := HK.out _ hW2; go_simp; try (with_reducible rfl))); (try simp only [Act.put, List.getElem_toArray, List.getElem_cons_succ, List.getElem_cons_zero, List.setIfInBounds_toArray, List.set_cons_zero, List.set_cons_succ])
      (refine wpAnyH_take (i := 3) (v := ?_) rfl (by kernel_rfl) (by kernel_rfl) (by kernel_rfl) (fun _ _ _ h => h) (Or.inl ⟨rfl, ?_⟩) (by assumption) ?_; rotate_left; focus (intro W hSw; (try dsimp only at hSw); obtain ⟨hS2, hW2⟩ := HX2.out _ hSw; obtain ⟨⟨b0, b1⟩, _, bz⟩ := hS2; obtain ⟨i0, i1, i2, i3, i4, i5, iz⟩ := HK.out _ hW2; go_simp; try (with_reducible rfl))); (try simp only [Act.put, List.getElem_toArray, List.getElem_cons_succ, List.getElem_cons_zero, List.setIfInBounds_toArray, List.set_cons_zero, List.set_cons_succ])
      (refine wpAnyH_take (i := 4) (v := ?_) rfl (by kernel_rfl) (by kernel_rfl) (by kernel_rfl) (fun _ _ _ h => h) (Or.inl ⟨rfl, ?_⟩) (by assumption) ?_; rotate_left; focus (intro W hSw; (try dsimp only at hSw); obtain ⟨hS2, hW2⟩ := HX2.out _ hSw; obtain ⟨⟨b0, b1⟩, _, bz⟩ := hS2; obtain ⟨i0, i1, i2, i3, i4, i5, iz⟩ := HK.out _ hW2; go_simp; try (with_reducible rfl))); (try simp only [Act.put, List.getElem_toArray, List.getElem_cons_succ, List.getElem_cons_zero, List.setIfInBounds_toArray, List.set_cons_zero, List.set_cons_succ])
      (refine wpAnyH_take (i := 5) (v := ?_) rfl (by kernel_rfl) (by kernel_rfl) (by kernel_rfl) (fun _ _ _ h => h) (Or.inl ⟨rfl, ?_⟩) (by assumption) ?_; rotate_left; focus (intro W hSw; (try dsimp only at hSw); obtain ⟨hS2, hW2⟩ := HX2.out _ hSw; obtain ⟨⟨b0, b1⟩, _, bz⟩ := hS2; obtain ⟨i0, i1, i2, i3, i4, i5, iz⟩ := HK.out _ hW2; go_simp; try (with_reducible rfl))); (try simp only [Act.put, List.getElem_toArray, List.getElem_cons_succ, List.getElem_cons_zero, List.setIfInBounds_toArray, List.set_cons_zero, List.set_cons_succ])
      (refine wpAnyH_take (i := 6) (v := ?_) rfl (by kernel_rfl) (by kernel_rfl) (by kernel_rfl) (fun _ _ _ h => h) (Or.inl ⟨rfl, ?_⟩) (by assumption) ?_; rotate_left; focus (intro W hSw; (try dsimp only at hSw); obtain ⟨hS2, hW2⟩ := HX2.out _ hSw; obtain ⟨⟨b0, b1⟩, _, bz⟩ := hS2; obtain ⟨i0, i1, i2, i3, i4, i5, iz⟩ := HK.out _ hW2; go_simp; try (with_reducible rfl))); (try simp only [Act.put, List.getElem_toArray, List.getElem_cons_succ, List.getElem_cons_zero, List.setIfInBounds_toArray, List.set_cons_zero, List.set_cons_succ])
      (refine wpAnyH_take (i := 7) (v := ?_) rfl (by kernel_rfl) (by kernel_rfl) (by kernel_rfl) (fun _ _ _ h => h) (Or.inl ⟨rfl, ?_⟩) (by assumption) ?_; rotate_left; focus (intro W hSw; (try dsimp only at hSw); obtain ⟨hS2, hW2⟩ := HX2.out _ hSw; obtain ⟨⟨b0, b1⟩, _, bz⟩ := hS2; obtain ⟨i0, i1, i2, i3, i4, i5, iz⟩ := HK.out _ hW2; go_simp; try (with_reducible rfl))); (try simp only [Act.put, List.getElem_toArray, List.getElem_cons_succ, List.getElem_cons_zero, List.setIfInBounds_toArray, List.set_cons_zero, List.set_cons_succ])
      (refine wpAnyH_take (i := 8) (v := ?_) rfl (by kernel_rfl) (by kernel_rfl) (by kernel_rfl) (fun _ _ _ h => h) (Or.inl ⟨rfl, ?_⟩) (by assumption) ?_; rotate_left; focus (intro W hSw; (try dsimp only at hSw); obtain ⟨hS2, hW2⟩ := HX2.out _ hSw; obtain ⟨⟨b0, b1⟩, _, bz⟩ := hS2; obtain ⟨i0, i1, i2, i3, i4, i5, iz⟩ := HK.out _ hW2; go_simp; try (with_reducible rfl))); (try simp only [Act.put, List.getElem_toArray, List.getElem_cons_succ, List.getElem_cons_zero, List.setIfInBounds_toArray, List.set_cons_zero, List.set_cons_succ])
      refine wpAnyH_ready (rs := [9, 10, 11]) (by kernel_rfl) (by simp) ?_; refine AllReadyH.cons rfl (fun K hK => ?_) (AllReadyH.cons rfl (fun K hK => ?_) (AllReadyH.cons rfl (fun K hK => ?_) AllReadyH.nil))
      · skip
        go_simp; obtain ⟨Gm, hGm⟩ : ∃ G, wD.heap.size = G := ⟨_, rfl⟩; have le_m : w2.heap.size ≤ Gm := by rw [← hGm]; exact Below.size hHeld
        have Hm : Hid (Bk2 (wD.alloc (.cells #[.int .i64 0, .int .i64 0] 25)) Gm 0 0) := by rw [← hGm]; exact bk2_new wD 0 0 _
        refine hK.out _ _ (Below.alloc hHeld (Below.size hHeld) _) (fun hHeld2 => ?_); (clear hHeld; rename _ => hHeld; clear hK K; have hHeld : Below w2.heap.size w2 _ := hHeld); (try simp only [Act.put, List.getElem_toArray, List.getElem_cons_succ, List.getElem_cons_zero, List.setIfInBounds_toArray, List.set_cons_zero, List.set_cons_succ])
        rw [hGm]; clear hGm; obtain ⟨yw0, hwx⟩ : ∃ wx, wD.alloc (.cells #[.int .i64 0, .int .i64 0] 25) = wx := ⟨_, rfl⟩; rw [hwx] at Hm hHeld ⊢; clear hwx
        refine wpAnyH_ready (rs := [10, 11]) (by kernel_rfl) (by simp) ?_; refine AllReadyH.cons rfl (fun K hK => ?_) (AllReadyH.cons rfl (fun K hK => ?_) AllReadyH.nil)
        · skip
          go_simp; obtain ⟨Ga, hGa⟩ : ∃ G, yw0.heap.size = G := ⟨_, rfl⟩; have le_a : w2.heap.size ≤ Ga := by rw [← hGa]; exact Below.size hHeld
          have ne_a_m : Ga ≠ Gm := by have := Hm.out.2.2; omega
          have ne_m_a : Gm ≠ Ga := Ne.symm ne_a_m
          have Hm := Lib.hid (Hm.out.below ((Below.refl _ _).alloc (Nat.le_refl _) (.cells #[.int .i64 0, .int .i64 0, .int .i64 0, .int .i64 0, .int .i64 0, .int .i64 0] 27))); skip
          have Ha : Hid (Bk6 (yw0.alloc (.cells #[.int .i64 0, .int .i64 0, .int .i64 0, .int .i64 0, .int .i64 0, .int .i64 0] 27)) Ga 0 0 0 0 0 0) := by rw [← hGa]; exact bk6_new yw0 0 0 0 0 0 0 _
          refine hK.out _ _ (Below.alloc hHeld (Below.size hHeld) _) (fun hHeld2 => ?_); (clear hHeld; rename _ => hHeld; clear hK K; have hHeld : Below w2.heap.size w2 _ := hHeld); (try simp only [Act.put, List.getElem_toArray, List.getElem_cons_succ, List.getElem_cons_zero, List.setIfInBounds_toArray, List.set_cons_zero, List.set_cons_succ])
          rw [hGa]; clear hGa; obtain ⟨yw1, hwx⟩ : ∃ wx, yw0.alloc (.cells #[.int .i64 0, .int .i64 0, .int .i64 0, .int .i64 0, .int .i64 0, .int .i64 0] 27) = wx := ⟨_, rfl⟩; rw [hwx] at Hm Ha hHeld ⊢; clear hwx
          refine wpAnyH_ready (rs := [11]) (by kernel_rfl) (by simp) ?_; refine AllReadyH.cons rfl (fun K hK => ?_) AllReadyH.nil
          go_simp; obtain ⟨Gb, hGb⟩ : ∃ G, yw1.heap.size = G := ⟨_, rfl⟩; have le_b : w2.heap.size ≤ Gb := by rw [← hGb]; exact Below.size hHeld
          have ne_b_m : Gb ≠ Gm := by have := Hm.out.2.2; omega
          have ne_m_b : Gm ≠ Gb := Ne.symm ne_b_m
          have ne_b_a : Gb ≠ Ga := by have := Ha.out.2.2; omega
          have ne_a_b : Ga ≠ Gb := Ne.symm ne_b_a
          have Hm := Lib.hid (Hm.out.below ((Below.refl _ _).alloc (Nat.le_refl _) (.cells #[.int .i64 0, .int .i64 0, .int .i64 0, .int .i64 0, .int .i64 0, .int .i64 0] 27))); have Ha := Lib.hid (Ha.out.below ((Below.refl _ _).alloc (Nat.le_refl _) (.cells #[.int .i64 0, .int .i64 0, .int .i64 0, .int .i64 0, .int .i64 0, .int .i64 0] 27))); skip
          have Hb : Hid (Bk6 (yw1.alloc (.cells #[.int .i64 0, .int .i64 0, .int .i64 0, .int .i64 0, .int .i64 0, .int .i64 0] 27)) Gb 0 0 0 0 0 0) := by rw [← hGb]; exact bk6_new yw1 0 0 0 0 0 0 _
          refine hK.out _ _ (Below.alloc hHeld (Below.size hHeld) _) (fun hHeld2 => ?_); (clear hHeld; rename _ => hHeld; clear hK K; have hHeld : Below w2.heap.size w2 _ := hHeld); (try simp only [Act.put, List.getElem_toArray, List.getElem_cons_succ, List.getElem_cons_zero, List.setIfInBounds_toArray, List.set_cons_zero, List.set_cons_succ])
          rw [hGb]; clear hGb; obtain ⟨yw2, hwx⟩ : ∃ wx, yw1.alloc (.cells #[.int .i64 0, .int .i64 0, .int .i64 0, .int .i64 0, .int .i64 0, .int .i64 0] 27) = wx := ⟨_, rfl⟩; rw [hwx] at Hm Ha Hb hHeld ⊢; clear hwx
          refine wpAnyH_ready (rs := [12]) (by kernel_rfl) (by simp) ?_; refine AllReadyH.cons rfl (fun K hK => ?_) AllReadyH.nil
          obtain ⟨⟨a0, a1⟩, ⟨f0, f1⟩, az⟩ := Hm.out; go_simp; clear a0 f0 a1 f1 az
          have Ha := Lib.hid ((Ha.out.far ⟨Gm, 0, none⟩ (.int .i64 mx) (by show Ga ≠ Gm; exact ne_a_m)).far ⟨Gm, 1, none⟩ (.int .i64 my) (by show Ga ≠ Gm; exact ne_a_m))
          have Hb := Lib.hid ((Hb.out.far ⟨Gm, 0, none⟩ (.int .i64 mx) (by show Gb ≠ Gm; exact ne_b_m)).far ⟨Gm, 1, none⟩ (.int .i64 my) (by show Gb ≠ Gm; exact ne_b_m))
          have Hm := Lib.hid ((Hm.out.set0 mx).set1 my)
          refine hK.out _ _ (Below.setCell (Below.setCell hHeld (p := ⟨Gm, 0, none⟩) le_m _) (p := ⟨Gm, 1, none⟩) le_m _) (fun hHeld2 => ?_); (clear hHeld; rename _ => hHeld; clear hK K; have hHeld : Below w2.heap.size w2 _ := hHeld); (try simp only [Act.put, List.getElem_toArray, List.getElem_cons_succ, List.getElem_cons_zero, List.setIfInBounds_toArray, List.set_cons_zero, List.set_cons_succ])
          obtain ⟨yw3, hwx⟩ : ∃ wx, (yw2.setCell ⟨Gm, 0, none⟩ (.int .i64 mx)).setCell ⟨Gm, 1, none⟩ (.int .i64 my) = wx := ⟨_, rfl⟩; rw [hwx] at Hm Ha Hb hHeld ⊢; clear hwx
          refine wpAnyH_ready (rs := [13]) (by kernel_rfl) (by simp) ?_; refine AllReadyH.cons rfl (fun K hK => ?_) AllReadyH.nil
          obtain ⟨⟨a0, a1, a2, a3, a4, a5⟩, ⟨f0, f1, f2, f3, f4, f5⟩, az⟩ := Ha.out; go_simp; clear a0 f0 a1 f1 a2 f2 a3 f3 a4 f4 a5 f5 az
          have Hm := Lib.hid ((((((Hm.out.far ⟨Ga, 0, none⟩ (.int .i64 x0) (by show Gm ≠ Ga; exact ne_m_a)).far ⟨Ga, 1, none⟩ (.int .i64 y0) (by show Gm ≠ Ga; exact ne_m_a)).far ⟨Ga, 2, none⟩ (.int .i64 x1) (by show Gm ≠ Ga; exact ne_m_a)).far ⟨Ga, 3, none⟩ (.int .i64 y1) (by show Gm ≠ Ga; exact ne_m_a)).far ⟨Ga, 4, none⟩ (.int .i64 x2) (by show Gm ≠ Ga; exact ne_m_a)).far ⟨Ga, 5, none⟩ (.int .i64 y2) (by show Gm ≠ Ga; exact ne_m_a))
          have Hb := Lib.hid ((((((Hb.out.far ⟨Ga, 0, none⟩ (.int .i64 x0) (by show Gb ≠ Ga; exact ne_b_a)).far ⟨Ga, 1, none⟩ (.int .i64 y0) (by show Gb ≠ Ga; exact ne_b_a)).far ⟨Ga, 2, none⟩ (.int .i64 x1) (by show Gb ≠ Ga; exact ne_b_a)).far ⟨Ga, 3, none⟩ (.int .i64 y1) (by show Gb ≠ Ga; exact ne_b_a)).far ⟨Ga, 4, none⟩ (.int .i64 x2) (by show Gb ≠ Ga; exact ne_b_a)).far ⟨Ga, 5, none⟩ (.int .i64 y2) (by show Gb ≠ Ga; exact ne_b_a))
          have Ha := Lib.hid ((((((Ha.out.set0 x0).set1 y0).set2 x1).set3 y1).set4 x2).set5 y2)
          refine hK.out _ _ (Below.setCell (Below.setCell (Below.setCell (Below.setCell (Below.setCell (Below.setCell hHeld (p := ⟨Ga, 0, none⟩) le_a _) (p := ⟨Ga, 1, none⟩) le_a _) (p := ⟨Ga, 2, none⟩) le_a _) (p := ⟨Ga, 3, none⟩) le_a _) (p := ⟨Ga, 4, none⟩) le_a _) (p := ⟨Ga, 5, none⟩) le_a _) (fun hHeld2 => ?_); (clear hHeld; rename _ => hHeld; clear hK K; have hHeld : Below w2.heap.size w2 _ := hHeld); (try simp only [Act.put, List.getElem_toArray, List.getElem_cons_succ, List.getElem_cons_zero, List.setIfInBounds_toArray, List.set_cons_zero, List.set_cons_succ])
          obtain ⟨yw4, hwx⟩ : ∃ wx, (((((yw3.setCell ⟨Ga, 0, none⟩ (.int .i64 x0)).setCell ⟨Ga, 1, none⟩ (.int .i64 y0)).setCell ⟨Ga, 2, none⟩ (.int .i64 x1)).setCell ⟨Ga, 3, none⟩ (.int .i64 y1)).setCell ⟨Ga, 4, none⟩ (.int .i64 x2)).setCell ⟨Ga, 5, none⟩ (.int .i64 y2) = wx := ⟨_, rfl⟩; rw [hwx] at Hm Ha Hb hHeld ⊢; clear hwx
          refine wpAnyH_ready (rs := [14]) (by kernel_rfl) (by simp) ?_; refine AllReadyH.cons rfl (fun K hK => ?_) AllReadyH.nil
          obtain ⟨⟨a0, a1, a2, a3, a4, a5⟩, ⟨f0, f1, f2, f3, f4, f5⟩, az⟩ := Hb.out; go_simp; clear a0 f0 a1 f1 a2 f2 a3 f3 a4 f4 a5 f5 az
          have Hm := Lib.hid ((((((Hm.out.far ⟨Gb, 0, none⟩ (.int .i64 x0) (by show Gm ≠ Gb; exact ne_m_b)).far ⟨Gb, 1, none⟩ (.int .i64 y0) (by show Gm ≠ Gb; exact ne_m_b)).far ⟨Gb, 2, none⟩ (.int .i64 x1) (by show Gm ≠ Gb; exact ne_m_b)).far ⟨Gb, 3, none⟩ (.int .i64 y1) (by show Gm ≠ Gb; exact ne_m_b)).far ⟨Gb, 4, none⟩ (.int .i64 x2) (by show Gm ≠ Gb; exact ne_m_b)).far ⟨Gb, 5, none⟩ (.int .i64 y2) (by show Gm ≠ Gb; exact ne_m_b))
          have Ha := Lib.hid ((((((Ha.out.far ⟨Gb, 0, none⟩ (.int .i64 x0) (by show Ga ≠ Gb; exact ne_a_b)).far ⟨Gb, 1, none⟩ (.int .i64 y0) (by show Ga ≠ Gb; exact ne_a_b)).far ⟨Gb, 2, none⟩ (.int .i64 x1) (by show Ga ≠ Gb; exact ne_a_b)).far ⟨Gb, 3, none⟩ (.int .i64 y1) (by show Ga ≠ Gb; exact ne_a_b)).far ⟨Gb, 4, none⟩ (.int .i64 x2) (by show Ga ≠ Gb; exact ne_a_b)).far ⟨Gb, 5, none⟩ (.int .i64 y2) (by show Ga ≠ Gb; exact ne_a_b))
          have Hb := Lib.hid ((((((Hb.out.set0 x0).set1 y0).set2 x1).set3 y1).set4 x2).set5 y2)
          refine hK.out _ _ (Below.setCell (Below.setCell (Below.setCell (Below.setCell (Below.setCell (Below.setCell hHeld (p := ⟨Gb, 0, none⟩) le_b _) (p := ⟨Gb, 1, none⟩) le_b _) (p := ⟨Gb, 2, none⟩) le_b _) (p := ⟨Gb, 3, none⟩) le_b _) (p := ⟨Gb, 4, none⟩) le_b _) (p := ⟨Gb, 5, none⟩) le_b _) (fun hHeld2 => ?_); (clear hHeld; rename _ => hHeld; clear hK K; have hHeld : Below w2.heap.size w2 _ := hHeld); (try simp only [Act.put, List.getElem_toArray, List.getElem_cons_succ, List.getElem_cons_zero, List.setIfInBounds_toArray, List.set_cons_zero, List.set_cons_succ])
          obtain ⟨yw5, hwx⟩ : ∃ wx, (((((yw4.setCell ⟨Gb, 0, none⟩ (.int .i64 x0)).setCell ⟨Gb, 1, none⟩ (.int .i64 y0)).setCell ⟨Gb, 2, none⟩ (.int .i64 x1)).setCell ⟨Gb, 3, none⟩ (.int .i64 y1)).setCell ⟨Gb, 4, none⟩ (.int .i64 x2)).setCell ⟨Gb, 5, none⟩ (.int .i64 y2) = wx := ⟨_, rfl⟩; rw [hwx] at Hm Ha Hb hHeld ⊢; clear hwx
          refine wpAnyH_done (by kernel_rfl) ?_ _
          go_wp2_with fail
          go_meet
          exact ⟨Gm, Ga, Gb, rfl, rfl, rfl, ne_a_b, ne_m_a, ne_m_b, le_a, le_b, Hm.out, Ha.out, Hb.out, hHeld⟩
        · skip
          go_simp; obtain ⟨Gb, hGb⟩ : ∃ G, yw0.heap.size = G := ⟨_, rfl⟩; have le_b : w2.heap.size ≤ Gb := by rw [← hGb]; exact Below.size hHeld
          have ne_b_m : Gb ≠ Gm := by have := Hm.out.2.2; omega
          have ne_m_b : Gm ≠ Gb := Ne.symm ne_b_m
          have Hm := Lib.hid (Hm.out.below ((Below.refl _ _).alloc (Nat.le_refl _) (.cells #[.int .i64 0, .int .i64 0, .int .i64 0, .int .i64 0, .int .i64 0, .int .i64 0] 27))); skip
          have Hb : Hid (Bk6 (yw0.alloc (.cells #[.int .i64 0, .int .i64 0, .int .i64 0, .int .i64 0, .int .i64 0, .int .i64 0] 27)) Gb 0 0 0 0 0 0) := by rw [← hGb]; exact bk6_new yw0 0 0 0 0 0 0 _
          refine hK.out _ _ (Below.alloc hHeld (Below.size hHeld) _) (fun hHeld2 => ?_); (clear hHeld; rename _ => hHeld; clear hK K; have hHeld : Below w2.heap.size w2 _ := hHeld); (try simp only [Act.put, List.getElem_toArray, List.getElem_cons_succ, List.getElem_cons_zero, List.setIfInBounds_toArray, List.set_cons_zero, List.set_cons_succ])
          rw [hGb]; clear hGb; obtain ⟨yw1, hwx⟩ : ∃ wx, yw0.alloc (.cells #[.int .i64 0, .int .i64 0, .int .i64 0, .int .i64 0, .int .i64 0, .int .i64 0] 27) = wx := ⟨_, rfl⟩; rw [hwx] at Hm Hb hHeld ⊢; clear hwx
          refine wpAnyH_ready (rs := [10]) (by kernel_rfl) (by simp) ?_; refine AllReadyH.cons rfl (fun K hK => ?_) AllReadyH.nil
          go_simp; obtain ⟨Ga, hGa⟩ : ∃ G, yw1.heap.size = G := ⟨_, rfl⟩; have le_a : w2.heap.size ≤ Ga := by rw [← hGa]; exact Below.size hHeld
          have ne_a_m : Ga ≠ Gm := by have := Hm.out.2.2; omega
          have ne_m_a : Gm ≠ Ga := Ne.symm ne_a_m
          have ne_a_b : Ga ≠ Gb := by have := Hb.out.2.2; omega
          have ne_b_a : Gb ≠ Ga := Ne.symm ne_a_b
          have Hm := Lib.hid (Hm.out.below ((Below.refl _ _).alloc (Nat.le_refl _) (.cells #[.int .i64 0, .int .i64 0, .int .i64 0, .int .i64 0, .int .i64 0, .int .i64 0] 27))); have Hb := Lib.hid (Hb.out.below ((Below.refl _ _).alloc (Nat.le_refl _) (.cells #[.int .i64 0, .int .i64 0, .int .i64 0, .int .i64 0, .int .i64 0, .int .i64 0] 27))); skip
          have Ha : Hid (Bk6 (yw1.alloc (.cells #[.int .i64 0, .int .i64 0, .int .i64 0, .int .i64 0, .int .i64 0, .int .i64 0] 27)) Ga 0 0 0 0 0 0) := by rw [← hGa]; exact bk6_new yw1 0 0 0 0 0 0 _
          refine hK.out _ _ (Below.alloc hHeld (Below.size hHeld) _) (fun hHeld2 => ?_); (clear hHeld; rename _ => hHeld; clear hK K; have hHeld : Below w2.heap.size w2 _ := hHeld); (try simp only [Act.put, List.getElem_toArray, List.getElem_cons_succ, List.getElem_cons_zero, List.setIfInBounds_toArray, List.set_cons_zero, List.set_cons_succ])
          rw [hGa]; clear hGa; obtain ⟨yw2, hwx⟩ : ∃ wx, yw1.alloc (.cells #[.int .i64 0, .int .i64 0, .int .i64 0, .int .i64 0, .int .i64 0, .int .i64 0] 27) = wx := ⟨_, rfl⟩; rw [hwx] at Hm Hb Ha hHeld ⊢; clear hwx
          refine wpAnyH_ready (rs := [12]) (by kernel_rfl) (by simp) ?_; refine AllReadyH.cons rfl (fun K hK => ?_) AllReadyH.nil
          obtain ⟨⟨a0, a1⟩, ⟨f0, f1⟩, az⟩ := Hm.out; go_simp; clear a0 f0 a1 f1 az
          have Hb := Lib.hid ((Hb.out.far ⟨Gm, 0, none⟩ (.int .i64 mx) (by show Gb ≠ Gm; exact ne_b_m)).far ⟨Gm, 1, none⟩ (.int .i64 my) (by show Gb ≠ Gm; exact ne_b_m))
          have Ha := Lib.hid ((Ha.out.far ⟨Gm, 0, none⟩ (.int .i64 mx) (by show Ga ≠ Gm; exact ne_a_m)).far ⟨Gm, 1, none⟩ (.int .i64 my) (by show Ga ≠ Gm; exact ne_a_m))
          have Hm := Lib.hid ((Hm.out.set0 mx).set1 my)
          refine hK.out _ _ (Below.setCell (Below.setCell hHeld (p := ⟨Gm, 0, none⟩) le_m _) (p := ⟨Gm, 1, none⟩) le_m _) (fun hHeld2 => ?_); (clear hHeld; rename _ => hHeld; clear hK K; have hHeld : Below w2.heap.size w2 _ := hHeld); (try simp only [Act.put, List.getElem_toArray, List.getElem_cons_succ, List.getElem_cons_zero, List.setIfInBounds_toArray, List.set_cons_zero, List.set_cons_succ])
          obtain ⟨yw3, hwx⟩ : ∃ wx, (yw2.setCell ⟨Gm, 0, none⟩ (.int .i64 mx)).setCell ⟨Gm, 1, none⟩ (.int .i64 my) = wx := ⟨_, rfl⟩; rw [hwx] at Hm Hb Ha hHeld ⊢; clear hwx
          refine wpAnyH_ready (rs := [13]) (by kernel_rfl) (by simp) ?_; refine AllReadyH.cons rfl (fun K hK => ?_) AllReadyH.nil
          obtain ⟨⟨a0, a1, a2, a3, a4, a5⟩, ⟨f0, f1, f2, f3, f4, f5⟩, az⟩ := Ha.out; go_simp; clear a0 f0 a1 f1 a2 f2 a3 f3 a4 f4 a5 f5 az
          have Hm := Lib.hid ((((((Hm.out.far ⟨Ga, 0, none⟩ (.int .i64 x0) (by show Gm ≠ Ga; exact ne_m_a)).far ⟨Ga, 1, none⟩ (.int .i64 y0) (by show Gm ≠ Ga; exact ne_m_a)).far ⟨Ga, 2, none⟩ (.int .i64 x1) (by show Gm ≠ Ga; exact ne_m_a)).far ⟨Ga, 3, none⟩ (.int .i64 y1) (by show Gm ≠ Ga; exact ne_m_a)).far ⟨Ga, 4, none⟩ (.int .i64 x2) (by show Gm ≠ Ga; exact ne_m_a)).far ⟨Ga, 5, none⟩ (.int .i64 y2) (by show Gm ≠ Ga; exact ne_m_a))
          have Hb := Lib.hid ((((((Hb.out.far ⟨Ga, 0, none⟩ (.int .i64 x0) (by show Gb ≠ Ga; exact ne_b_a)).far ⟨Ga, 1, none⟩ (.int .i64 y0) (by show Gb ≠ Ga; exact ne_b_a)).far ⟨Ga, 2, none⟩ (.int .i64 x1) (by show Gb ≠ Ga; exact ne_b_a)).far ⟨Ga, 3, none⟩ (.int .i64 y1) (by show Gb ≠ Ga; exact ne_b_a)).far ⟨Ga, 4, none⟩ (.int .i64 x2) (by show Gb ≠ Ga; exact ne_b_a)).far ⟨Ga, 5, none⟩ (.int .i64 y2) (by show Gb ≠ Ga; exact ne_b_a))
          have Ha := Lib.hid ((((((Ha.out.set0 x0).set1 y0).set2 x1).set3 y1).set4 x2).set5 y2)
          refine hK.out _ _ (Below.setCell (Below.setCell (Below.setCell (Below.setCell (Below.setCell (Below.setCell hHeld (p := ⟨Ga, 0, none⟩) le_a _) (p := ⟨Ga, 1, none⟩) le_a _) (p := ⟨Ga, 2, none⟩) le_a _) (p := ⟨Ga, 3, none⟩) le_a _) (p := ⟨Ga, 4, none⟩) le_a _) (p := ⟨Ga, 5, none⟩) le_a _) (fun hHeld2 => ?_); (clear hHeld; rename _ => hHeld; clear hK K; have hHeld : Below w2.heap.size w2 _ := hHeld); (try simp only [Act.put, List.getElem_toArray, List.getElem_cons_succ, List.getElem_cons_zero, List.setIfInBounds_toArray, List.set_cons_zero, List.set_cons_succ])
          obtain ⟨yw4, hwx⟩ : ∃ wx, (((((yw3.setCell ⟨Ga, 0, none⟩ (.int .i64 x0)).setCell ⟨Ga, 1, none⟩ (.int .i64 y0)).setCell ⟨Ga, 2, none⟩ (.int .i64 x1)).setCell ⟨Ga, 3, none⟩ (.int .i64 y1)).setCell ⟨Ga, 4, none⟩ (.int .i64 x2)).setCell ⟨Ga, 5, none⟩ (.int .i64 y2) = wx := ⟨_, rfl⟩; rw [hwx] at Hm Hb Ha hHeld ⊢; clear hwx
          refine wpAnyH_ready (rs := [14]) (by kernel_rfl) (by simp) ?_; refine AllReadyH.cons rfl (fun K hK => ?_) AllReadyH.nil
          obtain ⟨⟨a0, a1, a2, a3, a4, a5⟩, ⟨f0, f1, f2, f3, f4, f5⟩, az⟩ := Hb.out; go_simp; clear a0 f0 a1 f1 a2 f2 a3 f3 a4 f4 a5 f5 az
          have Hm := Lib.hid ((((((Hm.out.far ⟨Gb, 0, none⟩ (.int .i64 x0) (by show Gm ≠ Gb; exact ne_m_b)).far ⟨Gb, 1, none⟩ (.int .i64 y0) (by show Gm ≠ Gb; exact ne_m_b)).far ⟨Gb, 2, none⟩ (.int .i64 x1) (by show Gm ≠ Gb; exact ne_m_b)).far ⟨Gb, 3, none⟩ (.int .i64 y1) (by show Gm ≠ Gb; exact ne_m_b)).far ⟨Gb, 4, none⟩ (.int .i64 x2) (by show Gm ≠ Gb; exact ne_m_b)).far ⟨Gb, 5, none⟩ (.int .i64 y2) (by show Gm ≠ Gb; exact ne_m_b))
          have Ha := Lib.hid ((((((Ha.out.far ⟨Gb, 0, none⟩ (.int .i64 x0) (by show Ga ≠ Gb; exact ne_a_b)).far ⟨Gb, 1, none⟩ (.int .i64 y0) (by show Ga ≠ Gb; exact ne_a_b)).far ⟨Gb, 2, none⟩ (.int .i64 x1) (by show Ga ≠ Gb; exact ne_a_b)).far ⟨Gb, 3, none⟩ (.int .i64 y1) (by show Ga ≠ Gb; exact ne_a_b)).far ⟨Gb, 4, none⟩ (.int .i64 x2) (by show Ga ≠ Gb; exact ne_a_b)).far ⟨Gb, 5, none⟩ (.int .i64 y2) (by show Ga ≠ Gb; exact ne_a_b))
          have Hb := Lib.hid ((((((Hb.out.set0 x0).set1 y0).set2 x1).set3 y1).set4 x2).set5 y2)
          refine hK.out _ _ (Below.setCell (Below.setCell (Below.setCell (Below.setCell (Below.setCell (Below.setCell hHeld (p := ⟨Gb, 0, none⟩) le_b _) (p := ⟨Gb, 1, none⟩) le_b _) (p := ⟨Gb, 2, none⟩) le_b _) (p := ⟨Gb, 3, none⟩) le_b _) (p := ⟨Gb, 4, none⟩) le_b _) (p := ⟨Gb, 5, none⟩) le_b _) (fun hHeld2 => ?_); (clear hHeld; rename _ => hHeld; clear hK K; have hHeld : Below w2.heap.size w2 _ := hHeld); (try simp only [Act.put, List.getElem_toArray, List.getElem_cons_succ, List.getElem_cons_zero, List.setIfInBounds_toArray, List.set_cons_zero, List.set_cons_succ])
          obtain ⟨yw5, hwx⟩ : ∃ wx, (((((yw4.setCell ⟨Gb, 0, none⟩ (.int .i64 x0)).setCell ⟨Gb, 1, none⟩ (.int .i64 y0)).setCell ⟨Gb, 2, none⟩ (.int .i64 x1)).setCell ⟨Gb, 3, none⟩ (.int .i64 y1)).setCell ⟨Gb, 4, none⟩ (.int .i64 x2)).setCell ⟨Gb, 5, none⟩ (.int .i64 y2) = wx := ⟨_, rfl⟩; rw [hwx] at Hm Hb Ha hHeld ⊢; clear hwx
          refine wpAnyH_done (by kernel_rfl) ?_ _
          go_wp2_with fail
          go_meet
          exact ⟨Gm, Ga, Gb, rfl, rfl, rfl, ne_a_b, ne_m_a, ne_m_b, le_a, le_b, Hm.out, Ha.out, Hb.out, hHeld⟩
      · skip
        go_simp; obtain ⟨Ga, hGa⟩ : ∃ G, wD.heap.size = G := ⟨_, rfl⟩; have le_a : w2.heap.size ≤ Ga := by rw [← hGa]; exact Below.size hHeld
        have Ha : Hid (Bk6 (wD.alloc (.cells #[.int .i64 0, .int .i64 0, .int .i64 0, .int .i64 0, .int .i64 0, .int .i64 0] 27)) Ga 0 0 0 0 0 0) := by rw [← hGa]; exact bk6_new wD 0 0 0 0 0 0 _
        refine hK.out _ _ (Below.alloc hHeld (Below.size hHeld) _) (fun hHeld2 => ?_); (clear hHeld; rename _ => hHeld; clear hK K; have hHeld : Below w2.heap.size w2 _ := hHeld); (try simp only [Act.put, List.getElem_toArray, List.getElem_cons_succ, List.getElem_cons_zero, List.setIfInBounds_toArray, List.set_cons_zero, List.set_cons_succ])
        rw [hGa]; clear hGa; obtain ⟨yw0, hwx⟩ : ∃ wx, wD.alloc (.cells #[.int .i64 0, .int .i64 0, .int .i64 0, .int .i64 0, .int .i64 0, .int .i64 0] 27) = wx := ⟨_, rfl⟩; rw [hwx] at Ha hHeld ⊢; clear hwx
        refine wpAnyH_ready (rs := [9, 11]) (by kernel_rfl) (by simp) ?_; refine AllReadyH.cons rfl (fun K hK => ?_) (AllReadyH.cons rfl (fun K hK => ?_) AllReadyH.nil)
        · skip
          go_simp; obtain ⟨Gm, hGm⟩ : ∃ G, yw0.heap.size = G := ⟨_, rfl⟩; have le_m : w2.heap.size ≤ Gm := by rw [← hGm]; exact Below.size hHeld
          have ne_m_a : Gm ≠ Ga := by have := Ha.out.2.2; omega
          have ne_a_m : Ga ≠ Gm := Ne.symm ne_m_a
          have Ha := Lib.hid (Ha.out.below ((Below.refl _ _).alloc (Nat.le_refl _) (.cells #[.int .i64 0, .int .i64 0] 25))); skip
          have Hm : Hid (Bk2 (yw0.alloc (.cells #[.int .i64 0, .int .i64 0] 25)) Gm 0 0) := by rw [← hGm]; exact bk2_new yw0 0 0 _
          refine hK.out _ _ (Below.alloc hHeld (Below.size hHeld) _) (fun hHeld2 => ?_); (clear hHeld; rename _ => hHeld; clear hK K; have hHeld : Below w2.heap.size w2 _ := hHeld); (try simp only [Act.put, List.getElem_toArray, List.getElem_cons_succ, List.getElem_cons_zero, List.setIfInBounds_toArray, List.set_cons_zero, List.set_cons_succ])
          rw [hGm]; clear hGm; obtain ⟨yw1, hwx⟩ : ∃ wx, yw0.alloc (.cells #[.int .i64 0, .int .i64 0] 25) = wx := ⟨_, rfl⟩; rw [hwx] at Ha Hm hHeld ⊢; clear hwx
          refine wpAnyH_ready (rs := [11]) (by kernel_rfl) (by simp) ?_; refine AllReadyH.cons rfl (fun K hK => ?_) AllReadyH.nil
          go_simp; obtain ⟨Gb, hGb⟩ : ∃ G, yw1.heap.size = G := ⟨_, rfl⟩; have le_b : w2.heap.size ≤ Gb := by rw [← hGb]; exact Below.size hHeld
          have ne_b_a : Gb ≠ Ga := by have := Ha.out.2.2; omega
          have ne_a_b : Ga ≠ Gb := Ne.symm ne_b_a
          have ne_b_m : Gb ≠ Gm := by have := Hm.out.2.2; omega
          have ne_m_b : Gm ≠ Gb := Ne.symm ne_b_m
          have Ha := Lib.hid (Ha.out.below ((Below.refl _ _).alloc (Nat.le_refl _) (.cells #[.int .i64 0, .int .i64 0, .int .i64 0, .int .i64 0, .int .i64 0, .int .i64 0] 27))); have Hm := Lib.hid (Hm.out.below ((Below.refl _ _).alloc (Nat.le_refl _) (.cells #[.int .i64 0, .int .i64 0, .int .i64 0, .int .i64 0, .int .i64 0, .int .i64 0] 27))); skip
          have Hb : Hid (Bk6 (yw1.alloc (.cells #[.int .i64 0, .int .i64 0, .int .i64 0, .int .i64 0, .int .i64 0, .int .i64 0] 27)) Gb 0 0 0 0 0 0) := by rw [← hGb]; exact bk6_new yw1 0 0 0 0 0 0 _
          refine hK.out _ _ (Below.alloc hHeld (Below.size hHeld) _) (fun hHeld2 => ?_); (clear hHeld; rename _ => hHeld; clear hK K; have hHeld : Below w2.heap.size w2 _ := hHeld); (try simp only [Act.put, List.getElem_toArray, List.getElem_cons_succ, List.getElem_cons_zero, List.setIfInBounds_toArray, List.set_cons_zero, List.set_cons_succ])
          rw [hGb]; clear hGb; obtain ⟨yw2, hwx⟩ : ∃ wx, yw1.alloc (.cells #[.int .i64 0, .int .i64 0, .int .i64 0, .int .i64 0, .int .i64 0, .int .i64 0] 27) = wx := ⟨_, rfl⟩; rw [hwx] at Ha Hm Hb hHeld ⊢; clear hwx
          refine wpAnyH_ready (rs := [12]) (by kernel_rfl) (by simp) ?_; refine AllReadyH.cons rfl (fun K hK => ?_) AllReadyH.nil
          obtain ⟨⟨a0, a1⟩, ⟨f0, f1⟩, az⟩ := Hm.out; go_simp; clear a0 f0 a1 f1 az
          have Ha := Lib.hid ((Ha.out.far ⟨Gm, 0, none⟩ (.int .i64 mx) (by show Ga ≠ Gm; exact ne_a_m)).far ⟨Gm, 1, none⟩ (.int .i64 my) (by show Ga ≠ Gm; exact ne_a_m))
          have Hb := Lib.hid ((Hb.out.far ⟨Gm, 0, none⟩ (.int .i64 mx) (by show Gb ≠ Gm; exact ne_b_m)).far ⟨Gm, 1, none⟩ (.int .i64 my) (by show Gb ≠ Gm; exact ne_b_m))
          have Hm := Lib.hid ((Hm.out.set0 mx).set1 my)
          refine hK.out _ _ (Below.setCell (Below.setCell hHeld (p := ⟨Gm, 0, none⟩) le_m _) (p := ⟨Gm, 1, none⟩) le_m _) (fun hHeld2 => ?_); (clear hHeld; rename _ => hHeld; clear hK K; have hHeld : Below w2.heap.size w2 _ := hHeld); (try simp only [Act.put, List.getElem_toArray, List.getElem_cons_succ, List.getElem_cons_zero, List.setIfInBounds_toArray, List.set_cons_zero, List.set_cons_succ])
          obtain ⟨yw3, hwx⟩ : ∃ wx, (yw2.setCell ⟨Gm, 0, none⟩ (.int .i64 mx)).setCell ⟨Gm, 1, none⟩ (.int .i64 my) = wx := ⟨_, rfl⟩; rw [hwx] at Ha Hm Hb hHeld ⊢; clear hwx
          refine wpAnyH_ready (rs := [13]) (by kernel_rfl) (by simp) ?_; refine AllReadyH.cons rfl (fun K hK => ?_) AllReadyH.nil
          obtain ⟨⟨a0, a1, a2, a3, a4, a5⟩, ⟨f0, f1, f2, f3, f4, f5⟩, az⟩ := Ha.out; go_simp; clear a0 f0 a1 f1 a2 f2 a3 f3 a4 f4 a5 f5 az
          have Hm := Lib.hid ((((((Hm.out.far ⟨Ga, 0, none⟩ (.int .i64 x0) (by show Gm ≠ Ga; exact ne_m_a)).far ⟨Ga, 1, none⟩ (.int .i64 y0) (by show Gm ≠ Ga; exact ne_m_a)).far ⟨Ga, 2, none⟩ (.int .i64 x1) (by show Gm ≠ Ga; exact ne_m_a)).far ⟨Ga, 3, none⟩ (.int .i64 y1) (by show Gm ≠ Ga; exact ne_m_a)).far ⟨Ga, 4, none⟩ (.int .i64 x2) (by show Gm ≠ Ga; exact ne_m_a)).far ⟨Ga, 5, none⟩ (.int .i64 y2) (by show Gm ≠ Ga; exact ne_m_a))
          have Hb := Lib.hid ((((((Hb.out.far ⟨Ga, 0, none⟩ (.int .i64 x0) (by show Gb ≠ Ga; exact ne_b_a)).far ⟨Ga, 1, none⟩ (.int .i64 y0) (by show Gb ≠ Ga; exact ne_b_a)).far ⟨Ga, 2, none⟩ (.int .i64 x1) (by show Gb ≠ Ga; exact ne_b_a)).far ⟨Ga, 3, none⟩ (.int .i64 y1) (by show Gb ≠ Ga; exact ne_b_a)).far ⟨Ga, 4, none⟩ (.int .i64 x2) (by show Gb ≠ Ga; exact ne_b_a)).far ⟨Ga, 5, none⟩ (.int .i64 y2) (by show Gb ≠ Ga; exact ne_b_a))
          have Ha := Lib.hid ((((((Ha.out.set0 x0).set1 y0).set2 x1).set3 y1).set4 x2).set5 y2)
          refine hK.out _ _ (Below.setCell (Below.setCell (Below.setCell (Below.setCell (Below.setCell (Below.setCell hHeld (p := ⟨Ga, 0, none⟩) le_a _) (p := ⟨Ga, 1, none⟩) le_a _) (p := ⟨Ga, 2, none⟩) le_a _) (p := ⟨Ga, 3, none⟩) le_a _) (p := ⟨Ga, 4, none⟩) le_a _) (p := ⟨Ga, 5, none⟩) le_a _) (fun hHeld2 => ?_); (clear hHeld; rename _ => hHeld; clear hK K; have hHeld : Below w2.heap.size w2 _ := hHeld); (try simp only [Act.put, List.getElem_toArray, List.getElem_cons_succ, List.getElem_cons_zero, List.setIfInBounds_toArray, List.set_cons_zero, List.set_cons_succ])
          obtain ⟨yw4, hwx⟩ : ∃ wx, (((((yw3.setCell ⟨Ga, 0, none⟩ (.int .i64 x0)).setCell ⟨Ga, 1, none⟩ (.int .i64 y0)).setCell ⟨Ga, 2, none⟩ (.int .i64 x1)).setCell ⟨Ga, 3, none⟩ (.int .i64 y1)).setCell ⟨Ga, 4, none⟩ (.int .i64 x2)).setCell ⟨Ga, 5, none⟩ (.int .i64 y2) = wx := ⟨_, rfl⟩; rw [hwx] at Ha Hm Hb hHeld ⊢; clear hwx
          refine wpAnyH_ready (rs := [14]) (by kernel_rfl) (by simp) ?_; refine AllReadyH.cons rfl (fun K hK => ?_) AllReadyH.nil
          obtain ⟨⟨a0, a1, a2, a3, a4, a5⟩, ⟨f0, f1, f2, f3, f4, f5⟩, az⟩ := Hb.out; go_simp; clear a0 f0 a1 f1 a2 f2 a3 f3 a4 f4 a5 f5 az
          have Ha := Lib.hid ((((((Ha.out.far ⟨Gb, 0, none⟩ (.int .i64 x0) (by show Ga ≠ Gb; exact ne_a_b)).far ⟨Gb, 1, none⟩ (.int .i64 y0) (by show Ga ≠ Gb; exact ne_a_b)).far ⟨Gb, 2, none⟩ (.int .i64 x1) (by show Ga ≠ Gb; exact ne_a_b)).far ⟨Gb, 3, none⟩ (.int .i64 y1) (by show Ga ≠ Gb; exact ne_a_b)).far ⟨Gb, 4, none⟩ (.int .i64 x2) (by show Ga ≠ Gb; exact ne_a_b)).far ⟨Gb, 5, none⟩ (.int .i64 y2) (by show Ga ≠ Gb; exact ne_a_b))
          have Hm := Lib.hid ((((((Hm.out.far ⟨Gb, 0, none⟩ (.int .i64 x0) (by show Gm ≠ Gb; exact ne_m_b)).far ⟨Gb, 1, none⟩ (.int .i64 y0) (by show Gm ≠ Gb; exact ne_m_b)).far ⟨Gb, 2, none⟩ (.int .i64 x1) (by show Gm ≠ Gb; exact ne_m_b)).far ⟨Gb, 3, none⟩ (.int .i64 y1) (by show Gm ≠ Gb; exact ne_m_b)).far ⟨Gb, 4, none⟩ (.int .i64 x2) (by show Gm ≠ Gb; exact ne_m_b)).far ⟨Gb, 5, none⟩ (.int .i64 y2) (by show Gm ≠ Gb; exact ne_m_b))
          have Hb := Lib.hid ((((((Hb.out.set0 x0).set1 y0).set2 x1).set3 y1).set4 x2).set5 y2)
          refine hK.out _ _ (Below.setCell (Below.setCell (Below.setCell (Below.setCell (Below.setCell (Below.setCell hHeld (p := ⟨Gb, 0, none⟩) le_b _) (p := ⟨Gb, 1, none⟩) le_b _) (p := ⟨Gb, 2, none⟩) le_b _) (p := ⟨Gb, 3, none⟩) le_b _) (p := ⟨Gb, 4, none⟩) le_b _) (p := ⟨Gb, 5, none⟩) le_b _) (fun hHeld2 => ?_); (clear hHeld; rename _ => hHeld; clear hK K; have hHeld : Below w2.heap.size w2 _ := hHeld); (try simp only [Act.put, List.getElem_toArray, List.getElem_cons_succ, List.getElem_cons_zero, List.setIfInBounds_toArray, List.set_cons_zero, List.set_cons_succ])
          obtain ⟨yw5, hwx⟩ : ∃ wx, (((((yw4.setCell ⟨Gb, 0, none⟩ (.int .i64 x0)).setCell ⟨Gb, 1, none⟩ (.int .i64 y0)).setCell ⟨Gb, 2, none⟩ (.int .i64 x1)).setCell ⟨Gb, 3, none⟩ (.int .i64 y1)).setCell ⟨Gb, 4, none⟩ (.int .i64 x2)).setCell ⟨Gb, 5, none⟩ (.int .i64 y2) = wx := ⟨_, rfl⟩; rw [hwx] at Ha Hm Hb hHeld ⊢; clear hwx
          refine wpAnyH_done (by kernel_rfl) ?_ _
          go_wp2_with fail
          go_meet
          exact ⟨Gm, Ga, Gb, rfl, rfl, rfl, ne_a_b, ne_m_a, ne_m_b, le_a, le_b, Hm.out, Ha.out, Hb.out, hHeld⟩
        · skip
          go_simp; obtain ⟨Gb, hGb⟩ : ∃ G, yw0.heap.size = G := ⟨_, rfl⟩; have le_b : w2.heap.size ≤ Gb := by rw [← hGb]; exact Below.size hHeld
          have ne_b_a : Gb ≠ Ga := by have := Ha.out.2.2; omega
          have ne_a_b : Ga ≠ Gb := Ne.symm ne_b_a
          have Ha := Lib.hid (Ha.out.below ((Below.refl _ _).alloc (Nat.le_refl _) (.cells #[.int .i64 0, .int .i64 0, .int .i64 0, .int .i64 0, .int .i64 0, .int .i64 0] 27))); skip
          have Hb : Hid (Bk6 (yw0.alloc (.cells #[.int .i64 0, .int .i64 0, .int .i64 0, .int .i64 0, .int .i64 0, .int .i64 0] 27)) Gb 0 0 0 0 0 0) := by rw [← hGb]; exact bk6_new yw0 0 0 0 0 0 0 _
          refine hK.out _ _ (Below.alloc hHeld (Below.size hHeld) _) (fun hHeld2 => ?_); (clear hHeld; rename _ => hHeld; clear hK K; have hHeld : Below w2.heap.size w2 _ := hHeld); (try simp only [Act.put, List.getElem_toArray, List.getElem_cons_succ, List.getElem_cons_zero, List.setIfInBounds_toArray, List.set_cons_zero, List.set_cons_succ])
          rw [hGb]; clear hGb; obtain ⟨yw1, hwx⟩ : ∃ wx, yw0.alloc (.cells #[.int .i64 0, .int .i64 0, .int .i64 0, .int .i64 0, .int .i64 0, .int .i64 0] 27) = wx := ⟨_, rfl⟩; rw [hwx] at Ha Hb hHeld ⊢; clear hwx
          refine wpAnyH_ready (rs := [9]) (by kernel_rfl) (by simp) ?_; refine AllReadyH.cons rfl (fun K hK => ?_) AllReadyH.nil
          go_simp; obtain ⟨Gm, hGm⟩ : ∃ G, yw1.heap.size = G := ⟨_, rfl⟩; have le_m : w2.heap.size ≤ Gm := by rw [← hGm]; exact Below.size hHeld
          have ne_m_a : Gm ≠ Ga := by have := Ha.out.2.2; omega
          have ne_a_m : Ga ≠ Gm := Ne.symm ne_m_a
          have ne_m_b : Gm ≠ Gb := by have := Hb.out.2.2; omega
          have ne_b_m : Gb ≠ Gm := Ne.symm ne_m_b
          have Ha := Lib.hid (Ha.out.below ((Below.refl _ _).alloc (Nat.le_refl _) (.cells #[.int .i64 0, .int .i64 0] 25))); have Hb := Lib.hid (Hb.out.below ((Below.refl _ _).alloc (Nat.le_refl _) (.cells #[.int .i64 0, .int .i64 0] 25))); skip
          have Hm : Hid (Bk2 (yw1.alloc (.cells #[.int .i64 0, .int .i64 0] 25)) Gm 0 0) := by rw [← hGm]; exact bk2_new yw1 0 0 _
          refine hK.out _ _ (Below.alloc hHeld (Below.size hHeld) _) (fun hHeld2 => ?_); (clear hHeld; rename _ => hHeld; clear hK K; have hHeld : Below w2.heap.size w2 _ := hHeld); (try simp only [Act.put, List.getElem_toArray, List.getElem_cons_succ, List.getElem_cons_zero, List.setIfInBounds_toArray, List.set_cons_zero, List.set_cons_succ])
          rw [hGm]; clear hGm; obtain ⟨yw2, hwx⟩ : ∃ wx, yw1.alloc (.cells #[.int .i64 0, .int .i64 0] 25) = wx := ⟨_, rfl⟩; rw [hwx] at Ha Hb Hm hHeld ⊢; clear hwx
          refine wpAnyH_ready (rs := [12]) (by kernel_rfl) (by simp) ?_; refine AllReadyH.cons rfl (fun K hK => ?_) AllReadyH.nil
          obtain ⟨⟨a0, a1⟩, ⟨f0, f1⟩, az⟩ := Hm.out; go_simp; clear a0 f0 a1 f1 az
          have Ha := Lib.hid ((Ha.out.far ⟨Gm, 0, none⟩ (.int .i64 mx) (by show Ga ≠ Gm; exact ne_a_m)).far ⟨Gm, 1, none⟩ (.int .i64 my) (by show Ga ≠ Gm; exact ne_a_m))
          have Hb := Lib.hid ((Hb.out.far ⟨Gm, 0, none⟩ (.int .i64 mx) (by show Gb ≠ Gm; exact ne_b_m)).far ⟨Gm, 1, none⟩ (.int .i64 my) (by show Gb ≠ Gm; exact ne_b_m))
          have Hm := Lib.hid ((Hm.out.set0 mx).set1 my)
          refine hK.out _ _ (Below.setCell (Below.setCell hHeld (p := ⟨Gm, 0, none⟩) le_m _) (p := ⟨Gm, 1, none⟩) le_m _) (fun hHeld2 => ?_); (clear hHeld; rename _ => hHeld; clear hK K; have hHeld : Below w2.heap.size w2 _ := hHeld); (try simp only [Act.put, List.getElem_toArray, List.getElem_cons_succ, List.getElem_cons_zero, List.setIfInBounds_toArray, List.set_cons_zero, List.set_cons_succ])
          obtain ⟨yw3, hwx⟩ : ∃ wx, (yw2.setCell ⟨Gm, 0, none⟩ (.int .i64 mx)).setCell ⟨Gm, 1, none⟩ (.int .i64 my) = wx := ⟨_, rfl⟩; rw [hwx] at Ha Hb Hm hHeld ⊢; clear hwx
          refine wpAnyH_ready (rs := [13]) (by kernel_rfl) (by simp) ?_; refine AllReadyH.cons rfl (fun K hK => ?_) AllReadyH.nil
          obtain ⟨⟨a0, a1, a2, a3, a4, a5⟩, ⟨f0, f1, f2, f3, f4, f5⟩, az⟩ := Ha.out; go_simp; clear a0 f0 a1 f1 a2 f2 a3 f3 a4 f4 a5 f5 az
          have Hb := Lib.hid ((((((Hb.out.far ⟨Ga, 0, none⟩ (.int .i64 x0) (by show Gb ≠ Ga; exact ne_b_a)).far ⟨Ga, 1, none⟩ (.int .i64 y0) (by show Gb ≠ Ga; exact ne_b_a)).far ⟨Ga, 2, none⟩ (.int .i64 x1) (by show Gb ≠ Ga; exact ne_b_a)).far ⟨Ga, 3, none⟩ (.int .i64 y1) (by show Gb ≠ Ga; exact ne_b_a)).far ⟨Ga, 4, none⟩ (.int .i64 x2) (by show Gb ≠ Ga; exact ne_b_a)).far ⟨Ga, 5, none⟩ (.int .i64 y2) (by show Gb ≠ Ga; exact ne_b_a))
          have Hm := Lib.hid ((((((Hm.out.far ⟨Ga, 0, none⟩ (.int .i64 x0) (by show Gm ≠ Ga; exact ne_m_a)).far ⟨Ga, 1, none⟩ (.int .i64 y0) (by show Gm ≠ Ga; exact ne_m_a)).far ⟨Ga, 2, none⟩ (.int .i64 x1) (by show Gm ≠ Ga; exact ne_m_a)).far ⟨Ga, 3, none⟩ (.int .i64 y1) (by show Gm ≠ Ga; exact ne_m_a)).far ⟨Ga, 4, none⟩ (.int .i64 x2) (by show Gm ≠ Ga; exact ne_m_a)).far ⟨Ga, 5, none⟩ (.int .i64 y2) (by show Gm ≠ Ga; exact ne_m_a))
          have Ha := Lib.hid ((((((Ha.out.set0 x0).set1 y0).set2 x1).set3 y1).set4 x2).set5 y2)
          refine hK.out _ _ (Below.setCell (Below.setCell (Below.setCell (Below.setCell (Below.setCell (Below.setCell hHeld (p := ⟨Ga, 0, none⟩) le_a _) (p := ⟨Ga, 1, none⟩) le_a _) (p := ⟨Ga, 2, none⟩) le_a _) (p := ⟨Ga, 3, none⟩) le_a _) (p := ⟨Ga, 4, none⟩) le_a _) (p := ⟨Ga, 5, none⟩) le_a _) (fun hHeld2 => ?_); (clear hHeld; rename _ => hHeld; clear hK K; have hHeld : Below w2.heap.size w2 _ := hHeld); (try simp only [Act.put, List.getElem_toArray, List.getElem_cons_succ, List.getElem_cons_zero, List.setIfInBounds_toArray, List.set_cons_zero, List.set_cons_succ])
          obtain ⟨yw4, hwx⟩ : ∃ wx, (((((yw3.setCell ⟨Ga, 0, none⟩ (.int .i64 x0)).setCell ⟨Ga, 1, none⟩ (.int .i64 y0)).setCell ⟨Ga, 2, none⟩ (.int .i64 x1)).setCell ⟨Ga, 3, none⟩ (.int .i64 y1)).setCell ⟨Ga, 4, none⟩ (.int .i64 x2)).setCell ⟨Ga, 5, none⟩ (.int .i64 y2) = wx := ⟨_, rfl⟩; rw [hwx] at Ha Hb Hm hHeld ⊢; clear hwx
          refine wpAnyH_ready (rs := [14]) (by kernel_rfl) (by simp) ?_; refine AllReadyH.cons rfl (fun K hK => ?_) AllReadyH.nil
          obtain ⟨⟨a0, a1, a2, a3, a4, a5⟩, ⟨f0, f1, f2, f3, f4, f5⟩, az⟩ := Hb.out; go_simp; clear a0 f0 a1 f1 a2 f2 a3 f3 a4 f4 a5 f5 az
          have Ha := Lib.hid ((((((Ha.out.far ⟨Gb, 0, none⟩ (.int .i64 x0) (by show Ga ≠ Gb; exact ne_a_b)).far ⟨Gb, 1, none⟩ (.int .i64 y0) (by show Ga ≠ Gb; exact ne_a_b)).far ⟨Gb, 2, none⟩ (.int .i64 x1) (by show Ga ≠ Gb; exact ne_a_b)).far ⟨Gb, 3, none⟩ (.int .i64 y1) (by show Ga ≠ Gb; exact ne_a_b)).far ⟨Gb, 4, none⟩ (.int .i64 x2) (by show Ga ≠ Gb; exact ne_a_b)).far ⟨Gb, 5, none⟩ (.int .i64 y2) (by show Ga ≠ Gb; exact ne_a_b))
          have Hm := Lib.hid ((((((Hm.out.far ⟨Gb, 0, none⟩ (.int .i64 x0) (by show Gm ≠ Gb; exact ne_m_b)).far ⟨Gb, 1, none⟩ (.int .i64 y0) (by show Gm ≠ Gb; exact ne_m_b)).far ⟨Gb, 2, none⟩ (.int .i64 x1) (by show Gm ≠ Gb; exact ne_m_b)).far ⟨Gb, 3, none⟩ (.int .i64 y1) (by show Gm ≠ Gb; exact ne_m_b)).far ⟨Gb, 4, none⟩ (.int .i64 x2) (by show Gm ≠ Gb; exact ne_m_b)).far ⟨Gb, 5, none⟩ (.int .i64 y2) (by show Gm ≠ Gb; exact ne_m_b))
          have Hb := Lib.hid ((((((Hb.out.set0 x0).set1 y0).set2 x1).set3 y1).set4 x2).set5 y2)
          refine hK.out _ _ (Below.setCell (Below.setCell (Below.setCell (Below.setCell (Below.setCell (Below.setCell hHeld (p := ⟨Gb, 0, none⟩) le_b _) (p := ⟨Gb, 1, none⟩) le_b _) (p := ⟨Gb, 2, none⟩) le_b _) (p := ⟨Gb, 3, none⟩) le_b _) (p := ⟨Gb, 4, none⟩) le_b _) (p := ⟨Gb, 5, none⟩) le_b _) (fun hHeld2 => ?_); (clear hHeld; rename _ => hHeld; clear hK K; have hHeld : Below w2.heap.size w2 _ := hHeld); (try simp only [Act.put, List.getElem_toArray, List.getElem_cons_succ, List.getElem_cons_zero, List.setIfInBounds_toArray, List.set_cons_zero, List.set_cons_succ])
          obtain ⟨yw5, hwx⟩ : ∃ wx, (((((yw4.setCell ⟨Gb, 0, none⟩ (.int .i64 x0)).setCell ⟨Gb, 1, none⟩ (.int .i64 y0)).setCell ⟨Gb, 2, none⟩ (.int .i64 x1)).setCell ⟨Gb, 3, none⟩ (.int .i64 y1)).setCell ⟨Gb, 4, none⟩ (.int .i64 x2)).setCell ⟨Gb, 5, none⟩ (.int .i64 y2) = wx := ⟨_, rfl⟩; rw [hwx] at Ha Hb Hm hHeld ⊢; clear hwx
          refine wpAnyH_done (by kernel_rfl) ?_ _
          go_wp2_with fail
          go_meet
          exact ⟨Gm, Ga, Gb, rfl, rfl, rfl, ne_a_b, ne_m_a, ne_m_b, le_a, le_b, Hm.out, Ha.out, Hb.out, hHeld⟩
      · skip
        go_simp; obtain ⟨Gb, hGb⟩ : ∃ G, wD.heap.size = G := ⟨_, rfl⟩; have le_b : w2.heap.size ≤ Gb := by rw [← hGb]; exact Below.size hHeld
        have Hb : Hid (Bk6 (wD.alloc (.cells #[.int .i64 0, .int .i64 0, .int .i64 0, .int .i64 0, .int .i64 0, .int .i64 0] 27)) Gb 0 0 0 0 0 0) := by rw [← hGb]; exact bk6_new wD 0 0 0 0 0 0 _
        refine hK.out _ _ (Below.alloc hHeld (Below.size hHeld) _) (fun hHeld2 => ?_); (clear hHeld; rename _ => hHeld; clear hK K; have hHeld : Below w2.heap.size w2 _ := hHeld); (try simp only [Act.put, List.getElem_toArray, List.getElem_cons_succ, List.getElem_cons_zero, List.setIfInBounds_toArray, List.set_cons_zero, List.set_cons_succ])
        rw [hGb]; clear hGb; obtain ⟨yw0, hwx⟩ : ∃ wx, wD.alloc (.cells #[.int .i64 0, .int .i64 0, .int .i64 0, .int .i64 0, .int .i64 0, .int .i64 0] 27) = wx := ⟨_, rfl⟩; rw [hwx] at Hb hHeld ⊢; clear hwx
        refine wpAnyH_ready (rs := [9, 10]) (by kernel_rfl) (by simp) ?_; refine AllReadyH.cons rfl (fun K hK => ?_) (AllReadyH.cons rfl (fun K hK => ?_) AllReadyH.nil)
        · skip
          go_simp; obtain ⟨Gm, hGm⟩ : ∃ G, yw0.heap.size = G := ⟨_, rfl⟩; have le_m : w2.heap.size ≤ Gm := by rw [← hGm]; exact Below.size hHeld
          have ne_m_b : Gm ≠ Gb := by have := Hb.out.2.2; omega
          have ne_b_m : Gb ≠ Gm := Ne.symm ne_m_b
          have Hb := Lib.hid (Hb.out.below ((Below.refl _ _).alloc (Nat.le_refl _) (.cells #[.int .i64 0, .int .i64 0] 25))); skip
          have Hm : Hid (Bk2 (yw0.alloc (.cells #[.int .i64 0, .int .i64 0] 25)) Gm 0 0) := by rw [← hGm]; exact bk2_new yw0 0 0 _
          refine hK.out _ _ (Below.alloc hHeld (Below.size hHeld) _) (fun hHeld2 => ?_); (clear hHeld; rename _ => hHeld; clear hK K; have hHeld : Below w2.heap.size w2 _ := hHeld); (try simp only [Act.put, List.getElem_toArray, List.getElem_cons_succ, List.getElem_cons_zero, List.setIfInBounds_toArray, List.set_cons_zero, List.set_cons_succ])
          rw [hGm]; clear hGm; obtain ⟨yw1, hwx⟩ : ∃ wx, yw0.alloc (.cells #[.int .i64 0, .int .i64 0] 25) = wx := ⟨_, rfl⟩; rw [hwx] at Hb Hm hHeld ⊢; clear hwx
          refine wpAnyH_ready (rs := [10]) (by kernel_rfl) (by simp) ?_; refine AllReadyH.cons rfl (fun K hK => ?_) AllReadyH.nil
          go_simp; obtain ⟨Ga, hGa⟩ : ∃ G, yw1.heap.size = G := ⟨_, rfl⟩; have le_a : w2.heap.size ≤ Ga := by rw [← hGa]; exact Below.size hHeld
          have ne_a_b : Ga ≠ Gb := by have := Hb.out.2.2; omega
          have ne_b_a : Gb ≠ Ga := Ne.symm ne_a_b
          have ne_a_m : Ga ≠ Gm := by have := Hm.out.2.2; omega
          have ne_m_a : Gm ≠ Ga := Ne.symm ne_a_m
          have Hb := Lib.hid (Hb.out.below ((Below.refl _ _).alloc (Nat.le_refl _) (.cells #[.int .i64 0, .int .i64 0, .int .i64 0, .int .i64 0, .int .i64 0, .int .i64 0] 27))); have Hm := Lib.hid (Hm.out.below ((Below.refl _ _).alloc (Nat.le_refl _) (.cells #[.int .i64 0, .int .i64 0, .int .i64 0, .int .i64 0, .int .i64 0, .int .i64 0] 27))); skip
          have Ha : Hid (Bk6 (yw1.alloc (.cells #[.int .i64 0, .int .i64 0, .int .i64 0, .int .i64 0, .int .i64 0, .int .i64 0] 27)) Ga 0 0 0 0 0 0) := by rw [← hGa]; exact bk6_new yw1 0 0 0 0 0 0 _
          refine hK.out _ _ (Below.alloc hHeld (Below.size hHeld) _) (fun hHeld2 => ?_); (clear hHeld; rename _ => hHeld; clear hK K; have hHeld : Below w2.heap.size w2 _ := hHeld); (try simp only [Act.put, List.getElem_toArray, List.getElem_cons_succ, List.getElem_cons_zero, List.setIfInBounds_toArray, List.set_cons_zero, List.set_cons_succ])
          rw [hGa]; clear hGa; obtain ⟨yw2, hwx⟩ : ∃ wx, yw1.alloc (.cells #[.int .i64 0, .int .i64 0, .int .i64 0, .int .i64 0, .int .i64 0, .int .i64 0] 27) = wx := ⟨_, rfl⟩; rw [hwx] at Hb Hm Ha hHeld ⊢; clear hwx
          refine wpAnyH_ready (rs := [12]) (by kernel_rfl) (by simp) ?_; refine AllReadyH.cons rfl (fun K hK => ?_) AllReadyH.nil
          obtain ⟨⟨a0, a1⟩, ⟨f0, f1⟩, az⟩ := Hm.out; go_simp; clear a0 f0 a1 f1 az
          have Hb := Lib.hid ((Hb.out.far ⟨Gm, 0, none⟩ (.int .i64 mx) (by show Gb ≠ Gm; exact ne_b_m)).far ⟨Gm, 1, none⟩ (.int .i64 my) (by show Gb ≠ Gm; exact ne_b_m))
          have Ha := Lib.hid ((Ha.out.far ⟨Gm, 0, none⟩ (.int .i64 mx) (by show Ga ≠ Gm; exact ne_a_m)).far ⟨Gm, 1, none⟩ (.int .i64 my) (by show Ga ≠ Gm; exact ne_a_m))
          have Hm := Lib.hid ((Hm.out.set0 mx).set1 my)
          refine hK.out _ _ (Below.setCell (Below.setCell hHeld (p := ⟨Gm, 0, none⟩) le_m _) (p := ⟨Gm, 1, none⟩) le_m _) (fun hHeld2 => ?_); (clear hHeld; rename _ => hHeld; clear hK K; have hHeld : Below w2.heap.size w2 _ := hHeld); (try simp only [Act.put, List.getElem_toArray, List.getElem_cons_succ, List.getElem_cons_zero, List.setIfInBounds_toArray, List.set_cons_zero, List.set_cons_succ])
          obtain ⟨yw3, hwx⟩ : ∃ wx, (yw2.setCell ⟨Gm, 0, none⟩ (.int .i64 mx)).setCell ⟨Gm, 1, none⟩ (.int .i64 my) = wx := ⟨_, rfl⟩; rw [hwx] at Hb Hm Ha hHeld ⊢; clear hwx
          refine wpAnyH_ready (rs := [13]) (by kernel_rfl) (by simp) ?_; refine AllReadyH.cons rfl (fun K hK => ?_) AllReadyH.nil
          obtain ⟨⟨a0, a1, a2, a3, a4, a5⟩, ⟨f0, f1, f2, f3, f4, f5⟩, az⟩ := Ha.out; go_simp; clear a0 f0 a1 f1 a2 f2 a3 f3 a4 f4 a5 f5 az
          have Hb := Lib.hid ((((((Hb.out.far ⟨Ga, 0, none⟩ (.int .i64 x0) (by show Gb ≠ Ga; exact ne_b_a)).far ⟨Ga, 1, none⟩ (.int .i64 y0) (by show Gb ≠ Ga; exact ne_b_a)).far ⟨Ga, 2, none⟩ (.int .i64 x1) (by show Gb ≠ Ga; exact ne_b_a)).far ⟨Ga, 3, none⟩ (.int .i64 y1) (by show Gb ≠ Ga; exact ne_b_a)).far ⟨Ga, 4, none⟩ (.int .i64 x2) (by show Gb ≠ Ga; exact ne_b_a)).far ⟨Ga, 5, none⟩ (.int .i64 y2) (by show Gb ≠ Ga; exact ne_b_a))
          have Hm := Lib.hid ((((((Hm.out.far ⟨Ga, 0, none⟩ (.int .i64 x0) (by show Gm ≠ Ga; exact ne_m_a)).far ⟨Ga, 1, none⟩ (.int .i64 y0) (by show Gm ≠ Ga; exact ne_m_a)).far ⟨Ga, 2, none⟩ (.int .i64 x1) (by show Gm ≠ Ga; exact ne_m_a)).far ⟨Ga, 3, none⟩ (.int .i64 y1) (by show Gm ≠ Ga; exact ne_m_a)).far ⟨Ga, 4, none⟩ (.int .i64 x2) (by show Gm ≠ Ga; exact ne_m_a)).far ⟨Ga, 5, none⟩ (.int .i64 y2) (by show Gm ≠ Ga; exact ne_m_a))
          have Ha := Lib.hid ((((((Ha.out.set0 x0).set1 y0).set2 x1).set3 y1).set4 x2).set5 y2)
          refine hK.out _ _ (Below.setCell (Below.setCell (Below.setCell (Below.setCell (Below.setCell (Below.setCell hHeld (p := ⟨Ga, 0, none⟩) le_a _) (p := ⟨Ga, 1, none⟩) le_a _) (p := ⟨Ga, 2, none⟩) le_a _) (p := ⟨Ga, 3, none⟩) le_a _) (p := ⟨Ga, 4, none⟩) le_a _) (p := ⟨Ga, 5, none⟩) le_a _) (fun hHeld2 => ?_); (clear hHeld; rename _ => hHeld; clear hK K; have hHeld : Below w2.heap.size w2 _ := hHeld); (try simp only [Act.put, List.getElem_toArray, List.getElem_cons_succ, List.getElem_cons_zero, List.setIfInBounds_toArray, List.set_cons_zero, List.set_cons_succ])
          obtain ⟨yw4, hwx⟩ : ∃ wx, (((((yw3.setCell ⟨Ga, 0, none⟩ (.int .i64 x0)).setCell ⟨Ga, 1, none⟩ (.int .i64 y0)).setCell ⟨Ga, 2, none⟩ (.int .i64 x1)).setCell ⟨Ga, 3, none⟩ (.int .i64 y1)).setCell ⟨Ga, 4, none⟩ (.int .i64 x2)).setCell ⟨Ga, 5, none⟩ (.int .i64 y2) = wx := ⟨_, rfl⟩; rw [hwx] at Hb Hm Ha hHeld ⊢; clear hwx
          refine wpAnyH_ready (rs := [14]) (by kernel_rfl) (by simp) ?_; refine AllReadyH.cons rfl (fun K hK => ?_) AllReadyH.nil
          obtain ⟨⟨a0, a1, a2, a3, a4, a5⟩, ⟨f0, f1, f2, f3, f4, f5⟩, az⟩ := Hb.out; go_simp; clear a0 f0 a1 f1 a2 f2 a3 f3 a4 f4 a5 f5 az
          have Hm := Lib.hid ((((((Hm.out.far ⟨Gb, 0, none⟩ (.int .i64 x0) (by show Gm ≠ Gb; exact ne_m_b)).far ⟨Gb, 1, none⟩ (.int .i64 y0) (by show Gm ≠ Gb; exact ne_m_b)).far ⟨Gb, 2, none⟩ (.int .i64 x1) (by show Gm ≠ Gb; exact ne_m_b)).far ⟨Gb, 3, none⟩ (.int .i64 y1) (by show Gm ≠ Gb; exact ne_m_b)).far ⟨Gb, 4, none⟩ (.int .i64 x2) (by show Gm ≠ Gb; exact ne_m_b)).far ⟨Gb, 5, none⟩ (.int .i64 y2) (by show Gm ≠ Gb; exact ne_m_b))
          have Ha := Lib.hid ((((((Ha.out.far ⟨Gb, 0, none⟩ (.int .i64 x0) (by show Ga ≠ Gb; exact ne_a_b)).far ⟨Gb, 1, none⟩ (.int .i64 y0) (by show Ga ≠ Gb; exact ne_a_b)).far ⟨Gb, 2, none⟩ (.int .i64 x1) (by show Ga ≠ Gb; exact ne_a_b)).far ⟨Gb, 3, none⟩ (.int .i64 y1) (by show Ga ≠ Gb; exact ne_a_b)).far ⟨Gb, 4, none⟩ (.int .i64 x2) (by show Ga ≠ Gb; exact ne_a_b)).far ⟨Gb, 5, none⟩ (.int .i64 y2) (by show Ga ≠ Gb; exact ne_a_b))
          have Hb := Lib.hid ((((((Hb.out.set0 x0).set1 y0).set2 x1).set3 y1).set4 x2).set5 y2)
          refine hK.out _ _ (Below.setCell (Below.setCell (Below.setCell (Below.setCell (Below.setCell (Below.setCell hHeld (p := ⟨Gb, 0, none⟩) le_b _) (p := ⟨Gb, 1, none⟩) le_b _) (p := ⟨Gb, 2, none⟩) le_b _) (p := ⟨Gb, 3, none⟩) le_b _) (p := ⟨Gb, 4, none⟩) le_b _) (p := ⟨Gb, 5, none⟩) le_b _) (fun hHeld2 => ?_); (clear hHeld; rename _ => hHeld; clear hK K; have hHeld : Below w2.heap.size w2 _ := hHeld); (try simp only [Act.put, List.getElem_toArray, List.getElem_cons_succ, List.getElem_cons_zero, List.setIfInBounds_toArray, List.set_cons_zero, List.set_cons_succ])
          obtain ⟨yw5, hwx⟩ : ∃ wx, (((((yw4.setCell ⟨Gb, 0, none⟩ (.int .i64 x0)).setCell ⟨Gb, 1, none⟩ (.int .i64 y0)).setCell ⟨Gb, 2, none⟩ (.int .i64 x1)).setCell ⟨Gb, 3, none⟩ (.int .i64 y1)).setCell ⟨Gb, 4, none⟩ (.int .i64 x2)).setCell ⟨Gb, 5, none⟩ (.int .i64 y2) = wx := ⟨_, rfl⟩; rw [hwx] at Hb Hm Ha hHeld ⊢; clear hwx
          refine wpAnyH_done (by kernel_rfl) ?_ _
          go_wp2_with fail
          go_meet
          exact ⟨Gm, Ga, Gb, rfl, rfl, rfl, ne_a_b, ne_m_a, ne_m_b, le_a, le_b, Hm.out, Ha.out, Hb.out, hHeld⟩
        · skip
          go_simp; obtain ⟨Ga, hGa⟩ : ∃ G, yw0.heap.size = G := ⟨_, rfl⟩; have le_a : w2.heap.size ≤ Ga := by rw [← hGa]; exact Below.size hHeld
          have ne_a_b : Ga ≠ Gb := by have := Hb.out.2.2; omega
          have ne_b_a : Gb ≠ Ga := Ne.symm ne_a_b
          have Hb := Lib.hid (Hb.out.below ((Below.refl _ _).alloc (Nat.le_refl _) (.cells #[.int .i64 0, .int .i64 0, .int .i64 0, .int .i64 0, .int .i64 0, .int .i64 0] 27))); skip
          have Ha : Hid (Bk6 (yw0.alloc (.cells #[.int .i64 0, .int .i64 0, .int .i64 0, .int .i64 0, .int .i64 0, .int .i64 0] 27)) Ga 0 0 0 0 0 0) := by rw [← hGa]; exact bk6_new yw0 0 0 0 0 0 0 _
          refine hK.out _ _ (Below.alloc hHeld (Below.size hHeld) _) (fun hHeld2 => ?_); (clear hHeld; rename _ => hHeld; clear hK K; have hHeld : Below w2.heap.size w2 _ := hHeld); (try simp only [Act.put, List.getElem_toArray, List.getElem_cons_succ, List.getElem_cons_zero, List.setIfInBounds_toArray, List.set_cons_zero, List.set_cons_succ])
          rw [hGa]; clear hGa; obtain ⟨yw1, hwx⟩ : ∃ wx, yw0.alloc (.cells #[.int .i64 0, .int .i64 0, .int .i64 0, .int .i64 0, .int .i64 0, .int .i64 0] 27) = wx := ⟨_, rfl⟩; rw [hwx] at Hb Ha hHeld ⊢; clear hwx
          refine wpAnyH_ready (rs := [9]) (by kernel_rfl) (by simp) ?_; refine AllReadyH.cons rfl (fun K hK => ?_) AllReadyH.nil
          go_simp; obtain ⟨Gm, hGm⟩ : ∃ G, yw1.heap.size = G := ⟨_, rfl⟩; have le_m : w2.heap.size ≤ Gm := by rw [← hGm]; exact Below.size hHeld
          have ne_m_b : Gm ≠ Gb := by have := Hb.out.2.2; omega
          have ne_b_m : Gb ≠ Gm := Ne.symm ne_m_b
          have ne_m_a : Gm ≠ Ga := by have := Ha.out.2.2; omega
          have ne_a_m : Ga ≠ Gm := Ne.symm ne_m_a
          have Hb := Lib.hid (Hb.out.below ((Below.refl _ _).alloc (Nat.le_refl _) (.cells #[.int .i64 0, .int .i64 0] 25))); have Ha := Lib.hid (Ha.out.below ((Below.refl _ _).alloc (Nat.le_refl _) (.cells #[.int .i64 0, .int .i64 0] 25))); skip
          have Hm : Hid (Bk2 (yw1.alloc (.cells #[.int .i64 0, .int .i64 0] 25)) Gm 0 0) := by rw [← hGm]; exact bk2_new yw1 0 0 _
          refine hK.out _ _ (Below.alloc hHeld (Below.size hHeld) _) (fun hHeld2 => ?_); (clear hHeld; rename _ => hHeld; clear hK K; have hHeld : Below w2.heap.size w2 _ := hHeld); (try simp only [Act.put, List.getElem_toArray, List.getElem_cons_succ, List.getElem_cons_zero, List.setIfInBounds_toArray, List.set_cons_zero, List.set_cons_succ])
          rw [hGm]; clear hGm; obtain ⟨yw2, hwx⟩ : ∃ wx, yw1.alloc (.cells #[.int .i64 0, .int .i64 0] 25) = wx := ⟨_, rfl⟩; rw [hwx] at Hb Ha Hm hHeld ⊢; clear hwx
          refine wpAnyH_ready (rs := [12]) (by kernel_rfl) (by simp) ?_; refine AllReadyH.cons rfl (fun K hK => ?_) AllReadyH.nil
          obtain ⟨⟨a0, a1⟩, ⟨f0, f1⟩, az⟩ := Hm.out; go_simp; clear a0 f0 a1 f1 az
          have Hb := Lib.hid ((Hb.out.far ⟨Gm, 0, none⟩ (.int .i64 mx) (by show Gb ≠ Gm; exact ne_b_m)).far ⟨Gm, 1, none⟩ (.int .i64 my) (by show Gb ≠ Gm; exact ne_b_m))
          have Ha := Lib.hid ((Ha.out.far ⟨Gm, 0, none⟩ (.int .i64 mx) (by show Ga ≠ Gm; exact ne_a_m)).far ⟨Gm, 1, none⟩ (.int .i64 my) (by show Ga ≠ Gm; exact ne_a_m))
          have Hm := Lib.hid ((Hm.out.set0 mx).set1 my)
          refine hK.out _ _ (Below.setCell (Below.setCell hHeld (p := ⟨Gm, 0, none⟩) le_m _) (p := ⟨Gm, 1, none⟩) le_m _) (fun hHeld2 => ?_); (clear hHeld; rename _ => hHeld; clear hK K; have hHeld : Below w2.heap.size w2 _ := hHeld); (try simp only [Act.put, List.getElem_toArray, List.getElem_cons_succ, List.getElem_cons_zero, List.setIfInBounds_toArray, List.set_cons_zero, List.set_cons_succ])
          obtain ⟨yw3, hwx⟩ : ∃ wx, (yw2.setCell ⟨Gm, 0, none⟩ (.int .i64 mx)).setCell ⟨Gm, 1, none⟩ (.int .i64 my) = wx := ⟨_, rfl⟩; rw [hwx] at Hb Ha Hm hHeld ⊢; clear hwx
          refine wpAnyH_ready (rs := [13]) (by kernel_rfl) (by simp) ?_; refine AllReadyH.cons rfl (fun K hK => ?_) AllReadyH.nil
          obtain ⟨⟨a0, a1, a2, a3, a4, a5⟩, ⟨f0, f1, f2, f3, f4, f5⟩, az⟩ := Ha.out; go_simp; clear a0 f0 a1 f1 a2 f2 a3 f3 a4 f4 a5 f5 az
          have Hb := Lib.hid ((((((Hb.out.far ⟨Ga, 0, none⟩ (.int .i64 x0) (by show Gb ≠ Ga; exact ne_b_a)).far ⟨Ga, 1, none⟩ (.int .i64 y0) (by show Gb ≠ Ga; exact ne_b_a)).far ⟨Ga, 2, none⟩ (.int .i64 x1) (by show Gb ≠ Ga; exact ne_b_a)).far ⟨Ga, 3, none⟩ (.int .i64 y1) (by show Gb ≠ Ga; exact ne_b_a)).far ⟨Ga, 4, none⟩ (.int .i64 x2) (by show Gb ≠ Ga; exact ne_b_a)).far ⟨Ga, 5, none⟩ (.int .i64 y2) (by show Gb ≠ Ga; exact ne_b_a))
          have Hm := Lib.hid ((((((Hm.out.far ⟨Ga, 0, none⟩ (.int .i64 x0) (by show Gm ≠ Ga; exact ne_m_a)).far ⟨Ga, 1, none⟩ (.int .i64 y0) (by show Gm ≠ Ga; exact ne_m_a)).far ⟨Ga, 2, none⟩ (.int .i64 x1) (by show Gm ≠ Ga; exact ne_m_a)).far ⟨Ga, 3, none⟩ (.int .i64 y1) (by show Gm ≠ Ga; exact ne_m_a)).far ⟨Ga, 4, none⟩ (.int .i64 x2) (by show Gm ≠ Ga; exact ne_m_a)).far ⟨Ga, 5, none⟩ (.int .i64 y2) (by show Gm ≠ Ga; exact ne_m_a))
          have Ha := Lib.hid ((((((Ha.out.set0 x0).set1 y0).set2 x1).set3 y1).set4 x2).set5 y2)
          refine hK.out _ _ (Below.setCell (Below.setCell (Below.setCell (Below.setCell (Below.setCell (Below.setCell hHeld (p := ⟨Ga, 0, none⟩) le_a _) (p := ⟨Ga, 1, none⟩) le_a _) (p := ⟨Ga, 2, none⟩) le_a _) (p := ⟨Ga, 3, none⟩) le_a _) (p := ⟨Ga, 4, none⟩) le_a _) (p := ⟨Ga, 5, none⟩) le_a _) (fun hHeld2 => ?_); (clear hHeld; rename _ => hHeld; clear hK K; have hHeld : Below w2.heap.size w2 _ := hHeld); (try simp only [Act.put, List.getElem_toArray, List.getElem_cons_succ, List.getElem_cons_zero, List.setIfInBounds_toArray, List.set_cons_zero, List.set_cons_succ])
          obtain ⟨yw4, hwx⟩ : ∃ wx, (((((yw3.setCell ⟨Ga, 0, none⟩ (.int .i64 x0)).setCell ⟨Ga, 1, none⟩ (.int .i64 y0)).setCell ⟨Ga, 2, none⟩ (.int .i64 x1)).setCell ⟨Ga, 3, none⟩ (.int .i64 y1)).setCell ⟨Ga, 4, none⟩ (.int .i64 x2)).setCell ⟨Ga, 5, none⟩ (.int .i64 y2) = wx := ⟨_, rfl⟩; rw [hwx] at Hb Ha Hm hHeld ⊢; clear hwx
          refine wpAnyH_ready (rs := [14]) (by kernel_rfl) (by simp) ?_; refine AllReadyH.cons rfl (fun K hK => ?_) AllReadyH.nil
          obtain ⟨⟨a0, a1, a2, a3, a4, a5⟩, ⟨f0, f1, f2, f3, f4, f5⟩, az⟩ := Hb.out; go_simp; clear a0 f0 a1 f1 a2 f2 a3 f3 a4 f4 a5 f5 az
          have Ha := Lib.hid ((((((Ha.out.far ⟨Gb, 0, none⟩ (.int .i64 x0) (by show Ga ≠ Gb; exact ne_a_b)).far ⟨Gb, 1, none⟩ (.int .i64 y0) (by show Ga ≠ Gb; exact ne_a_b)).far ⟨Gb, 2, none⟩ (.int .i64 x1) (by show Ga ≠ Gb; exact ne_a_b)).far ⟨Gb, 3, none⟩ (.int .i64 y1) (by show Ga ≠ Gb; exact ne_a_b)).far ⟨Gb, 4, none⟩ (.int .i64 x2) (by show Ga ≠ Gb; exact ne_a_b)).far ⟨Gb, 5, none⟩ (.int .i64 y2) (by show Ga ≠ Gb; exact ne_a_b))
          have Hm := Lib.hid ((((((Hm.out.far ⟨Gb, 0, none⟩ (.int .i64 x0) (by show Gm ≠ Gb; exact ne_m_b)).far ⟨Gb, 1, none⟩ (.int .i64 y0) (by show Gm ≠ Gb; exact ne_m_b)).far ⟨Gb, 2, none⟩ (.int .i64 x1) (by show Gm ≠ Gb; exact ne_m_b)).far ⟨Gb, 3, none⟩ (.int .i64 y1) (by show Gm ≠ Gb; exact ne_m_b)).far ⟨Gb, 4, none⟩ (.int .i64 x2) (by show Gm ≠ Gb; exact ne_m_b)).far ⟨Gb, 5, none⟩ (.int .i64 y2) (by show Gm ≠ Gb; exact ne_m_b))
          have Hb := Lib.hid ((((((Hb.out.set0 x0).set1 y0).set2 x1).set3 y1).set4 x2).set5 y2)
          refine hK.out _ _ (Below.setCell (Below.setCell (Below.setCell (Below.setCell (Below.setCell (Below.setCell hHeld (p := ⟨Gb, 0, none⟩) le_b _) (p := ⟨Gb, 1, none⟩) le_b _) (p := ⟨Gb, 2, none⟩) le_b _) (p := ⟨Gb, 3, none⟩) le_b _) (p := ⟨Gb, 4, none⟩) le_b _) (p := ⟨Gb, 5, none⟩) le_b _) (fun hHeld2 => ?_); (clear hHeld; rename _ => hHeld; clear hK K; have hHeld : Below w2.heap.size w2 _ := hHeld); (try simp only [Act.put, List.getElem_toArray, List.getElem_cons_succ, List.getElem_cons_zero, List.setIfInBounds_toArray, List.set_cons_zero, List.set_cons_succ])
          obtain ⟨yw5, hwx⟩ : ∃ wx, (((((yw4.setCell ⟨Gb, 0, none⟩ (.int .i64 x0)).setCell ⟨Gb, 1, none⟩ (.int .i64 y0)).setCell ⟨Gb, 2, none⟩ (.int .i64 x1)).setCell ⟨Gb, 3, none⟩ (.int .i64 y1)).setCell ⟨Gb, 4, none⟩ (.int .i64 x2)).setCell ⟨Gb, 5, none⟩ (.int .i64 y2) = wx := ⟨_, rfl⟩; rw [hwx] at Hb Ha Hm hHeld ⊢; clear hwx
          refine wpAnyH_done (by kernel_rfl) ?_ _
          go_wp2_with fail
          go_meet
          exact ⟨Gm, Ga, Gb, rfl, rfl, rfl, ne_a_b, ne_m_a, ne_m_b, le_a, le_b, Hm.out, Ha.out, Hb.out, hHeld⟩
    case rest =>
      obtain ⟨Gm, Ga, Gb, rfl, rfl, rfl, ne_ab, ne_ma, ne_mb, le_a, le_b, hM, hA, hB, hbx⟩ := hcut
      obtain ⟨w3, rfl⟩ : ∃ w3, w3 = wc := ⟨_, rfl⟩
      obtain ⟨⟨b0, b1⟩, _, bz⟩ := (HX2.out _ hbx).1
      obtain ⟨⟨c0, c1, c2, c3, c4, c5⟩, ⟨c6, c7, c8, c9, c10, c11⟩, cz⟩ := id hA
      obtain ⟨⟨d0, d1, d2, d3, d4, d5⟩, ⟨d6, d7, d8, d9, d10, d11⟩, dz⟩ := id hB
      obtain ⟨⟨m0, m1⟩, _, mz⟩ := id hM
      have ne_ba : Gb ≠ Ga := Ne.symm ne_ab
      have hbx1 := ((hbx.setCell (p := ⟨Ga, 2, none⟩) le_a (.int .i64 mx)).setCell (p := ⟨Ga, 3, none⟩) le_a (.int .i64 my))
      have hA1 := ((hA).set2 mx).set3 my
      have hB1 := ((hB).far ⟨Ga, 2, none⟩ (.int .i64 mx) (by show Gb ≠ Ga; omega)).far ⟨Ga, 3, none⟩ (.int .i64 my) (by show Gb ≠ Ga; omega)
      have hM1 := ((hM).far ⟨Ga, 2, none⟩ (.int .i64 mx) (by show Gm ≠ Ga; omega)).far ⟨Ga, 3, none⟩ (.int .i64 my) (by show Gm ≠ Ga; omega)
      go_upto_region 11 with fail
      obtain ⟨w4, hw4⟩ : ∃ wx, ((w3.setCell ⟨Ga, 2, none⟩ (.int .i64 mx)).setCell ⟨Ga, 3, none⟩ (.int .i64 my)) = wx := ⟨_, rfl⟩
      rw [hw4] at hbx1 hA1 hB1 hM1 ⊢
      clear hw4 b0 b1 bz c0 c1 c2 c3 c4 c5 c6 c7 c8 c9 c10 c11 cz d0 d1 d2 d3 d4 d5 d6 d7 d8 d9 d10 d11 dz hA hB hbx m0 m1 mz hM
      obtain ⟨⟨c0, c1, c2, c3, c4, c5⟩, ⟨c6, c7, c8, c9, c10, c11⟩, cz⟩ := id hA1
      obtain ⟨⟨d0, d1, d2, d3, d4, d5⟩, ⟨d6, d7, d8, d9, d10, d11⟩, dz⟩ := id hB1
      obtain ⟨⟨m0, m1⟩, _, mz⟩ := id hM1
      have hbx2 := ((hbx1.setCell (p := ⟨Gb, 4, none⟩) le_b (.int .i64 mx)).setCell (p := ⟨Gb, 5, none⟩) le_b (.int .i64 my))
      have hB2 := ((hB1).set4 mx).set5 my
      have hA2 := ((hA1).far ⟨Gb, 4, none⟩ (.int .i64 mx) (by show Ga ≠ Gb; omega)).far ⟨Gb, 5, none⟩ (.int .i64 my) (by show Ga ≠ Gb; omega)
      go_upto_region 12 with fail
      obtain ⟨w5, hw5⟩ : ∃ wx, ((w4.setCell ⟨Gb, 4, none⟩ (.int .i64 mx)).setCell ⟨Gb, 5, none⟩ (.int .i64 my)) = wx := ⟨_, rfl⟩
      rw [hw5] at hbx2 hA2 hB2 ⊢
      clear hw5 c0 c1 c2 c3 c4 c5 c6 c7 c8 c9 c10 c11 cz d0 d1 d2 d3 d4 d5 d6 d7 d8 d9 d10 d11 dz m0 m1 mz hM1
      obtain ⟨⟨c0, c1, c2, c3, c4, c5⟩, _, cz⟩ := id hA2
      obtain ⟨⟨d0, d1, d2, d3, d4, d5⟩, _, dz⟩ := id hB2
      have hbW := below_after (HX2.out _ hbx2).2 HBW.out
      go_wp2
      refine bodyPost_ret (v := .tuple #[.slice (some ⟨w5.heap.size, 0, none⟩) 2 2, .int .i64 0]) (by simp (maxDischargeDepth := 8) [results, Try.results57, go_sem, *]) rfl ?_
      exact ⟨_, rfl, own_lit12 w5 w.heap.size x0 y0 mx my x2 y2 x0 y0 x1 y1 mx my hbW.size, hbW.alloc hbW.size _⟩
set_option maxHeartbeats 4000000 in
theorem spec_Split_1n (x0 y0 x1 y1 x2 y2 sx sy : Int) (w : World) (h : isT x0 y0 x1 y1 x2 y2 = true) (hx : (x2 + 1 * x0) = sx) (hy : (y2 + 1 * y0) = sy) (hw : whI sx sy = false) : Calls Try.prog 57 #[.agg #[.int .i64 x0, .int .i64 y0, .int .i64 x1, .int .i64 y1, .int .i64 x2, .int .i64 y2], .int .i64 1] w fun e w' => ∃ v, e = .returned (.tuple #[v, .int .i64 5]) ∧ OwnTr w.heap.size w' v 0 [] ∧ Below w.heap.size w w' := by
  have HT := Lib.hid h
  obtain ⟨t0, t1, t2, t3, t4, t5, _⟩ := isT_iff.1 h
  have hP : ∀ w, Calls Try.prog 91 #[.agg #[.int .i64 x2, .int .i64 y2], .agg #[.int .i64 x0, .int .i64 y0], .int .i64 1] w fun e w' => e = .returned (.agg #[.int .i64 sx, .int .i64 sy]) ∧ Below w.heap.size w w' := by
    intro w
    have := l01Plus_any x2 y2 x0 y0 1 w t4.bn t5.bn t0.bn t1.bn ⟨by decide, by decide⟩
    rw [hx, hy] at this
    exact this
  have HP := Lib.hid hP
  have sxb : -2000 ≤ sx ∧ sx ≤ 2000 := by unfold Sml at t4 t0; omega
  have syb : -2000 ≤ sy ∧ sy ≤ 2000 := by unfold Sml at t5 t1; omega
  have wx1 : IntKind.i64.wrap (sx.tmod 2) = sx.tmod 2 := by rw [IntKind.wrap_i64]; have := Int.tmod_lt_of_pos sx (show (0 : Int) < 2 by decide); have := Int.lt_tmod_of_pos sx (show (0 : Int) < 2 by decide); omega
  have wy1 : IntKind.i64.wrap (sy.tmod 2) = sy.tmod 2 := by rw [IntKind.wrap_i64]; have := Int.tmod_lt_of_pos sy (show (0 : Int) < 2 by decide); have := Int.lt_tmod_of_pos sy (show (0 : Int) < 2 by decide); omega
  have qx := tdiv2_bd sxb
  have qy := tdiv2_bd syb
  have n1 : IntKind.i64.wrap (1 + 1) = 2 := by decide
  have n2 : IntKind.i64.wrap (1 + 2) = 3 := by decide
  have n3 : IntKind.i64.wrap (Int.tmod 2 3) = 2 := by decide
  have n4 : IntKind.i64.wrap (Int.tmod 3 3) = 0 := by decide
  have n5 : inB 1 0 2 = true := by decide
  have HW := Lib.hid hw
  clear h hx hy t0 t1 t2 t3 t4 t5 hP sxb syb hw qx qy
  go_enter Try.func57, Try.ntmps57
  go_upto_region 1 with fail
  obtain ⟨wB, hwB⟩ : ∃ wB, wB = w.alloc (.cells #[.int .i64 x0, .int .i64 y0, .int .i64 x1, .int .i64 y1, .int .i64 x2, .int .i64 y2] 27) := ⟨_, rfl⟩
  rw [← hwB]
  have HBW : Hid (Below w.heap.size w wB) := by
    show Below w.heap.size w wB
    rw [hwB]; (repeat' (first | (with_reducible exact Below.refl _ _) | (with_reducible refine Below.alloc ?_ ?_ _) | (with_reducible refine Below.setCell ?_ ?_ _) | (with_reducible refine Below.drew ?_) | (with_reducible refine below_drewN ?_ _) | (with_reducible assumption) | (with_reducible refine below_after (by with_reducible assumption) ?_) | go_size))
  have HK : Hid (∀ W', Below wB.heap.size wB W' → W'.cell? ⟨w.heap.size, 0, none⟩ = some (.int .i64 x0) ∧ W'.cell? ⟨w.heap.size, 1, none⟩ = some (.int .i64 y0) ∧ W'.cell? ⟨w.heap.size, 2, none⟩ = some (.int .i64 x1) ∧ W'.cell? ⟨w.heap.size, 3, none⟩ = some (.int .i64 y1) ∧ W'.cell? ⟨w.heap.size, 4, none⟩ = some (.int .i64 x2) ∧ W'.cell? ⟨w.heap.size, 5, none⟩ = some (.int .i64 y2) ∧ w.heap.size < W'.heap.size) := by
    intro W' hB
    have hz := hB.size
    have hbs : wB.heap.size = w.heap.size + 1 := by rw [hwB]; simp
    refine ⟨?_, ?_, ?_, ?_, ?_, ?_, by omega⟩
    all_goals (rw [hB.cell (p := ⟨w.heap.size, _, none⟩) (by rw [hbs]; exact Nat.lt_succ_self _), hwB]; go_cell)
  clear hwB
  obtain ⟨s0, s1, s2, s3, s4, s5, sz⟩ := HK.out wB (Below.refl _ _)
  go_wp2_with fail
  go_at_call 62
  refine (l04Is_any _ _ _ _ _ _ _).mono ?_
  rw [HT.out]
  rintro e w1 ⟨rfl, b1⟩
  clear s0 s1 s2 s3 s4 s5 sz
  have HBB := Lib.hid b1
  clear b1
  go_upto_region 6 with (first | (go_at_call 74; refine (l01In_any _ _ _ _).mono ?_; rintro e wn ⟨rfl, rfl⟩))
  clear n1 n2 n3 n4 n5
  go_cut [8] (fun v8 wx => ∃ Gs : Nat, v8 = .pointer (some ⟨Gs, 0, none⟩) ∧ w1.heap.size ≤ Gs ∧ Bk2 wx Gs sx sy ∧ Below w1.heap.size w1 wx)
  case first =>
    refine wp_region_held_drew (S := fun W => Below w1.heap.size w1 W) (by kernel_rfl) ?_ (fun hHeld => ?_); focus ((try dsimp only); exact (Below.refl _ _).drew)
    have hHeld : Below w1.heap.size w1 _ := hHeld
    obtain ⟨wD, hwD⟩ : ∃ wD, w1.drew = wD := ⟨_, rfl⟩
    rw [hwD] at hHeld ⊢
    clear hwD
    (refine wpAnyH_take (i := 0) (v := ?_) rfl (by kernel_rfl) (by kernel_rfl) (by kernel_rfl) (fun _ _ _ h => h) (Or.inl ⟨rfl, ?_⟩) (by assumption) ?_; rotate_left; focus (intro W hSw; (try dsimp only at hSw); obtain ⟨i0, i1, i2, i3, i4, i5, iz⟩ := HK.out _ (below_after hSw HBB.out); go_simp; try (with_reducible rfl))); (try simp only [Act.put, List.getElem_toArray, List.getElem_cons_succ, List.getElem_cons_zero, List.setIfInBounds_toArray, List.set_cons_zero, List.set_cons_succ])
    (refine wpAnyH_take (i := 1) (v := ?_) rfl (by kernel_rfl) (by kernel_rfl) (by kernel_rfl) (fun _ _ _ h => h) (Or.inl ⟨rfl, ?_⟩) (by assumption) ?_; rotate_left; focus (intro W hSw; (try dsimp only at hSw); obtain ⟨i0, i1, i2, i3, i4, i5, iz⟩ := HK.out _ (below_after hSw HBB.out); go_simp; try (with_reducible rfl))); (try simp only [Act.put, List.getElem_toArray, List.getElem_cons_succ, List.getElem_cons_zero, List.setIfInBounds_toArray, List.set_cons_zero, List.set_cons_succ])
    (refine wpAnyH_take (i := 2) (v := ?_) rfl (by kernel_rfl) (by kernel_rfl) (by kernel_rfl) (fun _ _ _ h => h) (Or.inl ⟨rfl, ?_⟩) (by assumption) ?_; rotate_left; focus (intro W hSw; (try dsimp only at hSw); obtain ⟨i0, i1, i2, i3, i4, i5, iz⟩ := HK.out _ (below_after hSw HBB.out); go_simp; try (with_reducible rfl))); (try simp only [Act.put, List.getElem_toArray, List.getElem_cons_succ, List.getElem_cons_zero, List.setIfInBounds_toArray, List.set_cons_zero, List.set_cons_succ])
    (refine wpAnyH_take (i := 3) (v := ?_) rfl (by kernel_rfl) (by kernel_rfl) (by kernel_rfl) (fun _ _ _ h => h) (Or.inl ⟨rfl, ?_⟩) (by assumption) ?_; rotate_left; focus (intro W hSw; (try dsimp only at hSw); obtain ⟨i0, i1, i2, i3, i4, i5, iz⟩ := HK.out _ (below_after hSw HBB.out); go_simp; try (with_reducible rfl))); (try simp only [Act.put, List.getElem_toArray, List.getElem_cons_succ, List.getElem_cons_zero, List.setIfInBounds_toArray, List.set_cons_zero, List.set_cons_succ])
    (refine wpAnyH_take (i := 4) (v := ?_) rfl (by kernel_rfl) (by kernel_rfl) (by kernel_rfl) (fun _ _ _ h => h) (Or.inl ⟨rfl, ?_⟩) (by assumption) ?_; rotate_left; focus (intro W hSw; (try dsimp only at hSw); obtain ⟨i0, i1, i2, i3, i4, i5, iz⟩ := HK.out _ (below_after hSw HBB.out); go_simp; try (with_reducible rfl))); (try simp only [Act.put, List.getElem_toArray, List.getElem_cons_succ, List.getElem_cons_zero, List.setIfInBounds_toArray, List.set_cons_zero, List.set_cons_succ])
    (refine wpAnyH_take (i := 5) (v := ?_) rfl (by kernel_rfl) (by kernel_rfl) (by kernel_rfl) (fun _ _ _ h => h) (Or.inl ⟨rfl, ?_⟩) (by assumption) ?_; rotate_left; focus (intro W hSw; (try dsimp only at hSw); obtain ⟨i0, i1, i2, i3, i4, i5, iz⟩ := HK.out _ (below_after hSw HBB.out); go_simp; try (with_reducible rfl))); (try simp only [Act.put, List.getElem_toArray, List.getElem_cons_succ, List.getElem_cons_zero, List.setIfInBounds_toArray, List.set_cons_zero, List.set_cons_succ])
    refine wpAnyH_ready (rs := [6, 7]) (by kernel_rfl) (by simp) ?_; refine AllReadyH.cons rfl (fun K hK => ?_) (AllReadyH.cons rfl (fun K hK => ?_) AllReadyH.nil)
    · skip
      go_simp; (go_at_call 91; refine (HP.out _).mono ?_; rintro en yw0 ⟨rfl, hb2⟩); refine hK.out _ _ (below_after hb2 hHeld) (fun hHeld2 => ?_); clear hb2; (clear hHeld; rename _ => hHeld; clear hK K; have hHeld : Below w1.heap.size w1 _ := hHeld); (try simp only [Act.put, List.getElem_toArray, List.getElem_cons_succ, List.getElem_cons_zero, List.setIfInBounds_toArray, List.set_cons_zero, List.set_cons_succ])
      refine wpAnyH_ready (rs := [7]) (by kernel_rfl) (by simp) ?_; refine AllReadyH.cons rfl (fun K hK => ?_) AllReadyH.nil
      go_simp; obtain ⟨Gs, hGs⟩ : ∃ G, yw0.heap.size = G := ⟨_, rfl⟩; have le_s : w1.heap.size ≤ Gs := by rw [← hGs]; exact Below.size hHeld
      have Hs : Hid (Bk2 (yw0.alloc (.cells #[.int .i64 0, .int .i64 0] 25)) Gs 0 0) := by rw [← hGs]; exact bk2_new yw0 0 0 _
      refine hK.out _ _ (Below.alloc hHeld (Below.size hHeld) _) (fun hHeld2 => ?_); (clear hHeld; rename _ => hHeld; clear hK K; have hHeld : Below w1.heap.size w1 _ := hHeld); (try simp only [Act.put, List.getElem_toArray, List.getElem_cons_succ, List.getElem_cons_zero, List.setIfInBounds_toArray, List.set_cons_zero, List.set_cons_succ])
      rw [hGs]; clear hGs; obtain ⟨yw1, hwx⟩ : ∃ wx, yw0.alloc (.cells #[.int .i64 0, .int .i64 0] 25) = wx := ⟨_, rfl⟩; rw [hwx] at Hs hHeld ⊢; clear hwx
      refine wpAnyH_ready (rs := [8]) (by kernel_rfl) (by simp) ?_; refine AllReadyH.cons rfl (fun K hK => ?_) AllReadyH.nil
      obtain ⟨⟨a0, a1⟩, ⟨f0, f1⟩, az⟩ := Hs.out; go_simp; clear a0 f0 a1 f1 az
      have Hs := Lib.hid ((Hs.out.set0 sx).set1 sy)
      refine hK.out _ _ (Below.setCell (Below.setCell hHeld (p := ⟨Gs, 0, none⟩) le_s _) (p := ⟨Gs, 1, none⟩) le_s _) (fun hHeld2 => ?_); (clear hHeld; rename _ => hHeld; clear hK K; have hHeld : Below w1.heap.size w1 _ := hHeld); (try simp only [Act.put, List.getElem_toArray, List.getElem_cons_succ, List.getElem_cons_zero, List.setIfInBounds_toArray, List.set_cons_zero, List.set_cons_succ])
      obtain ⟨yw2, hwx⟩ : ∃ wx, (yw1.setCell ⟨Gs, 0, none⟩ (.int .i64 sx)).setCell ⟨Gs, 1, none⟩ (.int .i64 sy) = wx := ⟨_, rfl⟩; rw [hwx] at Hs hHeld ⊢; clear hwx
      refine wpAnyH_done (by kernel_rfl) ?_ _
      go_wp2_with fail
      go_meet
      exact ⟨Gs, rfl, le_s, Hs.out, hHeld⟩
    · skip
      go_simp; obtain ⟨Gs, hGs⟩ : ∃ G, wD.heap.size = G := ⟨_, rfl⟩; have le_s : w1.heap.size ≤ Gs := by rw [← hGs]; exact Below.size hHeld
      have Hs : Hid (Bk2 (wD.alloc (.cells #[.int .i64 0, .int .i64 0] 25)) Gs 0 0) := by rw [← hGs]; exact bk2_new wD 0 0 _
      refine hK.out _ _ (Below.alloc hHeld (Below.size hHeld) _) (fun hHeld2 => ?_); (clear hHeld; rename _ => hHeld; clear hK K; have hHeld : Below w1.heap.size w1 _ := hHeld); (try simp only [Act.put, List.getElem_toArray, List.getElem_cons_succ, List.getElem_cons_zero, List.setIfInBounds_toArray, List.set_cons_zero, List.set_cons_succ])
      rw [hGs]; clear hGs; obtain ⟨yw0, hwx⟩ : ∃ wx, wD.alloc (.cells #[.int .i64 0, .int .i64 0] 25) = wx := ⟨_, rfl⟩; rw [hwx] at Hs hHeld ⊢; clear hwx
      refine wpAnyH_ready (rs := [6]) (by kernel_rfl) (by simp) ?_; refine AllReadyH.cons rfl (fun K hK => ?_) AllReadyH.nil
      go_simp; (go_at_call 91; refine (HP.out _).mono ?_; rintro en yw1 ⟨rfl, hb2⟩); have Hs := Lib.hid (Hs.out.below hb2); refine hK.out _ _ (below_after hb2 hHeld) (fun hHeld2 => ?_); clear hb2; (clear hHeld; rename _ => hHeld; clear hK K; have hHeld : Below w1.heap.size w1 _ := hHeld); (try simp only [Act.put, List.getElem_toArray, List.getElem_cons_succ, List.getElem_cons_zero, List.setIfInBounds_toArray, List.set_cons_zero, List.set_cons_succ])
      refine wpAnyH_ready (rs := [8]) (by kernel_rfl) (by simp) ?_; refine AllReadyH.cons rfl (fun K hK => ?_) AllReadyH.nil
      obtain ⟨⟨a0, a1⟩, ⟨f0, f1⟩, az⟩ := Hs.out; go_simp; clear a0 f0 a1 f1 az
      have Hs := Lib.hid ((Hs.out.set0 sx).set1 sy)
      refine hK.out _ _ (Below.setCell (Below.setCell hHeld (p := ⟨Gs, 0, none⟩) le_s _) (p := ⟨Gs, 1, none⟩) le_s _) (fun hHeld2 => ?_); (clear hHeld; rename _ => hHeld; clear hK K; have hHeld : Below w1.heap.size w1 _ := hHeld); (try simp only [Act.put, List.getElem_toArray, List.getElem_cons_succ, List.getElem_cons_zero, List.setIfInBounds_toArray, List.set_cons_zero, List.set_cons_succ])
      obtain ⟨yw2, hwx⟩ : ∃ wx, (yw1.setCell ⟨Gs, 0, none⟩ (.int .i64 sx)).setCell ⟨Gs, 1, none⟩ (.int .i64 sy) = wx := ⟨_, rfl⟩; rw [hwx] at Hs hHeld ⊢; clear hwx
      refine wpAnyH_done (by kernel_rfl) ?_ _
      go_wp2_with fail
      go_meet
      exact ⟨Gs, rfl, le_s, Hs.out, hHeld⟩
  case rest =>
    obtain ⟨Gs, rfl, le_s, hS, hbx⟩ := hcut
    obtain ⟨w2, rfl⟩ : ∃ w2, w2 = wc := ⟨_, rfl⟩
    obtain ⟨⟨a0, a1⟩, _, az⟩ := id hS
    by_cases hm : sx.tmod 2 = 0
    · have hn : ¬ sy.tmod 2 = 0 := by have := HW.out; unfold whI at this; rw [decide_eq_true hm] at this; simpa using this
      go_wp2
      refine bodyPost_ret (v := .tuple #[.slice none 0 0, .int .i64 5]) (by simp (maxDischargeDepth := 8) [results, Try.results57, go_sem, *]) rfl ?_
      exact ⟨_, rfl, World.ownsRow_nil _ _ _ _, below_after (below_after hbx HBB.out) HBW.out⟩
    · go_wp2
      refine bodyPost_ret (v := .tuple #[.slice none 0 0, .int .i64 5]) (by simp (maxDischargeDepth := 8) [results, Try.results57, go_sem, *]) rfl ?_
      exact ⟨_, rfl, World.ownsRow_nil _ _ _ _, below_after (below_after hbx HBB.out) HBW.out⟩
set_option maxHeartbeats 4000000 in
theorem spec_Split_1y (x0 y0 x1 y1 x2 y2 sx sy mx my : Int) (w : World) (h : isT x0 y0 x1 y1 x2 y2 = true) (hx : (x2 + 1 * x0) = sx) (hy : (y2 + 1 * y0) = sy) (hw : whI sx sy = true) (hmx : sx.tdiv 2 = mx) (hmy : sy.tdiv 2 = my) : Calls Try.prog 57 #[.agg #[.int .i64 x0, .int .i64 y0, .int .i64 x1, .int .i64 y1, .int .i64 x2, .int .i64 y2], .int .i64 1] w fun e w' => ∃ v, e = .returned (.tuple #[v, .int .i64 0]) ∧ OwnTr w.heap.size w' v 2 (stZ x0 y0 x1 y1 x2 y2 1 mx my) ∧ Below w.heap.size w w' := by
  have HT := Lib.hid h
  obtain ⟨t0, t1, t2, t3, t4, t5, _⟩ := isT_iff.1 h
  have hP : ∀ w, Calls Try.prog 91 #[.agg #[.int .i64 x2, .int .i64 y2], .agg #[.int .i64 x0, .int .i64 y0], .int .i64 1] w fun e w' => e = .returned (.agg #[.int .i64 sx, .int .i64 sy]) ∧ Below w.heap.size w w' := by
    intro w
    have := l01Plus_any x2 y2 x0 y0 1 w t4.bn t5.bn t0.bn t1.bn ⟨by decide, by decide⟩
    rw [hx, hy] at this
    exact this
  have HP := Lib.hid hP
  have sxb : -2000 ≤ sx ∧ sx ≤ 2000 := by unfold Sml at t4 t0; omega
  have syb : -2000 ≤ sy ∧ sy ≤ 2000 := by unfold Sml at t5 t1; omega
  have wx1 : IntKind.i64.wrap (sx.tmod 2) = sx.tmod 2 := by rw [IntKind.wrap_i64]; have := Int.tmod_lt_of_pos sx (show (0 : Int) < 2 by decide); have := Int.lt_tmod_of_pos sx (show (0 : Int) < 2 by decide); omega
  have wy1 : IntKind.i64.wrap (sy.tmod 2) = sy.tmod 2 := by rw [IntKind.wrap_i64]; have := Int.tmod_lt_of_pos sy (show (0 : Int) < 2 by decide); have := Int.lt_tmod_of_pos sy (show (0 : Int) < 2 by decide); omega
  have qx := tdiv2_bd sxb
  have qy := tdiv2_bd syb
  have wx2 : IntKind.i64.wrap mx = mx := by rw [← hmx]; exact wr (by omega) (by omega)
  have wy2 : IntKind.i64.wrap my = my := by rw [← hmy]; exact wr (by omega) (by omega)
  have n1 : IntKind.i64.wrap (1 + 1) = 2 := by decide
  have n2 : IntKind.i64.wrap (1 + 2) = 3 := by decide
  have n3 : IntKind.i64.wrap (Int.tmod 2 3) = 2 := by decide
  have n4 : IntKind.i64.wrap (Int.tmod 3 3) = 0 := by decide
  have n5 : inB 1 0 2 = true := by decide
  have HW := Lib.hid hw
  clear h hx hy t0 t1 t2 t3 t4 t5 hP sxb syb hw qx qy
  go_enter Try.func57, Try.ntmps57
  go_upto_region 1 with fail
  obtain ⟨wB, hwB⟩ : ∃ wB, wB = w.alloc (.cells #[.int .i64 x0, .int .i64 y0, .int .i64 x1, .int .i64 y1, .int .i64 x2, .int .i64 y2] 27) := ⟨_, rfl⟩
  rw [← hwB]
  have HBW : Hid (Below w.heap.size w wB) := by
    show Below w.heap.size w wB
    rw [hwB]; (repeat' (first | (with_reducible exact Below.refl _ _) | (with_reducible refine Below.alloc ?_ ?_ _) | (with_reducible refine Below.setCell ?_ ?_ _) | (with_reducible refine Below.drew ?_) | (with_reducible refine below_drewN ?_ _) | (with_reducible assumption) | (with_reducible refine below_after (by with_reducible assumption) ?_) | go_size))
  have HK : Hid (∀ W', Below wB.heap.size wB W' → W'.cell? ⟨w.heap.size, 0, none⟩ = some (.int .i64 x0) ∧ W'.cell? ⟨w.heap.size, 1, none⟩ = some (.int .i64 y0) ∧ W'.cell? ⟨w.heap.size, 2, none⟩ = some (.int .i64 x1) ∧ W'.cell? ⟨w.heap.size, 3, none⟩ = some (.int .i64 y1) ∧ W'.cell? ⟨w.heap.size, 4, none⟩ = some (.int .i64 x2) ∧ W'.cell? ⟨w.heap.size, 5, none⟩ = some (.int .i64 y2) ∧ w.heap.size < W'.heap.size) := by
    intro W' hB
    have hz := hB.size
    have hbs : wB.heap.size = w.heap.size + 1 := by rw [hwB]; simp
    refine ⟨?_, ?_, ?_, ?_, ?_, ?_, by omega⟩
    all_goals (rw [hB.cell (p := ⟨w.heap.size, _, none⟩) (by rw [hbs]; exact Nat.lt_succ_self _), hwB]; go_cell)
  clear hwB
  obtain ⟨s0, s1, s2, s3, s4, s5, sz⟩ := HK.out wB (Below.refl _ _)
  go_wp2_with fail
  go_at_call 62
  refine (l04Is_any _ _ _ _ _ _ _).mono ?_
  rw [HT.out]
  rintro e w1 ⟨rfl, b1⟩
  clear s0 s1 s2 s3 s4 s5 sz
  have HBB := Lib.hid b1
  clear b1
  go_upto_region 6 with (first | (go_at_call 74; refine (l01In_any _ _ _ _).mono ?_; rintro e wn ⟨rfl, rfl⟩))
  clear n1 n2 n3 n4 n5
  go_cut [8] (fun v8 wx => ∃ Gs : Nat, v8 = .pointer (some ⟨Gs, 0, none⟩) ∧ w1.heap.size ≤ Gs ∧ Bk2 wx Gs sx sy ∧ Below w1.heap.size w1 wx)
  case first =>
    refine wp_region_held_drew (S := fun W => Below w1.heap.size w1 W) (by kernel_rfl) ?_ (fun hHeld => ?_); focus ((try dsimp only); exact (Below.refl _ _).drew)
    have hHeld : Below w1.heap.size w1 _ := hHeld
    obtain ⟨wD, hwD⟩ : ∃ wD, w1.drew = wD := ⟨_, rfl⟩
    rw [hwD] at hHeld ⊢
    clear hwD
    (refine wpAnyH_take (i := 0) (v := ?_) rfl (by kernel_rfl) (by kernel_rfl) (by kernel_rfl) (fun _ _ _ h => h) (Or.inl ⟨rfl, ?_⟩) (by assumption) ?_; rotate_left; focus (intro W hSw; (try dsimp only at hSw); obtain ⟨i0, i1, i2, i3, i4, i5, iz⟩ := HK.out _ (below_after hSw HBB.out); go_simp; try (with_reducible rfl))); (try simp only [Act.put, List.getElem_toArray, List.getElem_cons_succ, List.getElem_cons_zero, List.setIfInBounds_toArray, List.set_cons_zero, List.set_cons_succ])
    (refine wpAnyH_take (i := 1) (v := ?_) rfl (by kernel_rfl) (by kernel_rfl) (by kernel_rfl) (fun _ _ _ h => h) (Or.inl ⟨rfl, ?_⟩) (by assumption) ?_; rotate_left; focus (intro W hSw; (try dsimp only at hSw); obtain ⟨i0, i1, i2, i3, i4, i5, iz⟩ := HK.out _ (below_after hSw HBB.out); go_simp; try (with_reducible rfl))); (try simp only [Act.put, List.getElem_toArray, List.getElem_cons_succ, List.getElem_cons_zero, List.setIfInBounds_toArray, List.set_cons_zero, List.set_cons_succ])
    (refine wpAnyH_take (i := 2) (v := ?_) rfl (by kernel_rfl) (by kernel_rfl) (by kernel_rfl) (fun _ _ _ h => h) (Or.inl ⟨rfl, ?_⟩) (by assumption) ?_; rotate_left; focus (intro W hSw; (try dsimp only at hSw); obtain ⟨i0, i1, i2, i3, i4, i5, iz⟩ := HK.out _ (below_after hSw HBB.out); go_simp; try (with_reducible rfl))); (try simp only [Act.put, List.getElem_toArray, List.getElem_cons_succ, List.getElem_cons_zero, List.setIfInBounds_toArray, List.set_cons_zero, List.set_cons_succ])
    (refine wpAnyH_take (i := 3) (v := ?_) rfl (by kernel_rfl) (by kernel_rfl) (by kernel_rfl) (fun _ _ _ h => h) (Or.inl ⟨rfl, ?_⟩) (by assumption) ?_; rotate_left; focus (intro W hSw; (try dsimp only at hSw); obtain ⟨i0, i1, i2, i3, i4, i5, iz⟩ := HK.out _ (below_after hSw HBB.out); go_simp; try (with_reducible rfl))); (try simp only [Act.put, List.getElem_toArray, List.getElem_cons_succ, List.getElem_cons_zero, List.setIfInBounds_toArray, List.set_cons_zero, List.set_cons_succ])
    (refine wpAnyH_take (i := 4) (v := ?_) rfl (by kernel_rfl) (by kernel_rfl) (by kernel_rfl) (fun _ _ _ h => h) (Or.inl ⟨rfl, ?_⟩) (by assumption) ?_; rotate_left; focus (intro W hSw; (try dsimp only at hSw); obtain ⟨i0, i1, i2, i3, i4, i5, iz⟩ := HK.out _ (below_after hSw HBB.out); go_simp; try (with_reducible rfl))); (try simp only [Act.put, List.getElem_toArray, List.getElem_cons_succ, List.getElem_cons_zero, List.setIfInBounds_toArray, List.set_cons_zero, List.set_cons_succ])
    (refine wpAnyH_take (i := 5) (v := ?_) rfl (by kernel_rfl) (by kernel_rfl) (by kernel_rfl) (fun _ _ _ h => h) (Or.inl ⟨rfl, ?_⟩) (by assumption) ?_; rotate_left; focus (intro W hSw; (try dsimp only at hSw); obtain ⟨i0, i1, i2, i3, i4, i5, iz⟩ := HK.out _ (below_after hSw HBB.out); go_simp; try (with_reducible rfl))); (try simp only [Act.put, List.getElem_toArray, List.getElem_cons_succ, List.getElem_cons_zero, List.setIfInBounds_toArray, List.set_cons_zero, List.set_cons_succ])
    refine wpAnyH_ready (rs := [6, 7]) (by kernel_rfl) (by simp) ?_; refine AllReadyH.cons rfl (fun K hK => ?_) (AllReadyH.cons rfl (fun K hK => ?_) AllReadyH.nil)
    · skip
      go_simp; (go_at_call 91; refine (HP.out _).mono ?_; rintro en yw0 ⟨rfl, hb2⟩); refine hK.out _ _ (below_after hb2 hHeld) (fun hHeld2 => ?_); clear hb2; (clear hHeld; rename _ => hHeld; clear hK K; have hHeld : Below w1.heap.size w1 _ := hHeld); (try simp only [Act.put, List.getElem_toArray, List.getElem_cons_succ, List.getElem_cons_zero, List.setIfInBounds_toArray, List.set_cons_zero, List.set_cons_succ])
      refine wpAnyH_ready (rs := [7]) (by kernel_rfl) (by simp) ?_; refine AllReadyH.cons rfl (fun K hK => ?_) AllReadyH.nil
      go_simp; obtain ⟨Gs, hGs⟩ : ∃ G, yw0.heap.size = G := ⟨_, rfl⟩; have le_s : w1.heap.size ≤ Gs := by rw [← hGs]; exact Below.size hHeld
      have Hs : Hid (Bk2 (yw0.alloc (.cells #[.int .i64 0, .int .i64 0] 25)) Gs 0 0) := by rw [← hGs]; exact bk2_new yw0 0 0 _
      refine hK.out _ _ (Below.alloc hHeld (Below.size hHeld) _) (fun hHeld2 => ?_); (clear hHeld; rename _ => hHeld; clear hK K; have hHeld : Below w1.heap.size w1 _ := hHeld); (try simp only [Act.put, List.getElem_toArray, List.getElem_cons_succ, List.getElem_cons_zero, List.setIfInBounds_toArray, List.set_cons_zero, List.set_cons_succ])
      rw [hGs]; clear hGs; obtain ⟨yw1, hwx⟩ : ∃ wx, yw0.alloc (.cells #[.int .i64 0, .int .i64 0] 25) = wx := ⟨_, rfl⟩; rw [hwx] at Hs hHeld ⊢; clear hwx
      refine wpAnyH_ready (rs := [8]) (by kernel_rfl) (by simp) ?_; refine AllReadyH.cons rfl (fun K hK => ?_) AllReadyH.nil
      obtain ⟨⟨a0, a1⟩, ⟨f0, f1⟩, az⟩ := Hs.out; go_simp; clear a0 f0 a1 f1 az
      have Hs := Lib.hid ((Hs.out.set0 sx).set1 sy)
      refine hK.out _ _ (Below.setCell (Below.setCell hHeld (p := ⟨Gs, 0, none⟩) le_s _) (p := ⟨Gs, 1, none⟩) le_s _) (fun hHeld2 => ?_); (clear hHeld; rename _ => hHeld; clear hK K; have hHeld : Below w1.heap.size w1 _ := hHeld); (try simp only [Act.put, List.getElem_toArray, List.getElem_cons_succ, List.getElem_cons_zero, List.setIfInBounds_toArray, List.set_cons_zero, List.set_cons_succ])
      obtain ⟨yw2, hwx⟩ : ∃ wx, (yw1.setCell ⟨Gs, 0, none⟩ (.int .i64 sx)).setCell ⟨Gs, 1, none⟩ (.int .i64 sy) = wx := ⟨_, rfl⟩; rw [hwx] at Hs hHeld ⊢; clear hwx
      refine wpAnyH_done (by kernel_rfl) ?_ _
      go_wp2_with fail
      go_meet
      exact ⟨Gs, rfl, le_s, Hs.out, hHeld⟩
    · skip
      go_simp; obtain ⟨Gs, hGs⟩ : ∃ G, wD.heap.size = G := ⟨_, rfl⟩; have le_s : w1.heap.size ≤ Gs := by rw [← hGs]; exact Below.size hHeld
      have Hs : Hid (Bk2 (wD.alloc (.cells #[.int .i64 0, .int .i64 0] 25)) Gs 0 0) := by rw [← hGs]; exact bk2_new wD 0 0 _
      refine hK.out _ _ (Below.alloc hHeld (Below.size hHeld) _) (fun hHeld2 => ?_); (clear hHeld; rename _ => hHeld; clear hK K; have hHeld : Below w1.heap.size w1 _ := hHeld); (try simp only [Act.put, List.getElem_toArray, List.getElem_cons_succ, List.getElem_cons_zero, List.setIfInBounds_toArray, List.set_cons_zero, List.set_cons_succ])
      rw [hGs]; clear hGs; obtain ⟨yw0, hwx⟩ : ∃ wx, wD.alloc (.cells #[.int .i64 0, .int .i64 0] 25) = wx := ⟨_, rfl⟩; rw [hwx] at Hs hHeld ⊢; clear hwx
      refine wpAnyH_ready (rs := [6]) (by kernel_rfl) (by simp) ?_; refine AllReadyH.cons rfl (fun K hK => ?_) AllReadyH.nil
      go_simp; (go_at_call 91; refine (HP.out _).mono ?_; rintro en yw1 ⟨rfl, hb2⟩); have Hs := Lib.hid (Hs.out.below hb2); refine hK.out _ _ (below_after hb2 hHeld) (fun hHeld2 => ?_); clear hb2; (clear hHeld; rename _ => hHeld; clear hK K; have hHeld : Below w1.heap.size w1 _ := hHeld); (try simp only [Act.put, List.getElem_toArray, List.getElem_cons_succ, List.getElem_cons_zero, List.setIfInBounds_toArray, List.set_cons_zero, List.set_cons_succ])
      refine wpAnyH_ready (rs := [8]) (by kernel_rfl) (by simp) ?_; refine AllReadyH.cons rfl (fun K hK => ?_) AllReadyH.nil
      obtain ⟨⟨a0, a1⟩, ⟨f0, f1⟩, az⟩ := Hs.out; go_simp; clear a0 f0 a1 f1 az
      have Hs := Lib.hid ((Hs.out.set0 sx).set1 sy)
      refine hK.out _ _ (Below.setCell (Below.setCell hHeld (p := ⟨Gs, 0, none⟩) le_s _) (p := ⟨Gs, 1, none⟩) le_s _) (fun hHeld2 => ?_); (clear hHeld; rename _ => hHeld; clear hK K; have hHeld : Below w1.heap.size w1 _ := hHeld); (try simp only [Act.put, List.getElem_toArray, List.getElem_cons_succ, List.getElem_cons_zero, List.setIfInBounds_toArray, List.set_cons_zero, List.set_cons_succ])
      obtain ⟨yw2, hwx⟩ : ∃ wx, (yw1.setCell ⟨Gs, 0, none⟩ (.int .i64 sx)).setCell ⟨Gs, 1, none⟩ (.int .i64 sy) = wx := ⟨_, rfl⟩; rw [hwx] at Hs hHeld ⊢; clear hwx
      refine wpAnyH_done (by kernel_rfl) ?_ _
      go_wp2_with fail
      go_meet
      exact ⟨Gs, rfl, le_s, Hs.out, hHeld⟩
  case rest =>
    obtain ⟨Gs, rfl, le_s, hS, hbx⟩ := hcut
    obtain ⟨w2, rfl⟩ : ∃ w2, w2 = wc := ⟨_, rfl⟩
    obtain ⟨⟨a0, a1⟩, _, az⟩ := id hS
    have hm0 : sx.tmod 2 = 0 := by have := HW.out; unfold whI at this; simp only [Bool.and_eq_true, decide_eq_true_eq] at this; exact this.1
    have hm1 : sy.tmod 2 = 0 := by have := HW.out; unfold whI at this; simp only [Bool.and_eq_true, decide_eq_true_eq] at this; exact this.2
    go_upto_region 9 with fail
    clear a0 a1 az hm0 hm1 wx1 wy1
    have HX2 : Hid (∀ W, Below w2.heap.size w2 W → Bk2 W Gs sx sy ∧ Below wB.heap.size wB W) := fun W hW => ⟨hS.below hW, below_after (below_after hW hbx) HBB.out⟩
    clear hS hbx le_s HBB
    go_cut [9, 10, 11] (fun v9 v10 v11 wx => ∃ Gm Ga Gb : Nat, v9 = .pointer (some ⟨Gm, 0, none⟩) ∧ v10 = .pointer (some ⟨Ga, 0, none⟩) ∧ v11 = .pointer (some ⟨Gb, 0, none⟩) ∧ Ga ≠ Gb ∧ Gm ≠ Ga ∧ Gm ≠ Gb ∧ w2.heap.size ≤ Ga ∧ w2.heap.size ≤ Gb ∧ Bk2 wx Gm mx my ∧ Bk6 wx Ga x0 y0 x1 y1 x2 y2 ∧ Bk6 wx Gb x0 y0 x1 y1 x2 y2 ∧ Below w2.heap.size w2 wx)
    case first =>
      refine wp_region_held_drew (S := fun W => Below w2.heap.size w2 W) (by kernel_rfl) ?_ (fun hHeld => ?_); focus ((try dsimp only); exact (Below.refl _ _).drew)
      have hHeld : Below w2.heap.size w2 _ := hHeld
      obtain ⟨wD, hwD⟩ : ∃ wD, w2.drew = wD := ⟨_, rfl⟩
      rw [hwD] at hHeld ⊢
      clear hwD
      (refine wpAnyH_take (i := 0) (v := ?_) rfl (by kernel_rfl) (by kernel_rfl) (by kernel_rfl) (fun _ _ _ h => h) (Or.inl ⟨rfl, ?_⟩) (by assumption) ?_; rotate_left; focus (intro W hSw; (try dsimp only at hSw); obtain ⟨hS2, hW2⟩ := HX2.out _ hSw; obtain ⟨⟨b0, b1⟩, _, bz⟩ := hS2; obtain ⟨i0, i1, i2, i3, i4, i5, iz⟩ := HK.out _ hW2; go_simp; try (with_reducible rfl))); (try simp only [Act.put, List.getElem_toArray, List.getElem_cons_succ, List.getElem_cons_zero, List.setIfInBounds_toArray, List.set_cons_zero, List.set_cons_succ])
      (refine wpAnyH_take (i := 1) (v := ?_) rfl (by kernel_rfl) (by kernel_rfl) (by kernel_rfl) (fun _ _ _ h => h) (Or.inl ⟨rfl, ?_⟩) (by assumption) ?_; rotate_left; focus (intro W hSw; (try dsimp only at hSw); obtain ⟨hS2, hW2⟩ := HX2.out _ hSw; obtain ⟨⟨b0, b1⟩, _, bz⟩ := hS2; obtain ⟨i0, i1, i2, i3, i4, i5, iz⟩ := HK.out _ hW2; go_simp; try (with_reducible rfl))); (try simp only [Act.put, List.getElem_toArray, List.getElem_cons_succ, List.getElem_cons_zero, List.setIfInBounds_toArray, List.set_cons_zero, List.set_cons_succ])
      (refine wpAnyH_take (i := 2) (v := ?_) rfl (by kernel_rfl) (by kernel_rfl) (by kernel_rfl) (fun _ _ _ h => h) (Or.inl ⟨rfl, ?_⟩) (by assumption) ?_; rotate_left; focus (intro W hSw; (try dsimp only at hSw); obtain ⟨hS2, hW2⟩ := HX2.out _ hSw; obtain ⟨⟨b0, b1⟩, _, bz⟩ := hS2; obtain ⟨i0, i1, i2, i3, i4, i5, iz⟩ := HK.out _ hW2; go_simp; try (with_reducible rfl))); (try simp only [Act.put, List.getElem_toArray, List.getElem_cons_succ, List.getElem_cons_zero, List.setIfInBounds_toArray, List.set_cons_zero, List.set_cons_succ])
      (refine wpAnyH_take (i := 3) (v := ?_) rfl (by kernel_rfl) (by kernel_rfl) (by kernel_rfl) (fun _ _ _ h => h) (Or.inl ⟨rfl, ?_⟩) (by assumption) ?_; rotate_left; focus (intro W hSw; (try dsimp only at hSw); obtain ⟨hS2, hW2⟩ := HX2.out _ hSw; obtain ⟨⟨b0, b1⟩, _, bz⟩ := hS2; obtain ⟨i0, i1, i2, i3, i4, i5, iz⟩ := HK.out _ hW2; go_simp; try (with_reducible rfl))); (try simp only [Act.put, List.getElem_toArray, List.getElem_cons_succ, List.getElem_cons_zero, List.setIfInBounds_toArray, List.set_cons_zero, List.set_cons_succ])
      (refine wpAnyH_take (i := 4) (v := ?_) rfl (by kernel_rfl) (by kernel_rfl) (by kernel_rfl) (fun _ _ _ h => h) (Or.inl ⟨rfl, ?_⟩) (by assumption) ?_; rotate_left; focus (intro W hSw; (try dsimp only at hSw); obtain ⟨hS2, hW2⟩ := HX2.out _ hSw; obtain ⟨⟨b0, b1⟩, _, bz⟩ := hS2; obtain ⟨i0, i1, i2, i3, i4, i5, iz⟩ := HK.out _ hW2; go_simp; try (with_reducible rfl))); (try simp only [Act.put, List.getElem_toArray, List.getElem_cons_succ, List.getElem_cons_zero, List.setIfInBounds_toArray, List.set_cons_zero, List.set_cons_succ])
      (refine wpAnyH_take (i := 5) (v := ?_) rfl (by kernel_rfl) (by kernel_rfl) (by kernel_rfl) (fun _ _ _ h => h) (Or.inl ⟨rfl, ?_⟩) (by assumption) ?_; rotate_left; focus (intro W hSw; (try dsimp only at hSw); obtain ⟨hS2, hW2⟩ := HX2.out _ hSw; obtain ⟨⟨b0, b1⟩, _, bz⟩ := hS2; obtain ⟨i0, i1, i2, i3, i4, i5, iz⟩ := HK.out _ hW2; go_simp; try (with_reducible rfl))); (try simp only [Act.put, List.getElem_toArray, List.getElem_cons_succ, List.getElem_cons_zero, List.setIfInBounds_toArray, List.set_cons_zero, List.set_cons_succ])
      (refine wpAnyH_take (i := 6) (v := ?_) rfl (by kernel_rfl) (by kernel_rfl) (by kernel_rfl) (fun _ _ _ h => h) (Or.inl ⟨rfl, ?_⟩) (by assumption) ?_; rotate_left; focus (intro W hSw; (try dsimp only at hSw); obtain ⟨hS2, hW2⟩ := HX2.out _ hSw; obtain ⟨⟨b0, b1⟩, _, bz⟩ := hS2; obtain ⟨i0, i1, i2, i3, i4, i5, iz⟩ := HK.out _ hW2; go_simp; try (with_reducible rfl))); (try simp only [Act.put, List.getElem_toArray, List.getElem_cons_succ, List.getElem_cons_zero, List.setIfInBounds_toArray, List.set_cons_zero, List.set_cons_succ])
      (refine wpAnyH_take (i := 7) (v := ?_) rfl (by kernel_rfl) (by kernel_rfl) (by kernel_rfl) (fun _ _ _ h => h) (Or.inl ⟨rfl, ?_⟩) (by assumption) ?_; rotate_left; focus (intro W hSw; (try dsimp only at hSw); obtain ⟨hS2, hW2⟩ := HX2.out _ hSw; obtain ⟨⟨b0, b1⟩, _, bz⟩ := hS2; obtain ⟨i0, i1, i2, i3, i4, i5, iz⟩ := HK.out _ hW2; go_simp; try (with_reducible rfl))); (try simp only [Act.put, List.getElem_toArray, List.getElem_cons_succ, List.getElem_cons_zero, List.setIfInBounds_toArray, List.set_cons_zero, List.set_cons_succ])
      (refine wpAnyH_take (i := 8) (v := ?_) rfl (by kernel_rfl) (by kernel_rfl) (by kernel_rfl) (fun _ _ _ h => h) (Or.inl ⟨rfl, ?_⟩) (by assumption) ?_; rotate_left; focus (intro W hSw; (try dsimp only at hSw); obtain ⟨hS2, hW2⟩ := HX2.out _ hSw; obtain ⟨⟨b0, b1⟩, _, bz⟩ := hS2; obtain ⟨i0, i1, i2, i3, i4, i5, iz⟩ := HK.out _ hW2; go_simp; try (with_reducible rfl))); (try simp only [Act.put, List.getElem_toArray, List.getElem_cons_succ, List.getElem_cons_zero, List.setIfInBounds_toArray, List.set_cons_zero, List.set_cons_succ])
      refine wpAnyH_ready (rs := [9, 10, 11]) (by kernel_rfl) (by simp) ?_; refine AllReadyH.cons rfl (fun K hK => ?_) (AllReadyH.cons rfl (fun K hK => ?_) (AllReadyH.cons rfl (fun K hK => ?_) AllReadyH.nil))
      · skip
        go_simp; obtain ⟨Gm, hGm⟩ : ∃ G, wD.heap.size = G := ⟨_, rfl⟩; have le_m : w2.heap.size ≤ Gm := by rw [← hGm]; exact Below.size hHeld
        have Hm : Hid (Bk2 (wD.alloc (.cells #[.int .i64 0, .int .i64 0] 25)) Gm 0 0) := by rw [← hGm]; exact bk2_new wD 0 0 _
        refine hK.out _ _ (Below.alloc hHeld (Below.size hHeld) _) (fun hHeld2 => ?_); (clear hHeld; rename _ => hHeld; clear hK K; have hHeld : Below w2.heap.size w2 _ := hHeld); (try simp only [Act.put, List.getElem_toArray, List.getElem_cons_succ, List.getElem_cons_zero, List.setIfInBounds_toArray, List.set_cons_zero, List.set_cons_succ])
        rw [hGm]; clear hGm; obtain ⟨yw0, hwx⟩ : ∃ wx, wD.alloc (.cells #[.int .i64 0, .int .i64 0] 25) = wx := ⟨_, rfl⟩; rw [hwx] at Hm hHeld ⊢; clear hwx
        refine wpAnyH_ready (rs := [10, 11]) (by kernel_rfl) (by simp) ?_; refine AllReadyH.cons rfl (fun K hK => ?_) (AllReadyH.cons rfl (fun K hK => ?_) AllReadyH.nil)
        · skip
          go_simp; obtain ⟨Ga, hGa⟩ : ∃ G, yw0.heap.size = G := ⟨_, rfl⟩; have le_a : w2.heap.size ≤ Ga := by rw [← hGa]; exact Below.size hHeld
          have ne_a_m : Ga ≠ Gm := by have := Hm.out.2.2; omega
          have ne_m_a : Gm ≠ Ga := Ne.symm ne_a_m
          have Hm := Lib.hid (Hm.out.below ((Below.refl _ _).alloc (Nat.le_refl _) (.cells #[.int .i64 0, .int .i64 0, .int .i64 0, .int .i64 0, .int .i64 0, .int .i64 0] 27))); skip
          have Ha : Hid (Bk6 (yw0.alloc (.cells #[.int .i64 0, .int .i64 0, .int .i64 0, .int .i64 0, .int .i64 0, .int .i64 0] 27)) Ga 0 0 0 0 0 0) := by rw [← hGa]; exact bk6_new yw0 0 0 0 0 0 0 _
          refine hK.out _ _ (Below.alloc hHeld (Below.size hHeld) _) (fun hHeld2 => ?_); (clear hHeld; rename _ => hHeld; clear hK K; have hHeld : Below w2.heap.size w2 _ := hHeld); (try simp only [Act.put, List.getElem_toArray, List.getElem_cons_succ, List.getElem_cons_zero, List.setIfInBounds_toArray, List.set_cons_zero, List.set_cons_succ])
          rw [hGa]; clear hGa; obtain ⟨yw1, hwx⟩ : ∃ wx, yw0.alloc (.cells #[.int .i64 0, .int .i64 0, .int .i64 0, .int .i64 0, .int .i64 0, .int .i64 0] 27) = wx := ⟨_, rfl⟩; rw [hwx] at Hm Ha hHeld ⊢; clear hwx
          refine wpAnyH_ready (rs := [11]) (by kernel_rfl) (by simp) ?_; refine AllReadyH.cons rfl (fun K hK => ?_) AllReadyH.nil
          go_simp; obtain ⟨Gb, hGb⟩ : ∃ G, yw1.heap.size = G := ⟨_, rfl⟩; have le_b : w2.heap.size ≤ Gb := by rw [← hGb]; exact Below.size hHeld
          have ne_b_m : Gb ≠ Gm := by have := Hm.out.2.2; omega
          have ne_m_b : Gm ≠ Gb := Ne.symm ne_b_m
          have ne_b_a : Gb ≠ Ga := by have := Ha.out.2.2; omega
          have ne_a_b : Ga ≠ Gb := Ne.symm ne_b_a
          have Hm := Lib.hid (Hm.out.below ((Below.refl _ _).alloc (Nat.le_refl _) (.cells #[.int .i64 0, .int .i64 0, .int .i64 0, .int .i64 0, .int .i64 0, .int .i64 0] 27))); have Ha := Lib.hid (Ha.out.below ((Below.refl _ _).alloc (Nat.le_refl _) (.cells #[.int .i64 0, .int .i64 0, .int .i64 0, .int .i64 0, .int .i64 0, .int .i64 0] 27))); skip
          have Hb : Hid (Bk6 (yw1.alloc (.cells #[.int .i64 0, .int .i64 0, .int .i64 0, .int .i64 0, .int .i64 0, .int .i64 0] 27)) Gb 0 0 0 0 0 0) := by rw [← hGb]; exact bk6_new yw1 0 0 0 0 0 0 _
          refine hK.out _ _ (Below.alloc hHeld (Below.size hHeld) _) (fun hHeld2 => ?_); (clear hHeld; rename _ => hHeld; clear hK K; have hHeld : Below w2.heap.size w2 _ := hHeld); (try simp only [Act.put, List.getElem_toArray, List.getElem_cons_succ, List.getElem_cons_zero, List.setIfInBounds_toArray, List.set_cons_zero, List.set_cons_succ])
          rw [hGb]; clear hGb; obtain ⟨yw2, hwx⟩ : ∃ wx, yw1.alloc (.cells #[.int .i64 0, .int .i64 0, .int .i64 0, .int .i64 0, .int .i64 0, .int .i64 0] 27) = wx := ⟨_, rfl⟩; rw [hwx] at Hm Ha Hb hHeld ⊢; clear hwx
          refine wpAnyH_ready (rs := [12]) (by kernel_rfl) (by simp) ?_; refine AllReadyH.cons rfl (fun K hK => ?_) AllReadyH.nil
          obtain ⟨⟨a0, a1⟩, ⟨f0, f1⟩, az⟩ := Hm.out; go_simp; clear a0 f0 a1 f1 az
          have Ha := Lib.hid ((Ha.out.far ⟨Gm, 0, none⟩ (.int .i64 mx) (by show Ga ≠ Gm; exact ne_a_m)).far ⟨Gm, 1, none⟩ (.int .i64 my) (by show Ga ≠ Gm; exact ne_a_m))
          have Hb := Lib.hid ((Hb.out.far ⟨Gm, 0, none⟩ (.int .i64 mx) (by show Gb ≠ Gm; exact ne_b_m)).far ⟨Gm, 1, none⟩ (.int .i64 my) (by show Gb ≠ Gm; exact ne_b_m))
          have Hm := Lib.hid ((Hm.out.set0 mx).set1 my)
          refine hK.out _ _ (Below.setCell (Below.setCell hHeld (p := ⟨Gm, 0, none⟩) le_m _) (p := ⟨Gm, 1, none⟩) le_m _) (fun hHeld2 => ?_); (clear hHeld; rename _ => hHeld; clear hK K; have hHeld : Below w2.heap.size w2 _ := hHeld); (try simp only [Act.put, List.getElem_toArray, List.getElem_cons_succ, List.getElem_cons_zero, List.setIfInBounds_toArray, List.set_cons_zero, List.set_cons_succ])
          obtain ⟨yw3, hwx⟩ : ∃ wx, (yw2.setCell ⟨Gm, 0, none⟩ (.int .i64 mx)).setCell ⟨Gm, 1, none⟩ (.int .i64 my) = wx := ⟨_, rfl⟩; rw [hwx] at Hm Ha Hb hHeld ⊢; clear hwx
          refine wpAnyH_ready (rs := [13]) (by kernel_rfl) (by simp) ?_; refine AllReadyH.cons rfl (fun K hK => ?_) AllReadyH.nil
          obtain ⟨⟨a0, a1, a2, a3, a4, a5⟩, ⟨f0, f1, f2, f3, f4, f5⟩, az⟩ := Ha.out; go_simp; clear a0 f0 a1 f1 a2 f2 a3 f3 a4 f4 a5 f5 az
          have Hm := Lib.hid ((((((Hm.out.far ⟨Ga, 0, none⟩ (.int .i64 x0) (by show Gm ≠ Ga; exact ne_m_a)).far ⟨Ga, 1, none⟩ (.int .i64 y0) (by show Gm ≠ Ga; exact ne_m_a)).far ⟨Ga, 2, none⟩ (.int .i64 x1) (by show Gm ≠ Ga; exact ne_m_a)).far ⟨Ga, 3, none⟩ (.int .i64 y1) (by show Gm ≠ Ga; exact ne_m_a)).far ⟨Ga, 4, none⟩ (.int .i64 x2) (by show Gm ≠ Ga; exact ne_m_a)).far ⟨Ga, 5, none⟩ (.int .i64 y2) (by show Gm ≠ Ga; exact ne_m_a))
          have Hb := Lib.hid ((((((Hb.out.far ⟨Ga, 0, none⟩ (.int .i64 x0) (by show Gb ≠ Ga; exact ne_b_a)).far ⟨Ga, 1, none⟩ (.int .i64 y0) (by show Gb ≠ Ga; exact ne_b_a)).far ⟨Ga, 2, none⟩ (.int .i64 x1) (by show Gb ≠ Ga; exact ne_b_a)).far ⟨Ga, 3, none⟩ (.int .i64 y1) (by show Gb ≠ Ga; exact ne_b_a)).far ⟨Ga, 4, none⟩ (.int .i64 x2) (by show Gb ≠ Ga; exact ne_b_a)).far ⟨Ga, 5, none⟩ (.int .i64 y2) (by show Gb ≠ Ga; exact ne_b_a))
          have Ha := Lib.hid ((((((Ha.out.set0 x0).set1 y0).set2 x1).set3 y1).set4 x2).set5 y2)
          refine hK.out _ _ (Below.setCell (Below.setCell (Below.setCell (Below.setCell (Below.setCell (Below.setCell hHeld (p := ⟨Ga, 0, none⟩) le_a _) (p := ⟨Ga, 1, none⟩) le_a _) (p := ⟨Ga, 2, none⟩) le_a _) (p := ⟨Ga, 3, none⟩) le_a _) (p := ⟨Ga, 4, none⟩) le_a _) (p := ⟨Ga, 5, none⟩) le_a _) (fun hHeld2 => ?_); (clear hHeld; rename _ => hHeld; clear hK K; have hHeld : Below w2.heap.size w2 _ := hHeld); (try simp only [Act.put, List.getElem_toArray, List.getElem_cons_succ, List.getElem_cons_zero, List.setIfInBounds_toArray, List.set_cons_zero, List.set_cons_succ])
          obtain ⟨yw4, hwx⟩ : ∃ wx, (((((yw3.setCell ⟨Ga, 0, none⟩ (.int .i64 x0)).setCell ⟨Ga, 1, none⟩ (.int .i64 y0)).setCell ⟨Ga, 2, none⟩ (.int .i64 x1)).setCell ⟨Ga, 3, none⟩ (.int .i64 y1)).setCell ⟨Ga, 4, none⟩ (.int .i64 x2)).setCell ⟨Ga, 5, none⟩ (.int .i64 y2) = wx := ⟨_, rfl⟩; rw [hwx] at Hm Ha Hb hHeld ⊢; clear hwx
          refine wpAnyH_ready (rs := [14]) (by kernel_rfl) (by simp) ?_; refine AllReadyH.cons rfl (fun K hK => ?_) AllReadyH.nil
          obtain ⟨⟨a0, a1, a2, a3, a4, a5⟩, ⟨f0, f1, f2, f3, f4, f5⟩, az⟩ := Hb.out; go_simp; clear a0 f0 a1 f1 a2 f2 a3 f3 a4 f4 a5 f5 az
          have Hm := Lib.hid ((((((Hm.out.far ⟨Gb, 0, none⟩ (.int .i64 x0) (by show Gm ≠ Gb; exact ne_m_b)).far ⟨Gb, 1, none⟩ (.int .i64 y0) (by show Gm ≠ Gb; exact ne_m_b)).far ⟨Gb, 2, none⟩ (.int .i64 x1) (by show Gm ≠ Gb; exact ne_m_b)).far ⟨Gb, 3, none⟩ (.int .i64 y1) (by show Gm ≠ Gb; exact ne_m_b)).far ⟨Gb, 4, none⟩ (.int .i64 x2) (by show Gm ≠ Gb; exact ne_m_b)).far ⟨Gb, 5, none⟩ (.int .i64 y2) (by show Gm ≠ Gb; exact ne_m_b))
          have Ha := Lib.hid ((((((Ha.out.far ⟨Gb, 0, none⟩ (.int .i64 x0) (by show Ga ≠ Gb; exact ne_a_b)).far ⟨Gb, 1, none⟩ (.int .i64 y0) (by show Ga ≠ Gb; exact ne_a_b)).far ⟨Gb, 2, none⟩ (.int .i64 x1) (by show Ga ≠ Gb; exact ne_a_b)).far ⟨Gb, 3, none⟩ (.int .i64 y1) (by show Ga ≠ Gb; exact ne_a_b)).far ⟨Gb, 4, none⟩ (.int .i64 x2) (by show Ga ≠ Gb; exact ne_a_b)).far ⟨Gb, 5, none⟩ (.int .i64 y2) (by show Ga ≠ Gb; exact ne_a_b))
          have Hb := Lib.hid ((((((Hb.out.set0 x0).set1 y0).set2 x1).set3 y1).set4 x2).set5 y2)
          refine hK.out _ _ (Below.setCell (Below.setCell (Below.setCell (Below.setCell (Below.setCell (Below.setCell hHeld (p := ⟨Gb, 0, none⟩) le_b _) (p := ⟨Gb, 1, none⟩) le_b _) (p := ⟨Gb, 2, none⟩) le_b _) (p := ⟨Gb, 3, none⟩) le_b _) (p := ⟨Gb, 4, none⟩) le_b _) (p := ⟨Gb, 5, none⟩) le_b _) (fun hHeld2 => ?_); (clear hHeld; rename _ => hHeld; clear hK K; have hHeld : Below w2.heap.size w2 _ := hHeld); (try simp only [Act.put, List.getElem_toArray, List.getElem_cons_succ, List.getElem_cons_zero, List.setIfInBounds_toArray, List.set_cons_zero, List.set_cons_succ])
          obtain ⟨yw5, hwx⟩ : ∃ wx, (((((yw4.setCell ⟨Gb, 0, none⟩ (.int .i64 x0)).setCell ⟨Gb, 1, none⟩ (.int .i64 y0)).setCell ⟨Gb, 2, none⟩ (.int .i64 x1)).setCell ⟨Gb, 3, none⟩ (.int .i64 y1)).setCell ⟨Gb, 4, none⟩ (.int .i64 x2)).setCell ⟨Gb, 5, none⟩ (.int .i64 y2) = wx := ⟨_, rfl⟩; rw [hwx] at Hm Ha Hb hHeld ⊢; clear hwx
          refine wpAnyH_done (by kernel_rfl) ?_ _
          go_wp2_with fail
          go_meet
          exact ⟨Gm, Ga, Gb, rfl, rfl, rfl, ne_a_b, ne_m_a, ne_m_b, le_a, le_b, Hm.out, Ha.out, Hb.out, hHeld⟩
        · skip
          go_simp; obtain ⟨Gb, hGb⟩ : ∃ G, yw0.heap.size = G := ⟨_, rfl⟩; have le_b : w2.heap.size ≤ Gb := by rw [← hGb]; exact Below.size hHeld
          have ne_b_m : Gb ≠ Gm := by have := Hm.out.2.2; omega
          have ne_m_b : Gm ≠ Gb := Ne.symm ne_b_m
          have Hm := Lib.hid (Hm.out.below ((Below.refl _ _).alloc (Nat.le_refl _) (.cells #[.int .i64 0, .int .i64 0, .int .i64 0, .int .i64 0, .int .i64 0, .int .i64 0] 27))); skip
          have Hb : Hid (Bk6 (yw0.alloc (.cells #[.int .i64 0, .int .i64 0, .int .i64 0, .int .i64 0, .int .i64 0, .int .i64 0] 27)) Gb 0 0 0 0 0 0) := by rw [← hGb]; exact bk6_new yw0 0 0 0 0 0 0 _
          refine hK.out _ _ (Below.alloc hHeld (Below.size hHeld) _) (fun hHeld2 => ?_); (clear hHeld; rename _ => hHeld; clear hK K; have hHeld : Below w2.heap.size w2 _ := hHeld); (try simp only [Act.put, List.getElem_toArray, List.getElem_cons_succ, List.getElem_cons_zero, List.setIfInBounds_toArray, List.set_cons_zero, List.set_cons_succ])
          rw [hGb]; clear hGb; obtain ⟨yw1, hwx⟩ : ∃ wx, yw0.alloc (.cells #[.int .i64 0, .int .i64 0, .int .i64 0, .int .i64 0, .int .i64 0, .int .i64 0] 27) = wx := ⟨_, rfl⟩; rw [hwx] at Hm Hb hHeld ⊢; clear hwx
          refine wpAnyH_ready (rs := [10]) (by kernel_rfl) (by simp) ?_; refine AllReadyH.cons rfl (fun K hK => ?_) AllReadyH.nil
          go_simp; obtain ⟨Ga, hGa⟩ : ∃ G, yw1.heap.size = G := ⟨_, rfl⟩; have le_a : w2.heap.size ≤ Ga := by rw [← hGa]; exact Below.size hHeld
          have ne_a_m : Ga ≠ Gm := by have := Hm.out.2.2; omega
          have ne_m_a : Gm ≠ Ga := Ne.symm ne_a_m
          have ne_a_b : Ga ≠ Gb := by have := Hb.out.2.2; omega
          have ne_b_a : Gb ≠ Ga := Ne.symm ne_a_b
          have Hm := Lib.hid (Hm.out.below ((Below.refl _ _).alloc (Nat.le_refl _) (.cells #[.int .i64 0, .int .i64 0, .int .i64 0, .int .i64 0, .int .i64 0, .int .i64 0] 27))); have Hb := Lib.hid (Hb.out.below ((Below.refl _ _).alloc (Nat.le_refl _) (.cells #[.int .i64 0, .int .i64 0, .int .i64 0, .int .i64 0, .int .i64 0, .int .i64 0] 27))); skip
          have Ha : Hid (Bk6 (yw1.alloc (.cells #[.int .i64 0, .int .i64 0, .int .i64 0, .int .i64 0, .int .i64 0, .int .i64 0] 27)) Ga 0 0 0 0 0 0) := by rw [← hGa]; exact bk6_new yw1 0 0 0 0 0 0 _
          refine hK.out _ _ (Below.alloc hHeld (Below.size hHeld) _) (fun hHeld2 => ?_); (clear hHeld; rename _ => hHeld; clear hK K; have hHeld : Below w2.heap.size w2 _ := hHeld); (try simp only [Act.put, List.getElem_toArray, List.getElem_cons_succ, List.getElem_cons_zero, List.setIfInBounds_toArray, List.set_cons_zero, List.set_cons_succ])
          rw [hGa]; clear hGa; obtain ⟨yw2, hwx⟩ : ∃ wx, yw1.alloc (.cells #[.int .i64 0, .int .i64 0, .int .i64 0, .int .i64 0, .int .i64 0, .int .i64 0] 27) = wx := ⟨_, rfl⟩; rw [hwx] at Hm Hb Ha hHeld ⊢; clear hwx
          refine wpAnyH_ready (rs := [12]) (by kernel_rfl) (by simp) ?_; refine AllReadyH.cons rfl (fun K hK => ?_) AllReadyH.nil
          obtain ⟨⟨a0, a1⟩, ⟨f0, f1⟩, az⟩ := Hm.out; go_simp; clear a0 f0 a1 f1 az
          have Hb := Lib.hid ((Hb.out.far ⟨Gm, 0, none⟩ (.int .i64 mx) (by show Gb ≠ Gm; exact ne_b_m)).far ⟨Gm, 1, none⟩ (.int .i64 my) (by show Gb ≠ Gm; exact ne_b_m))
          have Ha := Lib.hid ((Ha.out.far ⟨Gm, 0, none⟩ (.int .i64 mx) (by show Ga ≠ Gm; exact ne_a_m)).far ⟨Gm, 1, none⟩ (.int .i64 my) (by show Ga ≠ Gm; exact ne_a_m))
          have Hm := Lib.hid ((Hm.out.set0 mx).set1 my)
          refine hK.out _ _ (Below.setCell (Below.setCell hHeld (p := ⟨Gm, 0, none⟩) le_m _) (p := ⟨Gm, 1, none⟩) le_m _) (fun hHeld2 => ?_); (clear hHeld; rename _ => hHeld; clear hK K; have hHeld : Below w2.heap.size w2 _ := hHeld); (try simp only [Act.put, List.getElem_toArray, List.getElem_cons_succ, List.getElem_cons_zero, List.setIfInBounds_toArray, List.set_cons_zero, List.set_cons_succ])
          obtain ⟨yw3, hwx⟩ : ∃ wx, (yw2.setCell ⟨Gm, 0, none⟩ (.int .i64 mx)).setCell ⟨Gm, 1, none⟩ (.int .i64 my) = wx := ⟨_, rfl⟩; rw [hwx] at Hm Hb Ha hHeld ⊢; clear hwx
          refine wpAnyH_ready (rs := [13]) (by kernel_rfl) (by simp) ?_; refine AllReadyH.cons rfl (fun K hK => ?_) AllReadyH.nil
          obtain ⟨⟨a0, a1, a2, a3, a4, a5⟩, ⟨f0, f1, f2, f3, f4, f5⟩, az⟩ := Ha.out; go_simp; clear a0 f0 a1 f1 a2 f2 a3 f3 a4 f4 a5 f5 az
          have Hm := Lib.hid ((((((Hm.out.far ⟨Ga, 0, none⟩ (.int .i64 x0) (by show Gm ≠ Ga; exact ne_m_a)).far ⟨Ga, 1, none⟩ (.int .i64 y0) (by show Gm ≠ Ga; exact ne_m_a)).far ⟨Ga, 2, none⟩ (.int .i64 x1) (by show Gm ≠ Ga; exact ne_m_a)).far ⟨Ga, 3, none⟩ (.int .i64 y1) (by show Gm ≠ Ga; exact ne_m_a)).far ⟨Ga, 4, none⟩ (.int .i64 x2) (by show Gm ≠ Ga; exact ne_m_a)).far ⟨Ga, 5, none⟩ (.int .i64 y2) (by show Gm ≠ Ga; exact ne_m_a))
          have Hb := Lib.hid ((((((Hb.out.far ⟨Ga, 0, none⟩ (.int .i64 x0) (by show Gb ≠ Ga; exact ne_b_a)).far ⟨Ga, 1, none⟩ (.int .i64 y0) (by show Gb ≠ Ga; exact ne_b_a)).far ⟨Ga, 2, none⟩ (.int .i64 x1) (by show Gb ≠ Ga; exact ne_b_a)).far ⟨Ga, 3, none⟩ (.int .i64 y1) (by show Gb ≠ Ga; exact ne_b_a)).far ⟨Ga, 4, none⟩ (.int .i64 x2) (by show Gb ≠ Ga; exact ne_b_a)).far ⟨Ga, 5, none⟩ (.int .i64 y2) (by show Gb ≠ Ga; exact ne_b_a))
          have Ha := Lib.hid ((((((Ha.out.set0 x0).set1 y0).set2 x1).set3 y1).set4 x2).set5 y2)
          refine hK.out _ _ (Below.setCell (Below.setCell (Below.setCell (Below.setCell (Below.setCell (Below.setCell hHeld (p := ⟨Ga, 0, none⟩) le_a _) (p := ⟨Ga, 1, none⟩) le_a _) (p := ⟨Ga, 2, none⟩) le_a _) (p := ⟨Ga, 3, none⟩) le_a _) (p := ⟨Ga, 4, none⟩) le_a _) (p := ⟨Ga, 5, none⟩) le_a _) (fun hHeld2 => ?_); (clear hHeld; rename _ => hHeld; clear hK K; have hHeld : Below w2.heap.size w2 _ := hHeld); (try simp only [Act.put, List.getElem_toArray, List.getElem_cons_succ, List.getElem_cons_zero, List.setIfInBounds_toArray, List.set_cons_zero, List.set_cons_succ])
          obtain ⟨yw4, hwx⟩ : ∃ wx, (((((yw3.setCell ⟨Ga, 0, none⟩ (.int .i64 x0)).setCell ⟨Ga, 1, none⟩ (.int .i64 y0)).setCell ⟨Ga, 2, none⟩ (.int .i64 x1)).setCell ⟨Ga, 3, none⟩ (.int .i64 y1)).setCell ⟨Ga, 4, none⟩ (.int .i64 x2)).setCell ⟨Ga, 5, none⟩ (.int .i64 y2) = wx := ⟨_, rfl⟩; rw [hwx] at Hm Hb Ha hHeld ⊢; clear hwx
          refine wpAnyH_ready (rs := [14]) (by kernel_rfl) (by simp) ?_; refine AllReadyH.cons rfl (fun K hK => ?_) AllReadyH.nil
          obtain ⟨⟨a0, a1, a2, a3, a4, a5⟩, ⟨f0, f1, f2, f3, f4, f5⟩, az⟩ := Hb.out; go_simp; clear a0 f0 a1 f1 a2 f2 a3 f3 a4 f4 a5 f5 az
          have Hm := Lib.hid ((((((Hm.out.far ⟨Gb, 0, none⟩ (.int .i64 x0) (by show Gm ≠ Gb; exact ne_m_b)).far ⟨Gb, 1, none⟩ (.int .i64 y0) (by show Gm ≠ Gb; exact ne_m_b)).far ⟨Gb, 2, none⟩ (.int .i64 x1) (by show Gm ≠ Gb; exact ne_m_b)).far ⟨Gb, 3, none⟩ (.int .i64 y1) (by show Gm ≠ Gb; exact ne_m_b)).far ⟨Gb, 4, none⟩ (.int .i64 x2) (by show Gm ≠ Gb; exact ne_m_b)).far ⟨Gb, 5, none⟩ (.int .i64 y2) (by show Gm ≠ Gb; exact ne_m_b))
          have Ha := Lib.hid ((((((Ha.out.far ⟨Gb, 0, none⟩ (.int .i64 x0) (by show Ga ≠ Gb; exact ne_a_b)).far ⟨Gb, 1, none⟩ (.int .i64 y0) (by show Ga ≠ Gb; exact ne_a_b)).far ⟨Gb, 2, none⟩ (.int .i64 x1) (by show Ga ≠ Gb; exact ne_a_b)).far ⟨Gb, 3, none⟩ (.int .i64 y1) (by show Ga ≠ Gb; exact ne_a_b)).far ⟨Gb, 4, none⟩ (.int .i64 x2) (by show Ga ≠ Gb; exact ne_a_b)).far ⟨Gb, 5, none⟩ (.int .i64 y2) (by show Ga ≠ Gb; exact ne_a_b))
          have Hb := Lib.hid ((((((Hb.out.set0 x0).set1 y0).set2 x1).set3 y1).set4 x2).set5 y2)
          refine hK.out _ _ (Below.setCell (Below.setCell (Below.setCell (Below.setCell (Below.setCell (Below.setCell hHeld (p := ⟨Gb, 0, none⟩) le_b _) (p := ⟨Gb, 1, none⟩) le_b _) (p := ⟨Gb, 2, none⟩) le_b _) (p := ⟨Gb, 3, none⟩) le_b _) (p := ⟨Gb, 4, none⟩) le_b _) (p := ⟨Gb, 5, none⟩) le_b _) (fun hHeld2 => ?_); (clear hHeld; rename _ => hHeld; clear hK K; have hHeld : Below w2.heap.size w2 _ := hHeld); (try simp only [Act.put, List.getElem_toArray, List.getElem_cons_succ, List.getElem_cons_zero, List.setIfInBounds_toArray, List.set_cons_zero, List.set_cons_succ])
          obtain ⟨yw5, hwx⟩ : ∃ wx, (((((yw4.setCell ⟨Gb, 0, none⟩ (.int .i64 x0)).setCell ⟨Gb, 1, none⟩ (.int .i64 y0)).setCell ⟨Gb, 2, none⟩ (.int .i64 x1)).setCell ⟨Gb, 3, none⟩ (.int .i64 y1)).setCell ⟨Gb, 4, none⟩ (.int .i64 x2)).setCell ⟨Gb, 5, none⟩ (.int .i64 y2) = wx := ⟨_, rfl⟩; rw [hwx] at Hm Hb Ha hHeld ⊢; clear hwx
          refine wpAnyH_done (by kernel_rfl) ?_ _
          go_wp2_with fail
          go_meet
          exact ⟨Gm, Ga, Gb, rfl, rfl, rfl, ne_a_b, ne_m_a, ne_m_b, le_a, le_b, Hm.out, Ha.out, Hb.out, hHeld⟩
      · skip
        go_simp; obtain ⟨Ga, hGa⟩ : ∃ G, wD.heap.size = G := ⟨_, rfl⟩; have le_a : w2.heap.size ≤ Ga := by rw [← hGa]; exact Below.size hHeld
        have Ha : Hid (Bk6 (wD.alloc (.cells #[.int .i64 0, .int .i64 0, .int .i64 0, .int .i64 0, .int .i64 0, .int .i64 0] 27)) Ga 0 0 0 0 0 0) := by rw [← hGa]; exact bk6_new wD 0 0 0 0 0 0 _
        refine hK.out _ _ (Below.alloc hHeld (Below.size hHeld) _) (fun hHeld2 => ?_); (clear hHeld; rename _ => hHeld; clear hK K; have hHeld : Below w2.heap.size w2 _ := hHeld); (try simp only [Act.put, List.getElem_toArray, List.getElem_cons_succ, List.getElem_cons_zero, List.setIfInBounds_toArray, List.set_cons_zero, List.set_cons_succ])
        rw [hGa]; clear hGa; obtain ⟨yw0, hwx⟩ : ∃ wx, wD.alloc (.cells #[.int .i64 0, .int .i64 0, .int .i64 0, .int .i64 0, .int .i64 0, .int .i64 0] 27) = wx := ⟨_, rfl⟩; rw [hwx] at Ha hHeld ⊢; clear hwx
        refine wpAnyH_ready (rs := [9, 11]) (by kernel_rfl) (by simp) ?_; refine AllReadyH.cons rfl (fun K hK => ?_) (AllReadyH.cons rfl (fun K hK => ?_) AllReadyH.nil)
        · skip
          go_simp; obtain ⟨Gm, hGm⟩ : ∃ G, yw0.heap.size = G := ⟨_, rfl⟩; have le_m : w2.heap.size ≤ Gm := by rw [← hGm]; exact Below.size hHeld
          have ne_m_a : Gm ≠ Ga := by have := Ha.out.2.2; omega
          have ne_a_m : Ga ≠ Gm := Ne.symm ne_m_a
          have Ha := Lib.hid (Ha.out.below ((Below.refl _ _).alloc (Nat.le_refl _) (.cells #[.int .i64 0, .int .i64 0] 25))); skip
          have Hm : Hid (Bk2 (yw0.alloc (.cells #[.int .i64 0, .int .i64 0] 25)) Gm 0 0) := by rw [← hGm]; exact bk2_new yw0 0 0 _
          refine hK.out _ _ (Below.alloc hHeld (Below.size hHeld) _) (fun hHeld2 => ?_); (clear hHeld; rename _ => hHeld; clear hK K; have hHeld : Below w2.heap.size w2 _ := hHeld); (try simp only [Act.put, List.getElem_toArray, List.getElem_cons_succ, List.getElem_cons_zero, List.setIfInBounds_toArray, List.set_cons_zero, List.set_cons_succ])
          rw [hGm]; clear hGm; obtain ⟨yw1, hwx⟩ : ∃ wx, yw0.alloc (.cells #[.int .i64 0, .int .i64 0] 25) = wx := ⟨_, rfl⟩; rw [hwx] at Ha Hm hHeld ⊢; clear hwx
          refine wpAnyH_ready (rs := [11]) (by kernel_rfl) (by simp) ?_; refine AllReadyH.cons rfl (fun K hK => ?_) AllReadyH.nil
          go_simp; obtain ⟨Gb, hGb⟩ : ∃ G, yw1.heap.size = G := ⟨_, rfl⟩; have le_b : w2.heap.size ≤ Gb := by rw [← hGb]; exact Below.size hHeld
          have ne_b_a : Gb ≠ Ga := by have := Ha.out.2.2; omega
          have ne_a_b : Ga ≠ Gb := Ne.symm ne_b_a
          have ne_b_m : Gb ≠ Gm := by have := Hm.out.2.2; omega
          have ne_m_b : Gm ≠ Gb := Ne.symm ne_b_m
          have Ha := Lib.hid (Ha.out.below ((Below.refl _ _).alloc (Nat.le_refl _) (.cells #[.int .i64 0, .int .i64 0, .int .i64 0, .int .i64 0, .int .i64 0, .int .i64 0] 27))); have Hm := Lib.hid (Hm.out.below ((Below.refl _ _).alloc (Nat.le_refl _) (.cells #[.int .i64 0, .int .i64 0, .int .i64 0, .int .i64 0, .int .i64 0, .int .i64 0] 27))); skip
          have Hb : Hid (Bk6 (yw1.alloc (.cells #[.int .i64 0, .int .i64 0, .int .i64 0, .int .i64 0, .int .i64 0, .int .i64 0] 27)) Gb 0 0 0 0 0 0) := by rw [← hGb]; exact bk6_new yw1 0 0 0 0 0 0 _
          refine hK.out _ _ (Below.alloc hHeld (Below.size hHeld) _) (fun hHeld2 => ?_); (clear hHeld; rename _ => hHeld; clear hK K; have hHeld : Below w2.heap.size w2 _ := hHeld); (try simp only [Act.put, List.getElem_toArray, List.getElem_cons_succ, List.getElem_cons_zero, List.setIfInBounds_toArray, List.set_cons_zero, List.set_cons_succ])
          rw [hGb]; clear hGb; obtain ⟨yw2, hwx⟩ : ∃ wx, yw1.alloc (.cells #[.int .i64 0, .int .i64 0, .int .i64 0, .int .i64 0, .int .i64 0, .int .i64 0] 27) = wx := ⟨_, rfl⟩; rw [hwx] at Ha Hm Hb hHeld ⊢; clear hwx
          refine wpAnyH_ready (rs := [12]) (by kernel_rfl) (by simp) ?_; refine AllReadyH.cons rfl (fun K hK => ?_) AllReadyH.nil
          obtain ⟨⟨a0, a1⟩, ⟨f0, f1⟩, az⟩ := Hm.out; go_simp; clear a0 f0 a1 f1 az
          have Ha := Lib.hid ((Ha.out.far ⟨Gm, 0, none⟩ (.int .i64 mx) (by show Ga ≠ Gm; exact ne_a_m)).far ⟨Gm, 1, none⟩ (.int .i64 my) (by show Ga ≠ Gm; exact ne_a_m))
          have Hb := Lib.hid ((Hb.out.far ⟨Gm, 0, none⟩ (.int .i64 mx) (by show Gb ≠ Gm; exact ne_b_m)).far ⟨Gm, 1, none⟩ (.int .i64 my) (by show Gb ≠ Gm; exact ne_b_m))
          have Hm := Lib.hid ((Hm.out.set0 mx).set1 my)
          refine hK.out _ _ (Below.setCell (Below.setCell hHeld (p := ⟨Gm, 0, none⟩) le_m _) (p := ⟨Gm, 1, none⟩) le_m _) (fun hHeld2 => ?_); (clear hHeld; rename _ => hHeld; clear hK K; have hHeld : Below w2.heap.size w2 _ := hHeld); (try simp only [Act.put, List.getElem_toArray, List.getElem_cons_succ, List.getElem_cons_zero, List.setIfInBounds_toArray, List.set_cons_zero, List.set_cons_succ])
          obtain ⟨yw3, hwx⟩ : ∃ wx, (yw2.setCell ⟨Gm, 0, none⟩ (.int .i64 mx)).setCell ⟨Gm, 1, none⟩ (.int .i64 my) = wx := ⟨_, rfl⟩; rw [hwx] at Ha Hm Hb hHeld ⊢; clear hwx
          refine wpAnyH_ready (rs := [13]) (by kernel_rfl) (by simp) ?_; refine AllReadyH.cons rfl (fun K hK => ?_) AllReadyH.nil
          obtain ⟨⟨a0, a1, a2, a3, a4, a5⟩, ⟨f0, f1, f2, f3, f4, f5⟩, az⟩ := Ha.out; go_simp; clear a0 f0 a1 f1 a2 f2 a3 f3 a4 f4 a5 f5 az
          have Hm := Lib.hid ((((((Hm.out.far ⟨Ga, 0, none⟩ (.int .i64 x0) (by show Gm ≠ Ga; exact ne_m_a)).far ⟨Ga, 1, none⟩ (.int .i64 y0) (by show Gm ≠ Ga; exact ne_m_a)).far ⟨Ga, 2, none⟩ (.int .i64 x1) (by show Gm ≠ Ga; exact ne_m_a)).far ⟨Ga, 3, none⟩ (.int .i64 y1) (by show Gm ≠ Ga; exact ne_m_a)).far ⟨Ga, 4, none⟩ (.int .i64 x2) (by show Gm ≠ Ga; exact ne_m_a)).far ⟨Ga, 5, none⟩ (.int .i64 y2) (by show Gm ≠ Ga; exact ne_m_a))
          have Hb := Lib.hid ((((((Hb.out.far ⟨Ga, 0, none⟩ (.int .i64 x0) (by show Gb ≠ Ga; exact ne_b_a)).far ⟨Ga, 1, none⟩ (.int .i64 y0) (by show Gb ≠ Ga; exact ne_b_a)).far ⟨Ga, 2, none⟩ (.int .i64 x1) (by show Gb ≠ Ga; exact ne_b_a)).far ⟨Ga, 3, none⟩ (.int .i64 y1) (by show Gb ≠ Ga; exact ne_b_a)).far ⟨Ga, 4, none⟩ (.int .i64 x2) (by show Gb ≠ Ga; exact ne_b_a)).far ⟨Ga, 5, none⟩ (.int .i64 y2) (by show Gb ≠ Ga; exact ne_b_a))
          have Ha := Lib.hid ((((((Ha.out.set0 x0).set1 y0).set2 x1).set3 y1).set4 x2).set5 y2)
          refine hK.out _ _ (Below.setCell (Below.setCell (Below.setCell (Below.setCell (Below.setCell (Below.setCell hHeld (p := ⟨Ga, 0, none⟩) le_a _) (p := ⟨Ga, 1, none⟩) le_a _) (p := ⟨Ga, 2, none⟩) le_a _) (p := ⟨Ga, 3, none⟩) le_a _) (p := ⟨Ga, 4, none⟩) le_a _) (p := ⟨Ga, 5, none⟩) le_a _) (fun hHeld2 => ?_); (clear hHeld; rename _ => hHeld; clear hK K; have hHeld : Below w2.heap.size w2 _ := hHeld); (try simp only [Act.put, List.getElem_toArray, List.getElem_cons_succ, List.getElem_cons_zero, List.setIfInBounds_toArray, List.set_cons_zero, List.set_cons_succ])
          obtain ⟨yw4, hwx⟩ : ∃ wx, (((((yw3.setCell ⟨Ga, 0, none⟩ (.int .i64 x0)).setCell ⟨Ga, 1, none⟩ (.int .i64 y0)).setCell ⟨Ga, 2, none⟩ (.int .i64 x1)).setCell ⟨Ga, 3, none⟩ (.int .i64 y1)).setCell ⟨Ga, 4, none⟩ (.int .i64 x2)).setCell ⟨Ga, 5, none⟩ (.int .i64 y2) = wx := ⟨_, rfl⟩; rw [hwx] at Ha Hm Hb hHeld ⊢; clear hwx
          refine wpAnyH_ready (rs := [14]) (by kernel_rfl) (by simp) ?_; refine AllReadyH.cons rfl (fun K hK => ?_) AllReadyH.nil
          obtain ⟨⟨a0, a1, a2, a3, a4, a5⟩, ⟨f0, f1, f2, f3, f4, f5⟩, az⟩ := Hb.out; go_simp; clear a0 f0 a1 f1 a2 f2 a3 f3 a4 f4 a5 f5 az
          have Ha := Lib.hid ((((((Ha.out.far ⟨Gb, 0, none⟩ (.int .i64 x0) (by show Ga ≠ Gb; exact ne_a_b)).far ⟨Gb, 1, none⟩ (.int .i64 y0) (by show Ga ≠ Gb; exact ne_a_b)).far ⟨Gb, 2, none⟩ (.int .i64 x1) (by show Ga ≠ Gb; exact ne_a_b)).far ⟨Gb, 3, none⟩ (.int .i64 y1) (by show Ga ≠ Gb; exact ne_a_b)).far ⟨Gb, 4, none⟩ (.int .i64 x2) (by show Ga ≠ Gb; exact ne_a_b)).far ⟨Gb, 5, none⟩ (.int .i64 y2) (by show Ga ≠ Gb; exact ne_a_b))
          have Hm := Lib.hid ((((((Hm.out.far ⟨Gb, 0, none⟩ (.int .i64 x0) (by show Gm ≠ Gb; exact ne_m_b)).far ⟨Gb, 1, none⟩ (.int .i64 y0) (by show Gm ≠ Gb; exact ne_m_b)).far ⟨Gb, 2, none⟩ (.int .i64 x1) (by show Gm ≠ Gb; exact ne_m_b)).far ⟨Gb, 3, none⟩ (.int .i64 y1) (by show Gm ≠ Gb; exact ne_m_b)).far ⟨Gb, 4, none⟩ (.int .i64 x2) (by show Gm ≠ Gb; exact ne_m_b)).far ⟨Gb, 5, none⟩ (.int .i64 y2) (by show Gm ≠ Gb; exact ne_m_b))
          have Hb := Lib.hid ((((((Hb.out.set0 x0).set1 y0).set2 x1).set3 y1).set4 x2).set5 y2)
          refine hK.out _ _ (Below.setCell (Below.setCell (Below.setCell (Below.setCell (Below.setCell (Below.setCell hHeld (p := ⟨Gb, 0, none⟩) le_b _) (p := ⟨Gb, 1, none⟩) le_b _) (p := ⟨Gb, 2, none⟩) le_b _) (p := ⟨Gb, 3, none⟩) le_b _) (p := ⟨Gb, 4, none⟩) le_b _) (p := ⟨Gb, 5, none⟩) le_b _) (fun hHeld2 => ?_); (clear hHeld; rename _ => hHeld; clear hK K; have hHeld : Below w2.heap.size w2 _ := hHeld); (try simp only [Act.put, List.getElem_toArray, List.getElem_cons_succ, List.getElem_cons_zero, List.setIfInBounds_toArray, List.set_cons_zero, List.set_cons_succ])
          obtain ⟨yw5, hwx⟩ : ∃ wx, (((((yw4.setCell ⟨Gb, 0, none⟩ (.int .i64 x0)).setCell ⟨Gb, 1, none⟩ (.int .i64 y0)).setCell ⟨Gb, 2, none⟩ (.int .i64 x1)).setCell ⟨Gb, 3, none⟩ (.int .i64 y1)).setCell ⟨Gb, 4, none⟩ (.int .i64 x2)).setCell ⟨Gb, 5, none⟩ (.int .i64 y2) = wx := ⟨_, rfl⟩; rw [hwx] at Ha Hm Hb hHeld ⊢; clear hwx
          refine wpAnyH_done (by kernel_rfl) ?_ _
          go_wp2_with fail
          go_meet
          exact ⟨Gm, Ga, Gb, rfl, rfl, rfl, ne_a_b, ne_m_a, ne_m_b, le_a, le_b, Hm.out, Ha.out, Hb.out, hHeld⟩
        · skip
          go_simp; obtain ⟨Gb, hGb⟩ : ∃ G, yw0.heap.size = G := ⟨_, rfl⟩; have le_b : w2.heap.size ≤ Gb := by rw [← hGb]; exact Below.size hHeld
          have ne_b_a : Gb ≠ Ga := by have := Ha.out.2.2; omega
          have ne_a_b : Ga ≠ Gb := Ne.symm ne_b_a
          have Ha := Lib.hid (Ha.out.below ((Below.refl _ _).alloc (Nat.le_refl _) (.cells #[.int .i64 0, .int .i64 0, .int .i64 0, .int .i64 0, .int .i64 0, .int .i64 0] 27))); skip
          have Hb : Hid (Bk6 (yw0.alloc (.cells #[.int .i64 0, .int .i64 0, .int .i64 0, .int .i64 0, .int .i64 0, .int .i64 0] 27)) Gb 0 0 0 0 0 0) := by rw [← hGb]; exact bk6_new yw0 0 0 0 0 0 0 _
          refine hK.out _ _ (Below.alloc hHeld (Below.size hHeld) _) (fun hHeld2 => ?_); (clear hHeld; rename _ => hHeld; clear hK K; have hHeld : Below w2.heap.size w2 _ := hHeld); (try simp only [Act.put, List.getElem_toArray, List.getElem_cons_succ, List.getElem_cons_zero, List.setIfInBounds_toArray, List.set_cons_zero, List.set_cons_succ])
          rw [hGb]; clear hGb; obtain ⟨yw1, hwx⟩ : ∃ wx, yw0.alloc (.cells #[.int .i64 0, .int .i64 0, .int .i64 0, .int .i64 0, .int .i64 0, .int .i64 0] 27) = wx := ⟨_, rfl⟩; rw [hwx] at Ha Hb hHeld ⊢; clear hwx
          refine wpAnyH_ready (rs := [9]) (by kernel_rfl) (by simp) ?_; refine AllReadyH.cons rfl (fun K hK => ?_) AllReadyH.nil
          go_simp; obtain ⟨Gm, hGm⟩ : ∃ G, yw1.heap.size = G := ⟨_, rfl⟩; have le_m : w2.heap.size ≤ Gm := by rw [← hGm]; exact Below.size hHeld
          have ne_m_a : Gm ≠ Ga := by have := Ha.out.2.2; omega
          have ne_a_m : Ga ≠ Gm := Ne.symm ne_m_a
          have ne_m_b : Gm ≠ Gb := by have := Hb.out.2.2; omega
          have ne_b_m : Gb ≠ Gm := Ne.symm ne_m_b
          have Ha := Lib.hid (Ha.out.below ((Below.refl _ _).alloc (Nat.le_refl _) (.cells #[.int .i64 0, .int .i64 0] 25))); have Hb := Lib.hid (Hb.out.below ((Below.refl _ _).alloc (Nat.le_refl _) (.cells #[.int .i64 0, .int .i64 0] 25))); skip
          have Hm : Hid (Bk2 (yw1.alloc (.cells #[.int .i64 0, .int .i64 0] 25)) Gm 0 0) := by rw [← hGm]; exact bk2_new yw1 0 0 _
          refine hK.out _ _ (Below.alloc hHeld (Below.size hHeld) _) (fun hHeld2 => ?_); (clear hHeld; rename _ => hHeld; clear hK K; have hHeld : Below w2.heap.size w2 _ := hHeld); (try simp only [Act.put, List.getElem_toArray, List.getElem_cons_succ, List.getElem_cons_zero, List.setIfInBounds_toArray, List.set_cons_zero, List.set_cons_succ])
          rw [hGm]; clear hGm; obtain ⟨yw2, hwx⟩ : ∃ wx, yw1.alloc (.cells #[.int .i64 0, .int .i64 0] 25) = wx := ⟨_, rfl⟩; rw [hwx] at Ha Hb Hm hHeld ⊢; clear hwx
          refine wpAnyH_ready (rs := [12]) (by kernel_rfl) (by simp) ?_; refine AllReadyH.cons rfl (fun K hK => ?_) AllReadyH.nil
          obtain ⟨⟨a0, a1⟩, ⟨f0, f1⟩, az⟩ := Hm.out; go_simp; clear a0 f0 a1 f1 az
          have Ha := Lib.hid ((Ha.out.far ⟨Gm, 0, none⟩ (.int .i64 mx) (by show Ga ≠ Gm; exact ne_a_m)).far ⟨Gm, 1, none⟩ (.int .i64 my) (by show Ga ≠ Gm; exact ne_a_m))
          have Hb := Lib.hid ((Hb.out.far ⟨Gm, 0, none⟩ (.int .i64 mx) (by show Gb ≠ Gm; exact ne_b_m)).far ⟨Gm, 1, none⟩ (.int .i64 my) (by show Gb ≠ Gm; exact ne_b_m))
          have Hm := Lib.hid ((Hm.out.set0 mx).set1 my)
          refine hK.out _ _ (Below.setCell (Below.setCell hHeld (p := ⟨Gm, 0, none⟩) le_m _) (p := ⟨Gm, 1, none⟩) le_m _) (fun hHeld2 => ?_); (clear hHeld; rename _ => hHeld; clear hK K; have hHeld : Below w2.heap.size w2 _ := hHeld); (try simp only [Act.put, List.getElem_toArray, List.getElem_cons_succ, List.getElem_cons_zero, List.setIfInBounds_toArray, List.set_cons_zero, List.set_cons_succ])
          obtain ⟨yw3, hwx⟩ : ∃ wx, (yw2.setCell ⟨Gm, 0, none⟩ (.int .i64 mx)).setCell ⟨Gm, 1, none⟩ (.int .i64 my) = wx := ⟨_, rfl⟩; rw [hwx] at Ha Hb Hm hHeld ⊢; clear hwx
          refine wpAnyH_ready (rs := [13]) (by kernel_rfl) (by simp) ?_; refine AllReadyH.cons rfl (fun K hK => ?_) AllReadyH.nil
          obtain ⟨⟨a0, a1, a2, a3, a4, a5⟩, ⟨f0, f1, f2, f3, f4, f5⟩, az⟩ := Ha.out; go_simp; clear a0 f0 a1 f1 a2 f2 a3 f3 a4 f4 a5 f5 az
          have Hb := Lib.hid ((((((Hb.out.far ⟨Ga, 0, none⟩ (.int .i64 x0) (by show Gb ≠ Ga; exact ne_b_a)).far ⟨Ga, 1, none⟩ (.int .i64 y0) (by show Gb ≠ Ga; exact ne_b_a)).far ⟨Ga, 2, none⟩ (.int .i64 x1) (by show Gb ≠ Ga; exact ne_b_a)).far ⟨Ga, 3, none⟩ (.int .i64 y1) (by show Gb ≠ Ga; exact ne_b_a)).far ⟨Ga, 4, none⟩ (.int .i64 x2) (by show Gb ≠ Ga; exact ne_b_a)).far ⟨Ga, 5, none⟩ (.int .i64 y2) (by show Gb ≠ Ga; exact ne_b_a))
          have Hm := Lib.hid ((((((Hm.out.far ⟨Ga, 0, none⟩ (.int .i64 x0) (by show Gm ≠ Ga; exact ne_m_a)).far ⟨Ga, 1, none⟩ (.int .i64 y0) (by show Gm ≠ Ga; exact ne_m_a)).far ⟨Ga, 2, none⟩ (.int .i64 x1) (by show Gm ≠ Ga; exact ne_m_a)).far ⟨Ga, 3, none⟩ (.int .i64 y1) (by show Gm ≠ Ga; exact ne_m_a)).far ⟨Ga, 4, none⟩ (.int .i64 x2) (by show Gm ≠ Ga; exact ne_m_a)).far ⟨Ga, 5, none⟩ (.int .i64 y2) (by show Gm ≠ Ga; exact ne_m_a))
          have Ha := Lib.hid ((((((Ha.out.set0 x0).set1 y0).set2 x1).set3 y1).set4 x2).set5 y2)
          refine hK.out _ _ (Below.setCell (Below.setCell (Below.setCell (Below.setCell (Below.setCell (Below.setCell hHeld (p := ⟨Ga, 0, none⟩) le_a _) (p := ⟨Ga, 1, none⟩) le_a _) (p := ⟨Ga, 2, none⟩) le_a _) (p := ⟨Ga, 3, none⟩) le_a _) (p := ⟨Ga, 4, none⟩) le_a _) (p := ⟨Ga, 5, none⟩) le_a _) (fun hHeld2 => ?_); (clear hHeld; rename _ => hHeld; clear hK K; have hHeld : Below w2.heap.size w2 _ := hHeld); (try simp only [Act.put, List.getElem_toArray, List.getElem_cons_succ, List.getElem_cons_zero, List.setIfInBounds_toArray, List.set_cons_zero, List.set_cons_succ])
          obtain ⟨yw4, hwx⟩ : ∃ wx, (((((yw3.setCell ⟨Ga, 0, none⟩ (.int .i64 x0)).setCell ⟨Ga, 1, none⟩ (.int .i64 y0)).setCell ⟨Ga, 2, none⟩ (.int .i64 x1)).setCell ⟨Ga, 3, none⟩ (.int .i64 y1)).setCell ⟨Ga, 4, none⟩ (.int .i64 x2)).setCell ⟨Ga, 5, none⟩ (.int .i64 y2) = wx := ⟨_, rfl⟩; rw [hwx] at Ha Hb Hm hHeld ⊢; clear hwx
          refine wpAnyH_ready (rs := [14]) (by kernel_rfl) (by simp) ?_; refine AllReadyH.cons rfl (fun K hK => ?_) AllReadyH.nil
          obtain ⟨⟨a0, a1, a2, a3, a4, a5⟩, ⟨f0, f1, f2, f3, f4, f5⟩, az⟩ := Hb.out; go_simp; clear a0 f0 a1 f1 a2 f2 a3 f3 a4 f4 a5 f5 az
          have Ha := Lib.hid ((((((Ha.out.far ⟨Gb, 0, none⟩ (.int .i64 x0) (by show Ga ≠ Gb; exact ne_a_b)).far ⟨Gb, 1, none⟩ (.int .i64 y0) (by show Ga ≠ Gb; exact ne_a_b)).far ⟨Gb, 2, none⟩ (.int .i64 x1) (by show Ga ≠ Gb; exact ne_a_b)).far ⟨Gb, 3, none⟩ (.int .i64 y1) (by show Ga ≠ Gb; exact ne_a_b)).far ⟨Gb, 4, none⟩ (.int .i64 x2) (by show Ga ≠ Gb; exact ne_a_b)).far ⟨Gb, 5, none⟩ (.int .i64 y2) (by show Ga ≠ Gb; exact ne_a_b))
          have Hm := Lib.hid ((((((Hm.out.far ⟨Gb, 0, none⟩ (.int .i64 x0) (by show Gm ≠ Gb; exact ne_m_b)).far ⟨Gb, 1, none⟩ (.int .i64 y0) (by show Gm ≠ Gb; exact ne_m_b)).far ⟨Gb, 2, none⟩ (.int .i64 x1) (by show Gm ≠ Gb; exact ne_m_b)).far ⟨Gb, 3, none⟩ (.int .i64 y1) (by show Gm ≠ Gb; exact ne_m_b)).far ⟨Gb, 4, none⟩ (.int .i64 x2) (by show Gm ≠ Gb; exact ne_m_b)).far ⟨Gb, 5, none⟩ (.int .i64 y2) (by show Gm ≠ Gb; exact ne_m_b))
          have Hb := Lib.hid ((((((Hb.out.set0 x0).set1 y0).set2 x1).set3 y1).set4 x2).set5 y2)
          refine hK.out _ _ (Below.setCell (Below.setCell (Below.setCell (Below.setCell (Below.setCell (Below.setCell hHeld (p := ⟨Gb, 0, none⟩) le_b _) (p := ⟨Gb, 1, none⟩) le_b _) (p := ⟨Gb, 2, none⟩) le_b _) (p := ⟨Gb, 3, none⟩) le_b _) (p := ⟨Gb, 4, none⟩) le_b _) (p := ⟨Gb, 5, none⟩) le_b _) (fun hHeld2 => ?_); (clear hHeld; rename _ => hHeld; clear hK K; have hHeld : Below w2.heap.size w2 _ := hHeld); (try simp only [Act.put, List.getElem_toArray, List.getElem_cons_succ, List.getElem_cons_zero, List.setIfInBounds_toArray, List.set_cons_zero, List.set_cons_succ])
          obtain ⟨yw5, hwx⟩ : ∃ wx, (((((yw4.setCell ⟨Gb, 0, none⟩ (.int .i64 x0)).setCell ⟨Gb, 1, none⟩ (.int .i64 y0)).setCell ⟨Gb, 2, none⟩ (.int .i64 x1)).setCell ⟨Gb, 3, none⟩ (.int .i64 y1)).setCell ⟨Gb, 4, none⟩ (.int .i64 x2)).setCell ⟨Gb, 5, none⟩ (.int .i64 y2) = wx := ⟨_, rfl⟩; rw [hwx] at Ha Hb Hm hHeld ⊢; clear hwx
          refine wpAnyH_done (by kernel_rfl) ?_ _
          go_wp2_with fail
          go_meet
          exact ⟨Gm, Ga, Gb, rfl, rfl, rfl, ne_a_b, ne_m_a, ne_m_b, le_a, le_b, Hm.out, Ha.out, Hb.out, hHeld⟩
      · skip
        go_simp; obtain ⟨Gb, hGb⟩ : ∃ G, wD.heap.size = G := ⟨_, rfl⟩; have le_b : w2.heap.size ≤ Gb := by rw [← hGb]; exact Below.size hHeld
        have Hb : Hid (Bk6 (wD.alloc (.cells #[.int .i64 0, .int .i64 0, .int .i64 0, .int .i64 0, .int .i64 0, .int .i64 0] 27)) Gb 0 0 0 0 0 0) := by rw [← hGb]; exact bk6_new wD 0 0 0 0 0 0 _
        refine hK.out _ _ (Below.alloc hHeld (Below.size hHeld) _) (fun hHeld2 => ?_); (clear hHeld; rename _ => hHeld; clear hK K; have hHeld : Below w2.heap.size w2 _ := hHeld); (try simp only [Act.put, List.getElem_toArray, List.getElem_cons_succ, List.getElem_cons_zero, List.setIfInBounds_toArray, List.set_cons_zero, List.set_cons_succ])
        rw [hGb]; clear hGb; obtain ⟨yw0, hwx⟩ : ∃ wx, wD.alloc (.cells #[.int .i64 0, .int .i64 0, .int .i64 0, .int .i64 0, .int .i64 0, .int .i64 0] 27) = wx := ⟨_, rfl⟩; rw [hwx] at Hb hHeld ⊢; clear hwx
        refine wpAnyH_ready (rs := [9, 10]) (by kernel_rfl) (by simp) ?_; refine AllReadyH.cons rfl (fun K hK => ?_) (AllReadyH.cons rfl (fun K hK => ?_) AllReadyH.nil)
        · skip
          go_simp; obtain ⟨Gm, hGm⟩ : ∃ G, yw0.heap.size = G := ⟨_, rfl⟩; have le_m : w2.heap.size ≤ Gm := by rw [← hGm]; exact Below.size hHeld
          have ne_m_b : Gm ≠ Gb := by have := Hb.out.2.2; omega
          have ne_b_m : Gb ≠ Gm := Ne.symm ne_m_b
          have Hb := Lib.hid (Hb.out.below ((Below.refl _ _).alloc (Nat.le_refl _) (.cells #[.int .i64 0, .int .i64 0] 25))); skip
          have Hm : Hid (Bk2 (yw0.alloc (.cells #[.int .i64 0, .int .i64 0] 25)) Gm 0 0) := by rw [← hGm]; exact bk2_new yw0 0 0 _
          refine hK.out _ _ (Below.alloc hHeld (Below.size hHeld) _) (fun hHeld2 => ?_); (clear hHeld; rename _ => hHeld; clear hK K; have hHeld : Below w2.heap.size w2 _ := hHeld); (try simp only [Act.put, List.getElem_toArray, List.getElem_cons_succ, List.getElem_cons_zero, List.setIfInBounds_toArray, List.set_cons_zero, List.set_cons_succ])
          rw [hGm]; clear hGm; obtain ⟨yw1, hwx⟩ : ∃ wx, yw0.alloc (.cells #[.int .i64 0, .int .i64 0] 25) = wx := ⟨_, rfl⟩; rw [hwx] at Hb Hm hHeld ⊢; clear hwx
          refine wpAnyH_ready (rs := [10]) (by kernel_rfl) (by simp) ?_; refine AllReadyH.cons rfl (fun K hK => ?_) AllReadyH.nil
          go_simp; obtain ⟨Ga, hGa⟩ : ∃ G, yw1.heap.size = G := ⟨_, rfl⟩; have le_a : w2.heap.size ≤ Ga := by rw [← hGa]; exact Below.size hHeld
          have ne_a_b : Ga ≠ Gb := by have := Hb.out.2.2; omega
          have ne_b_a : Gb ≠ Ga := Ne.symm ne_a_b
          have ne_a_m : Ga ≠ Gm := by have := Hm.out.2.2; omega
          have ne_m_a : Gm ≠ Ga := Ne.symm ne_a_m
          have Hb := Lib.hid (Hb.out.below ((Below.refl _ _).alloc (Nat.le_refl _) (.cells #[.int .i64 0, .int .i64 0, .int .i64 0, .int .i64 0, .int .i64 0, .int .i64 0] 27))); have Hm := Lib.hid (Hm.out.below ((Below.refl _ _).alloc (Nat.le_refl _) (.cells #[.int .i64 0, .int .i64 0, .int .i64 0, .int .i64 0, .int .i64 0, .int .i64 0] 27))); skip
          have Ha : Hid (Bk6 (yw1.alloc (.cells #[.int .i64 0, .int .i64 0, .int .i64 0, .int .i64 0, .int .i64 0, .int .i64 0] 27)) Ga 0 0 0 0 0 0) := by rw [← hGa]; exact bk6_new yw1 0 0 0 0 0 0 _
          refine hK.out _ _ (Below.alloc hHeld (Below.size hHeld) _) (fun hHeld2 => ?_); (clear hHeld; rename _ => hHeld; clear hK K; have hHeld : Below w2.heap.size w2 _ := hHeld); (try simp only [Act.put, List.getElem_toArray, List.getElem_cons_succ, List.getElem_cons_zero, List.setIfInBounds_toArray, List.set_cons_zero, List.set_cons_succ])
          rw [hGa]; clear hGa; obtain ⟨yw2, hwx⟩ : ∃ wx, yw1.alloc (.cells #[.int .i64 0, .int .i64 0, .int .i64 0, .int .i64 0, .int .i64 0, .int .i64 0] 27) = wx := ⟨_, rfl⟩; rw [hwx] at Hb Hm Ha hHeld ⊢; clear hwx
          refine wpAnyH_ready (rs := [12]) (by kernel_rfl) (by simp) ?_; refine AllReadyH.cons rfl (fun K hK => ?_) AllReadyH.nil
          obtain ⟨⟨a0, a1⟩, ⟨f0, f1⟩, az⟩ := Hm.out; go_simp; clear a0 f0 a1 f1 az
          have Hb := Lib.hid ((Hb.out.far ⟨Gm, 0, none⟩ (.int .i64 mx) (by show Gb ≠ Gm; exact ne_b_m)).far ⟨Gm, 1, none⟩ (.int .i64 my) (by show Gb ≠ Gm; exact ne_b_m))
          have Ha := Lib.hid ((Ha.out.far ⟨Gm, 0, none⟩ (.int .i64 mx) (by show Ga ≠ Gm; exact ne_a_m)).far ⟨Gm, 1, none⟩ (.int .i64 my) (by show Ga ≠ Gm; exact ne_a_m))
          have Hm := Lib.hid ((Hm.out.set0 mx).set1 my)
          refine hK.out _ _ (Below.setCell (Below.setCell hHeld (p := ⟨Gm, 0, none⟩) le_m _) (p := ⟨Gm, 1, none⟩) le_m _) (fun hHeld2 => ?_); (clear hHeld; rename _ => hHeld; clear hK K; have hHeld : Below w2.heap.size w2 _ := hHeld); (try simp only [Act.put, List.getElem_toArray, List.getElem_cons_succ, List.getElem_cons_zero, List.setIfInBounds_toArray, List.set_cons_zero, List.set_cons_succ])
          obtain ⟨yw3, hwx⟩ : ∃ wx, (yw2.setCell ⟨Gm, 0, none⟩ (.int .i64 mx)).setCell ⟨Gm, 1, none⟩ (.int .i64 my) = wx := ⟨_, rfl⟩; rw [hwx] at Hb Hm Ha hHeld ⊢; clear hwx
          refine wpAnyH_ready (rs := [13]) (by kernel_rfl) (by simp) ?_; refine AllReadyH.cons rfl (fun K hK => ?_) AllReadyH.nil
          obtain ⟨⟨a0, a1, a2, a3, a4, a5⟩, ⟨f0, f1, f2, f3, f4, f5⟩, az⟩ := Ha.out; go_simp; clear a0 f0 a1 f1 a2 f2 a3 f3 a4 f4 a5 f5 az
          have Hb := Lib.hid ((((((Hb.out.far ⟨Ga, 0, none⟩ (.int .i64 x0) (by show Gb ≠ Ga; exact ne_b_a)).far ⟨Ga, 1, none⟩ (.int .i64 y0) (by show Gb ≠ Ga; exact ne_b_a)).far ⟨Ga, 2, none⟩ (.int .i64 x1) (by show Gb ≠ Ga; exact ne_b_a)).far ⟨Ga, 3, none⟩ (.int .i64 y1) (by show Gb ≠ Ga; exact ne_b_a)).far ⟨Ga, 4, none⟩ (.int .i64 x2) (by show Gb ≠ Ga; exact ne_b_a)).far ⟨Ga, 5, none⟩ (.int .i64 y2) (by show Gb ≠ Ga; exact ne_b_a))
          have Hm := Lib.hid ((((((Hm.out.far ⟨Ga, 0, none⟩ (.int .i64 x0) (by show Gm ≠ Ga; exact ne_m_a)).far ⟨Ga, 1, none⟩ (.int .i64 y0) (by show Gm ≠ Ga; exact ne_m_a)).far ⟨Ga, 2, none⟩ (.int .i64 x1) (by show Gm ≠ Ga; exact ne_m_a)).far ⟨Ga, 3, none⟩ (.int .i64 y1) (by show Gm ≠ Ga; exact ne_m_a)).far ⟨Ga, 4, none⟩ (.int .i64 x2) (by show Gm ≠ Ga; exact ne_m_a)).far ⟨Ga, 5, none⟩ (.int .i64 y2) (by show Gm ≠ Ga; exact ne_m_a))
          have Ha := Lib.hid ((((((Ha.out.set0 x0).set1 y0).set2 x1).set3 y1).set4 x2).set5 y2)
          refine hK.out _ _ (Below.setCell (Below.setCell (Below.setCell (Below.setCell (Below.setCell (Below.setCell hHeld (p := ⟨Ga, 0, none⟩) le_a _) (p := ⟨Ga, 1, none⟩) le_a _) (p := ⟨Ga, 2, none⟩) le_a _) (p := ⟨Ga, 3, none⟩) le_a _) (p := ⟨Ga, 4, none⟩) le_a _) (p := ⟨Ga, 5, none⟩) le_a _) (fun hHeld2 => ?_); (clear hHeld; rename _ => hHeld; clear hK K; have hHeld : Below w2.heap.size w2 _ := hHeld); (try simp only [Act.put, List.getElem_toArray, List.getElem_cons_succ, List.getElem_cons_zero, List.setIfInBounds_toArray, List.set_cons_zero, List.set_cons_succ])
          obtain ⟨yw4, hwx⟩ : ∃ wx, (((((yw3.setCell ⟨Ga, 0, none⟩ (.int .i64 x0)).setCell ⟨Ga, 1, none⟩ (.int .i64 y0)).setCell ⟨Ga, 2, none⟩ (.int .i64 x1)).setCell ⟨Ga, 3, none⟩ (.int .i64 y1)).setCell ⟨Ga, 4, none⟩ (.int .i64 x2)).setCell ⟨Ga, 5, none⟩ (.int .i64 y2) = wx := ⟨_, rfl⟩; rw [hwx] at Hb Hm Ha hHeld ⊢; clear hwx
          refine wpAnyH_ready (rs := [14]) (by kernel_rfl) (by simp) ?_; refine AllReadyH.cons rfl (fun K hK => ?_) AllReadyH.nil
          obtain ⟨⟨a0, a1, a2, a3, a4, a5⟩, ⟨f0, f1, f2, f3, f4, f5⟩, az⟩ := Hb.out; go_simp; clear a0 f0 a1 f1 a2 f2 a3 f3 a4 f4 a5 f5 az
          have Hm := Lib.hid ((((((Hm.out.far ⟨Gb, 0, none⟩ (.int .i64 x0) (by show Gm ≠ Gb; exact ne_m_b)).far ⟨Gb, 1, none⟩ (.int .i64 y0) (by show Gm ≠ Gb; exact ne_m_b)).far ⟨Gb, 2, none⟩ (.int .i64 x1) (by show Gm ≠ Gb; exact ne_m_b)).far ⟨Gb, 3, none⟩ (.int .i64 y1) (by show Gm ≠ Gb; exact ne_m_b)).far ⟨Gb, 4, none⟩ (.int .i64 x2) (by show Gm ≠ Gb; exact ne_m_b)).far ⟨Gb, 5, none⟩ (.int .i64 y2) (by show Gm ≠ Gb; exact ne_m_b))
          have Ha := Lib.hid ((((((Ha.out.far ⟨Gb, 0, none⟩ (.int .i64 x0) (by show Ga ≠ Gb; exact ne_a_b)).far ⟨Gb, 1, none⟩ (.int .i64 y0) (by show Ga ≠ Gb; exact ne_a_b)).far ⟨Gb, 2, none⟩ (.int .i64 x1) (by show Ga ≠ Gb; exact ne_a_b)).far ⟨Gb, 3, none⟩ (.int .i64 y1) (by show Ga ≠ Gb; exact ne_a_b)).far ⟨Gb, 4, none⟩ (.int .i64 x2) (by show Ga ≠ Gb; exact ne_a_b)).far ⟨Gb, 5, none⟩ (.int .i64 y2) (by show Ga ≠ Gb; exact ne_a_b))
          have Hb := Lib.hid ((((((Hb.out.set0 x0).set1 y0).set2 x1).set3 y1).set4 x2).set5 y2)
          refine hK.out _ _ (Below.setCell (Below.setCell (Below.setCell (Below.setCell (Below.setCell (Below.setCell hHeld (p := ⟨Gb, 0, none⟩) le_b _) (p := ⟨Gb, 1, none⟩) le_b _) (p := ⟨Gb, 2, none⟩) le_b _) (p := ⟨Gb, 3, none⟩) le_b _) (p := ⟨Gb, 4, none⟩) le_b _) (p := ⟨Gb, 5, none⟩) le_b _) (fun hHeld2 => ?_); (clear hHeld; rename _ => hHeld; clear hK K; have hHeld : Below w2.heap.size w2 _ := hHeld); (try simp only [Act.put, List.getElem_toArray, List.getElem_cons_succ, List.getElem_cons_zero, List.setIfInBounds_toArray, List.set_cons_zero, List.set_cons_succ])
          obtain ⟨yw5, hwx⟩ : ∃ wx, (((((yw4.setCell ⟨Gb, 0, none⟩ (.int .i64 x0)).setCell ⟨Gb, 1, none⟩ (.int .i64 y0)).setCell ⟨Gb, 2, none⟩ (.int .i64 x1)).setCell ⟨Gb, 3, none⟩ (.int .i64 y1)).setCell ⟨Gb, 4, none⟩ (.int .i64 x2)).setCell ⟨Gb, 5, none⟩ (.int .i64 y2) = wx := ⟨_, rfl⟩; rw [hwx] at Hb Hm Ha hHeld ⊢; clear hwx
          refine wpAnyH_done (by kernel_rfl) ?_ _
          go_wp2_with fail
          go_meet
          exact ⟨Gm, Ga, Gb, rfl, rfl, rfl, ne_a_b, ne_m_a, ne_m_b, le_a, le_b, Hm.out, Ha.out, Hb.out, hHeld⟩
        · skip
          go_simp; obtain ⟨Ga, hGa⟩ : ∃ G, yw0.heap.size = G := ⟨_, rfl⟩; have le_a : w2.heap.size ≤ Ga := by rw [← hGa]; exact Below.size hHeld
          have ne_a_b : Ga ≠ Gb := by have := Hb.out.2.2; omega
          have ne_b_a : Gb ≠ Ga := Ne.symm ne_a_b
          have Hb := Lib.hid (Hb.out.below ((Below.refl _ _).alloc (Nat.le_refl _) (.cells #[.int .i64 0, .int .i64 0, .int .i64 0, .int .i64 0, .int .i64 0, .int .i64 0] 27))); skip
          have Ha : Hid (Bk6 (yw0.alloc (.cells #[.int .i64 0, .int .i64 0, .int .i64 0, .int .i64 0, .int .i64 0, .int .i64 0] 27)) Ga 0 0 0 0 0 0) := by rw [← hGa]; exact bk6_new yw0 0 0 0 0 0 0 _
          refine hK.out _ _ (Below.alloc hHeld (Below.size hHeld) _) (fun hHeld2 => ?_); (clear hHeld; rename _ => hHeld; clear hK K; have hHeld : Below w2.heap.size w2 _ := hHeld); (try simp only [Act.put, List.getElem_toArray, List.getElem_cons_succ, List.getElem_cons_zero, List.setIfInBounds_toArray, List.set_cons_zero, List.set_cons_succ])
          rw [hGa]; clear hGa; obtain ⟨yw1, hwx⟩ : ∃ wx, yw0.alloc (.cells #[.int .i64 0, .int .i64 0, .int .i64 0, .int .i64 0, .int .i64 0, .int .i64 0] 27) = wx := ⟨_, rfl⟩; rw [hwx] at Hb Ha hHeld ⊢; clear hwx
          refine wpAnyH_ready (rs := [9]) (by kernel_rfl) (by simp) ?_; refine AllReadyH.cons rfl (fun K hK => ?_) AllReadyH.nil
          go_simp; obtain ⟨Gm, hGm⟩ : ∃ G, yw1.heap.size = G := ⟨_, rfl⟩; have le_m : w2.heap.size ≤ Gm := by rw [← hGm]; exact Below.size hHeld
          have ne_m_b : Gm ≠ Gb := by have := Hb.out.2.2; omega
          have ne_b_m : Gb ≠ Gm := Ne.symm ne_m_b
          have ne_m_a : Gm ≠ Ga := by have := Ha.out.2.2; omega
          have ne_a_m : Ga ≠ Gm := Ne.symm ne_m_a
          have Hb := Lib.hid (Hb.out.below ((Below.refl _ _).alloc (Nat.le_refl _) (.cells #[.int .i64 0, .int .i64 0] 25))); have Ha := Lib.hid (Ha.out.below ((Below.refl _ _).alloc (Nat.le_refl _) (.cells #[.int .i64 0, .int .i64 0] 25))); skip
          have Hm : Hid (Bk2 (yw1.alloc (.cells #[.int .i64 0, .int .i64 0] 25)) Gm 0 0) := by rw [← hGm]; exact bk2_new yw1 0 0 _
          refine hK.out _ _ (Below.alloc hHeld (Below.size hHeld) _) (fun hHeld2 => ?_); (clear hHeld; rename _ => hHeld; clear hK K; have hHeld : Below w2.heap.size w2 _ := hHeld); (try simp only [Act.put, List.getElem_toArray, List.getElem_cons_succ, List.getElem_cons_zero, List.setIfInBounds_toArray, List.set_cons_zero, List.set_cons_succ])
          rw [hGm]; clear hGm; obtain ⟨yw2, hwx⟩ : ∃ wx, yw1.alloc (.cells #[.int .i64 0, .int .i64 0] 25) = wx := ⟨_, rfl⟩; rw [hwx] at Hb Ha Hm hHeld ⊢; clear hwx
          refine wpAnyH_ready (rs := [12]) (by kernel_rfl) (by simp) ?_; refine AllReadyH.cons rfl (fun K hK => ?_) AllReadyH.nil
          obtain ⟨⟨a0, a1⟩, ⟨f0, f1⟩, az⟩ := Hm.out; go_simp; clear a0 f0 a1 f1 az
          have Hb := Lib.hid ((Hb.out.far ⟨Gm, 0, none⟩ (.int .i64 mx) (by show Gb ≠ Gm; exact ne_b_m)).far ⟨Gm, 1, none⟩ (.int .i64 my) (by show Gb ≠ Gm; exact ne_b_m))
          have Ha := Lib.hid ((Ha.out.far ⟨Gm, 0, none⟩ (.int .i64 mx) (by show Ga ≠ Gm; exact ne_a_m)).far ⟨Gm, 1, none⟩ (.int .i64 my) (by show Ga ≠ Gm; exact ne_a_m))
          have Hm := Lib.hid ((Hm.out.set0 mx).set1 my)
          refine hK.out _ _ (Below.setCell (Below.setCell hHeld (p := ⟨Gm, 0, none⟩) le_m _) (p := ⟨Gm, 1, none⟩) le_m _) (fun hHeld2 => ?_); (clear hHeld; rename _ => hHeld; clear hK K; have hHeld : Below w2.heap.size w2 _ := hHeld); (try simp only [Act.put, List.getElem_toArray, List.getElem_cons_succ, List.getElem_cons_zero, List.setIfInBounds_toArray, List.set_cons_zero, List.set_cons_succ])
          obtain ⟨yw3, hwx⟩ : ∃ wx, (yw2.setCell ⟨Gm, 0, none⟩ (.int .i64 mx)).setCell ⟨Gm, 1, none⟩ (.int .i64 my) = wx := ⟨_, rfl⟩; rw [hwx] at Hb Ha Hm hHeld ⊢; clear hwx
          refine wpAnyH_ready (rs := [13]) (by kernel_rfl) (by simp) ?_; refine AllReadyH.cons rfl (fun K hK => ?_) AllReadyH.nil
          obtain ⟨⟨a0, a1, a2, a3, a4, a5⟩, ⟨f0, f1, f2, f3, f4, f5⟩, az⟩ := Ha.out; go_simp; clear a0 f0 a1 f1 a2 f2 a3 f3 a4 f4 a5 f5 az
          have Hb := Lib.hid ((((((Hb.out.far ⟨Ga, 0, none⟩ (.int .i64 x0) (by show Gb ≠ Ga; exact ne_b_a)).far ⟨Ga, 1, none⟩ (.int .i64 y0) (by show Gb ≠ Ga; exact ne_b_a)).far ⟨Ga, 2, none⟩ (.int .i64 x1) (by show Gb ≠ Ga; exact ne_b_a)).far ⟨Ga, 3, none⟩ (.int .i64 y1) (by show Gb ≠ Ga; exact ne_b_a)).far ⟨Ga, 4, none⟩ (.int .i64 x2) (by show Gb ≠ Ga; exact ne_b_a)).far ⟨Ga, 5, none⟩ (.int .i64 y2) (by show Gb ≠ Ga; exact ne_b_a))
          have Hm := Lib.hid ((((((Hm.out.far ⟨Ga, 0, none⟩ (.int .i64 x0) (by show Gm ≠ Ga; exact ne_m_a)).far ⟨Ga, 1, none⟩ (.int .i64 y0) (by show Gm ≠ Ga; exact ne_m_a)).far ⟨Ga, 2, none⟩ (.int .i64 x1) (by show Gm ≠ Ga; exact ne_m_a)).far ⟨Ga, 3, none⟩ (.int .i64 y1) (by show Gm ≠ Ga; exact ne_m_a)).far ⟨Ga, 4, none⟩ (.int .i64 x2) (by show Gm ≠ Ga; exact ne_m_a)).far ⟨Ga, 5, none⟩ (.int .i64 y2) (by show Gm ≠ Ga; exact ne_m_a))
          have Ha := Lib.hid ((((((Ha.out.set0 x0).set1 y0).set2 x1).set3 y1).set4 x2).set5 y2)
          refine hK.out _ _ (Below.setCell (Below.setCell (Below.setCell (Below.setCell (Below.setCell (Below.setCell hHeld (p := ⟨Ga, 0, none⟩) le_a _) (p := ⟨Ga, 1, none⟩) le_a _) (p := ⟨Ga, 2, none⟩) le_a _) (p := ⟨Ga, 3, none⟩) le_a _) (p := ⟨Ga, 4, none⟩) le_a _) (p := ⟨Ga, 5, none⟩) le_a _) (fun hHeld2 => ?_); (clear hHeld; rename _ => hHeld; clear hK K; have hHeld : Below w2.heap.size w2 _ := hHeld); (try simp only [Act.put, List.getElem_toArray, List.getElem_cons_succ, List.getElem_cons_zero, List.setIfInBounds_toArray, List.set_cons_zero, List.set_cons_succ])
          obtain ⟨yw4, hwx⟩ : ∃ wx, (((((yw3.setCell ⟨Ga, 0, none⟩ (.int .i64 x0)).setCell ⟨Ga, 1, none⟩ (.int .i64 y0)).setCell ⟨Ga, 2, none⟩ (.int .i64 x1)).setCell ⟨Ga, 3, none⟩ (.int .i64 y1)).setCell ⟨Ga, 4, none⟩ (.int .i64 x2)).setCell ⟨Ga, 5, none⟩ (.int .i64 y2) = wx := ⟨_, rfl⟩; rw [hwx] at Hb Ha Hm hHeld ⊢; clear hwx
          refine wpAnyH_ready (rs := [14]) (by kernel_rfl) (by simp) ?_; refine AllReadyH.cons rfl (fun K hK => ?_) AllReadyH.nil
          obtain ⟨⟨a0, a1, a2, a3, a4, a5⟩, ⟨f0, f1, f2, f3, f4, f5⟩, az⟩ := Hb.out; go_simp; clear a0 f0 a1 f1 a2 f2 a3 f3 a4 f4 a5 f5 az
          have Ha := Lib.hid ((((((Ha.out.far ⟨Gb, 0, none⟩ (.int .i64 x0) (by show Ga ≠ Gb; exact ne_a_b)).far ⟨Gb, 1, none⟩ (.int .i64 y0) (by show Ga ≠ Gb; exact ne_a_b)).far ⟨Gb, 2, none⟩ (.int .i64 x1) (by show Ga ≠ Gb; exact ne_a_b)).far ⟨Gb, 3, none⟩ (.int .i64 y1) (by show Ga ≠ Gb; exact ne_a_b)).far ⟨Gb, 4, none⟩ (.int .i64 x2) (by show Ga ≠ Gb; exact ne_a_b)).far ⟨Gb, 5, none⟩ (.int .i64 y2) (by show Ga ≠ Gb; exact ne_a_b))
          have Hm := Lib.hid ((((((Hm.out.far ⟨Gb, 0, none⟩ (.int .i64 x0) (by show Gm ≠ Gb; exact ne_m_b)).far ⟨Gb, 1, none⟩ (.int .i64 y0) (by show Gm ≠ Gb; exact ne_m_b)).far ⟨Gb, 2, none⟩ (.int .i64 x1) (by show Gm ≠ Gb; exact ne_m_b)).far ⟨Gb, 3, none⟩ (.int .i64 y1) (by show Gm ≠ Gb; exact ne_m_b)).far ⟨Gb, 4, none⟩ (.int .i64 x2) (by show Gm ≠ Gb; exact ne_m_b)).far ⟨Gb, 5, none⟩ (.int .i64 y2) (by show Gm ≠ Gb; exact ne_m_b))
          have Hb := Lib.hid ((((((Hb.out.set0 x0).set1 y0).set2 x1).set3 y1).set4 x2).set5 y2)
          refine hK.out _ _ (Below.setCell (Below.setCell (Below.setCell (Below.setCell (Below.setCell (Below.setCell hHeld (p := ⟨Gb, 0, none⟩) le_b _) (p := ⟨Gb, 1, none⟩) le_b _) (p := ⟨Gb, 2, none⟩) le_b _) (p := ⟨Gb, 3, none⟩) le_b _) (p := ⟨Gb, 4, none⟩) le_b _) (p := ⟨Gb, 5, none⟩) le_b _) (fun hHeld2 => ?_); (clear hHeld; rename _ => hHeld; clear hK K; have hHeld : Below w2.heap.size w2 _ := hHeld); (try simp only [Act.put, List.getElem_toArray, List.getElem_cons_succ, List.getElem_cons_zero, List.setIfInBounds_toArray, List.set_cons_zero, List.set_cons_succ])
          obtain ⟨yw5, hwx⟩ : ∃ wx, (((((yw4.setCell ⟨Gb, 0, none⟩ (.int .i64 x0)).setCell ⟨Gb, 1, none⟩ (.int .i64 y0)).setCell ⟨Gb, 2, none⟩ (.int .i64 x1)).setCell ⟨Gb, 3, none⟩ (.int .i64 y1)).setCell ⟨Gb, 4, none⟩ (.int .i64 x2)).setCell ⟨Gb, 5, none⟩ (.int .i64 y2) = wx := ⟨_, rfl⟩; rw [hwx] at Hb Ha Hm hHeld ⊢; clear hwx
          refine wpAnyH_done (by kernel_rfl) ?_ _
          go_wp2_with fail
          go_meet
          exact ⟨Gm, Ga, Gb, rfl, rfl, rfl, ne_a_b, ne_m_a, ne_m_b, le_a, le_b, Hm.out, Ha.out, Hb.out, hHeld⟩
    case rest =>
      obtain ⟨Gm, Ga, Gb, rfl, rfl, rfl, ne_ab, ne_ma, ne_mb, le_a, le_b, hM, hA, hB, hbx⟩ := hcut
      obtain ⟨w3, rfl⟩ : ∃ w3, w3 = wc := ⟨_, rfl⟩
      obtain ⟨⟨b0, b1⟩, _, bz⟩ := (HX2.out _ hbx).1
      obtain ⟨⟨c0, c1, c2, c3, c4, c5⟩, ⟨c6, c7, c8, c9, c10, c11⟩, cz⟩ := id hA
      obtain ⟨⟨d0, d1, d2, d3, d4, d5⟩, ⟨d6, d7, d8, d9, d10, d11⟩, dz⟩ := id hB
      obtain ⟨⟨m0, m1⟩, _, mz⟩ := id hM
      have ne_ba : Gb ≠ Ga := Ne.symm ne_ab
      have hbx1 := ((hbx.setCell (p := ⟨Ga, 4, none⟩) le_a (.int .i64 mx)).setCell (p := ⟨Ga, 5, none⟩) le_a (.int .i64 my))
      have hA1 := ((hA).set4 mx).set5 my
      have hB1 := ((hB).far ⟨Ga, 4, none⟩ (.int .i64 mx) (by show Gb ≠ Ga; omega)).far ⟨Ga, 5, none⟩ (.int .i64 my) (by show Gb ≠ Ga; omega)
      have hM1 := ((hM).far ⟨Ga, 4, none⟩ (.int .i64 mx) (by show Gm ≠ Ga; omega)).far ⟨Ga, 5, none⟩ (.int .i64 my) (by show Gm ≠ Ga; omega)
      go_upto_region 11 with fail
      obtain ⟨w4, hw4⟩ : ∃ wx, ((w3.setCell ⟨Ga, 4, none⟩ (.int .i64 mx)).setCell ⟨Ga, 5, none⟩ (.int .i64 my)) = wx := ⟨_, rfl⟩
      rw [hw4] at hbx1 hA1 hB1 hM1 ⊢
      clear hw4 b0 b1 bz c0 c1 c2 c3 c4 c5 c6 c7 c8 c9 c10 c11 cz d0 d1 d2 d3 d4 d5 d6 d7 d8 d9 d10 d11 dz hA hB hbx m0 m1 mz hM
      obtain ⟨⟨c0, c1, c2, c3, c4, c5⟩, ⟨c6, c7, c8, c9, c10, c11⟩, cz⟩ := id hA1
      obtain ⟨⟨d0, d1, d2, d3, d4, d5⟩, ⟨d6, d7, d8, d9, d10, d11⟩, dz⟩ := id hB1
      obtain ⟨⟨m0, m1⟩, _, mz⟩ := id hM1
      have hbx2 := ((hbx1.setCell (p := ⟨Gb, 0, none⟩) le_b (.int .i64 mx)).setCell (p := ⟨Gb, 1, none⟩) le_b (.int .i64 my))
      have hB2 := ((hB1).set0 mx).set1 my
      have hA2 := ((hA1).far ⟨Gb, 0, none⟩ (.int .i64 mx) (by show Ga ≠ Gb; omega)).far ⟨Gb, 1, none⟩ (.int .i64 my) (by show Ga ≠ Gb; omega)
      go_upto_region 12 with fail
      obtain ⟨w5, hw5⟩ : ∃ wx, ((w4.setCell ⟨Gb, 0, none⟩ (.int .i64 mx)).setCell ⟨Gb, 1, none⟩ (.int .i64 my)) = wx := ⟨_, rfl⟩
      rw [hw5] at hbx2 hA2 hB2 ⊢
      clear hw5 c0 c1 c2 c3 c4 c5 c6 c7 c8 c9 c10 c11 cz d0 d1 d2 d3 d4 d5 d6 d7 d8 d9 d10 d11 dz m0 m1 mz hM1
      obtain ⟨⟨c0, c1, c2, c3, c4, c5⟩, _, cz⟩ := id hA2
      obtain ⟨⟨d0, d1, d2, d3, d4, d5⟩, _, dz⟩ := id hB2
      have hbW := below_after (HX2.out _ hbx2).2 HBW.out
      go_wp2
      refine bodyPost_ret (v := .tuple #[.slice (some ⟨w5.heap.size, 0, none⟩) 2 2, .int .i64 0]) (by simp (maxDischargeDepth := 8) [results, Try.results57, go_sem, *]) rfl ?_
      exact ⟨_, rfl, own_lit12 w5 w.heap.size x0 y0 x1 y1 mx my mx my x1 y1 x2 y2 hbW.size, hbW.alloc hbW.size _⟩
set_option maxHeartbeats 4000000 in
theorem spec_Split_2n (x0 y0 x1 y1 x2 y2 sx sy : Int) (w : World) (h : isT x0 y0 x1 y1 x2 y2 = true) (hx : (x0 + 1 * x1) = sx) (hy : (y0 + 1 * y1) = sy) (hw : whI sx sy = false) : Calls Try.prog 57 #[.agg #[.int .i64 x0, .int .i64 y0, .int .i64 x1, .int .i64 y1, .int .i64 x2, .int .i64 y2], .int .i64 2] w fun e w' => ∃ v, e = .returned (.tuple #[v, .int .i64 5]) ∧ OwnTr w.heap.size w' v 0 [] ∧ Below w.heap.size w w' := by
  have HT := Lib.hid h
  obtain ⟨t0, t1, t2, t3, t4, t5, _⟩ := isT_iff.1 h
  have hP : ∀ w, Calls Try.prog 91 #[.agg #[.int .i64 x0, .int .i64 y0], .agg #[.int .i64 x1, .int .i64 y1], .int .i64 1] w fun e w' => e = .returned (.agg #[.int .i64 sx, .int .i64 sy]) ∧ Below w.heap.size w w' := by
    intro w
    have := l01Plus_any x0 y0 x1 y1 1 w t0.bn t1.bn t2.bn t3.bn ⟨by decide, by decide⟩
    rw [hx, hy] at this
    exact this
  have HP := Lib.hid hP
  have sxb : -2000 ≤ sx ∧ sx ≤ 2000 := by unfold Sml at t0 t2; omega
  have syb : -2000 ≤ sy ∧ sy ≤ 2000 := by unfold Sml at t1 t3; omega
  have wx1 : IntKind.i64.wrap (sx.tmod 2) = sx.tmod 2 := by rw [IntKind.wrap_i64]; have := Int.tmod_lt_of_pos sx (show (0 : Int) < 2 by decide); have := Int.lt_tmod_of_pos sx (show (0 : Int) < 2 by decide); omega
  have wy1 : IntKind.i64.wrap (sy.tmod 2) = sy.tmod 2 := by rw [IntKind.wrap_i64]; have := Int.tmod_lt_of_pos sy (show (0 : Int) < 2 by decide); have := Int.lt_tmod_of_pos sy (show (0 : Int) < 2 by decide); omega
  have qx := tdiv2_bd sxb
  have qy := tdiv2_bd syb
  have n1 : IntKind.i64.wrap (2 + 1) = 3 := by decide
  have n2 : IntKind.i64.wrap (2 + 2) = 4 := by decide
  have n3 : IntKind.i64.wrap (Int.tmod 3 3) = 0 := by decide
  have n4 : IntKind.i64.wrap (Int.tmod 4 3) = 1 := by decide
  have n5 : inB 2 0 2 = true := by decide
  have HW := Lib.hid hw
  clear h hx hy t0 t1 t2 t3 t4 t5 hP sxb syb hw qx qy
  go_enter Try.func57, Try.ntmps57
  go_upto_region 1 with fail
  obtain ⟨wB, hwB⟩ : ∃ wB, wB = w.alloc (.cells #[.int .i64 x0, .int .i64 y0, .int .i64 x1, .int .i64 y1, .int .i64 x2, .int .i64 y2] 27) := ⟨_, rfl⟩
  rw [← hwB]
  have HBW : Hid (Below w.heap.size w wB) := by
    show Below w.heap.size w wB
    rw [hwB]; (repeat' (first | (with_reducible exact Below.refl _ _) | (with_reducible refine Below.alloc ?_ ?_ _) | (with_reducible refine Below.setCell ?_ ?_ _) | (with_reducible refine Below.drew ?_) | (with_reducible refine below_drewN ?_ _) | (with_reducible assumption) | (with_reducible refine below_after (by with_reducible assumption) ?_) | go_size))
  have HK : Hid (∀ W', Below wB.heap.size wB W' → W'.cell? ⟨w.heap.size, 0, none⟩ = some (.int .i64 x0) ∧ W'.cell? ⟨w.heap.size, 1, none⟩ = some (.int .i64 y0) ∧ W'.cell? ⟨w.heap.size, 2, none⟩ = some (.int .i64 x1) ∧ W'.cell? ⟨w.heap.size, 3, none⟩ = some (.int .i64 y1) ∧ W'.cell? ⟨w.heap.size, 4, none⟩ = some (.int .i64 x2) ∧ W'.cell? ⟨w.heap.size, 5, none⟩ = some (.int .i64 y2) ∧ w.heap.size < W'.heap.size) := by
    intro W' hB
    have hz := hB.size
    have hbs : wB.heap.size = w.heap.size + 1 := by rw [hwB]; simp
    refine ⟨?_, ?_, ?_, ?_, ?_, ?_, by omega⟩
    all_goals (rw [hB.cell (p := ⟨w.heap.size, _, none⟩) (by rw [hbs]; exact Nat.lt_succ_self _), hwB]; go_cell)
  clear hwB
  obtain ⟨s0, s1, s2, s3, s4, s5, sz⟩ := HK.out wB (Below.refl _ _)
  go_wp2_with fail
  go_at_call 62
  refine (l04Is_any _ _ _ _ _ _ _).mono ?_
  rw [HT.out]
  rintro e w1 ⟨rfl, b1⟩
  clear s0 s1 s2 s3 s4 s5 sz
  have HBB := Lib.hid b1
  clear b1
  go_upto_region 6 with (first | (go_at_call 74; refine (l01In_any _ _ _ _).mono ?_; rintro e wn ⟨rfl, rfl⟩))
  clear n1 n2 n3 n4 n5
  go_cut [8] (fun v8 wx => ∃ Gs : Nat, v8 = .pointer (some ⟨Gs, 0, none⟩) ∧ w1.heap.size ≤ Gs ∧ Bk2 wx Gs sx sy ∧ Below w1.heap.size w1 wx)
  case first =>
    refine wp_region_held_drew (S := fun W => Below w1.heap.size w1 W) (by kernel_rfl) ?_ (fun hHeld => ?_); focus ((try dsimp only); exact (Below.refl _ _).drew)
    have hHeld : Below w1.heap.size w1 _ := hHeld
    obtain ⟨wD, hwD⟩ : ∃ wD, w1.drew = wD := ⟨_, rfl⟩
    rw [hwD] at hHeld ⊢
    clear hwD
    (refine wpAnyH_take (i := 0) (v := ?_) rfl (by kernel_rfl) (by kernel_rfl) (by kernel_rfl) (fun _ _ _ h => h) (Or.inl ⟨rfl, ?_⟩) (by assumption) ?_; rotate_left; focus (intro W hSw; (try dsimp only at hSw); obtain ⟨i0, i1, i2, i3, i4, i5, iz⟩ := HK.out _ (below_after hSw HBB.out); go_simp; try (with_reducible rfl))); (try simp only [Act.put, List.getElem_toArray, List.getElem_cons_succ, List.getElem_cons_zero, List.setIfInBounds_toArray, List.set_cons_zero, List.set_cons_succ])
    (refine wpAnyH_take (i := 1) (v := ?_) rfl (by kernel_rfl) (by kernel_rfl) (by kernel_rfl) (fun _ _ _ h => h) (Or.inl ⟨rfl, ?_⟩) (by assumption) ?_; rotate_left; focus (intro W hSw; (try dsimp only at hSw); obtain ⟨i0, i1, i2, i3, i4, i5, iz⟩ := HK.out _ (below_after hSw HBB.out); go_simp; try (with_reducible rfl))); (try simp only [Act.put, List.getElem_toArray, List.getElem_cons_succ, List.getElem_cons_zero, List.setIfInBounds_toArray, List.set_cons_zero, List.set_cons_succ])
    (refine wpAnyH_take (i := 2) (v := ?_) rfl (by kernel_rfl) (by kernel_rfl) (by kernel_rfl) (fun _ _ _ h => h) (Or.inl ⟨rfl, ?_⟩) (by assumption) ?_; rotate_left; focus (intro W hSw; (try dsimp only at hSw); obtain ⟨i0, i1, i2, i3, i4, i5, iz⟩ := HK.out _ (below_after hSw HBB.out); go_simp; try (with_reducible rfl))); (try simp only [Act.put, List.getElem_toArray, List.getElem_cons_succ, List.getElem_cons_zero, List.setIfInBounds_toArray, List.set_cons_zero, List.set_cons_succ])
    (refine wpAnyH_take (i := 3) (v := ?_) rfl (by kernel_rfl) (by kernel_rfl) (by kernel_rfl) (fun _ _ _ h => h) (Or.inl ⟨rfl, ?_⟩) (by assumption) ?_; rotate_left; focus (intro W hSw; (try dsimp only at hSw); obtain ⟨i0, i1, i2, i3, i4, i5, iz⟩ := HK.out _ (below_after hSw HBB.out); go_simp; try (with_reducible rfl))); (try simp only [Act.put, List.getElem_toArray, List.getElem_cons_succ, List.getElem_cons_zero, List.setIfInBounds_toArray, List.set_cons_zero, List.set_cons_succ])
    (refine wpAnyH_take (i := 4) (v := ?_) rfl (by kernel_rfl) (by kernel_rfl) (by kernel_rfl) (fun _ _ _ h => h) (Or.inl ⟨rfl, ?_⟩) (by assumption) ?_; rotate_left; focus (intro W hSw; (try dsimp only at hSw); obtain ⟨i0, i1, i2, i3, i4, i5, iz⟩ := HK.out _ (below_after hSw HBB.out); go_simp; try (with_reducible rfl))); (try simp only [Act.put, List.getElem_toArray, List.getElem_cons_succ, List.getElem_cons_zero, List.setIfInBounds_toArray, List.set_cons_zero, List.set_cons_succ])
    (refine wpAnyH_take (i := 5) (v := ?_) rfl (by kernel_rfl) (by kernel_rfl) (by kernel_rfl) (fun _ _ _ h => h) (Or.inl ⟨rfl, ?_⟩) (by assumption) ?_; rotate_left; focus (intro W hSw; (try dsimp only at hSw); obtain ⟨i0, i1, i2, i3, i4, i5, iz⟩ := HK.out _ (below_after hSw HBB.out); go_simp; try (with_reducible rfl))); (try simp only [Act.put, List.getElem_toArray, List.getElem_cons_succ, List.getElem_cons_zero, List.setIfInBounds_toArray, List.set_cons_zero, List.set_cons_succ])
    refine wpAnyH_ready (rs := [6, 7]) (by kernel_rfl) (by simp) ?_; refine AllReadyH.cons rfl (fun K hK => ?_) (AllReadyH.cons rfl (fun K hK => ?_) AllReadyH.nil)
    · skip
      go_simp; (go_at_call 91; refine (HP.out _).mono ?_; rintro en yw0 ⟨rfl, hb2⟩); refine hK.out _ _ (below_after hb2 hHeld) (fun hHeld2 => ?_); clear hb2; (clear hHeld; rename _ => hHeld; clear hK K; have hHeld : Below w1.heap.size w1 _ := hHeld); (try simp only [Act.put, List.getElem_toArray, List.getElem_cons_succ, List.getElem_cons_zero, List.setIfInBounds_toArray, List.set_cons_zero, List.set_cons_succ])
      refine wpAnyH_ready (rs := [7]) (by kernel_rfl) (by simp) ?_; refine AllReadyH.cons rfl (fun K hK => ?_) AllReadyH.nil
      go_simp; obtain ⟨Gs, hGs⟩ : ∃ G, yw0.heap.size = G := ⟨_, rfl⟩; have le_s : w1.heap.size ≤ Gs := by rw [← hGs]; exact Below.size hHeld
      have Hs : Hid (Bk2 (yw0.alloc (.cells #[.int .i64 0, .int .i64 0] 25)) Gs 0 0) := by rw [← hGs]; exact bk2_new yw0 0 0 _
      refine hK.out _ _ (Below.alloc hHeld (Below.size hHeld) _) (fun hHeld2 => ?_); (clear hHeld; rename _ => hHeld; clear hK K; have hHeld : Below w1.heap.size w1 _ := hHeld); (try simp only [Act.put, List.getElem_toArray, List.getElem_cons_succ, List.getElem_cons_zero, List.setIfInBounds_toArray, List.set_cons_zero, List.set_cons_succ])
      rw [hGs]; clear hGs; obtain ⟨yw1, hwx⟩ : ∃ wx, yw0.alloc (.cells #[.int .i64 0, .int .i64 0] 25) = wx := ⟨_, rfl⟩; rw [hwx] at Hs hHeld ⊢; clear hwx
      refine wpAnyH_ready (rs := [8]) (by kernel_rfl) (by simp) ?_; refine AllReadyH.cons rfl (fun K hK => ?_) AllReadyH.nil
      obtain ⟨⟨a0, a1⟩, ⟨f0, f1⟩, az⟩ := Hs.out; go_simp; clear a0 f0 a1 f1 az
      have Hs := Lib.hid ((Hs.out.set0 sx).set1 sy)
      refine hK.out _ _ (Below.setCell (Below.setCell hHeld (p := ⟨Gs, 0, none⟩) le_s _) (p := ⟨Gs, 1, none⟩) le_s _) (fun hHeld2 => ?_); (clear hHeld; rename _ => hHeld; clear hK K; have hHeld : Below w1.heap.size w1 _ := hHeld); (try simp only [Act.put, List.getElem_toArray, List.getElem_cons_succ, List.getElem_cons_zero, List.setIfInBounds_toArray, List.set_cons_zero, List.set_cons_succ])
      obtain ⟨yw2, hwx⟩ : ∃ wx, (yw1.setCell ⟨Gs, 0, none⟩ (.int .i64 sx)).setCell ⟨Gs, 1, none⟩ (.int .i64 sy) = wx := ⟨_, rfl⟩; rw [hwx] at Hs hHeld ⊢; clear hwx
      refine wpAnyH_done (by kernel_rfl) ?_ _
      go_wp2_with fail
      go_meet
      exact ⟨Gs, rfl, le_s, Hs.out, hHeld⟩
    · skip
      go_simp; obtain ⟨Gs, hGs⟩ : ∃ G, wD.heap.size = G := ⟨_, rfl⟩; have le_s : w1.heap.size ≤ Gs := by rw [← hGs]; exact Below.size hHeld
      have Hs : Hid (Bk2 (wD.alloc (.cells #[.int .i64 0, .int .i64 0] 25)) Gs 0 0) := by rw [← hGs]; exact bk2_new wD 0 0 _
      refine hK.out _ _ (Below.alloc hHeld (Below.size hHeld) _) (fun hHeld2 => ?_); (clear hHeld; rename _ => hHeld; clear hK K; have hHeld : Below w1.heap.size w1 _ := hHeld); (try simp only [Act.put, List.getElem_toArray, List.getElem_cons_succ, List.getElem_cons_zero, List.setIfInBounds_toArray, List.set_cons_zero, List.set_cons_succ])
      rw [hGs]; clear hGs; obtain ⟨yw0, hwx⟩ : ∃ wx, wD.alloc (.cells #[.int .i64 0, .int .i64 0] 25) = wx := ⟨_, rfl⟩; rw [hwx] at Hs hHeld ⊢; clear hwx
      refine wpAnyH_ready (rs := [6]) (by kernel_rfl) (by simp) ?_; refine AllReadyH.cons rfl (fun K hK => ?_) AllReadyH.nil
      go_simp; (go_at_call 91; refine (HP.out _).mono ?_; rintro en yw1 ⟨rfl, hb2⟩); have Hs := Lib.hid (Hs.out.below hb2); refine hK.out _ _ (below_after hb2 hHeld) (fun hHeld2 => ?_); clear hb2; (clear hHeld; rename _ => hHeld; clear hK K; have hHeld : Below w1.heap.size w1 _ := hHeld); (try simp only [Act.put, List.getElem_toArray, List.getElem_cons_succ, List.getElem_cons_zero, List.setIfInBounds_toArray, List.set_cons_zero, List.set_cons_succ])
      refine wpAnyH_ready (rs := [8]) (by kernel_rfl) (by simp) ?_; refine AllReadyH.cons rfl (fun K hK => ?_) AllReadyH.nil
      obtain ⟨⟨a0, a1⟩, ⟨f0, f1⟩, az⟩ := Hs.out; go_simp; clear a0 f0 a1 f1 az
      have Hs := Lib.hid ((Hs.out.set0 sx).set1 sy)
      refine hK.out _ _ (Below.setCell (Below.setCell hHeld (p := ⟨Gs, 0, none⟩) le_s _) (p := ⟨Gs, 1, none⟩) le_s _) (fun hHeld2 => ?_); (clear hHeld; rename _ => hHeld; clear hK K; have hHeld : Below w1.heap.size w1 _ := hHeld); (try simp only [Act.put, List.getElem_toArray, List.getElem_cons_succ, List.getElem_cons_zero, List.setIfInBounds_toArray, List.set_cons_zero, List.set_cons_succ])
      obtain ⟨yw2, hwx⟩ : ∃ wx, (yw1.setCell ⟨Gs, 0, none⟩ (.int .i64 sx)).setCell ⟨Gs, 1, none⟩ (.int .i64 sy) = wx := ⟨_, rfl⟩; rw [hwx] at Hs hHeld ⊢; clear hwx
      refine wpAnyH_done (by kernel_rfl) ?_ _
      go_wp2_with fail
      go_meet
      exact ⟨Gs, rfl, le_s, Hs.out, hHeld⟩
  case rest =>
    obtain ⟨Gs, rfl, le_s, hS, hbx⟩ := hcut
    obtain ⟨w2, rfl⟩ : ∃ w2, w2 = wc := ⟨_, rfl⟩
    obtain ⟨⟨a0, a1⟩, _, az⟩ := id hS
    by_cases hm : sx.tmod 2 = 0
    · have hn : ¬ sy.tmod 2 = 0 := by have := HW.out; unfold whI at this; rw [decide_eq_true hm] at this; simpa using this
      go_wp2
      refine bodyPost_ret (v := .tuple #[.slice none 0 0, .int .i64 5]) (by simp (maxDischargeDepth := 8) [results, Try.results57, go_sem, *]) rfl ?_
      exact ⟨_, rfl, World.ownsRow_nil _ _ _ _, below_after (below_after hbx HBB.out) HBW.out⟩
    · go_wp2
      refine bodyPost_ret (v := .tuple #[.slice none 0 0, .int .i64 5]) (by simp (maxDischargeDepth := 8) [results, Try.results57, go_sem, *]) rfl ?_
      exact ⟨_, rfl, World.ownsRow_nil _ _ _ _, below_after (below_after hbx HBB.out) HBW.out⟩
set_option maxHeartbeats 4000000 in
theorem spec_Split_2y (x0 y0 x1 y1 x2 y2 sx sy mx my : Int) (w : World) (h : isT x0 y0 x1 y1 x2 y2 = true) (hx : (x0 + 1 * x1) = sx) (hy : (y0 + 1 * y1) = sy) (hw : whI sx sy = true) (hmx : sx.tdiv 2 = mx) (hmy : sy.tdiv 2 = my) : Calls Try.prog 57 #[.agg #[.int .i64 x0, .int .i64 y0, .int .i64 x1, .int .i64 y1, .int .i64 x2, .int .i64 y2], .int .i64 2] w fun e w' => ∃ v, e = .returned (.tuple #[v, .int .i64 0]) ∧ OwnTr w.heap.size w' v 2 (stZ x0 y0 x1 y1 x2 y2 2 mx my) ∧ Below w.heap.size w w' := by
  have HT := Lib.hid h
  obtain ⟨t0, t1, t2, t3, t4, t5, _⟩ := isT_iff.1 h
  have hP : ∀ w, Calls Try.prog 91 #[.agg #[.int .i64 x0, .int .i64 y0], .agg #[.int .i64 x1, .int .i64 y1], .int .i64 1] w fun e w' => e = .returned (.agg #[.int .i64 sx, .int .i64 sy]) ∧ Below w.heap.size w w' := by
    intro w
    have := l01Plus_any x0 y0 x1 y1 1 w t0.bn t1.bn t2.bn t3.bn ⟨by decide, by decide⟩
    rw [hx, hy] at this
    exact this
  have HP := Lib.hid hP
  have sxb : -2000 ≤ sx ∧ sx ≤ 2000 := by unfold Sml at t0 t2; omega
  have syb : -2000 ≤ sy ∧ sy ≤ 2000 := by unfold Sml at t1 t3; omega
  have wx1 : IntKind.i64.wrap (sx.tmod 2) = sx.tmod 2 := by rw [IntKind.wrap_i64]; have := Int.tmod_lt_of_pos sx (show (0 : Int) < 2 by decide); have := Int.lt_tmod_of_pos sx (show (0 : Int) < 2 by decide); omega
  have wy1 : IntKind.i64.wrap (sy.tmod 2) = sy.tmod 2 := by rw [IntKind.wrap_i64]; have := Int.tmod_lt_of_pos sy (show (0 : Int) < 2 by decide); have := Int.lt_tmod_of_pos sy (show (0 : Int) < 2 by decide); omega
  have qx := tdiv2_bd sxb
  have qy := tdiv2_bd syb
  have wx2 : IntKind.i64.wrap mx = mx := by rw [← hmx]; exact wr (by omega) (by omega)
  have wy2 : IntKind.i64.wrap my = my := by rw [← hmy]; exact wr (by omega) (by omega)
  have n1 : IntKind.i64.wrap (2 + 1) = 3 := by decide
  have n2 : IntKind.i64.wrap (2 + 2) = 4 := by decide
  have n3 : IntKind.i64.wrap (Int.tmod 3 3) = 0 := by decide
  have n4 : IntKind.i64.wrap (Int.tmod 4 3) = 1 := by decide
  have n5 : inB 2 0 2 = true := by decide
  have HW := Lib.hid hw
  clear h hx hy t0 t1 t2 t3 t4 t5 hP sxb syb hw qx qy
  go_enter Try.func57, Try.ntmps57
  go_upto_region 1 with fail
  obtain ⟨wB, hwB⟩ : ∃ wB, wB = w.alloc (.cells #[.int .i64 x0, .int .i64 y0, .int .i64 x1, .int .i64 y1, .int .i64 x2, .int .i64 y2] 27) := ⟨_, rfl⟩
  rw [← hwB]
  have HBW : Hid (Below w.heap.size w wB) := by
    show Below w.heap.size w wB
    rw [hwB]; (repeat' (first | (with_reducible exact Below.refl _ _) | (with_reducible refine Below.alloc ?_ ?_ _) | (with_reducible refine Below.setCell ?_ ?_ _) | (with_reducible refine Below.drew ?_) | (with_reducible refine below_drewN ?_ _) | (with_reducible assumption) | (with_reducible refine below_after (by with_reducible assumption) ?_) | go_size))
  have HK : Hid (∀ W', Below wB.heap.size wB W' → W'.cell? ⟨w.heap.size, 0, none⟩ = some (.int .i64 x0) ∧ W'.cell? ⟨w.heap.size, 1, none⟩ = some (.int .i64 y0) ∧ W'.cell? ⟨w.heap.size, 2, none⟩ = some (.int .i64 x1) ∧ W'.cell? ⟨w.heap.size, 3, none⟩ = some (.int .i64 y1) ∧ W'.cell? ⟨w.heap.size, 4, none⟩ = some (.int .i64 x2) ∧ W'.cell? ⟨w.heap.size, 5, none⟩ = some (.int .i64 y2) ∧ w.heap.size < W'.heap.size) := by
    intro W' hB
    have hz := hB.size
    have hbs : wB.heap.size = w.heap.size + 1 := by rw [hwB]; simp
    refine ⟨?_, ?_, ?_, ?_, ?_, ?_, by omega⟩
    all_goals (rw [hB.cell (p := ⟨w.heap.size, _, none⟩) (by rw [hbs]; exact Nat.lt_succ_self _), hwB]; go_cell)
  clear hwB
  obtain ⟨s0, s1, s2, s3, s4, s5, sz⟩ := HK.out wB (Below.refl _ _)
  go_wp2_with fail
  go_at_call 62
  refine (l04Is_any _ _ _ _ _ _ _).mono ?_
  rw [HT.out]
  rintro e w1 ⟨rfl, b1⟩
  clear s0 s1 s2 s3 s4 s5 sz
  have HBB := Lib.hid b1
  clear b1
  go_upto_region 6 with (first | (go_at_call 74; refine (l01In_any _ _ _ _).mono ?_; rintro e wn ⟨rfl, rfl⟩))
  clear n1 n2 n3 n4 n5
  go_cut [8] (fun v8 wx => ∃ Gs : Nat, v8 = .pointer (some ⟨Gs, 0, none⟩) ∧ w1.heap.size ≤ Gs ∧ Bk2 wx Gs sx sy ∧ Below w1.heap.size w1 wx)
  case first =>
    refine wp_region_held_drew (S := fun W => Below w1.heap.size w1 W) (by kernel_rfl) ?_ (fun hHeld => ?_); focus ((try dsimp only); exact (Below.refl _ _).drew)
    have hHeld : Below w1.heap.size w1 _ := hHeld
    obtain ⟨wD, hwD⟩ : ∃ wD, w1.drew = wD := ⟨_, rfl⟩
    rw [hwD] at hHeld ⊢
    clear hwD
    (refine wpAnyH_take (i := 0) (v := ?_) rfl (by kernel_rfl) (by kernel_rfl) (by kernel_rfl) (fun _ _ _ h => h) (Or.inl ⟨rfl, ?_⟩) (by assumption) ?_; rotate_left; focus (intro W hSw; (try dsimp only at hSw); obtain ⟨i0, i1, i2, i3, i4, i5, iz⟩ := HK.out _ (below_after hSw HBB.out); go_simp; try (with_reducible rfl))); (try simp only [Act.put, List.getElem_toArray, List.getElem_cons_succ, List.getElem_cons_zero, List.setIfInBounds_toArray, List.set_cons_zero, List.set_cons_succ])
    (refine wpAnyH_take (i := 1) (v := ?_) rfl (by kernel_rfl) (by kernel_rfl) (by kernel_rfl) (fun _ _ _ h => h) (Or.inl ⟨rfl, ?_⟩) (by assumption) ?_; rotate_left; focus (intro W hSw; (try dsimp only at hSw); obtain ⟨i0, i1, i2, i3, i4, i5, iz⟩ := HK.out _ (below_after hSw HBB.out); go_simp; try (with_reducible rfl))); (try simp only [Act.put, List.getElem_toArray, List.getElem_cons_succ, List.getElem_cons_zero, List.setIfInBounds_toArray, List.set_cons_zero, List.set_cons_succ])
    (refine wpAnyH_take (i := 2) (v := ?_) rfl (by kernel_rfl) (by kernel_rfl) (by kernel_rfl) (fun _ _ _ h => h) (Or.inl ⟨rfl, ?_⟩) (by assumption) ?_; rotate_left; focus (intro W hSw; (try dsimp only at hSw); obtain ⟨i0, i1, i2, i3, i4, i5, iz⟩ := HK.out _ (below_after hSw HBB.out); go_simp; try (with_reducible rfl))); (try simp only [Act.put, List.getElem_toArray, List.getElem_cons_succ, List.getElem_cons_zero, List.setIfInBounds_toArray, List.set_cons_zero, List.set_cons_succ])
    (refine wpAnyH_take (i := 3) (v := ?_) rfl (by kernel_rfl) (by kernel_rfl) (by kernel_rfl) (fun _ _ _ h => h) (Or.inl ⟨rfl, ?_⟩) (by assumption) ?_; rotate_left; focus (intro W hSw; (try dsimp only at hSw); obtain ⟨i0, i1, i2, i3, i4, i5, iz⟩ := HK.out _ (below_after hSw HBB.out); go_simp; try (with_reducible rfl))); (try simp only [Act.put, List.getElem_toArray, List.getElem_cons_succ, List.getElem_cons_zero, List.setIfInBounds_toArray, List.set_cons_zero, List.set_cons_succ])
    (refine wpAnyH_take (i := 4) (v := ?_) rfl (by kernel_rfl) (by kernel_rfl) (by kernel_rfl) (fun _ _ _ h => h) (Or.inl ⟨rfl, ?_⟩) (by assumption) ?_; rotate_left; focus (intro W hSw; (try dsimp only at hSw); obtain ⟨i0, i1, i2, i3, i4, i5, iz⟩ := HK.out _ (below_after hSw HBB.out); go_simp; try (with_reducible rfl))); (try simp only [Act.put, List.getElem_toArray, List.getElem_cons_succ, List.getElem_cons_zero, List.setIfInBounds_toArray, List.set_cons_zero, List.set_cons_succ])
    (refine wpAnyH_take (i := 5) (v := ?_) rfl (by kernel_rfl) (by kernel_rfl) (by kernel_rfl) (fun _ _ _ h => h) (Or.inl ⟨rfl, ?_⟩) (by assumption) ?_; rotate_left; focus (intro W hSw; (try dsimp only at hSw); obtain ⟨i0, i1, i2, i3, i4, i5, iz⟩ := HK.out _ (below_after hSw HBB.out); go_simp; try (with_reducible rfl))); (try simp only [Act.put, List.getElem_toArray, List.getElem_cons_succ, List.getElem_cons_zero, List.setIfInBounds_toArray, List.set_cons_zero, List.set_cons_succ])
    refine wpAnyH_ready (rs := [6, 7]) (by kernel_rfl) (by simp) ?_; refine AllReadyH.cons rfl (fun K hK => ?_) (AllReadyH.cons rfl (fun K hK => ?_) AllReadyH.nil)
    · skip
      go_simp; (go_at_call 91; refine (HP.out _).mono ?_; rintro en yw0 ⟨rfl, hb2⟩); refine hK.out _ _ (below_after hb2 hHeld) (fun hHeld2 => ?_); clear hb2; (clear hHeld; rename _ => hHeld; clear hK K; have hHeld : Below w1.heap.size w1 _ := hHeld); (try simp only [Act.put, List.getElem_toArray, List.getElem_cons_succ, List.getElem_cons_zero, List.setIfInBounds_toArray, List.set_cons_zero, List.set_cons_succ])
      refine wpAnyH_ready (rs := [7]) (by kernel_rfl) (by simp) ?_; refine AllReadyH.cons rfl (fun K hK => ?_) AllReadyH.nil
      go_simp; obtain ⟨Gs, hGs⟩ : ∃ G, yw0.heap.size = G := ⟨_, rfl⟩; have le_s : w1.heap.size ≤ Gs := by rw [← hGs]; exact Below.size hHeld
      have Hs : Hid (Bk2 (yw0.alloc (.cells #[.int .i64 0, .int .i64 0] 25)) Gs 0 0) := by rw [← hGs]; exact bk2_new yw0 0 0 _
      refine hK.out _ _ (Below.alloc hHeld (Below.size hHeld) _) (fun hHeld2 => ?_); (clear hHeld; rename _ => hHeld; clear hK K; have hHeld : Below w1.heap.size w1 _ := hHeld); (try simp only [Act.put, List.getElem_toArray, List.getElem_cons_succ, List.getElem_cons_zero, List.setIfInBounds_toArray, List.set_cons_zero, List.set_cons_succ])
      rw [hGs]; clear hGs; obtain ⟨yw1, hwx⟩ : ∃ wx, yw0.alloc (.cells #[.int .i64 0, .int .i64 0] 25) = wx := ⟨_, rfl⟩; rw [hwx] at Hs hHeld ⊢; clear hwx
      refine wpAnyH_ready (rs := [8]) (by kernel_rfl) (by simp) ?_; refine AllReadyH.cons rfl (fun K hK => ?_) AllReadyH.nil
      obtain ⟨⟨a0, a1⟩, ⟨f0, f1⟩, az⟩ := Hs.out; go_simp; clear a0 f0 a1 f1 az
      have Hs := Lib.hid ((Hs.out.set0 sx).set1 sy)
      refine hK.out _ _ (Below.setCell (Below.setCell hHeld (p := ⟨Gs, 0, none⟩) le_s _) (p := ⟨Gs, 1, none⟩) le_s _) (fun hHeld2 => ?_); (clear hHeld; rename _ => hHeld; clear hK K; have hHeld : Below w1.heap.size w1 _ := hHeld); (try simp only [Act.put, List.getElem_toArray, List.getElem_cons_succ, List.getElem_cons_zero, List.setIfInBounds_toArray, List.set_cons_zero, List.set_cons_succ])
      obtain ⟨yw2, hwx⟩ : ∃ wx, (yw1.setCell ⟨Gs, 0, none⟩ (.int .i64 sx)).setCell ⟨Gs, 1, none⟩ (.int .i64 sy) = wx := ⟨_, rfl⟩; rw [hwx] at Hs hHeld ⊢; clear hwx
      refine wpAnyH_done (by kernel_rfl) ?_ _
      go_wp2_with fail
      go_meet
      exact ⟨Gs, rfl, le_s, Hs.out, hHeld⟩
    · skip
      go_simp; obtain ⟨Gs, hGs⟩ : ∃ G, wD.heap.size = G := ⟨_, rfl⟩; have le_s : w1.heap.size ≤ Gs := by rw [← hGs]; exact Below.size hHeld
      have Hs : Hid (Bk2 (wD.alloc (.cells #[.int .i64 0, .int .i64 0] 25)) Gs 0 0) := by rw [← hGs]; exact bk2_new wD 0 0 _
      refine hK.out _ _ (Below.alloc hHeld (Below.size hHeld) _) (fun hHeld2 => ?_); (clear hHeld; rename _ => hHeld; clear hK K; have hHeld : Below w1.heap.size w1 _ := hHeld); (try simp only [Act.put, List.getElem_toArray, List.getElem_cons_succ, List.getElem_cons_zero, List.setIfInBounds_toArray, List.set_cons_zero, List.set_cons_succ])
      rw [hGs]; clear hGs; obtain ⟨yw0, hwx⟩ : ∃ wx, wD.alloc (.cells #[.int .i64 0, .int .i64 0] 25) = wx := ⟨_, rfl⟩; rw [hwx] at Hs hHeld ⊢; clear hwx
      refine wpAnyH_ready (rs := [6]) (by kernel_rfl) (by simp) ?_; refine AllReadyH.cons rfl (fun K hK => ?_) AllReadyH.nil
      go_simp; (go_at_call 91; refine (HP.out _).mono ?_; rintro en yw1 ⟨rfl, hb2⟩); have Hs := Lib.hid (Hs.out.below hb2); refine hK.out _ _ (below_after hb2 hHeld) (fun hHeld2 => ?_); clear hb2; (clear hHeld; rename _ => hHeld; clear hK K; have hHeld : Below w1.heap.size w1 _ := hHeld); (try simp only [Act.put, List.getElem_toArray, List.getElem_cons_succ, List.getElem_cons_zero, List.setIfInBounds_toArray, List.set_cons_zero, List.set_cons_succ])
      refine wpAnyH_ready (rs := [8]) (by kernel_rfl) (by simp) ?_; refine AllReadyH.cons rfl (fun K hK => ?_) AllReadyH.nil
      obtain ⟨⟨a0, a1⟩, ⟨f0, f1⟩, az⟩ := Hs.out; go_simp; clear a0 f0 a1 f1 az
      have Hs := Lib.hid ((Hs.out.set0 sx).set1 sy)
      refine hK.out _ _ (Below.setCell (Below.setCell hHeld (p := ⟨Gs, 0, none⟩) le_s _) (p := ⟨Gs, 1, none⟩) le_s _) (fun hHeld2 => ?_); (clear hHeld; rename _ => hHeld; clear hK K; have hHeld : Below w1.heap.size w1 _ := hHeld); (try simp only [Act.put, List.getElem_toArray, List.getElem_cons_succ, List.getElem_cons_zero, List.setIfInBounds_toArray, List.set_cons_zero, List.set_cons_succ])
      obtain ⟨yw2, hwx⟩ : ∃ wx, (yw1.setCell ⟨Gs, 0, none⟩ (.int .i64 sx)).setCell ⟨Gs, 1, none⟩ (.int .i64 sy) = wx := ⟨_, rfl⟩; rw [hwx] at Hs hHeld ⊢; clear hwx
      refine wpAnyH_done (by kernel_rfl) ?_ _
      go_wp2_with fail
      go_meet
      exact ⟨Gs, rfl, le_s, Hs.out, hHeld⟩
  case rest =>
    obtain ⟨Gs, rfl, le_s, hS, hbx⟩ := hcut
    obtain ⟨w2, rfl⟩ : ∃ w2, w2 = wc := ⟨_, rfl⟩
    obtain ⟨⟨a0, a1⟩, _, az⟩ := id hS
    have hm0 : sx.tmod 2 = 0 := by have := HW.out; unfold whI at this; simp only [Bool.and_eq_true, decide_eq_true_eq] at this; exact this.1
    have hm1 : sy.tmod 2 = 0 := by have := HW.out; unfold whI at this; simp only [Bool.and_eq_true, decide_eq_true_eq] at this; exact this.2
    go_upto_region 9 with fail
    clear a0 a1 az hm0 hm1 wx1 wy1
    have HX2 : Hid (∀ W, Below w2.heap.size w2 W → Bk2 W Gs sx sy ∧ Below wB.heap.size wB W) := fun W hW => ⟨hS.below hW, below_after (below_after hW hbx) HBB.out⟩
    clear hS hbx le_s HBB
    go_cut [9, 10, 11] (fun v9 v10 v11 wx => ∃ Gm Ga Gb : Nat, v9 = .pointer (some ⟨Gm, 0, none⟩) ∧ v10 = .pointer (some ⟨Ga, 0, none⟩) ∧ v11 = .pointer (some ⟨Gb, 0, none⟩) ∧ Ga ≠ Gb ∧ Gm ≠ Ga ∧ Gm ≠ Gb ∧ w2.heap.size ≤ Ga ∧ w2.heap.size ≤ Gb ∧ Bk2 wx Gm mx my ∧ Bk6 wx Ga x0 y0 x1 y1 x2 y2 ∧ Bk6 wx Gb x0 y0 x1 y1 x2 y2 ∧ Below w2.heap.size w2 wx)
    case first =>
      refine wp_region_held_drew (S := fun W => Below w2.heap.size w2 W) (by kernel_rfl) ?_ (fun hHeld => ?_); focus ((try dsimp only); exact (Below.refl _ _).drew)
      have hHeld : Below w2.heap.size w2 _ := hHeld
      obtain ⟨wD, hwD⟩ : ∃ wD, w2.drew = wD := ⟨_, rfl⟩
      rw [hwD] at hHeld ⊢
      clear hwD
      (refine wpAnyH_take (i := 0) (v := ?_) rfl (by kernel_rfl) (by kernel_rfl) (by kernel_rfl) (fun _ _ _ h => h) (Or.inl ⟨rfl, ?_⟩) (by assumption) ?_; rotate_left; focus (intro W hSw; (try dsimp only at hSw); obtain ⟨hS2, hW2⟩ := HX2.out _ hSw; obtain ⟨⟨b0, b1⟩, _, bz⟩ := hS2; obtain ⟨i0, i1, i2, i3, i4, i5, iz⟩ := HK.out _ hW2; go_simp; try (with_reducible rfl))); (try simp only [Act.put, List.getElem_toArray, List.getElem_cons_succ, List.getElem_cons_zero, List.setIfInBounds_toArray, List.set_cons_zero, List.set_cons_succ])
      (refine wpAnyH_take (i := 1) (v := ?_) rfl (by kernel_rfl) (by kernel_rfl) (by kernel_rfl) (fun _ _ _ h => h) (Or.inl ⟨rfl, ?_⟩) (by assumption) ?_; rotate_left; focus (intro W hSw; (try dsimp only at hSw); obtain ⟨hS2, hW2⟩ := HX2.out _ hSw; obtain ⟨⟨b0, b1⟩, _, bz⟩ := hS2; obtain ⟨i0, i1, i2, i3, i4, i5, iz⟩ := HK.out _ hW2; go_simp; try (with_reducible rfl))); (try simp only [Act.put, List.getElem_toArray, List.getElem_cons_succ, List.getElem_cons_zero, List.setIfInBounds_toArray, List.set_cons_zero, List.set_cons_succ])
      (refine wpAnyH_take (i := 2) (v := ?_) rfl (by kernel_rfl) (by kernel_rfl) (by kernel_rfl) (fun _ _ _ h => h) (Or.inl ⟨rfl, ?_⟩) (by assumption) ?_; rotate_left; focus (intro W hSw; (try dsimp only at hSw); obtain ⟨hS2, hW2⟩ := HX2.out _ hSw; obtain ⟨⟨b0, b1⟩, _, bz⟩ := hS2; obtain ⟨i0, i1, i2, i3, i4, i5, iz⟩ := HK.out _ hW2; go_simp; try (with_reducible rfl))); (try simp only [Act.put, List.getElem_toArray, List.getElem_cons_succ, List.getElem_cons_zero, List.setIfInBounds_toArray, List.set_cons_zero, List.set_cons_succ])
      (refine wpAnyH_take (i := 3) (v := ?_) rfl (by kernel_rfl) (by kernel_rfl) (by kernel_rfl) (fun _ _ _ h => h) (Or.inl ⟨rfl, ?_⟩) (by assumption) ?_; rotate_left; focus (intro W hSw; (try dsimp only at hSw); obtain ⟨hS2, hW2⟩ := HX2.out _ hSw; obtain ⟨⟨b0, b1⟩, _, bz⟩ := hS2; obtain ⟨i0, i1, i2, i3, i4, i5, iz⟩ := HK.out _ hW2; go_simp; try (with_reducible rfl))); (try simp only [Act.put, List.getElem_toArray, List.getElem_cons_succ, List.getElem_cons_zero, List.setIfInBounds_toArray, List.set_cons_zero, List.set_cons_succ])
      (refine wpAnyH_take (i := 4) (v := ?_) rfl (by kernel_rfl) (by kernel_rfl) (by kernel_rfl) (fun _ _ _ h => h) (Or.inl ⟨rfl, ?_⟩) (by assumption) ?_; rotate_left; focus (intro W hSw; (try dsimp only at hSw); obtain ⟨hS2, hW2⟩ := HX2.out _ hSw; obtain ⟨⟨b0, b1⟩, _, bz⟩ := hS2; obtain ⟨i0, i1, i2, i3, i4, i5, iz⟩ := HK.out _ hW2; go_simp; try (with_reducible rfl))); (try simp only [Act.put, List.getElem_toArray, List.getElem_cons_succ, List.getElem_cons_zero, List.setIfInBounds_toArray, List.set_cons_zero, List.set_cons_succ])
      (refine wpAnyH_take (i := 5) (v := ?_) rfl (by kernel_rfl) (by kernel_rfl) (by kernel_rfl) (fun _ _ _ h => h) (Or.inl ⟨rfl, ?_⟩) (by assumption) ?_; rotate_left; focus (intro W hSw; (try dsimp only at hSw); obtain ⟨hS2, hW2⟩ := HX2.out _ hSw; obtain ⟨⟨b0, b1⟩, _, bz⟩ := hS2; obtain ⟨i0, i1, i2, i3, i4, i5, iz⟩ := HK.out _ hW2; go_simp; try (with_reducible rfl))); (try simp only [Act.put, List.getElem_toArray, List.getElem_cons_succ, List.getElem_cons_zero, List.setIfInBounds_toArray, List.set_cons_zero, List.set_cons_succ])
      (refine wpAnyH_take (i := 6) (v := ?_) rfl (by kernel_rfl) (by kernel_rfl) (by kernel_rfl) (fun _ _ _ h => h) (Or.inl ⟨rfl, ?_⟩) (by assumption) ?_; rotate_left; focus (intro W hSw; (try dsimp only at hSw); obtain ⟨hS2, hW2⟩ := HX2.out _ hSw; obtain ⟨⟨b0, b1⟩, _, bz⟩ := hS2; obtain ⟨i0, i1, i2, i3, i4, i5, iz⟩ := HK.out _ hW2; go_simp; try (with_reducible rfl))); (try simp only [Act.put, List.getElem_toArray, List.getElem_cons_succ, List.getElem_cons_zero, List.setIfInBounds_toArray, List.set_cons_zero, List.set_cons_succ])
      (refine wpAnyH_take (i := 7) (v := ?_) rfl (by kernel_rfl) (by kernel_rfl) (by kernel_rfl) (fun _ _ _ h => h) (Or.inl ⟨rfl, ?_⟩) (by assumption) ?_; rotate_left; focus (intro W hSw; (try dsimp only at hSw); obtain ⟨hS2, hW2⟩ := HX2.out _ hSw; obtain ⟨⟨b0, b1⟩, _, bz⟩ := hS2; obtain ⟨i0, i1, i2, i3, i4, i5, iz⟩ := HK.out _ hW2; go_simp; try (with_reducible rfl))); (try simp only [Act.put, List.getElem_toArray, List.getElem_cons_succ, List.getElem_cons_zero, List.setIfInBounds_toArray, List.set_cons_zero, List.set_cons_succ])
      (refine wpAnyH_take (i := 8) (v := ?_) rfl (by kernel_rfl) (by kernel_rfl) (by kernel_rfl) (fun _ _ _ h => h) (Or.inl ⟨rfl, ?_⟩) (by assumption) ?_; rotate_left; focus (intro W hSw; (try dsimp only at hSw); obtain ⟨hS2, hW2⟩ := HX2.out _ hSw; obtain ⟨⟨b0, b1⟩, _, bz⟩ := hS2; obtain ⟨i0, i1, i2, i3, i4, i5, iz⟩ := HK.out _ hW2; go_simp; try (with_reducible rfl))); (try simp only [Act.put, List.getElem_toArray, List.getElem_cons_succ, List.getElem_cons_zero, List.setIfInBounds_toArray, List.set_cons_zero, List.set_cons_succ])
      refine wpAnyH_ready (rs := [9, 10, 11]) (by kernel_rfl) (by simp) ?_; refine AllReadyH.cons rfl (fun K hK => ?_) (AllReadyH.cons rfl (fun K hK => ?_) (AllReadyH.cons rfl (fun K hK => ?_) AllReadyH.nil))
      · skip
        go_simp; obtain ⟨Gm, hGm⟩ : ∃ G, wD.heap.size = G := ⟨_, rfl⟩; have le_m : w2.heap.size ≤ Gm := by rw [← hGm]; exact Below.size hHeld
        have Hm : Hid (Bk2 (wD.alloc (.cells #[.int .i64 0, .int .i64 0] 25)) Gm 0 0) := by rw [← hGm]; exact bk2_new wD 0 0 _
        refine hK.out _ _ (Below.alloc hHeld (Below.size hHeld) _) (fun hHeld2 => ?_); (clear hHeld; rename _ => hHeld; clear hK K; have hHeld : Below w2.heap.size w2 _ := hHeld); (try simp only [Act.put, List.getElem_toArray, List.getElem_cons_succ, List.getElem_cons_zero, List.setIfInBounds_toArray, List.set_cons_zero, List.set_cons_succ])
        rw [hGm]; clear hGm; obtain ⟨yw0, hwx⟩ : ∃ wx, wD.alloc (.cells #[.int .i64 0, .int .i64 0] 25) = wx := ⟨_, rfl⟩; rw [hwx] at Hm hHeld ⊢; clear hwx
        refine wpAnyH_ready (rs := [10, 11]) (by kernel_rfl) (by simp) ?_; refine AllReadyH.cons rfl (fun K hK => ?_) (AllReadyH.cons rfl (fun K hK => ?_) AllReadyH.nil)
        · skip
          go_simp; obtain ⟨Ga, hGa⟩ : ∃ G, yw0.heap.size = G := ⟨_, rfl⟩; have le_a : w2.heap.size ≤ Ga := by rw [← hGa]; exact Below.size hHeld
          have ne_a_m : Ga ≠ Gm := by have := Hm.out.2.2; omega
          have ne_m_a : Gm ≠ Ga := Ne.symm ne_a_m
          have Hm := Lib.hid (Hm.out.below ((Below.refl _ _).alloc (Nat.le_refl _) (.cells #[.int .i64 0, .int .i64 0, .int .i64 0, .int .i64 0, .int .i64 0, .int .i64 0] 27))); skip
          have Ha : Hid (Bk6 (yw0.alloc (.cells #[.int .i64 0, .int .i64 0, .int .i64 0, .int .i64 0, .int .i64 0, .int .i64 0] 27)) Ga 0 0 0 0 0 0) := by rw [← hGa]; exact bk6_new yw0 0 0 0 0 0 0 _
          refine hK.out _ _ (Below.alloc hHeld (Below.size hHeld) _) (fun hHeld2 => ?_); (clear hHeld; rename _ => hHeld; clear hK K; have hHeld : Below w2.heap.size w2 _ := hHeld); (try simp only [Act.put, List.getElem_toArray, List.getElem_cons_succ, List.getElem_cons_zero, List.setIfInBounds_toArray, List.set_cons_zero, List.set_cons_succ])
          rw [hGa]; clear hGa; obtain ⟨yw1, hwx⟩ : ∃ wx, yw0.alloc (.cells #[.int .i64 0, .int .i64 0, .int .i64 0, .int .i64 0, .int .i64 0, .int .i64 0] 27) = wx := ⟨_, rfl⟩; rw [hwx] at Hm Ha hHeld ⊢; clear hwx
          refine wpAnyH_ready (rs := [11]) (by kernel_rfl) (by simp) ?_; refine AllReadyH.cons rfl (fun K hK => ?_) AllReadyH.nil
          go_simp; obtain ⟨Gb, hGb⟩ : ∃ G, yw1.heap.size = G := ⟨_, rfl⟩; have le_b : w2.heap.size ≤ Gb := by rw [← hGb]; exact Below.size hHeld
          have ne_b_m : Gb ≠ Gm := by have := Hm.out.2.2; omega
          have ne_m_b : Gm ≠ Gb := Ne.symm ne_b_m
          have ne_b_a : Gb ≠ Ga := by have := Ha.out.2.2; omega
          have ne_a_b : Ga ≠ Gb := Ne.symm ne_b_a
          have Hm := Lib.hid (Hm.out.below ((Below.refl _ _).alloc (Nat.le_refl _) (.cells #[.int .i64 0, .int .i64 0, .int .i64 0, .int .i64 0, .int .i64 0, .int .i64 0] 27))); have Ha := Lib.hid (Ha.out.below ((Below.refl _ _).alloc (Nat.le_refl _) (.cells #[.int .i64 0, .int .i64 0, .int .i64 0, .int .i64 0, .int .i64 0, .int .i64 0] 27))); skip
          have Hb : Hid (Bk6 (yw1.alloc (.cells #[.int .i64 0, .int .i64 0, .int .i64 0, .int .i64 0, .int .i64 0, .int .i64 0] 27)) Gb 0 0 0 0 0 0) := by rw [← hGb]; exact bk6_new yw1 0 0 0 0 0 0 _
          refine hK.out _ _ (Below.alloc hHeld (Below.size hHeld) _) (fun hHeld2 => ?_); (clear hHeld; rename _ => hHeld; clear hK K; have hHeld : Below w2.heap.size w2 _ := hHeld); (try simp only [Act.put, List.getElem_toArray, List.getElem_cons_succ, List.getElem_cons_zero, List.setIfInBounds_toArray, List.set_cons_zero, List.set_cons_succ])
          rw [hGb]; clear hGb; obtain ⟨yw2, hwx⟩ : ∃ wx, yw1.alloc (.cells #[.int .i64 0, .int .i64 0, .int .i64 0, .int .i64 0, .int .i64 0, .int .i64 0] 27) = wx := ⟨_, rfl⟩; rw [hwx] at Hm Ha Hb hHeld ⊢; clear hwx
          refine wpAnyH_ready (rs := [12]) (by kernel_rfl) (by simp) ?_; refine AllReadyH.cons rfl (fun K hK => ?_) AllReadyH.nil
          obtain ⟨⟨a0, a1⟩, ⟨f0, f1⟩, az⟩ := Hm.out; go_simp; clear a0 f0 a1 f1 az
          have Ha := Lib.hid ((Ha.out.far ⟨Gm, 0, none⟩ (.int .i64 mx) (by show Ga ≠ Gm; exact ne_a_m)).far ⟨Gm, 1, none⟩ (.int .i64 my) (by show Ga ≠ Gm; exact ne_a_m))
          have Hb := Lib.hid ((Hb.out.far ⟨Gm, 0, none⟩ (.int .i64 mx) (by show Gb ≠ Gm; exact ne_b_m)).far ⟨Gm, 1, none⟩ (.int .i64 my) (by show Gb ≠ Gm; exact ne_b_m))
          have Hm := Lib.hid ((Hm.out.set0 mx).set1 my)
          refine hK.out _ _ (Below.setCell (Below.setCell hHeld (p := ⟨Gm, 0, none⟩) le_m _) (p := ⟨Gm, 1, none⟩) le_m _) (fun hHeld2 => ?_); (clear hHeld; rename _ => hHeld; clear hK K; have hHeld : Below w2.heap.size w2 _ := hHeld); (try simp only [Act.put, List.getElem_toArray, List.getElem_cons_succ, List.getElem_cons_zero, List.setIfInBounds_toArray, List.set_cons_zero, List.set_cons_succ])
          obtain ⟨yw3, hwx⟩ : ∃ wx, (yw2.setCell ⟨Gm, 0, none⟩ (.int .i64 mx)).setCell ⟨Gm, 1, none⟩ (.int .i64 my) = wx := ⟨_, rfl⟩; rw [hwx] at Hm Ha Hb hHeld ⊢; clear hwx
          refine wpAnyH_ready (rs := [13]) (by kernel_rfl) (by simp) ?_; refine AllReadyH.cons rfl (fun K hK => ?_) AllReadyH.nil
          obtain ⟨⟨a0, a1, a2, a3, a4, a5⟩, ⟨f0, f1, f2, f3, f4, f5⟩, az⟩ := Ha.out; go_simp; clear a0 f0 a1 f1 a2 f2 a3 f3 a4 f4 a5 f5 az
          have Hm := Lib.hid ((((((Hm.out.far ⟨Ga, 0, none⟩ (.int .i64 x0) (by show Gm ≠ Ga; exact ne_m_a)).far ⟨Ga, 1, none⟩ (.int .i64 y0) (by show Gm ≠ Ga; exact ne_m_a)).far ⟨Ga, 2, none⟩ (.int .i64 x1) (by show Gm ≠ Ga; exact ne_m_a)).far ⟨Ga, 3, none⟩ (.int .i64 y1) (by show Gm ≠ Ga; exact ne_m_a)).far ⟨Ga, 4, none⟩ (.int .i64 x2) (by show Gm ≠ Ga; exact ne_m_a)).far ⟨Ga, 5, none⟩ (.int .i64 y2) (by show Gm ≠ Ga; exact ne_m_a))
          have Hb := Lib.hid ((((((Hb.out.far ⟨Ga, 0, none⟩ (.int .i64 x0) (by show Gb ≠ Ga; exact ne_b_a)).far ⟨Ga, 1, none⟩ (.int .i64 y0) (by show Gb ≠ Ga; exact ne_b_a)).far ⟨Ga, 2, none⟩ (.int .i64 x1) (by show Gb ≠ Ga; exact ne_b_a)).far ⟨Ga, 3, none⟩ (.int .i64 y1) (by show Gb ≠ Ga; exact ne_b_a)).far ⟨Ga, 4, none⟩ (.int .i64 x2) (by show Gb ≠ Ga; exact ne_b_a)).far ⟨Ga, 5, none⟩ (.int .i64 y2) (by show Gb ≠ Ga; exact ne_b_a))
          have Ha := Lib.hid ((((((Ha.out.set0 x0).set1 y0).set2 x1).set3 y1).set4 x2).set5 y2)
          refine hK.out _ _ (Below.setCell (Below.setCell (Below.setCell (Below.setCell (Below.setCell (Below.setCell hHeld (p := ⟨Ga, 0, none⟩) le_a _) (p := ⟨Ga, 1, none⟩) le_a _) (p := ⟨Ga, 2, none⟩) le_a _) (p := ⟨Ga, 3, none⟩) le_a _) (p := ⟨Ga, 4, none⟩) le_a _) (p := ⟨Ga, 5, none⟩) le_a _) (fun hHeld2 => ?_); (clear hHeld; rename _ => hHeld; clear hK K; have hHeld : Below w2.heap.size w2 _ := hHeld); (try simp only [Act.put, List.getElem_toArray, List.getElem_cons_succ, List.getElem_cons_zero, List.setIfInBounds_toArray, List.set_cons_zero, List.set_cons_succ])
          obtain ⟨yw4, hwx⟩ : ∃ wx, (((((yw3.setCell ⟨Ga, 0, none⟩ (.int .i64 x0)).setCell ⟨Ga, 1, none⟩ (.int .i64 y0)).setCell ⟨Ga, 2, none⟩ (.int .i64 x1)).setCell ⟨Ga, 3, none⟩ (.int .i64 y1)).setCell ⟨Ga, 4, none⟩ (.int .i64 x2)).setCell ⟨Ga, 5, none⟩ (.int .i64 y2) = wx := ⟨_, rfl⟩; rw [hwx] at Hm Ha Hb hHeld ⊢; clear hwx
          refine wpAnyH_ready (rs := [14]) (by kernel_rfl) (by simp) ?_; refine AllReadyH.cons rfl (fun K hK => ?_) AllReadyH.nil
          obtain ⟨⟨a0, a1, a2, a3, a4, a5⟩, ⟨f0, f1, f2, f3, f4, f5⟩, az⟩ := Hb.out; go_simp; clear a0 f0 a1 f1 a2 f2 a3 f3 a4 f4 a5 f5 az
          have Hm := Lib.hid ((((((Hm.out.far ⟨Gb, 0, none⟩ (.int .i64 x0) (by show Gm ≠ Gb; exact ne_m_b)).far ⟨Gb, 1, none⟩ (.int .i64 y0) (by show Gm ≠ Gb; exact ne_m_b)).far ⟨Gb, 2, none⟩ (.int .i64 x1) (by show Gm ≠ Gb; exact ne_m_b)).far ⟨Gb, 3, none⟩ (.int .i64 y1) (by show Gm ≠ Gb; exact ne_m_b)).far ⟨Gb, 4, none⟩ (.int .i64 x2) (by show Gm ≠ Gb; exact ne_m_b)).far ⟨Gb, 5, none⟩ (.int .i64 y2) (by show Gm ≠ Gb; exact ne_m_b))
          have Ha := Lib.hid ((((((Ha.out.far ⟨Gb, 0, none⟩ (.int .i64 x0) (by show Ga ≠ Gb; exact ne_a_b)).far ⟨Gb, 1, none⟩ (.int .i64 y0) (by show Ga ≠ Gb; exact ne_a_b)).far ⟨Gb, 2, none⟩ (.int .i64 x1) (by show Ga ≠ Gb; exact ne_a_b)).far ⟨Gb, 3, none⟩ (.int .i64 y1) (by show Ga ≠ Gb; exact ne_a_b)).far ⟨Gb, 4, none⟩ (.int .i64 x2) (by show Ga ≠ Gb; exact ne_a_b)).far ⟨Gb, 5, none⟩ (.int .i64 y2) (by show Ga ≠ Gb; exact ne_a_b))
          have Hb := Lib.hid ((((((Hb.out.set0 x0).set1 y0).set2 x1).set3 y1).set4 x2).set5 y2)
          refine hK.out _ _ (Below.setCell (Below.setCell (Below.setCell (Below.setCell (Below.setCell (Below.setCell hHeld (p := ⟨Gb, 0, none⟩) le_b _) (p := ⟨Gb, 1, none⟩) le_b _) (p := ⟨Gb, 2, none⟩) le_b _) (p := ⟨Gb, 3, none⟩) le_b _) (p := ⟨Gb, 4, none⟩) le_b _) (p := ⟨Gb, 5, none⟩) le_b _) (fun hHeld2 => ?_); (clear hHeld; rename _ => hHeld; clear hK K; have hHeld : Below w2.heap.size w2 _ := hHeld); (try simp only [Act.put, List.getElem_toArray, List.getElem_cons_succ, List.getElem_cons_zero, List.setIfInBounds_toArray, List.set_cons_zero, List.set_cons_succ])
          obtain ⟨yw5, hwx⟩ : ∃ wx, (((((yw4.setCell ⟨Gb, 0, none⟩ (.int .i64 x0)).setCell ⟨Gb, 1, none⟩ (.int .i64 y0)).setCell ⟨Gb, 2, none⟩ (.int .i64 x1)).setCell ⟨Gb, 3, none⟩ (.int .i64 y1)).setCell ⟨Gb, 4, none⟩ (.int .i64 x2)).setCell ⟨Gb, 5, none⟩ (.int .i64 y2) = wx := ⟨_, rfl⟩; rw [hwx] at Hm Ha Hb hHeld ⊢; clear hwx
          refine wpAnyH_done (by kernel_rfl) ?_ _
          go_wp2_with fail
          go_meet
          exact ⟨Gm, Ga, Gb, rfl, rfl, rfl, ne_a_b, ne_m_a, ne_m_b, le_a, le_b, Hm.out, Ha.out, Hb.out, hHeld⟩
        · skip
          go_simp; obtain ⟨Gb, hGb⟩ : ∃ G, yw0.heap.size = G := ⟨_, rfl⟩; have le_b : w2.heap.size ≤ Gb := by rw [← hGb]; exact Below.size hHeld
          have ne_b_m : Gb ≠ Gm := by have := Hm.out.2.2; omega
          have ne_m_b : Gm ≠ Gb := Ne.symm ne_b_m
          have Hm := Lib.hid (Hm.out.below ((Below.refl _ _).alloc (Nat.le_refl _) (.cells #[.int .i64 0, .int .i64 0, .int .i64 0, .int .i64 0, .int .i64 0, .int .i64 0] 27))); skip
          have Hb : Hid (Bk6 (yw0.alloc (.cells #[.int .i64 0, .int .i64 0, .int .i64 0, .int .i64 0, .int .i64 0, .int .i64 0] 27)) Gb 0 0 0 0 0 0) := by rw [← hGb]; exact bk6_new yw0 0 0 0 0 0 0 _
          refine hK.out _ _ (Below.alloc hHeld (Below.size hHeld) _) (fun hHeld2 => ?_); (clear hHeld; rename _ => hHeld; clear hK K; have hHeld : Below w2.heap.size w2 _ := hHeld); (try simp only [Act.put, List.getElem_toArray, List.getElem_cons_succ, List.getElem_cons_zero, List.setIfInBounds_toArray, List.set_cons_zero, List.set_cons_succ])
          rw [hGb]; clear hGb; obtain ⟨yw1, hwx⟩ : ∃ wx, yw0.alloc (.cells #[.int .i64 0, .int .i64 0, .int .i64 0, .int .i64 0, .int .i64 0, .int .i64 0] 27) = wx := ⟨_, rfl⟩; rw [hwx] at Hm Hb hHeld ⊢; clear hwx
          refine wpAnyH_ready (rs := [10]) (by kernel_rfl) (by simp) ?_; refine AllReadyH.cons rfl (fun K hK => ?_) AllReadyH.nil
          go_simp; obtain ⟨Ga, hGa⟩ : ∃ G, yw1.heap.size = G := ⟨_, rfl⟩; have le_a : w2.heap.size ≤ Ga := by rw [← hGa]; exact Below.size hHeld
          have ne_a_m : Ga ≠ Gm := by have := Hm.out.2.2; omega
          have ne_m_a : Gm ≠ Ga := Ne.symm ne_a_m
          have ne_a_b : Ga ≠ Gb := by have := Hb.out.2.2; omega
          have ne_b_a : Gb ≠ Ga := Ne.symm ne_a_b
          have Hm := Lib.hid (Hm.out.below ((Below.refl _ _).alloc (Nat.le_refl _) (.cells #[.int .i64 0, .int .i64 0, .int .i64 0, .int .i64 0, .int .i64 0, .int .i64 0] 27))); have Hb := Lib.hid (Hb.out.below ((Below.refl _ _).alloc (Nat.le_refl _) (.cells #[.int .i64 0, .int .i64 0, .int .i64 0, .int .i64 0, .int .i64 0, .int .i64 0] 27))); skip
          have Ha : Hid (Bk6 (yw1.alloc (.cells #[.int .i64 0, .int .i64 0, .int .i64 0, .int .i64 0, .int .i64 0, .int .i64 0] 27)) Ga 0 0 0 0 0 0) := by rw [← hGa]; exact bk6_new yw1 0 0 0 0 0 0 _
          refine hK.out _ _ (Below.alloc hHeld (Below.size hHeld) _) (fun hHeld2 => ?_); (clear hHeld; rename _ => hHeld; clear hK K; have hHeld : Below w2.heap.size w2 _ := hHeld); (try simp only [Act.put, List.getElem_toArray, List.getElem_cons_succ, List.getElem_cons_zero, List.setIfInBounds_toArray, List.set_cons_zero, List.set_cons_succ])
          rw [hGa]; clear hGa; obtain ⟨yw2, hwx⟩ : ∃ wx, yw1.alloc (.cells #[.int .i64 0, .int .i64 0, .int .i64 0, .int .i64 0, .int .i64 0, .int .i64 0] 27) = wx := ⟨_, rfl⟩; rw [hwx] at Hm Hb Ha hHeld ⊢; clear hwx
          refine wpAnyH_ready (rs := [12]) (by kernel_rfl) (by simp) ?_; refine AllReadyH.cons rfl (fun K hK => ?_) AllReadyH.nil
          obtain ⟨⟨a0, a1⟩, ⟨f0, f1⟩, az⟩ := Hm.out; go_simp; clear a0 f0 a1 f1 az
          have Hb := Lib.hid ((Hb.out.far ⟨Gm, 0, none⟩ (.int .i64 mx) (by show Gb ≠ Gm; exact ne_b_m)).far ⟨Gm, 1, none⟩ (.int .i64 my) (by show Gb ≠ Gm; exact ne_b_m))
          have Ha := Lib.hid ((Ha.out.far ⟨Gm, 0, none⟩ (.int .i64 mx) (by show Ga ≠ Gm; exact ne_a_m)).far ⟨Gm, 1, none⟩ (.int .i64 my) (by show Ga ≠ Gm; exact ne_a_m))
          have Hm := Lib.hid ((Hm.out.set0 mx).set1 my)
          refine hK.out _ _ (Below.setCell (Below.setCell hHeld (p := ⟨Gm, 0, none⟩) le_m _) (p := ⟨Gm, 1, none⟩) le_m _) (fun hHeld2 => ?_); (clear hHeld; rename _ => hHeld; clear hK K; have hHeld : Below w2.heap.size w2 _ := hHeld); (try simp only [Act.put, List.getElem_toArray, List.getElem_cons_succ, List.getElem_cons_zero, List.setIfInBounds_toArray, List.set_cons_zero, List.set_cons_succ])
          obtain ⟨yw3, hwx⟩ : ∃ wx, (yw2.setCell ⟨Gm, 0, none⟩ (.int .i64 mx)).setCell ⟨Gm, 1, none⟩ (.int .i64 my) = wx := ⟨_, rfl⟩; rw [hwx] at Hm Hb Ha hHeld ⊢; clear hwx
          refine wpAnyH_ready (rs := [13]) (by kernel_rfl) (by simp) ?_; refine AllReadyH.cons rfl (fun K hK => ?_) AllReadyH.nil
          obtain ⟨⟨a0, a1, a2, a3, a4, a5⟩, ⟨f0, f1, f2, f3, f4, f5⟩, az⟩ := Ha.out; go_simp; clear a0 f0 a1 f1 a2 f2 a3 f3 a4 f4 a5 f5 az
          have Hm := Lib.hid ((((((Hm.out.far ⟨Ga, 0, none⟩ (.int .i64 x0) (by show Gm ≠ Ga; exact ne_m_a)).far ⟨Ga, 1, none⟩ (.int .i64 y0) (by show Gm ≠ Ga; exact ne_m_a)).far ⟨Ga, 2, none⟩ (.int .i64 x1) (by show Gm ≠ Ga; exact ne_m_a)).far ⟨Ga, 3, none⟩ (.int .i64 y1) (by show Gm ≠ Ga; exact ne_m_a)).far ⟨Ga, 4, none⟩ (.int .i64 x2) (by show Gm ≠ Ga; exact ne_m_a)).far ⟨Ga, 5, none⟩ (.int .i64 y2) (by show Gm ≠ Ga; exact ne_m_a))
          have Hb := Lib.hid ((((((Hb.out.far ⟨Ga, 0, none⟩ (.int .i64 x0) (by show Gb ≠ Ga; exact ne_b_a)).far ⟨Ga, 1, none⟩ (.int .i64 y0) (by show Gb ≠ Ga; exact ne_b_a)).far ⟨Ga, 2, none⟩ (.int .i64 x1) (by show Gb ≠ Ga; exact ne_b_a)).far ⟨Ga, 3, none⟩ (.int .i64 y1) (by show Gb ≠ Ga; exact ne_b_a)).far ⟨Ga, 4, none⟩ (.int .i64 x2) (by show Gb ≠ Ga; exact ne_b_a)).far ⟨Ga, 5, none⟩ (.int .i64 y2) (by show Gb ≠ Ga; exact ne_b_a))
          have Ha := Lib.hid ((((((Ha.out.set0 x0).set1 y0).set2 x1).set3 y1).set4 x2).set5 y2)
          refine hK.out _ _ (Below.setCell (Below.setCell (Below.setCell (Below.setCell (Below.setCell (Below.setCell hHeld (p := ⟨Ga, 0, none⟩) le_a _) (p := ⟨Ga, 1, none⟩) le_a _) (p := ⟨Ga, 2, none⟩) le_a _) (p := ⟨Ga, 3, none⟩) le_a _) (p := ⟨Ga, 4, none⟩) le_a _) (p := ⟨Ga, 5, none⟩) le_a _) (fun hHeld2 => ?_); (clear hHeld; rename _ => hHeld; clear hK K; have hHeld : Below w2.heap.size w2 _ := hHeld); (try simp only [Act.put, List.getElem_toArray, List.getElem_cons_succ, List.getElem_cons_zero, List.setIfInBounds_toArray, List.set_cons_zero, List.set_cons_succ])
          obtain ⟨yw4, hwx⟩ : ∃ wx, (((((yw3.setCell ⟨Ga, 0, none⟩ (.int .i64 x0)).setCell ⟨Ga, 1, none⟩ (.int .i64 y0)).setCell ⟨Ga, 2, none⟩ (.int .i64 x1)).setCell ⟨Ga, 3, none⟩ (.int .i64 y1)).setCell ⟨Ga, 4, none⟩ (.int .i64 x2)).setCell ⟨Ga, 5, none⟩ (.int .i64 y2) = wx := ⟨_, rfl⟩; rw [hwx] at Hm Hb Ha hHeld ⊢; clear hwx
          refine wpAnyH_ready (rs := [14]) (by kernel_rfl) (by simp) ?_; refine AllReadyH.cons rfl (fun K hK => ?_) AllReadyH.nil
          obtain ⟨⟨a0, a1, a2, a3, a4, a5⟩, ⟨f0, f1, f2, f3, f4, f5⟩, az⟩ := Hb.out; go_simp; clear a0 f0 a1 f1 a2 f2 a3 f3 a4 f4 a5 f5 az
          have Hm := Lib.hid ((((((Hm.out.far ⟨Gb, 0, none⟩ (.int .i64 x0) (by show Gm ≠ Gb; exact ne_m_b)).far ⟨Gb, 1, none⟩ (.int .i64 y0) (by show Gm ≠ Gb; exact ne_m_b)).far ⟨Gb, 2, none⟩ (.int .i64 x1) (by show Gm ≠ Gb; exact ne_m_b)).far ⟨Gb, 3, none⟩ (.int .i64 y1) (by show Gm ≠ Gb; exact ne_m_b)).far ⟨Gb, 4, none⟩ (.int .i64 x2) (by show Gm ≠ Gb; exact ne_m_b)).far ⟨Gb, 5, none⟩ (.int .i64 y2) (by show Gm ≠ Gb; exact ne_m_b))
          have Ha := Lib.hid ((((((Ha.out.far ⟨Gb, 0, none⟩ (.int .i64 x0) (by show Ga ≠ Gb; exact ne_a_b)).far ⟨Gb, 1, none⟩ (.int .i64 y0) (by show Ga ≠ Gb; exact ne_a_b)).far ⟨Gb, 2, none⟩ (.int .i64 x1) (by show Ga ≠ Gb; exact ne_a_b)).far ⟨Gb, 3, none⟩ (.int .i64 y1) (by show Ga ≠ Gb; exact ne_a_b)).far ⟨Gb, 4, none⟩ (.int .i64 x2) (by show Ga ≠ Gb; exact ne_a_b)).far ⟨Gb, 5, none⟩ (.int .i64 y2) (by show Ga ≠ Gb; exact ne_a_b))
          have Hb := Lib.hid ((((((Hb.out.set0 x0).set1 y0).set2 x1).set3 y1).set4 x2).set5 y2)
          refine hK.out _ _ (Below.setCell (Below.setCell (Below.setCell (Below.setCell (Below.setCell (Below.setCell hHeld (p := ⟨Gb, 0, none⟩) le_b _) (p := ⟨Gb, 1, none⟩) le_b _) (p := ⟨Gb, 2, none⟩) le_b _) (p := ⟨Gb, 3, none⟩) le_b _) (p := ⟨Gb, 4, none⟩) le_b _) (p := ⟨Gb, 5, none⟩) le_b _) (fun hHeld2 => ?_); (clear hHeld; rename _ => hHeld; clear hK K; have hHeld : Below w2.heap.size w2 _ := hHeld); (try simp only [Act.put, List.getElem_toArray, List.getElem_cons_succ, List.getElem_cons_zero, List.setIfInBounds_toArray, List.set_cons_zero, List.set_cons_succ])
          obtain ⟨yw5, hwx⟩ : ∃ wx, (((((yw4.setCell ⟨Gb, 0, none⟩ (.int .i64 x0)).setCell ⟨Gb, 1, none⟩ (.int .i64 y0)).setCell ⟨Gb, 2, none⟩ (.int .i64 x1)).setCell ⟨Gb, 3, none⟩ (.int .i64 y1)).setCell ⟨Gb, 4, none⟩ (.int .i64 x2)).setCell ⟨Gb, 5, none⟩ (.int .i64 y2) = wx := ⟨_, rfl⟩; rw [hwx] at Hm Hb Ha hHeld ⊢; clear hwx
          refine wpAnyH_done (by kernel_rfl) ?_ _
          go_wp2_with fail
          go_meet
          exact ⟨Gm, Ga, Gb, rfl, rfl, rfl, ne_a_b, ne_m_a, ne_m_b, le_a, le_b, Hm.out, Ha.out, Hb.out, hHeld⟩
      · skip
        go_simp; obtain ⟨Ga, hGa⟩ : ∃ G, wD.heap.size = G := ⟨_, rfl⟩; have le_a : w2.heap.size ≤ Ga := by rw [← hGa]; exact Below.size hHeld
        have Ha : Hid (Bk6 (wD.alloc (.cells #[.int .i64 0, .int .i64 0, .int .i64 0, .int .i64 0, .int .i64 0, .int .i64 0] 27)) Ga 0 0 0 0 0 0) := by rw [← hGa]; exact bk6_new wD 0 0 0 0 0 0 _
        refine hK.out _ _ (Below.alloc hHeld (Below.size hHeld) _) (fun hHeld2 => ?_); (clear hHeld; rename _ => hHeld; clear hK K; have hHeld : Below w2.heap.size w2 _ := hHeld); (try simp only [Act.put, List.getElem_toArray, List.getElem_cons_succ, List.getElem_cons_zero, List.setIfInBounds_toArray, List.set_cons_zero, List.set_cons_succ])
        rw [hGa]; clear hGa; obtain ⟨yw0, hwx⟩ : ∃ wx, wD.alloc (.cells #[.int .i64 0, .int .i64 0, .int .i64 0, .int .i64 0, .int .i64 0, .int .i64 0] 27) = wx := ⟨_, rfl⟩; rw [hwx] at Ha hHeld ⊢; clear hwx
        refine wpAnyH_ready (rs := [9, 11]) (by kernel_rfl) (by simp) ?_; refine AllReadyH.cons rfl (fun K hK => ?_) (AllReadyH.cons rfl (fun K hK => ?_) AllReadyH.nil)
        · skip
          go_simp; obtain ⟨Gm, hGm⟩ : ∃ G, yw0.heap.size = G := ⟨_, rfl⟩; have le_m : w2.heap.size ≤ Gm := by rw [← hGm]; exact Below.size hHeld
          have ne_m_a : Gm ≠ Ga := by have := Ha.out.2.2; omega
          have ne_a_m : Ga ≠ Gm := Ne.symm ne_m_a
          have Ha := Lib.hid (Ha.out.below ((Below.refl _ _).alloc (Nat.le_refl _) (.cells #[.int .i64 0, .int .i64 0] 25))); skip
          have Hm : Hid (Bk2 (yw0.alloc (.cells #[.int .i64 0, .int .i64 0] 25)) Gm 0 0) := by rw [← hGm]; exact bk2_new yw0 0 0 _
          refine hK.out _ _ (Below.alloc hHeld (Below.size hHeld) _) (fun hHeld2 => ?_); (clear hHeld; rename _ => hHeld; clear hK K; have hHeld : Below w2.heap.size w2 _ := hHeld); (try simp only [Act.put, List.getElem_toArray, List.getElem_cons_succ, List.getElem_cons_zero, List.setIfInBounds_toArray, List.set_cons_zero, List.set_cons_succ])
          rw [hGm]; clear hGm; obtain ⟨yw1, hwx⟩ : ∃ wx, yw0.alloc (.cells #[.int .i64 0, .int .i64 0] 25) = wx := ⟨_, rfl⟩; rw [hwx] at Ha Hm hHeld ⊢; clear hwx
          refine wpAnyH_ready (rs := [11]) (by kernel_rfl) (by simp) ?_; refine AllReadyH.cons rfl (fun K hK => ?_) AllReadyH.nil
          go_simp; obtain ⟨Gb, hGb⟩ : ∃ G, yw1.heap.size = G := ⟨_, rfl⟩; have le_b : w2.heap.size ≤ Gb := by rw [← hGb]; exact Below.size hHeld
          have ne_b_a : Gb ≠ Ga := by have := Ha.out.2.2; omega
          have ne_a_b : Ga ≠ Gb := Ne.symm ne_b_a
          have ne_b_m : Gb ≠ Gm := by have := Hm.out.2.2; omega
          have ne_m_b : Gm ≠ Gb := Ne.symm ne_b_m
          have Ha := Lib.hid (Ha.out.below ((Below.refl _ _).alloc (Nat.le_refl _) (.cells #[.int .i64 0, .int .i64 0, .int .i64 0, .int .i64 0, .int .i64 0, .int .i64 0] 27))); have Hm := Lib.hid (Hm.out.below ((Below.refl _ _).alloc (Nat.le_refl _) (.cells #[.int .i64 0, .int .i64 0, .int .i64 0, .int .i64 0, .int .i64 0, .int .i64 0] 27))); skip
          have Hb : Hid (Bk6 (yw1.alloc (.cells #[.int .i64 0, .int .i64 0, .int .i64 0, .int .i64 0, .int .i64 0, .int .i64 0] 27)) Gb 0 0 0 0 0 0) := by rw [← hGb]; exact bk6_new yw1 0 0 0 0 0 0 _
          refine hK.out _ _ (Below.alloc hHeld (Below.size hHeld) _) (fun hHeld2 => ?_); (clear hHeld; rename _ => hHeld; clear hK K; have hHeld : Below w2.heap.size w2 _ := hHeld); (try simp only [Act.put, List.getElem_toArray, List.getElem_cons_succ, List.getElem_cons_zero, List.setIfInBounds_toArray, List.set_cons_zero, List.set_cons_succ])
          rw [hGb]; clear hGb; obtain ⟨yw2, hwx⟩ : ∃ wx, yw1.alloc (.cells #[.int .i64 0, .int .i64 0, .int .i64 0, .int .i64 0, .int .i64 0, .int .i64 0] 27) = wx := ⟨_, rfl⟩; rw [hwx] at Ha Hm Hb hHeld ⊢; clear hwx
          refine wpAnyH_ready (rs := [12]) (by kernel_rfl) (by simp) ?_; refine AllReadyH.cons rfl (fun K hK => ?_) AllReadyH.nil
          obtain ⟨⟨a0, a1⟩, ⟨f0, f1⟩, az⟩ := Hm.out; go_simp; clear a0 f0 a1 f1 az
          have Ha := Lib.hid ((Ha.out.far ⟨Gm, 0, none⟩ (.int .i64 mx) (by show Ga ≠ Gm; exact ne_a_m)).far ⟨Gm, 1, none⟩ (.int .i64 my) (by show Ga ≠ Gm; exact ne_a_m))
          have Hb := Lib.hid ((Hb.out.far ⟨Gm, 0, none⟩ (.int .i64 mx) (by show Gb ≠ Gm; exact ne_b_m)).far ⟨Gm, 1, none⟩ (.int .i64 my) (by show Gb ≠ Gm; exact ne_b_m))
          have Hm := Lib.hid ((Hm.out.set0 mx).set1 my)
          refine hK.out _ _ (Below.setCell (Below.setCell hHeld (p := ⟨Gm, 0, none⟩) le_m _) (p := ⟨Gm, 1, none⟩) le_m _) (fun hHeld2 => ?_); (clear hHeld; rename _ => hHeld; clear hK K; have hHeld : Below w2.heap.size w2 _ := hHeld); (try simp only [Act.put, List.getElem_toArray, List.getElem_cons_succ, List.getElem_cons_zero, List.setIfInBounds_toArray, List.set_cons_zero, List.set_cons_succ])
          obtain ⟨yw3, hwx⟩ : ∃ wx, (yw2.setCell ⟨Gm, 0, none⟩ (.int .i64 mx)).setCell ⟨Gm, 1, none⟩ (.int .i64 my) = wx := ⟨_, rfl⟩; rw [hwx] at Ha Hm Hb hHeld ⊢; clear hwx
          refine wpAnyH_ready (rs := [13]) (by kernel_rfl) (by simp) ?_; refine AllReadyH.cons rfl (fun K hK => ?_) AllReadyH.nil
          obtain ⟨⟨a0, a1, a2, a3, a4, a5⟩, ⟨f0, f1, f2, f3, f4, f5⟩, az⟩ := Ha.out; go_simp; clear a0 f0 a1 f1 a2 f2 a3 f3 a4 f4 a5 f5 az
          have Hm := Lib.hid ((((((Hm.out.far ⟨Ga, 0, none⟩ (.int .i64 x0) (by show Gm ≠ Ga; exact ne_m_a)).far ⟨Ga, 1, none⟩ (.int .i64 y0) (by show Gm ≠ Ga; exact ne_m_a)).far ⟨Ga, 2, none⟩ (.int .i64 x1) (by show Gm ≠ Ga; exact ne_m_a)).far ⟨Ga, 3, none⟩ (.int .i64 y1) (by show Gm ≠ Ga; exact ne_m_a)).far ⟨Ga, 4, none⟩ (.int .i64 x2) (by show Gm ≠ Ga; exact ne_m_a)).far ⟨Ga, 5, none⟩ (.int .i64 y2) (by show Gm ≠ Ga; exact ne_m_a))
          have Hb := Lib.hid ((((((Hb.out.far ⟨Ga, 0, none⟩ (.int .i64 x0) (by show Gb ≠ Ga; exact ne_b_a)).far ⟨Ga, 1, none⟩ (.int .i64 y0) (by show Gb ≠ Ga; exact ne_b_a)).far ⟨Ga, 2, none⟩ (.int .i64 x1) (by show Gb ≠ Ga; exact ne_b_a)).far ⟨Ga, 3, none⟩ (.int .i64 y1) (by show Gb ≠ Ga; exact ne_b_a)).far ⟨Ga, 4, none⟩ (.int .i64 x2) (by show Gb ≠ Ga; exact ne_b_a)).far ⟨Ga, 5, none⟩ (.int .i64 y2) (by show Gb ≠ Ga; exact ne_b_a))
          have Ha := Lib.hid ((((((Ha.out.set0 x0).set1 y0).set2 x1).set3 y1).set4 x2).set5 y2)
          refine hK.out _ _ (Below.setCell (Below.setCell (Below.setCell (Below.setCell (Below.setCell (Below.setCell hHeld (p := ⟨Ga, 0, none⟩) le_a _) (p := ⟨Ga, 1, none⟩) le_a _) (p := ⟨Ga, 2, none⟩) le_a _) (p := ⟨Ga, 3, none⟩) le_a _) (p := ⟨Ga, 4, none⟩) le_a _) (p := ⟨Ga, 5, none⟩) le_a _) (fun hHeld2 => ?_); (clear hHeld; rename _ => hHeld; clear hK K; have hHeld : Below w2.heap.size w2 _ := hHeld); (try simp only [Act.put, List.getElem_toArray, List.getElem_cons_succ, List.getElem_cons_zero, List.setIfInBounds_toArray, List.set_cons_zero, List.set_cons_succ])
          obtain ⟨yw4, hwx⟩ : ∃ wx, (((((yw3.setCell ⟨Ga, 0, none⟩ (.int .i64 x0)).setCell ⟨Ga, 1, none⟩ (.int .i64 y0)).setCell ⟨Ga, 2, none⟩ (.int .i64 x1)).setCell ⟨Ga, 3, none⟩ (.int .i64 y1)).setCell ⟨Ga, 4, none⟩ (.int .i64 x2)).setCell ⟨Ga, 5, none⟩ (.int .i64 y2) = wx := ⟨_, rfl⟩; rw [hwx] at Ha Hm Hb hHeld ⊢; clear hwx
          refine wpAnyH_ready (rs := [14]) (by kernel_rfl) (by simp) ?_; refine AllReadyH.cons rfl (fun K hK => ?_) AllReadyH.nil
          obtain ⟨⟨a0, a1, a2, a3, a4, a5⟩, ⟨f0, f1, f2, f3, f4, f5⟩, az⟩ := Hb.out; go_simp; clear a0 f0 a1 f1 a2 f2 a3 f3 a4 f4 a5 f5 az
          have Ha := Lib.hid ((((((Ha.out.far ⟨Gb, 0, none⟩ (.int .i64 x0) (by show Ga ≠ Gb; exact ne_a_b)).far ⟨Gb, 1, none⟩ (.int .i64 y0) (by show Ga ≠ Gb; exact ne_a_b)).far ⟨Gb, 2, none⟩ (.int .i64 x1) (by show Ga ≠ Gb; exact ne_a_b)).far ⟨Gb, 3, none⟩ (.int .i64 y1) (by show Ga ≠ Gb; exact ne_a_b)).far ⟨Gb, 4, none⟩ (.int .i64 x2) (by show Ga ≠ Gb; exact ne_a_b)).far ⟨Gb, 5, none⟩ (.int .i64 y2) (by show Ga ≠ Gb; exact ne_a_b))
          have Hm := Lib.hid ((((((Hm.out.far ⟨Gb, 0, none⟩ (.int .i64 x0) (by show Gm ≠ Gb; exact ne_m_b)).far ⟨Gb, 1, none⟩ (.int .i64 y0) (by show Gm ≠ Gb; exact ne_m_b)).far ⟨Gb, 2, none⟩ (.int .i64 x1) (by show Gm ≠ Gb; exact ne_m_b)).far ⟨Gb, 3, none⟩ (.int .i64 y1) (by show Gm ≠ Gb; exact ne_m_b)).far ⟨Gb, 4, none⟩ (.int .i64 x2) (by show Gm ≠ Gb; exact ne_m_b)).far ⟨Gb, 5, none⟩ (.int .i64 y2) (by show Gm ≠ Gb; exact ne_m_b))
          have Hb := Lib.hid ((((((Hb.out.set0 x0).set1 y0).set2 x1).set3 y1).set4 x2).set5 y2)
          refine hK.out _ _ (Below.setCell (Below.setCell (Below.setCell (Below.setCell (Below.setCell (Below.setCell hHeld (p := ⟨Gb, 0, none⟩) le_b _) (p := ⟨Gb, 1, none⟩) le_b _) (p := ⟨Gb, 2, none⟩) le_b _) (p := ⟨Gb, 3, none⟩) le_b _) (p := ⟨Gb, 4, none⟩) le_b _) (p := ⟨Gb, 5, none⟩) le_b _) (fun hHeld2 => ?_); (clear hHeld; rename _ => hHeld; clear hK K; have hHeld : Below w2.heap.size w2 _ := hHeld); (try simp only [Act.put, List.getElem_toArray, List.getElem_cons_succ, List.getElem_cons_zero, List.setIfInBounds_toArray, List.set_cons_zero, List.set_cons_succ])
          obtain ⟨yw5, hwx⟩ : ∃ wx, (((((yw4.setCell ⟨Gb, 0, none⟩ (.int .i64 x0)).setCell ⟨Gb, 1, none⟩ (.int .i64 y0)).setCell ⟨Gb, 2, none⟩ (.int .i64 x1)).setCell ⟨Gb, 3, none⟩ (.int .i64 y1)).setCell ⟨Gb, 4, none⟩ (.int .i64 x2)).setCell ⟨Gb, 5, none⟩ (.int .i64 y2) = wx := ⟨_, rfl⟩; rw [hwx] at Ha Hm Hb hHeld ⊢; clear hwx
          refine wpAnyH_done (by kernel_rfl) ?_ _
          go_wp2_with fail
          go_meet
          exact ⟨Gm, Ga, Gb, rfl, rfl, rfl, ne_a_b, ne_m_a, ne_m_b, le_a, le_b, Hm.out, Ha.out, Hb.out, hHeld⟩
        · skip
          go_simp; obtain ⟨Gb, hGb⟩ : ∃ G, yw0.heap.size = G := ⟨_, rfl⟩; have le_b : w2.heap.size ≤ Gb := by rw [← hGb]; exact Below.size hHeld
          have ne_b_a : Gb ≠ Ga := by have := Ha.out.2.2; omega
          have ne_a_b : Ga ≠ Gb := Ne.symm ne_b_a
          have Ha := Lib.hid (Ha.out.below ((Below.refl _ _).alloc (Nat.le_refl _) (.cells #[.int .i64 0, .int .i64 0, .int .i64 0, .int .i64 0, .int .i64 0, .int .i64 0] 27))); skip
          have Hb : Hid (Bk6 (yw0.alloc (.cells #[.int .i64 0, .int .i64 0, .int .i64 0, .int .i64 0, .int .i64 0, .int .i64 0] 27)) Gb 0 0 0 0 0 0) := by rw [← hGb]; exact bk6_new yw0 0 0 0 0 0 0 _
          refine hK.out _ _ (Below.alloc hHeld (Below.size hHeld) _) (fun hHeld2 => ?_); (clear hHeld; rename _ => hHeld; clear hK K; have hHeld : Below w2.heap.size w2 _ := hHeld); (try simp only [Act.put, List.getElem_toArray, List.getElem_cons_succ, List.getElem_cons_zero, List.setIfInBounds_toArray, List.set_cons_zero, List.set_cons_succ])
          rw [hGb]; clear hGb; obtain ⟨yw1, hwx⟩ : ∃ wx, yw0.alloc (.cells #[.int .i64 0, .int .i64 0, .int .i64 0, .int .i64 0, .int .i64 0, .int .i64 0] 27) = wx := ⟨_, rfl⟩; rw [hwx] at Ha Hb hHeld ⊢; clear hwx
          refine wpAnyH_ready (rs := [9]) (by kernel_rfl) (by simp) ?_; refine AllReadyH.cons rfl (fun K hK => ?_) AllReadyH.nil
          go_simp; obtain ⟨Gm, hGm⟩ : ∃ G, yw1.heap.size = G := ⟨_, rfl⟩; have le_m : w2.heap.size ≤ Gm := by rw [← hGm]; exact Below.size hHeld
          have ne_m_a : Gm ≠ Ga := by have := Ha.out.2.2; omega
          have ne_a_m : Ga ≠ Gm := Ne.symm ne_m_a
          have ne_m_b : Gm ≠ Gb := by have := Hb.out.2.2; omega
          have ne_b_m : Gb ≠ Gm := Ne.symm ne_m_b
          have Ha := Lib.hid (Ha.out.below ((Below.refl _ _).alloc (Nat.le_refl _) (.cells #[.int .i64 0, .int .i64 0] 25))); have Hb := Lib.hid (Hb.out.below ((Below.refl _ _).alloc (Nat.le_refl _) (.cells #[.int .i64 0, .int .i64 0] 25))); skip
          have Hm : Hid (Bk2 (yw1.alloc (.cells #[.int .i64 0, .int .i64 0] 25)) Gm 0 0) := by rw [← hGm]; exact bk2_new yw1 0 0 _
          refine hK.out _ _ (Below.alloc hHeld (Below.size hHeld) _) (fun hHeld2 => ?_); (clear hHeld; rename _ => hHeld; clear hK K; have hHeld : Below w2.heap.size w2 _ := hHeld); (try simp only [Act.put, List.getElem_toArray, List.getElem_cons_succ, List.getElem_cons_zero, List.setIfInBounds_toArray, List.set_cons_zero, List.set_cons_succ])
          rw [hGm]; clear hGm; obtain ⟨yw2, hwx⟩ : ∃ wx, yw1.alloc (.cells #[.int .i64 0, .int .i64 0] 25) = wx := ⟨_, rfl⟩; rw [hwx] at Ha Hb Hm hHeld ⊢; clear hwx
          refine wpAnyH_ready (rs := [12]) (by kernel_rfl) (by simp) ?_; refine AllReadyH.cons rfl (fun K hK => ?_) AllReadyH.nil
          obtain ⟨⟨a0, a1⟩, ⟨f0, f1⟩, az⟩ := Hm.out; go_simp; clear a0 f0 a1 f1 az
          have Ha := Lib.hid ((Ha.out.far ⟨Gm, 0, none⟩ (.int .i64 mx) (by show Ga ≠ Gm; exact ne_a_m)).far ⟨Gm, 1, none⟩ (.int .i64 my) (by show Ga ≠ Gm; exact ne_a_m))
          have Hb := Lib.hid ((Hb.out.far ⟨Gm, 0, none⟩ (.int .i64 mx) (by show Gb ≠ Gm; exact ne_b_m)).far ⟨Gm, 1, none⟩ (.int .i64 my) (by show Gb ≠ Gm; exact ne_b_m))
          have Hm := Lib.hid ((Hm.out.set0 mx).set1 my)
          refine hK.out _ _ (Below.setCell (Below.setCell hHeld (p := ⟨Gm, 0, none⟩) le_m _) (p := ⟨Gm, 1, none⟩) le_m _) (fun hHeld2 => ?_); (clear hHeld; rename _ => hHeld; clear hK K; have hHeld : Below w2.heap.size w2 _ := hHeld); (try simp only [Act.put, List.getElem_toArray, List.getElem_cons_succ, List.getElem_cons_zero, List.setIfInBounds_toArray, List.set_cons_zero, List.set_cons_succ])
          obtain ⟨yw3, hwx⟩ : ∃ wx, (yw2.setCell ⟨Gm, 0, none⟩ (.int .i64 mx)).setCell ⟨Gm, 1, none⟩ (.int .i64 my) = wx := ⟨_, rfl⟩; rw [hwx] at Ha Hb Hm hHeld ⊢; clear hwx
          refine wpAnyH_ready (rs := [13]) (by kernel_rfl) (by simp) ?_; refine AllReadyH.cons rfl (fun K hK => ?_) AllReadyH.nil
          obtain ⟨⟨a0, a1, a2, a3, a4, a5⟩, ⟨f0, f1, f2, f3, f4, f5⟩, az⟩ := Ha.out; go_simp; clear a0 f0 a1 f1 a2 f2 a3 f3 a4 f4 a5 f5 az
          have Hb := Lib.hid ((((((Hb.out.far ⟨Ga, 0, none⟩ (.int .i64 x0) (by show Gb ≠ Ga; exact ne_b_a)).far ⟨Ga, 1, none⟩ (.int .i64 y0) (by show Gb ≠ Ga; exact ne_b_a)).far ⟨Ga, 2, none⟩ (.int .i64 x1) (by show Gb ≠ Ga; exact ne_b_a)).far ⟨Ga, 3, none⟩ (.int .i64 y1) (by show Gb ≠ Ga; exact ne_b_a)).far ⟨Ga, 4, none⟩ (.int .i64 x2) (by show Gb ≠ Ga; exact ne_b_a)).far ⟨Ga, 5, none⟩ (.int .i64 y2) (by show Gb ≠ Ga; exact ne_b_a))
          have Hm := Lib.hid ((((((Hm.out.far ⟨Ga, 0, none⟩ (.int .i64 x0) (by show Gm ≠ Ga; exact ne_m_a)).far ⟨Ga, 1, none⟩ (.int .i64 y0) (by show Gm ≠ Ga; exact ne_m_a)).far ⟨Ga, 2, none⟩ (.int .i64 x1) (by show Gm ≠ Ga; exact ne_m_a)).far ⟨Ga, 3, none⟩ (.int .i64 y1) (by show Gm ≠ Ga; exact ne_m_a)).far ⟨Ga, 4, none⟩ (.int .i64 x2) (by show Gm ≠ Ga; exact ne_m_a)).far ⟨Ga, 5, none⟩ (.int .i64 y2) (by show Gm ≠ Ga; exact ne_m_a))
          have Ha := Lib.hid ((((((Ha.out.set0 x0).set1 y0).set2 x1).set3 y1).set4 x2).set5 y2)
          refine hK.out _ _ (Below.setCell (Below.setCell (Below.setCell (Below.setCell (Below.setCell (Below.setCell hHeld (p := ⟨Ga, 0, none⟩) le_a _) (p := ⟨Ga, 1, none⟩) le_a _) (p := ⟨Ga, 2, none⟩) le_a _) (p := ⟨Ga, 3, none⟩) le_a _) (p := ⟨Ga, 4, none⟩) le_a _) (p := ⟨Ga, 5, none⟩) le_a _) (fun hHeld2 => ?_); (clear hHeld; rename _ => hHeld; clear hK K; have hHeld : Below w2.heap.size w2 _ := hHeld); (try simp only [Act.put, List.getElem_toArray, List.getElem_cons_succ, List.getElem_cons_zero, List.setIfInBounds_toArray, List.set_cons_zero, List.set_cons_succ])
          obtain ⟨yw4, hwx⟩ : ∃ wx, (((((yw3.setCell ⟨Ga, 0, none⟩ (.int .i64 x0)).setCell ⟨Ga, 1, none⟩ (.int .i64 y0)).setCell ⟨Ga, 2, none⟩ (.int .i64 x1)).setCell ⟨Ga, 3, none⟩ (.int .i64 y1)).setCell ⟨Ga, 4, none⟩ (.int .i64 x2)).setCell ⟨Ga, 5, none⟩ (.int .i64 y2) = wx := ⟨_, rfl⟩; rw [hwx] at Ha Hb Hm hHeld ⊢; clear hwx
          refine wpAnyH_ready (rs := [14]) (by kernel_rfl) (by simp) ?_; refine AllReadyH.cons rfl (fun K hK => ?_) AllReadyH.nil
          obtain ⟨⟨a0, a1, a2, a3, a4, a5⟩, ⟨f0, f1, f2, f3, f4, f5⟩, az⟩ := Hb.out; go_simp; clear a0 f0 a1 f1 a2 f2 a3 f3 a4 f4 a5 f5 az
          have Ha := Lib.hid ((((((Ha.out.far ⟨Gb, 0, none⟩ (.int .i64 x0) (by show Ga ≠ Gb; exact ne_a_b)).far ⟨Gb, 1, none⟩ (.int .i64 y0) (by show Ga ≠ Gb; exact ne_a_b)).far ⟨Gb, 2, none⟩ (.int .i64 x1) (by show Ga ≠ Gb; exact ne_a_b)).far ⟨Gb, 3, none⟩ (.int .i64 y1) (by show Ga ≠ Gb; exact ne_a_b)).far ⟨Gb, 4, none⟩ (.int .i64 x2) (by show Ga ≠ Gb; exact ne_a_b)).far ⟨Gb, 5, none⟩ (.int .i64 y2) (by show Ga ≠ Gb; exact ne_a_b))
          have Hm := Lib.hid ((((((Hm.out.far ⟨Gb, 0, none⟩ (.int .i64 x0) (by show Gm ≠ Gb; exact ne_m_b)).far ⟨Gb, 1, none⟩ (.int .i64 y0) (by show Gm ≠ Gb; exact ne_m_b)).far ⟨Gb, 2, none⟩ (.int .i64 x1) (by show Gm ≠ Gb; exact ne_m_b)).far ⟨Gb, 3, none⟩ (.int .i64 y1) (by show Gm ≠ Gb; exact ne_m_b)).far ⟨Gb, 4, none⟩ (.int .i64 x2) (by show Gm ≠ Gb; exact ne_m_b)).far ⟨Gb, 5, none⟩ (.int .i64 y2) (by show Gm ≠ Gb; exact ne_m_b))
          have Hb := Lib.hid ((((((Hb.out.set0 x0).set1 y0).set2 x1).set3 y1).set4 x2).set5 y2)
          refine hK.out _ _ (Below.setCell (Below.setCell (Below.setCell (Below.setCell (Below.setCell (Below.setCell hHeld (p := ⟨Gb, 0, none⟩) le_b _) (p := ⟨Gb, 1, none⟩) le_b _) (p := ⟨Gb, 2, none⟩) le_b _) (p := ⟨Gb, 3, none⟩) le_b _) (p := ⟨Gb, 4, none⟩) le_b _) (p := ⟨Gb, 5, none⟩) le_b _) (fun hHeld2 => ?_); (clear hHeld; rename _ => hHeld; clear hK K; have hHeld : Below w2.heap.size w2 _ := hHeld); (try simp only [Act.put, List.getElem_toArray, List.getElem_cons_succ, List.getElem_cons_zero, List.setIfInBounds_toArray, List.set_cons_zero, List.set_cons_succ])
          obtain ⟨yw5, hwx⟩ : ∃ wx, (((((yw4.setCell ⟨Gb, 0, none⟩ (.int .i64 x0)).setCell ⟨Gb, 1, none⟩ (.int .i64 y0)).setCell ⟨Gb, 2, none⟩ (.int .i64 x1)).setCell ⟨Gb, 3, none⟩ (.int .i64 y1)).setCell ⟨Gb, 4, none⟩ (.int .i64 x2)).setCell ⟨Gb, 5, none⟩ (.int .i64 y2) = wx := ⟨_, rfl⟩; rw [hwx] at Ha Hb Hm hHeld ⊢; clear hwx
          refine wpAnyH_done (by kernel_rfl) ?_ _
          go_wp2_with fail
          go_meet
          exact ⟨Gm, Ga, Gb, rfl, rfl, rfl, ne_a_b, ne_m_a, ne_m_b, le_a, le_b, Hm.out, Ha.out, Hb.out, hHeld⟩
      · skip
        go_simp; obtain ⟨Gb, hGb⟩ : ∃ G, wD.heap.size = G := ⟨_, rfl⟩; have le_b : w2.heap.size ≤ Gb := by rw [← hGb]; exact Below.size hHeld
        have Hb : Hid (Bk6 (wD.alloc (.cells #[.int .i64 0, .int .i64 0, .int .i64 0, .int .i64 0, .int .i64 0, .int .i64 0] 27)) Gb 0 0 0 0 0 0) := by rw [← hGb]; exact bk6_new wD 0 0 0 0 0 0 _
        refine hK.out _ _ (Below.alloc hHeld (Below.size hHeld) _) (fun hHeld2 => ?_); (clear hHeld; rename _ => hHeld; clear hK K; have hHeld : Below w2.heap.size w2 _ := hHeld); (try simp only [Act.put, List.getElem_toArray, List.getElem_cons_succ, List.getElem_cons_zero, List.setIfInBounds_toArray, List.set_cons_zero, List.set_cons_succ])
        rw [hGb]; clear hGb; obtain ⟨yw0, hwx⟩ : ∃ wx, wD.alloc (.cells #[.int .i64 0, .int .i64 0, .int .i64 0, .int .i64 0, .int .i64 0, .int .i64 0] 27) = wx := ⟨_, rfl⟩; rw [hwx] at Hb hHeld ⊢; clear hwx
        refine wpAnyH_ready (rs := [9, 10]) (by kernel_rfl) (by simp) ?_; refine AllReadyH.cons rfl (fun K hK => ?_) (AllReadyH.cons rfl (fun K hK => ?_) AllReadyH.nil)
        · skip
          go_simp; obtain ⟨Gm, hGm⟩ : ∃ G, yw0.heap.size = G := ⟨_, rfl⟩; have le_m : w2.heap.size ≤ Gm := by rw [← hGm]; exact Below.size hHeld
          have ne_m_b : Gm ≠ Gb := by have := Hb.out.2.2; omega
          have ne_b_m : Gb ≠ Gm := Ne.symm ne_m_b
          have Hb := Lib.hid (Hb.out.below ((Below.refl _ _).alloc (Nat.le_refl _) (.cells #[.int .i64 0, .int .i64 0] 25))); skip
          have Hm : Hid (Bk2 (yw0.alloc (.cells #[.int .i64 0, .int .i64 0] 25)) Gm 0 0) := by rw [← hGm]; exact bk2_new yw0 0 0 _
          refine hK.out _ _ (Below.alloc hHeld (Below.size hHeld) _) (fun hHeld2 => ?_); (clear hHeld; rename _ => hHeld; clear hK K; have hHeld : Below w2.heap.size w2 _ := hHeld); (try simp only [Act.put, List.getElem_toArray, List.getElem_cons_succ, List.getElem_cons_zero, List.setIfInBounds_toArray, List.set_cons_zero, List.set_cons_succ])
          rw [hGm]; clear hGm; obtain ⟨yw1, hwx⟩ : ∃ wx, yw0.alloc (.cells #[.int .i64 0, .int .i64 0] 25) = wx := ⟨_, rfl⟩; rw [hwx] at Hb Hm hHeld ⊢; clear hwx
          refine wpAnyH_ready (rs := [10]) (by kernel_rfl) (by simp) ?_; refine AllReadyH.cons rfl (fun K hK => ?_) AllReadyH.nil
          go_simp; obtain ⟨Ga, hGa⟩ : ∃ G, yw1.heap.size = G := ⟨_, rfl⟩; have le_a : w2.heap.size ≤ Ga := by rw [← hGa]; exact Below.size hHeld
          have ne_a_b : Ga ≠ Gb := by have := Hb.out.2.2; omega
          have ne_b_a : Gb ≠ Ga := Ne.symm ne_a_b
          have ne_a_m : Ga ≠ Gm := by have := Hm.out.2.2; omega
          have ne_m_a : Gm ≠ Ga := Ne.symm ne_a_m
          have Hb := Lib.hid (Hb.out.below ((Below.refl _ _).alloc (Nat.le_refl _) (.cells #[.int .i64 0, .int .i64 0, .int .i64 0, .int .i64 0, .int .i64 0, .int .i64 0] 27))); have Hm := Lib.hid (Hm.out.below ((Below.refl _ _).alloc (Nat.le_refl _) (.cells #[.int .i64 0, .int .i64 0, .int .i64 0, .int .i64 0, .int .i64 0, .int .i64 0] 27))); skip
          have Ha : Hid (Bk6 (yw1.alloc (.cells #[.int .i64 0, .int .i64 0, .int .i64 0, .int .i64 0, .int .i64 0, .int .i64 0] 27)) Ga 0 0 0 0 0 0) := by rw [← hGa]; exact bk6_new yw1 0 0 0 0 0 0 _
          refine hK.out _ _ (Below.alloc hHeld (Below.size hHeld) _) (fun hHeld2 => ?_); (clear hHeld; rename _ => hHeld; clear hK K; have hHeld : Below w2.heap.size w2 _ := hHeld); (try simp only [Act.put, List.getElem_toArray, List.getElem_cons_succ, List.getElem_cons_zero, List.setIfInBounds_toArray, List.set_cons_zero, List.set_cons_succ])
          rw [hGa]; clear hGa; obtain ⟨yw2, hwx⟩ : ∃ wx, yw1.alloc (.cells #[.int .i64 0, .int .i64 0, .int .i64 0, .int .i64 0, .int .i64 0, .int .i64 0] 27) = wx := ⟨_, rfl⟩; rw [hwx] at Hb Hm Ha hHeld ⊢; clear hwx
          refine wpAnyH_ready (rs := [12]) (by kernel_rfl) (by simp) ?_; refine AllReadyH.cons rfl (fun K hK => ?_) AllReadyH.nil
          obtain ⟨⟨a0, a1⟩, ⟨f0, f1⟩, az⟩ := Hm.out; go_simp; clear a0 f0 a1 f1 az
          have Hb := Lib.hid ((Hb.out.far ⟨Gm, 0, none⟩ (.int .i64 mx) (by show Gb ≠ Gm; exact ne_b_m)).far ⟨Gm, 1, none⟩ (.int .i64 my) (by show Gb ≠ Gm; exact ne_b_m))
          have Ha := Lib.hid ((Ha.out.far ⟨Gm, 0, none⟩ (.int .i64 mx) (by show Ga ≠ Gm; exact ne_a_m)).far ⟨Gm, 1, none⟩ (.int .i64 my) (by show Ga ≠ Gm; exact ne_a_m))
          have Hm := Lib.hid ((Hm.out.set0 mx).set1 my)
          refine hK.out _ _ (Below.setCell (Below.setCell hHeld (p := ⟨Gm, 0, none⟩) le_m _) (p := ⟨Gm, 1, none⟩) le_m _) (fun hHeld2 => ?_); (clear hHeld; rename _ => hHeld; clear hK K; have hHeld : Below w2.heap.size w2 _ := hHeld); (try simp only [Act.put, List.getElem_toArray, List.getElem_cons_succ, List.getElem_cons_zero, List.setIfInBounds_toArray, List.set_cons_zero, List.set_cons_succ])
          obtain ⟨yw3, hwx⟩ : ∃ wx, (yw2.setCell ⟨Gm, 0, none⟩ (.int .i64 mx)).setCell ⟨Gm, 1, none⟩ (.int .i64 my) = wx := ⟨_, rfl⟩; rw [hwx] at Hb Hm Ha hHeld ⊢; clear hwx
          refine wpAnyH_ready (rs := [13]) (by kernel_rfl) (by simp) ?_; refine AllReadyH.cons rfl (fun K hK => ?_) AllReadyH.nil
          obtain ⟨⟨a0, a1, a2, a3, a4, a5⟩, ⟨f0, f1, f2, f3, f4, f5⟩, az⟩ := Ha.out; go_simp; clear a0 f0 a1 f1 a2 f2 a3 f3 a4 f4 a5 f5 az
          have Hb := Lib.hid ((((((Hb.out.far ⟨Ga, 0, none⟩ (.int .i64 x0) (by show Gb ≠ Ga; exact ne_b_a)).far ⟨Ga, 1, none⟩ (.int .i64 y0) (by show Gb ≠ Ga; exact ne_b_a)).far ⟨Ga, 2, none⟩ (.int .i64 x1) (by show Gb ≠ Ga; exact ne_b_a)).far ⟨Ga, 3, none⟩ (.int .i64 y1) (by show Gb ≠ Ga; exact ne_b_a)).far ⟨Ga, 4, none⟩ (.int .i64 x2) (by show Gb ≠ Ga; exact ne_b_a)).far ⟨Ga, 5, none⟩ (.int .i64 y2) (by show Gb ≠ Ga; exact ne_b_a))
          have Hm := Lib.hid ((((((Hm.out.far ⟨Ga, 0, none⟩ (.int .i64 x0) (by show Gm ≠ Ga; exact ne_m_a)).far ⟨Ga, 1, none⟩ (.int .i64 y0) (by show Gm ≠ Ga; exact ne_m_a)).far ⟨Ga, 2, none⟩ (.int .i64 x1) (by show Gm ≠ Ga; exact ne_m_a)).far ⟨Ga, 3, none⟩ (.int .i64 y1) (by show Gm ≠ Ga; exact ne_m_a)).far ⟨Ga, 4, none⟩ (.int .i64 x2) (by show Gm ≠ Ga; exact ne_m_a)).far ⟨Ga, 5, none⟩ (.int .i64 y2) (by show Gm ≠ Ga; exact ne_m_a))
          have Ha := Lib.hid ((((((Ha.out.set0 x0).set1 y0).set2 x1).set3 y1).set4 x2).set5 y2)
          refine hK.out _ _ (Below.setCell (Below.setCell (Below.setCell (Below.setCell (Below.setCell (Below.setCell hHeld (p := ⟨Ga, 0, none⟩) le_a _) (p := ⟨Ga, 1, none⟩) le_a _) (p := ⟨Ga, 2, none⟩) le_a _) (p := ⟨Ga, 3, none⟩) le_a _) (p := ⟨Ga, 4, none⟩) le_a _) (p := ⟨Ga, 5, none⟩) le_a _) (fun hHeld2 => ?_); (clear hHeld; rename _ => hHeld; clear hK K; have hHeld : Below w2.heap.size w2 _ := hHeld); (try simp only [Act.put, List.getElem_toArray, List.getElem_cons_succ, List.getElem_cons_zero, List.setIfInBounds_toArray, List.set_cons_zero, List.set_cons_succ])
          obtain ⟨yw4, hwx⟩ : ∃ wx, (((((yw3.setCell ⟨Ga, 0, none⟩ (.int .i64 x0)).setCell ⟨Ga, 1, none⟩ (.int .i64 y0)).setCell ⟨Ga, 2, none⟩ (.int .i64 x1)).setCell ⟨Ga, 3, none⟩ (.int .i64 y1)).setCell ⟨Ga, 4, none⟩ (.int .i64 x2)).setCell ⟨Ga, 5, none⟩ (.int .i64 y2) = wx := ⟨_, rfl⟩; rw [hwx] at Hb Hm Ha hHeld ⊢; clear hwx
          refine wpAnyH_ready (rs := [14]) (by kernel_rfl) (by simp) ?_; refine AllReadyH.cons rfl (fun K hK => ?_) AllReadyH.nil
          obtain ⟨⟨a0, a1, a2, a3, a4, a5⟩, ⟨f0, f1, f2, f3, f4, f5⟩, az⟩ := Hb.out; go_simp; clear a0 f0 a1 f1 a2 f2 a3 f3 a4 f4 a5 f5 az
          have Hm := Lib.hid ((((((Hm.out.far ⟨Gb, 0, none⟩ (.int .i64 x0) (by show Gm ≠ Gb; exact ne_m_b)).far ⟨Gb, 1, none⟩ (.int .i64 y0) (by show Gm ≠ Gb; exact ne_m_b)).far ⟨Gb, 2, none⟩ (.int .i64 x1) (by show Gm ≠ Gb; exact ne_m_b)).far ⟨Gb, 3, none⟩ (.int .i64 y1) (by show Gm ≠ Gb; exact ne_m_b)).far ⟨Gb, 4, none⟩ (.int .i64 x2) (by show Gm ≠ Gb; exact ne_m_b)).far ⟨Gb, 5, none⟩ (.int .i64 y2) (by show Gm ≠ Gb; exact ne_m_b))
          have Ha := Lib.hid ((((((Ha.out.far ⟨Gb, 0, none⟩ (.int .i64 x0) (by show Ga ≠ Gb; exact ne_a_b)).far ⟨Gb, 1, none⟩ (.int .i64 y0) (by show Ga ≠ Gb; exact ne_a_b)).far ⟨Gb, 2, none⟩ (.int .i64 x1) (by show Ga ≠ Gb; exact ne_a_b)).far ⟨Gb, 3, none⟩ (.int .i64 y1) (by show Ga ≠ Gb; exact ne_a_b)).far ⟨Gb, 4, none⟩ (.int .i64 x2) (by show Ga ≠ Gb; exact ne_a_b)).far ⟨Gb, 5, none⟩ (.int .i64 y2) (by show Ga ≠ Gb; exact ne_a_b))
          have Hb := Lib.hid ((((((Hb.out.set0 x0).set1 y0).set2 x1).set3 y1).set4 x2).set5 y2)
          refine hK.out _ _ (Below.setCell (Below.setCell (Below.setCell (Below.setCell (Below.setCell (Below.setCell hHeld (p := ⟨Gb, 0, none⟩) le_b _) (p := ⟨Gb, 1, none⟩) le_b _) (p := ⟨Gb, 2, none⟩) le_b _) (p := ⟨Gb, 3, none⟩) le_b _) (p := ⟨Gb, 4, none⟩) le_b _) (p := ⟨Gb, 5, none⟩) le_b _) (fun hHeld2 => ?_); (clear hHeld; rename _ => hHeld; clear hK K; have hHeld : Below w2.heap.size w2 _ := hHeld); (try simp only [Act.put, List.getElem_toArray, List.getElem_cons_succ, List.getElem_cons_zero, List.setIfInBounds_toArray, List.set_cons_zero, List.set_cons_succ])
          obtain ⟨yw5, hwx⟩ : ∃ wx, (((((yw4.setCell ⟨Gb, 0, none⟩ (.int .i64 x0)).setCell ⟨Gb, 1, none⟩ (.int .i64 y0)).setCell ⟨Gb, 2, none⟩ (.int .i64 x1)).setCell ⟨Gb, 3, none⟩ (.int .i64 y1)).setCell ⟨Gb, 4, none⟩ (.int .i64 x2)).setCell ⟨Gb, 5, none⟩ (.int .i64 y2) = wx := ⟨_, rfl⟩; rw [hwx] at Hb Hm Ha hHeld ⊢; clear hwx
          refine wpAnyH_done (by kernel_rfl) ?_ _
          go_wp2_with fail
          go_meet
          exact ⟨Gm, Ga, Gb, rfl, rfl, rfl, ne_a_b, ne_m_a, ne_m_b, le_a, le_b, Hm.out, Ha.out, Hb.out, hHeld⟩
        · skip
          go_simp; obtain ⟨Ga, hGa⟩ : ∃ G, yw0.heap.size = G := ⟨_, rfl⟩; have le_a : w2.heap.size ≤ Ga := by rw [← hGa]; exact Below.size hHeld
          have ne_a_b : Ga ≠ Gb := by have := Hb.out.2.2; omega
          have ne_b_a : Gb ≠ Ga := Ne.symm ne_a_b
          have Hb := Lib.hid (Hb.out.below ((Below.refl _ _).alloc (Nat.le_refl _) (.cells #[.int .i64 0, .int .i64 0, .int .i64 0, .int .i64 0, .int .i64 0, .int .i64 0] 27))); skip
          have Ha : Hid (Bk6 (yw0.alloc (.cells #[.int .i64 0, .int .i64 0, .int .i64 0, .int .i64 0, .int .i64 0, .int .i64 0] 27)) Ga 0 0 0 0 0 0) := by rw [← hGa]; exact bk6_new yw0 0 0 0 0 0 0 _
          refine hK.out _ _ (Below.alloc hHeld (Below.size hHeld) _) (fun hHeld2 => ?_); (clear hHeld; rename _ => hHeld; clear hK K; have hHeld : Below w2.heap.size w2 _ := hHeld); (try simp only [Act.put, List.getElem_toArray, List.getElem_cons_succ, List.getElem_cons_zero, List.setIfInBounds_toArray, List.set_cons_zero, List.set_cons_succ])
          rw [hGa]; clear hGa; obtain ⟨yw1, hwx⟩ : ∃ wx, yw0.alloc (.cells #[.int .i64 0, .int .i64 0, .int .i64 0, .int .i64 0, .int .i64 0, .int .i64 0] 27) = wx := ⟨_, rfl⟩; rw [hwx] at Hb Ha hHeld ⊢; clear hwx
          refine wpAnyH_ready (rs := [9]) (by kernel_rfl) (by simp) ?_; refine AllReadyH.cons rfl (fun K hK => ?_) AllReadyH.nil
          go_simp; obtain ⟨Gm, hGm⟩ : ∃ G, yw1.heap.size = G := ⟨_, rfl⟩; have le_m : w2.heap.size ≤ Gm := by rw [← hGm]; exact Below.size hHeld
          have ne_m_b : Gm ≠ Gb := by have := Hb.out.2.2; omega
          have ne_b_m : Gb ≠ Gm := Ne.symm ne_m_b
          have ne_m_a : Gm ≠ Ga := by have := Ha.out.2.2; omega
          have ne_a_m : Ga ≠ Gm := Ne.symm ne_m_a
          have Hb := Lib.hid (Hb.out.below ((Below.refl _ _).alloc (Nat.le_refl _) (.cells #[.int .i64 0, .int .i64 0] 25))); have Ha := Lib.hid (Ha.out.below ((Below.refl _ _).alloc (Nat.le_refl _) (.cells #[.int .i64 0, .int .i64 0] 25))); skip
          have Hm : Hid (Bk2 (yw1.alloc (.cells #[.int .i64 0, .int .i64 0] 25)) Gm 0 0) := by rw [← hGm]; exact bk2_new yw1 0 0 _
          refine hK.out _ _ (Below.alloc hHeld (Below.size hHeld) _) (fun hHeld2 => ?_); (clear hHeld; rename _ => hHeld; clear hK K; have hHeld : Below w2.heap.size w2 _ := hHeld); (try simp only [Act.put, List.getElem_toArray, List.getElem_cons_succ, List.getElem_cons_zero, List.setIfInBounds_toArray, List.set_cons_zero, List.set_cons_succ])
          rw [hGm]; clear hGm; obtain ⟨yw2, hwx⟩ : ∃ wx, yw1.alloc (.cells #[.int .i64 0, .int .i64 0] 25) = wx := ⟨_, rfl⟩; rw [hwx] at Hb Ha Hm hHeld ⊢; clear hwx
          refine wpAnyH_ready (rs := [12]) (by kernel_rfl) (by simp) ?_; refine AllReadyH.cons rfl (fun K hK => ?_) AllReadyH.nil
          obtain ⟨⟨a0, a1⟩, ⟨f0, f1⟩, az⟩ := Hm.out; go_simp; clear a0 f0 a1 f1 az
          have Hb := Lib.hid ((Hb.out.far ⟨Gm, 0, none⟩ (.int .i64 mx) (by show Gb ≠ Gm; exact ne_b_m)).far ⟨Gm, 1, none⟩ (.int .i64 my) (by show Gb ≠ Gm; exact ne_b_m))
          have Ha := Lib.hid ((Ha.out.far ⟨Gm, 0, none⟩ (.int .i64 mx) (by show Ga ≠ Gm; exact ne_a_m)).far ⟨Gm, 1, none⟩ (.int .i64 my) (by show Ga ≠ Gm; exact ne_a_m))
          have Hm := Lib.hid ((Hm.out.set0 mx).set1 my)
          refine hK.out _ _ (Below.setCell (Below.setCell hHeld (p := ⟨Gm, 0, none⟩) le_m _) (p := ⟨Gm, 1, none⟩) le_m _) (fun hHeld2 => ?_); (clear hHeld; rename _ => hHeld; clear hK K; have hHeld : Below w2.heap.size w2 _ := hHeld); (try simp only [Act.put, List.getElem_toArray, List.getElem_cons_succ, List.getElem_cons_zero, List.setIfInBounds_toArray, List.set_cons_zero, List.set_cons_succ])
          obtain ⟨yw3, hwx⟩ : ∃ wx, (yw2.setCell ⟨Gm, 0, none⟩ (.int .i64 mx)).setCell ⟨Gm, 1, none⟩ (.int .i64 my) = wx := ⟨_, rfl⟩; rw [hwx] at Hb Ha Hm hHeld ⊢; clear hwx
          refine wpAnyH_ready (rs := [13]) (by kernel_rfl) (by simp) ?_; refine AllReadyH.cons rfl (fun K hK => ?_) AllReadyH.nil
          obtain ⟨⟨a0, a1, a2, a3, a4, a5⟩, ⟨f0, f1, f2, f3, f4, f5⟩, az⟩ := Ha.out; go_simp; clear a0 f0 a1 f1 a2 f2 a3 f3 a4 f4 a5 f5 az
          have Hb := Lib.hid ((((((Hb.out.far ⟨Ga, 0, none⟩ (.int .i64 x0) (by show Gb ≠ Ga; exact ne_b_a)).far ⟨Ga, 1, none⟩ (.int .i64 y0) (by show Gb ≠ Ga; exact ne_b_a)).far ⟨Ga, 2, none⟩ (.int .i64 x1) (by show Gb ≠ Ga; exact ne_b_a)).far ⟨Ga, 3, none⟩ (.int .i64 y1) (by show Gb ≠ Ga; exact ne_b_a)).far ⟨Ga, 4, none⟩ (.int .i64 x2) (by show Gb ≠ Ga; exact ne_b_a)).far ⟨Ga, 5, none⟩ (.int .i64 y2) (by show Gb ≠ Ga; exact ne_b_a))
          have Hm := Lib.hid ((((((Hm.out.far ⟨Ga, 0, none⟩ (.int .i64 x0) (by show Gm ≠ Ga; exact ne_m_a)).far ⟨Ga, 1, none⟩ (.int .i64 y0) (by show Gm ≠ Ga; exact ne_m_a)).far ⟨Ga, 2, none⟩ (.int .i64 x1) (by show Gm ≠ Ga; exact ne_m_a)).far ⟨Ga, 3, none⟩ (.int .i64 y1) (by show Gm ≠ Ga; exact ne_m_a)).far ⟨Ga, 4, none⟩ (.int .i64 x2) (by show Gm ≠ Ga; exact ne_m_a)).far ⟨Ga, 5, none⟩ (.int .i64 y2) (by show Gm ≠ Ga; exact ne_m_a))
          have Ha := Lib.hid ((((((Ha.out.set0 x0).set1 y0).set2 x1).set3 y1).set4 x2).set5 y2)
          refine hK.out _ _ (Below.setCell (Below.setCell (Below.setCell (Below.setCell (Below.setCell (Below.setCell hHeld (p := ⟨Ga, 0, none⟩) le_a _) (p := ⟨Ga, 1, none⟩) le_a _) (p := ⟨Ga, 2, none⟩) le_a _) (p := ⟨Ga, 3, none⟩) le_a _) (p := ⟨Ga, 4, none⟩) le_a _) (p := ⟨Ga, 5, none⟩) le_a _) (fun hHeld2 => ?_); (clear hHeld; rename _ => hHeld; clear hK K; have hHeld : Below w2.heap.size w2 _ := hHeld); (try simp only [Act.put, List.getElem_toArray, List.getElem_cons_succ, List.getElem_cons_zero, List.setIfInBounds_toArray, List.set_cons_zero, List.set_cons_succ])
          obtain ⟨yw4, hwx⟩ : ∃ wx, (((((yw3.setCell ⟨Ga, 0, none⟩ (.int .i64 x0)).setCell ⟨Ga, 1, none⟩ (.int .i64 y0)).setCell ⟨Ga, 2, none⟩ (.int .i64 x1)).setCell ⟨Ga, 3, none⟩ (.int .i64 y1)).setCell ⟨Ga, 4, none⟩ (.int .i64 x2)).setCell ⟨Ga, 5, none⟩ (.int .i64 y2) = wx := ⟨_, rfl⟩; rw [hwx] at Hb Ha Hm hHeld ⊢; clear hwx
          refine wpAnyH_ready (rs := [14]) (by kernel_rfl) (by simp) ?_; refine AllReadyH.cons rfl (fun K hK => ?_) AllReadyH.nil
          obtain ⟨⟨a0, a1, a2, a3, a4, a5⟩, ⟨f0, f1, f2, f3, f4, f5⟩, az⟩ := Hb.out; go_simp; clear a0 f0 a1 f1 a2 f2 a3 f3 a4 f4 a5 f5 az
          have Ha := Lib.hid ((((((Ha.out.far ⟨Gb, 0, none⟩ (.int .i64 x0) (by show Ga ≠ Gb; exact ne_a_b)).far ⟨Gb, 1, none⟩ (.int .i64 y0) (by show Ga ≠ Gb; exact ne_a_b)).far ⟨Gb, 2, none⟩ (.int .i64 x1) (by show Ga ≠ Gb; exact ne_a_b)).far ⟨Gb, 3, none⟩ (.int .i64 y1) (by show Ga ≠ Gb; exact ne_a_b)).far ⟨Gb, 4, none⟩ (.int .i64 x2) (by show Ga ≠ Gb; exact ne_a_b)).far ⟨Gb, 5, none⟩ (.int .i64 y2) (by show Ga ≠ Gb; exact ne_a_b))
          have Hm := Lib.hid ((((((Hm.out.far ⟨Gb, 0, none⟩ (.int .i64 x0) (by show Gm ≠ Gb; exact ne_m_b)).far ⟨Gb, 1, none⟩ (.int .i64 y0) (by show Gm ≠ Gb; exact ne_m_b)).far ⟨Gb, 2, none⟩ (.int .i64 x1) (by show Gm ≠ Gb; exact ne_m_b)).far ⟨Gb, 3, none⟩ (.int .i64 y1) (by show Gm ≠ Gb; exact ne_m_b)).far ⟨Gb, 4, none⟩ (.int .i64 x2) (by show Gm ≠ Gb; exact ne_m_b)).far ⟨Gb, 5, none⟩ (.int .i64 y2) (by show Gm ≠ Gb; exact ne_m_b))
          have Hb := Lib.hid ((((((Hb.out.set0 x0).set1 y0).set2 x1).set3 y1).set4 x2).set5 y2)
          refine hK.out _ _ (Below.setCell (Below.setCell (Below.setCell (Below.setCell (Below.setCell (Below.setCell hHeld (p := ⟨Gb, 0, none⟩) le_b _) (p := ⟨Gb, 1, none⟩) le_b _) (p := ⟨Gb, 2, none⟩) le_b _) (p := ⟨Gb, 3, none⟩) le_b _) (p := ⟨Gb, 4, none⟩) le_b _) (p := ⟨Gb, 5, none⟩) le_b _) (fun hHeld2 => ?_); (clear hHeld; rename _ => hHeld; clear hK K; have hHeld : Below w2.heap.size w2 _ := hHeld); (try simp only [Act.put, List.getElem_toArray, List.getElem_cons_succ, List.getElem_cons_zero, List.setIfInBounds_toArray, List.set_cons_zero, List.set_cons_succ])
          obtain ⟨yw5, hwx⟩ : ∃ wx, (((((yw4.setCell ⟨Gb, 0, none⟩ (.int .i64 x0)).setCell ⟨Gb, 1, none⟩ (.int .i64 y0)).setCell ⟨Gb, 2, none⟩ (.int .i64 x1)).setCell ⟨Gb, 3, none⟩ (.int .i64 y1)).setCell ⟨Gb, 4, none⟩ (.int .i64 x2)).setCell ⟨Gb, 5, none⟩ (.int .i64 y2) = wx := ⟨_, rfl⟩; rw [hwx] at Hb Ha Hm hHeld ⊢; clear hwx
          refine wpAnyH_done (by kernel_rfl) ?_ _
          go_wp2_with fail
          go_meet
          exact ⟨Gm, Ga, Gb, rfl, rfl, rfl, ne_a_b, ne_m_a, ne_m_b, le_a, le_b, Hm.out, Ha.out, Hb.out, hHeld⟩
    case rest =>
      obtain ⟨Gm, Ga, Gb, rfl, rfl, rfl, ne_ab, ne_ma, ne_mb, le_a, le_b, hM, hA, hB, hbx⟩ := hcut
      obtain ⟨w3, rfl⟩ : ∃ w3, w3 = wc := ⟨_, rfl⟩
      obtain ⟨⟨b0, b1⟩, _, bz⟩ := (HX2.out _ hbx).1
      obtain ⟨⟨c0, c1, c2, c3, c4, c5⟩, ⟨c6, c7, c8, c9, c10, c11⟩, cz⟩ := id hA
      obtain ⟨⟨d0, d1, d2, d3, d4, d5⟩, ⟨d6, d7, d8, d9, d10, d11⟩, dz⟩ := id hB
      obtain ⟨⟨m0, m1⟩, _, mz⟩ := id hM
      have ne_ba : Gb ≠ Ga := Ne.symm ne_ab
      have hbx1 := ((hbx.setCell (p := ⟨Ga, 0, none⟩) le_a (.int .i64 mx)).setCell (p := ⟨Ga, 1, none⟩) le_a (.int .i64 my))
      have hA1 := ((hA).set0 mx).set1 my
      have hB1 := ((hB).far ⟨Ga, 0, none⟩ (.int .i64 mx) (by show Gb ≠ Ga; omega)).far ⟨Ga, 1, none⟩ (.int .i64 my) (by show Gb ≠ Ga; omega)
      have hM1 := ((hM).far ⟨Ga, 0, none⟩ (.int .i64 mx) (by show Gm ≠ Ga; omega)).far ⟨Ga, 1, none⟩ (.int .i64 my) (by show Gm ≠ Ga; omega)
      go_upto_region 11 with fail
      obtain ⟨w4, hw4⟩ : ∃ wx, ((w3.setCell ⟨Ga, 0, none⟩ (.int .i64 mx)).setCell ⟨Ga, 1, none⟩ (.int .i64 my)) = wx := ⟨_, rfl⟩
      rw [hw4] at hbx1 hA1 hB1 hM1 ⊢
      clear hw4 b0 b1 bz c0 c1 c2 c3 c4 c5 c6 c7 c8 c9 c10 c11 cz d0 d1 d2 d3 d4 d5 d6 d7 d8 d9 d10 d11 dz hA hB hbx m0 m1 mz hM
      obtain ⟨⟨c0, c1, c2, c3, c4, c5⟩, ⟨c6, c7, c8, c9, c10, c11⟩, cz⟩ := id hA1
      obtain ⟨⟨d0, d1, d2, d3, d4, d5⟩, ⟨d6, d7, d8, d9, d10, d11⟩, dz⟩ := id hB1
      obtain ⟨⟨m0, m1⟩, _, mz⟩ := id hM1
      have hbx2 := ((hbx1.setCell (p := ⟨Gb, 2, none⟩) le_b (.int .i64 mx)).setCell (p := ⟨Gb, 3, none⟩) le_b (.int .i64 my))
      have hB2 := ((hB1).set2 mx).set3 my
      have hA2 := ((hA1).far ⟨Gb, 2, none⟩ (.int .i64 mx) (by show Ga ≠ Gb; omega)).far ⟨Gb, 3, none⟩ (.int .i64 my) (by show Ga ≠ Gb; omega)
      go_upto_region 12 with fail
      obtain ⟨w5, hw5⟩ : ∃ wx, ((w4.setCell ⟨Gb, 2, none⟩ (.int .i64 mx)).setCell ⟨Gb, 3, none⟩ (.int .i64 my)) = wx := ⟨_, rfl⟩
      rw [hw5] at hbx2 hA2 hB2 ⊢
      clear hw5 c0 c1 c2 c3 c4 c5 c6 c7 c8 c9 c10 c11 cz d0 d1 d2 d3 d4 d5 d6 d7 d8 d9 d10 d11 dz m0 m1 mz hM1
      obtain ⟨⟨c0, c1, c2, c3, c4, c5⟩, _, cz⟩ := id hA2
      obtain ⟨⟨d0, d1, d2, d3, d4, d5⟩, _, dz⟩ := id hB2
      have hbW := below_after (HX2.out _ hbx2).2 HBW.out
      go_wp2
      refine bodyPost_ret (v := .tuple #[.slice (some ⟨w5.heap.size, 0, none⟩) 2 2, .int .i64 0]) (by simp (maxDischargeDepth := 8) [results, Try.results57, go_sem, *]) rfl ?_
      exact ⟨_, rfl, own_lit12 w5 w.heap.size mx my x1 y1 x2 y2 x0 y0 mx my x2 y2 hbW.size, hbW.alloc hbW.size _⟩
set_option maxHeartbeats 4000000 in
theorem spec_SplitTriangle_any (x0 y0 x1 y1 x2 y2 i : Int) (w : World) : Calls Try.prog 57 #[.agg #[.int .i64 x0, .int .i64 y0, .int .i64 x1, .int .i64 y1, .int .i64 x2, .int .i64 y2], .int .i64 i] w fun e w' => ∃ v, e = .returned (.tuple #[v, .int .i64 (stC x0 y0 x1 y1 x2 y2 i)]) ∧ OwnTr w.heap.size w' v (stN x0 y0 x1 y1 x2 y2 i) (stL x0 y0 x1 y1 x2 y2 i) ∧ Below w.heap.size w w' := by
  cases h : isT x0 y0 x1 y1 x2 y2
  · obtain ⟨e1, e2, e3⟩ := st_not (stC_no (i := i) h) (by decide)
    rw [e1, e2, e3]
    clear e1 e2 e3
    have hs20 : w.heap.size < w.heap.size + 1 + 1 := (by omega); have hs30 : w.heap.size < w.heap.size + 1 + 1 + 1 := (by omega); have hs31 : w.heap.size + 1 < w.heap.size + 1 + 1 + 1 := (by omega); have hs40 : w.heap.size < w.heap.size + 1 + 1 + 1 + 1 := (by omega); have hs41 : w.heap.size + 1 < w.heap.size + 1 + 1 + 1 + 1 := (by omega); have hs42 : w.heap.size + 1 + 1 < w.heap.size + 1 + 1 + 1 + 1 := (by omega)
    go_enter Try.func57, Try.ntmps57
    go_wp2_with (first | (go_at_call 62; refine (l04Is_any _ _ _ _ _ _ _).mono ?_; rintro e wn ⟨rfl, hb⟩; first | (have h2 := after_call2 hb hcl hfr hlt (by ((repeat' (first | (with_reducible exact Below.refl _ _) | (with_reducible refine Below.alloc ?_ ?_ _) | (with_reducible refine Below.setCell ?_ ?_ _) | (with_reducible refine Below.drew ?_) | (with_reducible refine below_drewN ?_ _) | (with_reducible assumption) | (with_reducible refine below_after (by with_reducible assumption) ?_) | go_size)); done)); obtain ⟨hclx, hfrx, hltx, hsz⟩ := after_call hb; (try simp only [World.size_alloc, World.size_setCell, World.size_drew] at hclx hfrx hltx hsz); (try (have hszl := Nat.lt_of_succ_le hsz)); obtain ⟨hcl, hfr, hlt⟩ := h2) | (obtain ⟨hcl, hfr, hlt, hsz⟩ := after_call hb; (try simp only [World.size_alloc, World.size_setCell, World.size_drew] at hcl hfr hlt hsz))))
    refine bodyPost_ret (v := .tuple #[.slice none 0 0, .int .i64 1]) (by simp (maxDischargeDepth := 8) [results, Try.results57, go_sem, *]) rfl ?_
    exact ⟨_, rfl, World.ownsRow_nil _ _ _ _, by (repeat' (first | (with_reducible exact Below.refl _ _) | (with_reducible refine Below.alloc ?_ ?_ _) | (with_reducible refine Below.setCell ?_ ?_ _) | (with_reducible refine Below.drew ?_) | (with_reducible refine below_drewN ?_ _) | (with_reducible assumption) | (with_reducible refine below_after (by with_reducible assumption) ?_) | go_size))⟩
  cases q : inB i 0 2
  · obtain ⟨e1, e2, e3⟩ := st_not (stC_range (i := i) h q) (by decide)
    rw [e1, e2, e3]
    clear e1 e2 e3
    have hs20 : w.heap.size < w.heap.size + 1 + 1 := (by omega); have hs30 : w.heap.size < w.heap.size + 1 + 1 + 1 := (by omega); have hs31 : w.heap.size + 1 < w.heap.size + 1 + 1 + 1 := (by omega); have hs40 : w.heap.size < w.heap.size + 1 + 1 + 1 + 1 := (by omega); have hs41 : w.heap.size + 1 < w.heap.size + 1 + 1 + 1 + 1 := (by omega); have hs42 : w.heap.size + 1 + 1 < w.heap.size + 1 + 1 + 1 + 1 := (by omega)
    go_enter Try.func57, Try.ntmps57
    go_wp2_with (first | (go_at_call 62; refine (l04Is_any _ _ _ _ _ _ _).mono ?_; rintro e wn ⟨rfl, hb⟩; first | (have h2 := after_call2 hb hcl hfr hlt (by ((repeat' (first | (with_reducible exact Below.refl _ _) | (with_reducible refine Below.alloc ?_ ?_ _) | (with_reducible refine Below.setCell ?_ ?_ _) | (with_reducible refine Below.drew ?_) | (with_reducible refine below_drewN ?_ _) | (with_reducible assumption) | (with_reducible refine below_after (by with_reducible assumption) ?_) | go_size)); done)); obtain ⟨hclx, hfrx, hltx, hsz⟩ := after_call hb; (try simp only [World.size_alloc, World.size_setCell, World.size_drew] at hclx hfrx hltx hsz); (try (have hszl := Nat.lt_of_succ_le hsz)); obtain ⟨hcl, hfr, hlt⟩ := h2) | (obtain ⟨hcl, hfr, hlt, hsz⟩ := after_call hb; (try simp only [World.size_alloc, World.size_setCell, World.size_drew] at hcl hfr hlt hsz))) | (go_at_call 74; refine (l01In_any _ _ _ _).mono ?_; rintro e wn ⟨rfl, rfl⟩))
    refine bodyPost_ret (v := .tuple #[.slice none 0 0, .int .i64 2]) (by simp (maxDischargeDepth := 8) [results, Try.results57, go_sem, *]) rfl ?_
    exact ⟨_, rfl, World.ownsRow_nil _ _ _ _, by (repeat' (first | (with_reducible exact Below.refl _ _) | (with_reducible refine Below.alloc ?_ ?_ _) | (with_reducible refine Below.setCell ?_ ?_ _) | (with_reducible refine Below.drew ?_) | (with_reducible refine below_drewN ?_ _) | (with_reducible assumption) | (with_reducible refine below_after (by with_reducible assumption) ?_) | go_size))⟩
  have hb := inB_iff.1 q
  have hc : i = 0 ∨ i = 1 ∨ i = 2 := by omega
  cases hw : whI (spX x0 y0 x1 y1 x2 y2 i) (spY x0 y0 x1 y1 x2 y2 i)
  · obtain ⟨e1, e2, e3⟩ := st_not (stC_odd (i := i) h q hw) (by decide)
    rw [e1, e2, e3]
    rcases hc with rfl | rfl | rfl
    · exact spec_Split_0n x0 y0 x1 y1 x2 y2 _ _ w h rfl rfl hw
    · exact spec_Split_1n x0 y0 x1 y1 x2 y2 _ _ w h rfl rfl hw
    · exact spec_Split_2n x0 y0 x1 y1 x2 y2 _ _ w h rfl rfl hw
  · have e1 := stC_ok (i := i) h q hw
    obtain ⟨e2, e3⟩ := st_yes (i := i) e1
    rw [e1, e2, e3]
    rcases hc with rfl | rfl | rfl
    · exact spec_Split_0y x0 y0 x1 y1 x2 y2 _ _ _ _ w h rfl rfl hw rfl rfl
    · exact spec_Split_1y x0 y0 x1 y1 x2 y2 _ _ _ _ w h rfl rfl hw rfl rfl
    · exact spec_Split_2y x0 y0 x1 y1 x2 y2 _ _ _ _ w h rfl rfl hw rfl rfl
end Go.Proofs.Ytcgaikedbhdbgaa
