/-
  Reduced pairs, in the model (own work).
-/
import Derived.Test.YtadikmjdmddkjaaRdC
namespace Go.Proofs.Ytadikmjdmddkjaa
open Go.ChangeShapes Go.WideShapes Go.ChangeAt Go.RowKit
set_option linter.unusedVariables false
set_option linter.unusedSimpArgs false
set_option maxRecDepth 100000

set_option maxHeartbeats 4000000 in
theorem l10Reduce_any (x0 y0 x1 y1 : Int) (w : World) (h : RdOk ((x0, y0), (x1, y1))) :
    Calls Try.prog 24 #[.agg #[.int .i64 x0, .int .i64 y0], .agg #[.int .i64 x1, .int .i64 y1]] w fun e w' => e = .returned (.tuple #[.agg #[.int .i64 (rdV ((x0, y0), (x1, y1))).1.1, .int .i64 (rdV ((x0, y0), (x1, y1))).1.2], .agg #[.int .i64 (rdV ((x0, y0), (x1, y1))).2.1, .int .i64 (rdV ((x0, y0), (x1, y1))).2.2]]) ∧ Below w.heap.size w w' := by
  obtain ⟨⟨⟨p0, p1⟩, ⟨q0, q1⟩⟩, hV⟩ : ∃ V, rdV ((x0, y0), (x1, y1)) = V := ⟨_, rfl⟩
  have HV := Lib.hid hV
  have HK := Lib.hid h
  rw [hV]
  dsimp only
  clear hV h
  obtain ⟨GS, hG⟩ : ∃ G, w.heap.size = G := ⟨_, rfl⟩
  have HG := Lib.hid hG
  go_enter Try.func24, Try.ntmps24
  go_wp2_with fail
  obtain ⟨w0, hw0⟩ : ∃ w0, w0 = ((((w.alloc (.cells #[.int .i64 x0, .int .i64 y0] 25)).alloc (.cells #[.int .i64 x1, .int .i64 y1] 25)).alloc (.cells #[.int .i64 0, .int .i64 0] 25)).alloc (.cells #[.int .i64 0, .int .i64 0] 25)) := ⟨_, rfl⟩
  rw [← hw0]
  have HS : Hid (Bk2 w0 GS x0 y0) := by
    have h := (bk2_new w x0 y0 25).below (W' := ((((w.alloc (.cells #[.int .i64 x0, .int .i64 y0] 25)).alloc (.cells #[.int .i64 x1, .int .i64 y1] 25)).alloc (.cells #[.int .i64 0, .int .i64 0] 25)).alloc (.cells #[.int .i64 0, .int .i64 0] 25))) (by (repeat' (first | (with_reducible exact Below.refl _ _) | (with_reducible refine Below.alloc ?_ ?_ _) | (with_reducible refine Below.setCell ?_ ?_ _) | (with_reducible refine Below.drew ?_) | (with_reducible refine below_drewN ?_ _) | (with_reducible assumption) | (with_reducible refine below_after (by with_reducible assumption) ?_) | go_size)))
    (try simp only [World.size_alloc] at h)
    rw [hG] at h
    rw [hw0]; exact h
  have HT : Hid (Bk2 w0 (GS + 1) x1 y1) := by
    have h := (bk2_new (w.alloc (.cells #[.int .i64 x0, .int .i64 y0] 25)) x1 y1 25).below (W' := ((((w.alloc (.cells #[.int .i64 x0, .int .i64 y0] 25)).alloc (.cells #[.int .i64 x1, .int .i64 y1] 25)).alloc (.cells #[.int .i64 0, .int .i64 0] 25)).alloc (.cells #[.int .i64 0, .int .i64 0] 25))) (by (repeat' (first | (with_reducible exact Below.refl _ _) | (with_reducible refine Below.alloc ?_ ?_ _) | (with_reducible refine Below.setCell ?_ ?_ _) | (with_reducible refine Below.drew ?_) | (with_reducible refine below_drewN ?_ _) | (with_reducible assumption) | (with_reducible refine below_after (by with_reducible assumption) ?_) | go_size)))
    (try simp only [World.size_alloc] at h)
    rw [hG] at h
    rw [hw0]; exact h
  have HX : Hid (Bk2 w0 (GS + 1 + 1) 0 0) := by
    have h := (bk2_new ((w.alloc (.cells #[.int .i64 x0, .int .i64 y0] 25)).alloc (.cells #[.int .i64 x1, .int .i64 y1] 25)) 0 0 25).below (W' := ((((w.alloc (.cells #[.int .i64 x0, .int .i64 y0] 25)).alloc (.cells #[.int .i64 x1, .int .i64 y1] 25)).alloc (.cells #[.int .i64 0, .int .i64 0] 25)).alloc (.cells #[.int .i64 0, .int .i64 0] 25))) (by (repeat' (first | (with_reducible exact Below.refl _ _) | (with_reducible refine Below.alloc ?_ ?_ _) | (with_reducible refine Below.setCell ?_ ?_ _) | (with_reducible refine Below.drew ?_) | (with_reducible refine below_drewN ?_ _) | (with_reducible assumption) | (with_reducible refine below_after (by with_reducible assumption) ?_) | go_size)))
    (try simp only [World.size_alloc] at h)
    rw [hG] at h
    rw [hw0]; exact h
  have HY : Hid (Bk2 w0 (GS + 1 + 1 + 1) 0 0) := by
    have h := (bk2_new (((w.alloc (.cells #[.int .i64 x0, .int .i64 y0] 25)).alloc (.cells #[.int .i64 x1, .int .i64 y1] 25)).alloc (.cells #[.int .i64 0, .int .i64 0] 25)) 0 0 25).below (W' := ((((w.alloc (.cells #[.int .i64 x0, .int .i64 y0] 25)).alloc (.cells #[.int .i64 x1, .int .i64 y1] 25)).alloc (.cells #[.int .i64 0, .int .i64 0] 25)).alloc (.cells #[.int .i64 0, .int .i64 0] 25))) (by (repeat' (first | (with_reducible exact Below.refl _ _) | (with_reducible refine Below.alloc ?_ ?_ _) | (with_reducible refine Below.setCell ?_ ?_ _) | (with_reducible refine Below.drew ?_) | (with_reducible refine below_drewN ?_ _) | (with_reducible assumption) | (with_reducible refine below_after (by with_reducible assumption) ?_) | go_size)))
    (try simp only [World.size_alloc] at h)
    rw [hG] at h
    rw [hw0]; exact h
  have HB : Hid (Below w.heap.size w w0) := by show Below w.heap.size w w0; rw [hw0]; (repeat' (first | (with_reducible exact Below.refl _ _) | (with_reducible refine Below.alloc ?_ ?_ _) | (with_reducible refine Below.setCell ?_ ?_ _) | (with_reducible refine Below.drew ?_) | (with_reducible refine below_drewN ?_ _) | (with_reducible assumption) | (with_reducible refine below_after (by with_reducible assumption) ?_) | go_size))
  clear hw0
  obtain ⟨GY, hGY⟩ : ∃ g, GS + 1 + 1 + 1 = g := ⟨_, rfl⟩
  rw [hGY] at HY ⊢
  obtain ⟨GX, hGX⟩ : ∃ g, GS + 1 + 1 = g := ⟨_, rfl⟩
  rw [hGX] at HX ⊢
  obtain ⟨GT, hGT⟩ : ∃ g, GS + 1 = g := ⟨_, rfl⟩
  rw [hGT] at HT ⊢
  have le_S : w.heap.size ≤ GS := by omega
  have le_T : w.heap.size ≤ GT := by omega
  have ne_T_S : GT ≠ GS := by omega
  have ne_S_T : GS ≠ GT := by omega
  have le_X : w.heap.size ≤ GX := by omega
  have ne_X_S : GX ≠ GS := by omega
  have ne_S_X : GS ≠ GX := by omega
  have ne_X_T : GX ≠ GT := by omega
  have ne_T_X : GT ≠ GX := by omega
  have le_Y : w.heap.size ≤ GY := by omega
  have ne_Y_S : GY ≠ GS := by omega
  have ne_S_Y : GS ≠ GY := by omega
  have ne_Y_T : GY ≠ GT := by omega
  have ne_T_Y : GT ≠ GY := by omega
  have ne_Y_X : GY ≠ GX := by omega
  have ne_X_Y : GX ≠ GY := by omega
  clear hGT hGX hGY
  go_loopw [] (fun wr => ∃ a0 a1 b0 b1 : Int, RdOk ((a0, a1), (b0, b1)) ∧ rdV ((a0, a1), (b0, b1)) = ((p0, p1), (q0, q1)) ∧ Bk2 wr GS a0 a1 ∧ Bk2 wr GT b0 b1 ∧ Bk2 wr GX 0 0 ∧ Bk2 wr GY 0 0 ∧ Below w.heap.size w wr) (fun wr => rdm ((ivOf (wr.cell? ⟨GS, 0, none⟩), ivOf (wr.cell? ⟨GS, 1, none⟩)), (ivOf (wr.cell? ⟨GT, 0, none⟩), ivOf (wr.cell? ⟨GT, 1, none⟩))))
  case atStart => exact ⟨x0, y0, x1, y1, HK.out, HV.out, HS.out, HT.out, HX.out, HY.out, HB.out⟩
  case round =>
    obtain ⟨a0, a1, b0, b1, hk, hv, hS, hT, hX, hY, hbel⟩ := hrel
    clear HS HT HX HY HB HV HK
    have HS := Lib.hid hS
    have HT := Lib.hid hT
    have HX := Lib.hid hX
    have HY := Lib.hid hY
    have HB := Lib.hid hbel
    have HK := Lib.hid hk
    have HV := Lib.hid hv
    clear hS hT hX hY hbel hv
    obtain ⟨⟨m0, m1⟩, m2, m3⟩ := hk.bm
    dsimp only at m0 m1 m2 m3
    clear hk
    have CR : Hid (∀ w, Calls Try.prog 28 #[.agg #[.int .i64 a0, .int .i64 a1], .agg #[.int .i64 b0, .int .i64 b1]] w fun e w' => e = .returned (.bool (redP (a0, a1) (b0, b1))) ∧ Below w.heap.size w w') := fun w => l10Reduced_any _ _ _ _ w m0 m1 m2 m3
    cases hr : redP (a0, a1) (b0, b1)
    · by_cases hx : dotP (b0, b1) (b0, b1) < dotP (a0, a1) (a0, a1)
      · skip
        obtain ⟨hk2, hlt⟩ := HK.out.step hr
        have hv2 : rdV (rdS ((a0, a1), (b0, b1))) = ((p0, p1), (q0, q1)) := (rdV_next HK.out hr).symm.trans HV.out
        obtain ⟨⟨n1, n2⟩, ⟨n3, n4⟩, ⟨n5, n6⟩, ⟨n7, n8⟩, n9, n10⟩ := HK.out.num
        rw [hr] at CR
        have CA : Hid (∀ w, Calls Try.prog 30 #[.agg #[.int .i64 a0, .int .i64 a1], .agg #[.int .i64 a0, .int .i64 a1]] w fun e w' => e = .returned (.int .i64 (dotP (a0, a1) (a0, a1))) ∧ Below w.heap.size w w') := fun w => l10Dot_any _ _ _ _ w m0.bn m1.bn m0.bn m1.bn
        have CB : Hid (∀ w, Calls Try.prog 30 #[.agg #[.int .i64 b0, .int .i64 b1], .agg #[.int .i64 b0, .int .i64 b1]] w fun e w' => e = .returned (.int .i64 (dotP (b0, b1) (b0, b1))) ∧ Below w.heap.size w w') := fun w => l10Dot_any _ _ _ _ w m2.bn m3.bn m2.bn m3.bn
        have CP : Hid (∀ w, Calls Try.prog 30 #[.agg #[.int .i64 a0, .int .i64 a1], .agg #[.int .i64 b0, .int .i64 b1]] w fun e w' => e = .returned (.int .i64 (dotP (a0, a1) (b0, b1))) ∧ Below w.heap.size w w') := fun w => l10Dot_any _ _ _ _ w m0.bn m1.bn m2.bn m3.bn
        have CQ : Hid (∀ w, Calls Try.prog 42 #[.int .i64 (2 * dotP (a0, a1) (b0, b1) + dotP (a0, a1) (a0, a1)), .int .i64 (2 * dotP (a0, a1) (a0, a1))] w fun e w' => e = .returned (.int .i64 (rdK (a0, a1) (b0, b1))) ∧ Below w.heap.size w w') := fun w => (l01Floor_big _ _ w (by omega) (by omega) (by omega) (by omega)).mono (by rintro e w' ⟨rfl, rfl⟩; exact ⟨rfl, Below.refl _ _⟩)
        have CW : Hid (∀ w, Calls Try.prog 41 #[.agg #[.int .i64 b0, .int .i64 b1], .agg #[.int .i64 a0, .int .i64 a1], .int .i64 (-(rdK (a0, a1) (b0, b1)))] w fun e w' => e = .returned (.agg #[.int .i64 (b0 + -(rdK (a0, a1) (b0, b1)) * a0), .int .i64 (b1 + -(rdK (a0, a1) (b0, b1)) * a1)]) ∧ Below w.heap.size w w') := fun w => l01Plus_wide _ _ _ _ _ w m2.bn m3.bn n7 n8 n9 n10
        unfold rdS at hk2 hv2 hlt
        dsimp only at hk2 hv2 hlt
        rw [if_pos hx] at hk2 hv2 hlt
        have KK := Lib.hid hk2
        have KV := Lib.hid hv2
        have KL := Lib.hid hlt
        have d2 : decide (dotP (b0, b1) (b0, b1) < dotP (a0, a1) (a0, a1)) = true := by simpa using hx
        clear hk2 hv2 hlt HK HV m0 m1 m2 m3 CW n5 n6 n7 n8 n9 n10
        have HS0 := HS
        have HT0 := HT
        generalize dotP (a0, a1) (a0, a1) = A at *
        generalize dotP (b0, b1) (b0, b1) = B at *
        generalize dotP (a0, a1) (b0, b1) = P at *
        obtain ⟨⟨qS0, qS1⟩, ⟨fS0, fS1⟩, zS⟩ := HS.out
        obtain ⟨⟨qT0, qT1⟩, ⟨fT0, fT1⟩, zT⟩ := HT.out
        obtain ⟨⟨qX0, qX1⟩, ⟨fX0, fX1⟩, zX⟩ := HX.out
        obtain ⟨⟨qY0, qY1⟩, ⟨fY0, fY1⟩, zY⟩ := HY.out
        go_wp2_with fail
        go_at_call 28
        refine (CR.out _).mono ?_
        rintro e w21 ⟨rfl, hb⟩
        clear qS0 fS0 qS1 fS1 zS qT0 fT0 qT1 fT1 zT qX0 fX0 qX1 fX1 zX qY0 fY0 qY1 fY1 zY
        have HS := Lib.hid (HS.out.below hb)
        have HT := Lib.hid (HT.out.below hb)
        have HX := Lib.hid (HX.out.below hb)
        have HY := Lib.hid (HY.out.below hb)
        have HB := Lib.hid (below_after hb HB.out)
        clear hb
        have HXX : Hid (∀ W, Below w21.heap.size w21 W → Bk2 W GS a0 a1 ∧ Bk2 W GT b0 b1 ∧ Bk2 W GX 0 0 ∧ Bk2 W GY 0 0) := fun W hW => ⟨HS.out.below hW, HT.out.below hW, HX.out.below hW, HY.out.below hW⟩
        go_wp2_with fail
        refine wp_region_held_drew (S := fun W => Below w21.heap.size w21 W) (by kernel_rfl) ?_ (fun hHeld => ?_); focus ((try dsimp only); exact (Below.refl _ _).drew)
        have HS := Lib.hid (HS.out.below (Below.drew (Below.refl _ _)))
        have HT := Lib.hid (HT.out.below (Below.drew (Below.refl _ _)))
        have HX := Lib.hid (HX.out.below (Below.drew (Below.refl _ _)))
        have HY := Lib.hid (HY.out.below (Below.drew (Below.refl _ _)))
        have hHeld : Below w21.heap.size w21 _ := hHeld
        obtain ⟨wD21, hwD21⟩ : ∃ wD, w21.drew = wD := ⟨_, rfl⟩
        rw [hwD21] at hHeld HS HT HX HY ⊢
        clear hwD21
        (refine wpAnyH_take (i := 0) (v := ?_) rfl (by kernel_rfl) (by kernel_rfl) (by kernel_rfl) (fun _ _ _ h => h) (Or.inl ⟨rfl, ?_⟩) (by assumption) ?_; rotate_left; focus (intro W hSw; (try dsimp only at hSw); have hxx := HXX.out _ hSw; obtain ⟨hxS, hxT, hxX, hxY⟩ := hxx; obtain ⟨⟨iS0, iS1⟩, _, _⟩ := hxS; obtain ⟨⟨iT0, iT1⟩, _, _⟩ := hxT; obtain ⟨⟨iX0, iX1⟩, _, _⟩ := hxX; obtain ⟨⟨iY0, iY1⟩, _, _⟩ := hxY; go_simp; try (with_reducible rfl))); (try simp only [Act.put, List.getElem_toArray, List.getElem_cons_succ, List.getElem_cons_zero, List.setIfInBounds_toArray, List.set_cons_zero, List.set_cons_succ])
        (refine wpAnyH_take (i := 1) (v := ?_) rfl (by kernel_rfl) (by kernel_rfl) (by kernel_rfl) (fun _ _ _ h => h) (Or.inl ⟨rfl, ?_⟩) (by assumption) ?_; rotate_left; focus (intro W hSw; (try dsimp only at hSw); have hxx := HXX.out _ hSw; obtain ⟨hxS, hxT, hxX, hxY⟩ := hxx; obtain ⟨⟨iS0, iS1⟩, _, _⟩ := hxS; obtain ⟨⟨iT0, iT1⟩, _, _⟩ := hxT; obtain ⟨⟨iX0, iX1⟩, _, _⟩ := hxX; obtain ⟨⟨iY0, iY1⟩, _, _⟩ := hxY; go_simp; try (with_reducible rfl))); (try simp only [Act.put, List.getElem_toArray, List.getElem_cons_succ, List.getElem_cons_zero, List.setIfInBounds_toArray, List.set_cons_zero, List.set_cons_succ])
        (refine wpAnyH_take (i := 3) (v := ?_) rfl (by kernel_rfl) (by kernel_rfl) (by kernel_rfl) (fun _ _ _ h => h) (Or.inl ⟨rfl, ?_⟩) (by assumption) ?_; rotate_left; focus (intro W hSw; (try dsimp only at hSw); have hxx := HXX.out _ hSw; obtain ⟨hxS, hxT, hxX, hxY⟩ := hxx; obtain ⟨⟨iS0, iS1⟩, _, _⟩ := hxS; obtain ⟨⟨iT0, iT1⟩, _, _⟩ := hxT; obtain ⟨⟨iX0, iX1⟩, _, _⟩ := hxX; obtain ⟨⟨iY0, iY1⟩, _, _⟩ := hxY; go_simp; try (with_reducible rfl))); (try simp only [Act.put, List.getElem_toArray, List.getElem_cons_succ, List.getElem_cons_zero, List.setIfInBounds_toArray, List.set_cons_zero, List.set_cons_succ])
        (refine wpAnyH_take (i := 4) (v := ?_) rfl (by kernel_rfl) (by kernel_rfl) (by kernel_rfl) (fun _ _ _ h => h) (Or.inl ⟨rfl, ?_⟩) (by assumption) ?_; rotate_left; focus (intro W hSw; (try dsimp only at hSw); have hxx := HXX.out _ hSw; obtain ⟨hxS, hxT, hxX, hxY⟩ := hxx; obtain ⟨⟨iS0, iS1⟩, _, _⟩ := hxS; obtain ⟨⟨iT0, iT1⟩, _, _⟩ := hxT; obtain ⟨⟨iX0, iX1⟩, _, _⟩ := hxX; obtain ⟨⟨iY0, iY1⟩, _, _⟩ := hxY; go_simp; try (with_reducible rfl))); (try simp only [Act.put, List.getElem_toArray, List.getElem_cons_succ, List.getElem_cons_zero, List.setIfInBounds_toArray, List.set_cons_zero, List.set_cons_succ])
        refine wpAnyH_ready (rs := [2]) (by kernel_rfl) (by simp) ?_; refine AllReadyH.cons rfl (fun K hK => ?_) AllReadyH.nil
        go_simp; (go_at_call 30; refine (CA.out _).mono ?_; rintro en ywr21x0 ⟨rfl, hb2⟩); have HS := Lib.hid (HS.out.below hb2); have HT := Lib.hid (HT.out.below hb2); have HX := Lib.hid (HX.out.below hb2); have HY := Lib.hid (HY.out.below hb2); refine hK.out _ _ (below_after hb2 hHeld) (fun hHeld2 => ?_); clear hb2; (clear hHeld; rename _ => hHeld; clear hK K; have hHeld : Below w21.heap.size w21 _ := hHeld); (try simp only [Act.put, List.getElem_toArray, List.getElem_cons_succ, List.getElem_cons_zero, List.setIfInBounds_toArray, List.set_cons_zero, List.set_cons_succ])
        refine wpAnyH_ready (rs := [5]) (by kernel_rfl) (by simp) ?_; refine AllReadyH.cons rfl (fun K hK => ?_) AllReadyH.nil
        go_simp; (go_at_call 30; refine (CB.out _).mono ?_; rintro en ywr21x1 ⟨rfl, hb2⟩); have HS := Lib.hid (HS.out.below hb2); have HT := Lib.hid (HT.out.below hb2); have HX := Lib.hid (HX.out.below hb2); have HY := Lib.hid (HY.out.below hb2); refine hK.out _ _ (below_after hb2 hHeld) (fun hHeld2 => ?_); clear hb2; (clear hHeld; rename _ => hHeld; clear hK K; have hHeld : Below w21.heap.size w21 _ := hHeld); (try simp only [Act.put, List.getElem_toArray, List.getElem_cons_succ, List.getElem_cons_zero, List.setIfInBounds_toArray, List.set_cons_zero, List.set_cons_succ])
        (refine wpAnyH_take (i := 6) (v := ?_) rfl (by kernel_rfl) (by kernel_rfl) (by kernel_rfl) (fun _ _ _ h => h) (Or.inl ⟨rfl, ?_⟩) (by assumption) ?_; rotate_left; focus (intro W hSw; (try dsimp only at hSw); have hxx := HXX.out _ hSw; obtain ⟨hxS, hxT, hxX, hxY⟩ := hxx; obtain ⟨⟨iS0, iS1⟩, _, _⟩ := hxS; obtain ⟨⟨iT0, iT1⟩, _, _⟩ := hxT; obtain ⟨⟨iX0, iX1⟩, _, _⟩ := hxX; obtain ⟨⟨iY0, iY1⟩, _, _⟩ := hxY; go_simp; try (with_reducible rfl))); (try simp only [Act.put, List.getElem_toArray, List.getElem_cons_succ, List.getElem_cons_zero, List.setIfInBounds_toArray, List.set_cons_zero, List.set_cons_succ])
        refine wpAnyH_done (by kernel_rfl) ?_ _
        have HB := Lib.hid (HB.out.trans (hHeld.mono HB.out.size))
        clear hHeld HXX
        obtain ⟨⟨qS0, qS1⟩, ⟨fS0, fS1⟩, zS⟩ := HS.out
        obtain ⟨⟨qT0, qT1⟩, ⟨fT0, fT1⟩, zT⟩ := HT.out
        obtain ⟨⟨qX0, qX1⟩, ⟨fX0, fX1⟩, zX⟩ := HX.out
        obtain ⟨⟨qY0, qY1⟩, ⟨fY0, fY1⟩, zY⟩ := HY.out
        go_upto_region 4 with fail
        obtain ⟨GO, hGO⟩ : ∃ g, ywr21x1.heap.size = g := ⟨_, rfl⟩
        obtain ⟨w72, hw72⟩ : ∃ wx, wx = ywr21x1.alloc (.cells #[.int .i64 a0, .int .i64 a1] 25) := ⟨_, rfl⟩
        rw [← hw72, hGO]
        have HO : Hid (Bk2 w72 GO a0 a1) := by rw [hw72, ← hGO]; exact bk2_new ywr21x1 a0 a1 _
        have le_O : w.heap.size ≤ GO := by rw [← hGO]; exact HB.out.size
        have ne_O_S : GO ≠ GS := by have := HS.out.2.2; omega
        have ne_S_O : GS ≠ GO := Ne.symm ne_O_S
        have ne_O_T : GO ≠ GT := by have := HT.out.2.2; omega
        have ne_T_O : GT ≠ GO := Ne.symm ne_O_T
        have ne_O_X : GO ≠ GX := by have := HX.out.2.2; omega
        have ne_X_O : GX ≠ GO := Ne.symm ne_O_X
        have ne_O_Y : GO ≠ GY := by have := HY.out.2.2; omega
        have ne_Y_O : GY ≠ GO := Ne.symm ne_O_Y
        clear qS0 fS0 qS1 fS1 zS qT0 fT0 qT1 fT1 zT qX0 fX0 qX1 fX1 zX qY0 fY0 qY1 fY1 zY
        have HS := Lib.hid (HS.out.below ((Below.refl _ _).alloc (Nat.le_refl _) (.cells #[.int .i64 a0, .int .i64 a1] 25)))
        have HT := Lib.hid (HT.out.below ((Below.refl _ _).alloc (Nat.le_refl _) (.cells #[.int .i64 a0, .int .i64 a1] 25)))
        have HX := Lib.hid (HX.out.below ((Below.refl _ _).alloc (Nat.le_refl _) (.cells #[.int .i64 a0, .int .i64 a1] 25)))
        have HY := Lib.hid (HY.out.below ((Below.refl _ _).alloc (Nat.le_refl _) (.cells #[.int .i64 a0, .int .i64 a1] 25)))
        have HB := Lib.hid (Below.alloc HB.out HB.out.size (.cells #[.int .i64 a0, .int .i64 a1] 25))
        rw [← hw72] at HS HT HX HY HB
        clear hw72 hGO
        obtain ⟨⟨qS0, qS1⟩, ⟨fS0, fS1⟩, zS⟩ := HS.out
        obtain ⟨⟨qT0, qT1⟩, ⟨fT0, fT1⟩, zT⟩ := HT.out
        obtain ⟨⟨qX0, qX1⟩, ⟨fX0, fX1⟩, zX⟩ := HX.out
        obtain ⟨⟨qY0, qY1⟩, ⟨fY0, fY1⟩, zY⟩ := HY.out
        obtain ⟨⟨qO0, qO1⟩, ⟨fO0, fO1⟩, zO⟩ := HO.out
        go_upto_region 5 with fail
        obtain ⟨w73, hw73⟩ : ∃ wx, wx = ((w72.setCell ⟨GS, 0, none⟩ (.int .i64 b0)).setCell ⟨GS, 1, none⟩ (.int .i64 b1)) := ⟨_, rfl⟩
        rw [← hw73]
        clear qS0 fS0 qS1 fS1 zS qT0 fT0 qT1 fT1 zT qX0 fX0 qX1 fX1 zX qY0 fY0 qY1 fY1 zY qO0 fO0 qO1 fO1 zO
        have HT := Lib.hid ((HT.out.far ⟨GS, 0, none⟩ (.int .i64 b0) (by show GT ≠ GS; exact ne_T_S)).far ⟨GS, 1, none⟩ (.int .i64 b1) (by show GT ≠ GS; exact ne_T_S))
        have HX := Lib.hid ((HX.out.far ⟨GS, 0, none⟩ (.int .i64 b0) (by show GX ≠ GS; exact ne_X_S)).far ⟨GS, 1, none⟩ (.int .i64 b1) (by show GX ≠ GS; exact ne_X_S))
        have HY := Lib.hid ((HY.out.far ⟨GS, 0, none⟩ (.int .i64 b0) (by show GY ≠ GS; exact ne_Y_S)).far ⟨GS, 1, none⟩ (.int .i64 b1) (by show GY ≠ GS; exact ne_Y_S))
        have HO := Lib.hid ((HO.out.far ⟨GS, 0, none⟩ (.int .i64 b0) (by show GO ≠ GS; exact ne_O_S)).far ⟨GS, 1, none⟩ (.int .i64 b1) (by show GO ≠ GS; exact ne_O_S))
        have HS := Lib.hid ((HS.out.set0 b0).set1 b1)
        have HB := Lib.hid (Below.setCell (Below.setCell HB.out (p := ⟨GS, 0, none⟩) le_S (.int .i64 b0)) (p := ⟨GS, 1, none⟩) le_S (.int .i64 b1))
        rw [← hw73] at HS HT HX HY HO HB
        clear hw73
        obtain ⟨⟨qS0, qS1⟩, ⟨fS0, fS1⟩, zS⟩ := HS.out
        obtain ⟨⟨qT0, qT1⟩, ⟨fT0, fT1⟩, zT⟩ := HT.out
        obtain ⟨⟨qX0, qX1⟩, ⟨fX0, fX1⟩, zX⟩ := HX.out
        obtain ⟨⟨qY0, qY1⟩, ⟨fY0, fY1⟩, zY⟩ := HY.out
        obtain ⟨⟨qO0, qO1⟩, ⟨fO0, fO1⟩, zO⟩ := HO.out
        have KS := ((HS.out.far ⟨GT, 0, none⟩ (.int .i64 a0) (by show GS ≠ GT; exact ne_S_T)).far ⟨GT, 1, none⟩ (.int .i64 a1) (by show GS ≠ GT; exact ne_S_T))
        have KT := ((HT.out.set0 a0).set1 a1)
        have KX := ((HX.out.far ⟨GT, 0, none⟩ (.int .i64 a0) (by show GX ≠ GT; exact ne_X_T)).far ⟨GT, 1, none⟩ (.int .i64 a1) (by show GX ≠ GT; exact ne_X_T))
        have KY := ((HY.out.far ⟨GT, 0, none⟩ (.int .i64 a0) (by show GY ≠ GT; exact ne_Y_T)).far ⟨GT, 1, none⟩ (.int .i64 a1) (by show GY ≠ GT; exact ne_Y_T))
        have KB := (Below.setCell (Below.setCell HB.out (p := ⟨GT, 0, none⟩) le_T (.int .i64 a0)) (p := ⟨GT, 1, none⟩) le_T (.int .i64 a1))
        go_wp2_with fail
        go_roundw
        case rel => exact ⟨_, _, _, _, KK.out, KV.out, KS, KT, KX, KY, KB⟩
        case measure =>
          have s0 := HS0.out.1
          have t0 := HT0.out.1
          have s1 := KS.1
          have t1 := KT.1
          rw [s0.1, s0.2, t0.1, t0.2, s1.1, s1.2, t1.1, t1.2]
          exact KL.out
      · skip
        obtain ⟨hk2, hlt⟩ := HK.out.step hr
        have hv2 : rdV (rdS ((a0, a1), (b0, b1))) = ((p0, p1), (q0, q1)) := (rdV_next HK.out hr).symm.trans HV.out
        obtain ⟨⟨n1, n2⟩, ⟨n3, n4⟩, ⟨n5, n6⟩, ⟨n7, n8⟩, n9, n10⟩ := HK.out.num
        rw [hr] at CR
        have CA : Hid (∀ w, Calls Try.prog 30 #[.agg #[.int .i64 a0, .int .i64 a1], .agg #[.int .i64 a0, .int .i64 a1]] w fun e w' => e = .returned (.int .i64 (dotP (a0, a1) (a0, a1))) ∧ Below w.heap.size w w') := fun w => l10Dot_any _ _ _ _ w m0.bn m1.bn m0.bn m1.bn
        have CB : Hid (∀ w, Calls Try.prog 30 #[.agg #[.int .i64 b0, .int .i64 b1], .agg #[.int .i64 b0, .int .i64 b1]] w fun e w' => e = .returned (.int .i64 (dotP (b0, b1) (b0, b1))) ∧ Below w.heap.size w w') := fun w => l10Dot_any _ _ _ _ w m2.bn m3.bn m2.bn m3.bn
        have CP : Hid (∀ w, Calls Try.prog 30 #[.agg #[.int .i64 a0, .int .i64 a1], .agg #[.int .i64 b0, .int .i64 b1]] w fun e w' => e = .returned (.int .i64 (dotP (a0, a1) (b0, b1))) ∧ Below w.heap.size w w') := fun w => l10Dot_any _ _ _ _ w m0.bn m1.bn m2.bn m3.bn
        have CQ : Hid (∀ w, Calls Try.prog 42 #[.int .i64 (2 * dotP (a0, a1) (b0, b1) + dotP (a0, a1) (a0, a1)), .int .i64 (2 * dotP (a0, a1) (a0, a1))] w fun e w' => e = .returned (.int .i64 (rdK (a0, a1) (b0, b1))) ∧ Below w.heap.size w w') := fun w => (l01Floor_big _ _ w (by omega) (by omega) (by omega) (by omega)).mono (by rintro e w' ⟨rfl, rfl⟩; exact ⟨rfl, Below.refl _ _⟩)
        have CW : Hid (∀ w, Calls Try.prog 41 #[.agg #[.int .i64 b0, .int .i64 b1], .agg #[.int .i64 a0, .int .i64 a1], .int .i64 (-(rdK (a0, a1) (b0, b1)))] w fun e w' => e = .returned (.agg #[.int .i64 (b0 + -(rdK (a0, a1) (b0, b1)) * a0), .int .i64 (b1 + -(rdK (a0, a1) (b0, b1)) * a1)]) ∧ Below w.heap.size w w') := fun w => l01Plus_wide _ _ _ _ _ w m2.bn m3.bn n7 n8 n9 n10
        unfold rdS rdB at hk2 hv2 hlt
        dsimp only at hk2 hv2 hlt
        rw [if_neg hx] at hk2 hv2 hlt
        have KK := Lib.hid hk2
        have KV := Lib.hid hv2
        have KL := Lib.hid hlt
        have d2 : decide (dotP (b0, b1) (b0, b1) < dotP (a0, a1) (a0, a1)) = false := by simpa using hx
        clear hk2 hv2 hlt HK HV m0 m1 m2 m3 n7 n8 n9 n10
        have hwK : IntKind.i64.wrap (-(rdK (a0, a1) (b0, b1))) = -(rdK (a0, a1) (b0, b1)) := by rw [IntKind.wrap_i64]; omega
        have HS0 := HS
        have HT0 := HT
        generalize rdK (a0, a1) (b0, b1) = K at *
        generalize dotP (a0, a1) (a0, a1) = A at *
        generalize dotP (b0, b1) (b0, b1) = B at *
        generalize dotP (a0, a1) (b0, b1) = P at *
        obtain ⟨U, hU⟩ : ∃ U, b0 + -K * a0 = U := ⟨_, rfl⟩
        obtain ⟨V, hV'⟩ : ∃ U, b1 + -K * a1 = U := ⟨_, rfl⟩
        have hwP : IntKind.i64.wrap (2 * P) = 2 * P := by rw [IntKind.wrap_i64]; omega
        have hwA : IntKind.i64.wrap (2 * A) = 2 * A := by rw [IntKind.wrap_i64]; omega
        have hwS : IntKind.i64.wrap (2 * P + A) = 2 * P + A := by rw [IntKind.wrap_i64]; omega
        rw [hU, hV'] at KK KV KL CW
        clear hU hV'
        obtain ⟨⟨qS0, qS1⟩, ⟨fS0, fS1⟩, zS⟩ := HS.out
        obtain ⟨⟨qT0, qT1⟩, ⟨fT0, fT1⟩, zT⟩ := HT.out
        obtain ⟨⟨qX0, qX1⟩, ⟨fX0, fX1⟩, zX⟩ := HX.out
        obtain ⟨⟨qY0, qY1⟩, ⟨fY0, fY1⟩, zY⟩ := HY.out
        go_wp2_with fail
        go_at_call 28
        refine (CR.out _).mono ?_
        rintro e w21 ⟨rfl, hb⟩
        clear qS0 fS0 qS1 fS1 zS qT0 fT0 qT1 fT1 zT qX0 fX0 qX1 fX1 zX qY0 fY0 qY1 fY1 zY
        have HS := Lib.hid (HS.out.below hb)
        have HT := Lib.hid (HT.out.below hb)
        have HX := Lib.hid (HX.out.below hb)
        have HY := Lib.hid (HY.out.below hb)
        have HB := Lib.hid (below_after hb HB.out)
        clear hb
        have HXX : Hid (∀ W, Below w21.heap.size w21 W → Bk2 W GS a0 a1 ∧ Bk2 W GT b0 b1 ∧ Bk2 W GX 0 0 ∧ Bk2 W GY 0 0) := fun W hW => ⟨HS.out.below hW, HT.out.below hW, HX.out.below hW, HY.out.below hW⟩
        go_wp2_with fail
        refine wp_region_held_drew (S := fun W => Below w21.heap.size w21 W) (by kernel_rfl) ?_ (fun hHeld => ?_); focus ((try dsimp only); exact (Below.refl _ _).drew)
        have HS := Lib.hid (HS.out.below (Below.drew (Below.refl _ _)))
        have HT := Lib.hid (HT.out.below (Below.drew (Below.refl _ _)))
        have HX := Lib.hid (HX.out.below (Below.drew (Below.refl _ _)))
        have HY := Lib.hid (HY.out.below (Below.drew (Below.refl _ _)))
        have hHeld : Below w21.heap.size w21 _ := hHeld
        obtain ⟨wD21, hwD21⟩ : ∃ wD, w21.drew = wD := ⟨_, rfl⟩
        rw [hwD21] at hHeld HS HT HX HY ⊢
        clear hwD21
        (refine wpAnyH_take (i := 0) (v := ?_) rfl (by kernel_rfl) (by kernel_rfl) (by kernel_rfl) (fun _ _ _ h => h) (Or.inl ⟨rfl, ?_⟩) (by assumption) ?_; rotate_left; focus (intro W hSw; (try dsimp only at hSw); have hxx := HXX.out _ hSw; obtain ⟨hxS, hxT, hxX, hxY⟩ := hxx; obtain ⟨⟨iS0, iS1⟩, _, _⟩ := hxS; obtain ⟨⟨iT0, iT1⟩, _, _⟩ := hxT; obtain ⟨⟨iX0, iX1⟩, _, _⟩ := hxX; obtain ⟨⟨iY0, iY1⟩, _, _⟩ := hxY; go_simp; try (with_reducible rfl))); (try simp only [Act.put, List.getElem_toArray, List.getElem_cons_succ, List.getElem_cons_zero, List.setIfInBounds_toArray, List.set_cons_zero, List.set_cons_succ])
        (refine wpAnyH_take (i := 1) (v := ?_) rfl (by kernel_rfl) (by kernel_rfl) (by kernel_rfl) (fun _ _ _ h => h) (Or.inl ⟨rfl, ?_⟩) (by assumption) ?_; rotate_left; focus (intro W hSw; (try dsimp only at hSw); have hxx := HXX.out _ hSw; obtain ⟨hxS, hxT, hxX, hxY⟩ := hxx; obtain ⟨⟨iS0, iS1⟩, _, _⟩ := hxS; obtain ⟨⟨iT0, iT1⟩, _, _⟩ := hxT; obtain ⟨⟨iX0, iX1⟩, _, _⟩ := hxX; obtain ⟨⟨iY0, iY1⟩, _, _⟩ := hxY; go_simp; try (with_reducible rfl))); (try simp only [Act.put, List.getElem_toArray, List.getElem_cons_succ, List.getElem_cons_zero, List.setIfInBounds_toArray, List.set_cons_zero, List.set_cons_succ])
        (refine wpAnyH_take (i := 3) (v := ?_) rfl (by kernel_rfl) (by kernel_rfl) (by kernel_rfl) (fun _ _ _ h => h) (Or.inl ⟨rfl, ?_⟩) (by assumption) ?_; rotate_left; focus (intro W hSw; (try dsimp only at hSw); have hxx := HXX.out _ hSw; obtain ⟨hxS, hxT, hxX, hxY⟩ := hxx; obtain ⟨⟨iS0, iS1⟩, _, _⟩ := hxS; obtain ⟨⟨iT0, iT1⟩, _, _⟩ := hxT; obtain ⟨⟨iX0, iX1⟩, _, _⟩ := hxX; obtain ⟨⟨iY0, iY1⟩, _, _⟩ := hxY; go_simp; try (with_reducible rfl))); (try simp only [Act.put, List.getElem_toArray, List.getElem_cons_succ, List.getElem_cons_zero, List.setIfInBounds_toArray, List.set_cons_zero, List.set_cons_succ])
        (refine wpAnyH_take (i := 4) (v := ?_) rfl (by kernel_rfl) (by kernel_rfl) (by kernel_rfl) (fun _ _ _ h => h) (Or.inl ⟨rfl, ?_⟩) (by assumption) ?_; rotate_left; focus (intro W hSw; (try dsimp only at hSw); have hxx := HXX.out _ hSw; obtain ⟨hxS, hxT, hxX, hxY⟩ := hxx; obtain ⟨⟨iS0, iS1⟩, _, _⟩ := hxS; obtain ⟨⟨iT0, iT1⟩, _, _⟩ := hxT; obtain ⟨⟨iX0, iX1⟩, _, _⟩ := hxX; obtain ⟨⟨iY0, iY1⟩, _, _⟩ := hxY; go_simp; try (with_reducible rfl))); (try simp only [Act.put, List.getElem_toArray, List.getElem_cons_succ, List.getElem_cons_zero, List.setIfInBounds_toArray, List.set_cons_zero, List.set_cons_succ])
        refine wpAnyH_ready (rs := [2]) (by kernel_rfl) (by simp) ?_; refine AllReadyH.cons rfl (fun K hK => ?_) AllReadyH.nil
        go_simp; (go_at_call 30; refine (CA.out _).mono ?_; rintro en ywr21x0 ⟨rfl, hb2⟩); have HS := Lib.hid (HS.out.below hb2); have HT := Lib.hid (HT.out.below hb2); have HX := Lib.hid (HX.out.below hb2); have HY := Lib.hid (HY.out.below hb2); refine hK.out _ _ (below_after hb2 hHeld) (fun hHeld2 => ?_); clear hb2; (clear hHeld; rename _ => hHeld; clear hK K; have hHeld : Below w21.heap.size w21 _ := hHeld); (try simp only [Act.put, List.getElem_toArray, List.getElem_cons_succ, List.getElem_cons_zero, List.setIfInBounds_toArray, List.set_cons_zero, List.set_cons_succ])
        refine wpAnyH_ready (rs := [5]) (by kernel_rfl) (by simp) ?_; refine AllReadyH.cons rfl (fun K hK => ?_) AllReadyH.nil
        go_simp; (go_at_call 30; refine (CB.out _).mono ?_; rintro en ywr21x1 ⟨rfl, hb2⟩); have HS := Lib.hid (HS.out.below hb2); have HT := Lib.hid (HT.out.below hb2); have HX := Lib.hid (HX.out.below hb2); have HY := Lib.hid (HY.out.below hb2); refine hK.out _ _ (below_after hb2 hHeld) (fun hHeld2 => ?_); clear hb2; (clear hHeld; rename _ => hHeld; clear hK K; have hHeld : Below w21.heap.size w21 _ := hHeld); (try simp only [Act.put, List.getElem_toArray, List.getElem_cons_succ, List.getElem_cons_zero, List.setIfInBounds_toArray, List.set_cons_zero, List.set_cons_succ])
        (refine wpAnyH_take (i := 6) (v := ?_) rfl (by kernel_rfl) (by kernel_rfl) (by kernel_rfl) (fun _ _ _ h => h) (Or.inl ⟨rfl, ?_⟩) (by assumption) ?_; rotate_left; focus (intro W hSw; (try dsimp only at hSw); have hxx := HXX.out _ hSw; obtain ⟨hxS, hxT, hxX, hxY⟩ := hxx; obtain ⟨⟨iS0, iS1⟩, _, _⟩ := hxS; obtain ⟨⟨iT0, iT1⟩, _, _⟩ := hxT; obtain ⟨⟨iX0, iX1⟩, _, _⟩ := hxX; obtain ⟨⟨iY0, iY1⟩, _, _⟩ := hxY; go_simp; try (with_reducible rfl))); (try simp only [Act.put, List.getElem_toArray, List.getElem_cons_succ, List.getElem_cons_zero, List.setIfInBounds_toArray, List.set_cons_zero, List.set_cons_succ])
        refine wpAnyH_done (by kernel_rfl) ?_ _
        have HB := Lib.hid (HB.out.trans (hHeld.mono HB.out.size))
        clear hHeld HXX
        obtain ⟨⟨qS0, qS1⟩, ⟨fS0, fS1⟩, zS⟩ := HS.out
        obtain ⟨⟨qT0, qT1⟩, ⟨fT0, fT1⟩, zT⟩ := HT.out
        obtain ⟨⟨qX0, qX1⟩, ⟨fX0, fX1⟩, zX⟩ := HX.out
        obtain ⟨⟨qY0, qY1⟩, ⟨fY0, fY1⟩, zY⟩ := HY.out
        go_wp2_with fail
        go_at_call 30
        refine (CA.out _).mono ?_
        rintro e w72 ⟨rfl, hb⟩
        clear qS0 fS0 qS1 fS1 zS qT0 fT0 qT1 fT1 zT qX0 fX0 qX1 fX1 zX qY0 fY0 qY1 fY1 zY
        have HS := Lib.hid (HS.out.below hb)
        have HT := Lib.hid (HT.out.below hb)
        have HX := Lib.hid (HX.out.below hb)
        have HY := Lib.hid (HY.out.below hb)
        have HB := Lib.hid (below_after hb HB.out)
        clear hb
        go_wp2_with fail
        refine wp_region_held_drew (S := fun W => Below w.heap.size w W ∧ Bk2 W GS a0 a1 ∧ Bk2 W GX 0 0 ∧ Bk2 W GY 0 0) (by kernel_rfl) ?_ (fun hHeld => ?_); focus ((try dsimp only); exact ⟨Below.drew HB.out, HS.out.below (Below.drew (Below.refl _ _)), HX.out.below (Below.drew (Below.refl _ _)), HY.out.below (Below.drew (Below.refl _ _))⟩)
        have HS := Lib.hid (HS.out.below (Below.drew (Below.refl _ _)))
        have HT := Lib.hid (HT.out.below (Below.drew (Below.refl _ _)))
        have HX := Lib.hid (HX.out.below (Below.drew (Below.refl _ _)))
        have HY := Lib.hid (HY.out.below (Below.drew (Below.refl _ _)))
        have hHeld : (fun W => Below w.heap.size w W ∧ Bk2 W GS a0 a1 ∧ Bk2 W GX 0 0 ∧ Bk2 W GY 0 0) _ := hHeld
        obtain ⟨wD72, hwD72⟩ : ∃ wD, w72.drew = wD := ⟨_, rfl⟩
        rw [hwD72] at hHeld HS HT HX HY ⊢
        clear hwD72
        (refine wpAnyH_take (i := 1) (v := ?_) rfl (by kernel_rfl) (by kernel_rfl) (by kernel_rfl) (fun _ _ _ h => h) (Or.inl ⟨rfl, ?_⟩) (by assumption) ?_; rotate_left; focus (intro W hSw; (try dsimp only at hSw); obtain ⟨hSb, hxS, hxX, hxY⟩ := hSw; obtain ⟨⟨iS0, iS1⟩, _, _⟩ := hxS; obtain ⟨⟨iX0, iX1⟩, _, _⟩ := hxX; obtain ⟨⟨iY0, iY1⟩, _, _⟩ := hxY; go_simp; try (with_reducible rfl))); (try simp only [Act.put, List.getElem_toArray, List.getElem_cons_succ, List.getElem_cons_zero, List.setIfInBounds_toArray, List.set_cons_zero, List.set_cons_succ])
        (refine wpAnyH_take (i := 2) (v := ?_) rfl (by kernel_rfl) (by kernel_rfl) (by kernel_rfl) (fun _ _ _ h => h) (Or.inl ⟨rfl, ?_⟩) (by assumption) ?_; rotate_left; focus (intro W hSw; (try dsimp only at hSw); obtain ⟨hSb, hxS, hxX, hxY⟩ := hSw; obtain ⟨⟨iS0, iS1⟩, _, _⟩ := hxS; obtain ⟨⟨iX0, iX1⟩, _, _⟩ := hxX; obtain ⟨⟨iY0, iY1⟩, _, _⟩ := hxY; go_simp; try (with_reducible rfl))); (try simp only [Act.put, List.getElem_toArray, List.getElem_cons_succ, List.getElem_cons_zero, List.setIfInBounds_toArray, List.set_cons_zero, List.set_cons_succ])
        (refine wpAnyH_take (i := 6) (v := ?_) rfl (by kernel_rfl) (by kernel_rfl) (by kernel_rfl) (fun _ _ _ h => h) (Or.inl ⟨rfl, ?_⟩) (by assumption) ?_; rotate_left; focus (intro W hSw; (try dsimp only at hSw); obtain ⟨hSb, hxS, hxX, hxY⟩ := hSw; obtain ⟨⟨iS0, iS1⟩, _, _⟩ := hxS; obtain ⟨⟨iX0, iX1⟩, _, _⟩ := hxX; obtain ⟨⟨iY0, iY1⟩, _, _⟩ := hxY; go_simp; try (with_reducible rfl))); (try simp only [Act.put, List.getElem_toArray, List.getElem_cons_succ, List.getElem_cons_zero, List.setIfInBounds_toArray, List.set_cons_zero, List.set_cons_succ])
        (refine wpAnyH_take (i := 8) (v := ?_) rfl (by kernel_rfl) (by kernel_rfl) (by kernel_rfl) (fun _ _ _ h => h) (Or.inl ⟨rfl, ?_⟩) (by assumption) ?_; rotate_left; focus (intro W hSw; (try dsimp only at hSw); obtain ⟨hSb, hxS, hxX, hxY⟩ := hSw; obtain ⟨⟨iS0, iS1⟩, _, _⟩ := hxS; obtain ⟨⟨iX0, iX1⟩, _, _⟩ := hxX; obtain ⟨⟨iY0, iY1⟩, _, _⟩ := hxY; go_simp; try (with_reducible rfl))); (try simp only [Act.put, List.getElem_toArray, List.getElem_cons_succ, List.getElem_cons_zero, List.setIfInBounds_toArray, List.set_cons_zero, List.set_cons_succ])
        (refine wpAnyH_take (i := 9) (v := ?_) rfl (by kernel_rfl) (by kernel_rfl) (by kernel_rfl) (fun _ _ _ h => h) (Or.inl ⟨rfl, ?_⟩) (by assumption) ?_; rotate_left; focus (intro W hSw; (try dsimp only at hSw); obtain ⟨hSb, hxS, hxX, hxY⟩ := hSw; obtain ⟨⟨iS0, iS1⟩, _, _⟩ := hxS; obtain ⟨⟨iX0, iX1⟩, _, _⟩ := hxX; obtain ⟨⟨iY0, iY1⟩, _, _⟩ := hxY; go_simp; try (with_reducible rfl))); (try simp only [Act.put, List.getElem_toArray, List.getElem_cons_succ, List.getElem_cons_zero, List.setIfInBounds_toArray, List.set_cons_zero, List.set_cons_succ])
        refine wpAnyH_ready (rs := [0, 3]) (by kernel_rfl) (by simp) ?_; refine AllReadyH.cons rfl (fun K hK => ?_) (AllReadyH.cons rfl (fun K hK => ?_) AllReadyH.nil)
        · skip
          obtain ⟨⟨r0, r1⟩, r2, r3⟩ := HT.out; go_simp; clear r0 r1 r2 r3; refine hK.out _ _ hHeld (fun hHeld2 => ?_); (clear hHeld; rename _ => hHeld; clear hK K; have hHeld : (fun W => Below w.heap.size w W ∧ Bk2 W GS a0 a1 ∧ Bk2 W GX 0 0 ∧ Bk2 W GY 0 0) _ := hHeld); (try simp only [Act.put, List.getElem_toArray, List.getElem_cons_succ, List.getElem_cons_zero, List.setIfInBounds_toArray, List.set_cons_zero, List.set_cons_succ])
          refine wpAnyH_ready (rs := [3]) (by kernel_rfl) (by simp) ?_; refine AllReadyH.cons rfl (fun K hK => ?_) AllReadyH.nil
          obtain ⟨⟨r0, r1⟩, r2, r3⟩ := HT.out; go_simp; clear r0 r1 r2 r3; refine hK.out _ _ hHeld (fun hHeld2 => ?_); (clear hHeld; rename _ => hHeld; clear hK K; have hHeld : (fun W => Below w.heap.size w W ∧ Bk2 W GS a0 a1 ∧ Bk2 W GX 0 0 ∧ Bk2 W GY 0 0) _ := hHeld); (try simp only [Act.put, List.getElem_toArray, List.getElem_cons_succ, List.getElem_cons_zero, List.setIfInBounds_toArray, List.set_cons_zero, List.set_cons_succ])
          refine wpAnyH_ready (rs := [4]) (by kernel_rfl) (by simp) ?_; refine AllReadyH.cons rfl (fun K hK => ?_) AllReadyH.nil
          go_simp; (go_at_call 30; refine (CP.out _).mono ?_; rintro en ywr72x2 ⟨rfl, hb2⟩); have HS := Lib.hid (HS.out.below hb2); have HT := Lib.hid (HT.out.below hb2); have HX := Lib.hid (HX.out.below hb2); have HY := Lib.hid (HY.out.below hb2); refine hK.out _ _ ⟨below_after hb2 hHeld.1, HS.out, HX.out, HY.out⟩ (fun hHeld2 => ?_); clear hb2; (clear hHeld; rename _ => hHeld; clear hK K; have hHeld : (fun W => Below w.heap.size w W ∧ Bk2 W GS a0 a1 ∧ Bk2 W GX 0 0 ∧ Bk2 W GY 0 0) _ := hHeld); (try simp only [Act.put, List.getElem_toArray, List.getElem_cons_succ, List.getElem_cons_zero, List.setIfInBounds_toArray, List.set_cons_zero, List.set_cons_succ])
          (refine wpAnyH_take (i := 5) (v := ?_) rfl (by kernel_rfl) (by kernel_rfl) (by kernel_rfl) (fun _ _ _ h => h) (Or.inl ⟨rfl, ?_⟩) (by assumption) ?_; rotate_left; focus (intro W hSw; (try dsimp only at hSw); obtain ⟨hSb, hxS, hxX, hxY⟩ := hSw; obtain ⟨⟨iS0, iS1⟩, _, _⟩ := hxS; obtain ⟨⟨iX0, iX1⟩, _, _⟩ := hxX; obtain ⟨⟨iY0, iY1⟩, _, _⟩ := hxY; go_simp; try (with_reducible rfl))); (try simp only [Act.put, List.getElem_toArray, List.getElem_cons_succ, List.getElem_cons_zero, List.setIfInBounds_toArray, List.set_cons_zero, List.set_cons_succ])
          (refine wpAnyH_take (i := 7) (v := ?_) rfl (by kernel_rfl) (by kernel_rfl) (by kernel_rfl) (fun _ _ _ h => h) (Or.inl ⟨rfl, ?_⟩) (by assumption) ?_; rotate_left; focus (intro W hSw; (try dsimp only at hSw); obtain ⟨hSb, hxS, hxX, hxY⟩ := hSw; obtain ⟨⟨iS0, iS1⟩, _, _⟩ := hxS; obtain ⟨⟨iX0, iX1⟩, _, _⟩ := hxX; obtain ⟨⟨iY0, iY1⟩, _, _⟩ := hxY; go_simp; try (with_reducible rfl))); (try simp only [Act.put, List.getElem_toArray, List.getElem_cons_succ, List.getElem_cons_zero, List.setIfInBounds_toArray, List.set_cons_zero, List.set_cons_succ])
          refine wpAnyH_ready (rs := [10]) (by kernel_rfl) (by simp) ?_; refine AllReadyH.cons rfl (fun K hK => ?_) AllReadyH.nil
          go_simp; (go_at_call 42; refine (CQ.out _).mono ?_; rintro en ywr72x3 ⟨rfl, hb2⟩); have HS := Lib.hid (HS.out.below hb2); have HT := Lib.hid (HT.out.below hb2); have HX := Lib.hid (HX.out.below hb2); have HY := Lib.hid (HY.out.below hb2); refine hK.out _ _ ⟨below_after hb2 hHeld.1, HS.out, HX.out, HY.out⟩ (fun hHeld2 => ?_); clear hb2; (clear hHeld; rename _ => hHeld; clear hK K; have hHeld : (fun W => Below w.heap.size w W ∧ Bk2 W GS a0 a1 ∧ Bk2 W GX 0 0 ∧ Bk2 W GY 0 0) _ := hHeld); (try simp only [Act.put, List.getElem_toArray, List.getElem_cons_succ, List.getElem_cons_zero, List.setIfInBounds_toArray, List.set_cons_zero, List.set_cons_succ])
          (refine wpAnyH_take (i := 11) (v := ?_) rfl (by kernel_rfl) (by kernel_rfl) (by kernel_rfl) (fun _ _ _ h => h) (Or.inl ⟨rfl, ?_⟩) (by assumption) ?_; rotate_left; focus (intro W hSw; (try dsimp only at hSw); obtain ⟨hSb, hxS, hxX, hxY⟩ := hSw; obtain ⟨⟨iS0, iS1⟩, _, _⟩ := hxS; obtain ⟨⟨iX0, iX1⟩, _, _⟩ := hxX; obtain ⟨⟨iY0, iY1⟩, _, _⟩ := hxY; go_simp; try (with_reducible rfl))); (try simp only [Act.put, List.getElem_toArray, List.getElem_cons_succ, List.getElem_cons_zero, List.setIfInBounds_toArray, List.set_cons_zero, List.set_cons_succ])
          refine wpAnyH_ready (rs := [12]) (by kernel_rfl) (by simp) ?_; refine AllReadyH.cons rfl (fun K hK => ?_) AllReadyH.nil
          go_simp; (go_at_call 41; refine (CW.out _).mono ?_; rintro en ywr72x4 ⟨rfl, hb2⟩); have HS := Lib.hid (HS.out.below hb2); have HT := Lib.hid (HT.out.below hb2); have HX := Lib.hid (HX.out.below hb2); have HY := Lib.hid (HY.out.below hb2); refine hK.out _ _ ⟨below_after hb2 hHeld.1, HS.out, HX.out, HY.out⟩ (fun hHeld2 => ?_); clear hb2; (clear hHeld; rename _ => hHeld; clear hK K; have hHeld : (fun W => Below w.heap.size w W ∧ Bk2 W GS a0 a1 ∧ Bk2 W GX 0 0 ∧ Bk2 W GY 0 0) _ := hHeld); (try simp only [Act.put, List.getElem_toArray, List.getElem_cons_succ, List.getElem_cons_zero, List.setIfInBounds_toArray, List.set_cons_zero, List.set_cons_succ])
          refine wpAnyH_ready (rs := [13]) (by kernel_rfl) (by simp) ?_; refine AllReadyH.cons rfl (fun K hK => ?_) AllReadyH.nil
          obtain ⟨⟨a0, a1⟩, ⟨f0, f1⟩, az⟩ := HT.out; go_simp; clear a0 f0 a1 f1 az
          have HS := Lib.hid ((HS.out.far ⟨GT, 0, none⟩ (.int .i64 U) (by show GS ≠ GT; exact ne_S_T)).far ⟨GT, 1, none⟩ (.int .i64 V) (by show GS ≠ GT; exact ne_S_T))
          have HX := Lib.hid ((HX.out.far ⟨GT, 0, none⟩ (.int .i64 U) (by show GX ≠ GT; exact ne_X_T)).far ⟨GT, 1, none⟩ (.int .i64 V) (by show GX ≠ GT; exact ne_X_T))
          have HY := Lib.hid ((HY.out.far ⟨GT, 0, none⟩ (.int .i64 U) (by show GY ≠ GT; exact ne_Y_T)).far ⟨GT, 1, none⟩ (.int .i64 V) (by show GY ≠ GT; exact ne_Y_T))
          have HT := Lib.hid ((HT.out.set0 U).set1 V)
          refine hK.out _ _ ⟨(Below.setCell (Below.setCell hHeld.1 (p := ⟨GT, 0, none⟩) le_T _) (p := ⟨GT, 1, none⟩) le_T _), HS.out, HX.out, HY.out⟩ (fun hHeld2 => ?_); (clear hHeld; rename _ => hHeld; clear hK K; have hHeld : (fun W => Below w.heap.size w W ∧ Bk2 W GS a0 a1 ∧ Bk2 W GX 0 0 ∧ Bk2 W GY 0 0) _ := hHeld); (try simp only [Act.put, List.getElem_toArray, List.getElem_cons_succ, List.getElem_cons_zero, List.setIfInBounds_toArray, List.set_cons_zero, List.set_cons_succ])
          obtain ⟨ywr72x5, hwx⟩ : ∃ wx, (ywr72x4.setCell ⟨GT, 0, none⟩ (.int .i64 U)).setCell ⟨GT, 1, none⟩ (.int .i64 V) = wx := ⟨_, rfl⟩; rw [hwx] at HS HT HX HY hHeld ⊢; clear hwx
          refine wpAnyH_done (by kernel_rfl) ?_ _
          have HB := Lib.hid (hHeld.1)
          clear hHeld
          have KS := HS.out
          have KT := HT.out
          have KX := HX.out
          have KY := HY.out
          have KB := HB.out
          go_wp2_with fail
          go_roundw
          case rel => exact ⟨_, _, _, _, KK.out, KV.out, KS, KT, KX, KY, KB⟩
          case measure =>
            have s0 := HS0.out.1
            have t0 := HT0.out.1
            have s1 := KS.1
            have t1 := KT.1
            rw [s0.1, s0.2, t0.1, t0.2, s1.1, s1.2, t1.1, t1.2]
            exact KL.out
        · skip
          obtain ⟨⟨r0, r1⟩, r2, r3⟩ := HT.out; go_simp; clear r0 r1 r2 r3; refine hK.out _ _ hHeld (fun hHeld2 => ?_); (clear hHeld; rename _ => hHeld; clear hK K; have hHeld : (fun W => Below w.heap.size w W ∧ Bk2 W GS a0 a1 ∧ Bk2 W GX 0 0 ∧ Bk2 W GY 0 0) _ := hHeld); (try simp only [Act.put, List.getElem_toArray, List.getElem_cons_succ, List.getElem_cons_zero, List.setIfInBounds_toArray, List.set_cons_zero, List.set_cons_succ])
          refine wpAnyH_ready (rs := [0, 4]) (by kernel_rfl) (by simp) ?_; refine AllReadyH.cons rfl (fun K hK => ?_) (AllReadyH.cons rfl (fun K hK => ?_) AllReadyH.nil)
          · skip
            obtain ⟨⟨r0, r1⟩, r2, r3⟩ := HT.out; go_simp; clear r0 r1 r2 r3; refine hK.out _ _ hHeld (fun hHeld2 => ?_); (clear hHeld; rename _ => hHeld; clear hK K; have hHeld : (fun W => Below w.heap.size w W ∧ Bk2 W GS a0 a1 ∧ Bk2 W GX 0 0 ∧ Bk2 W GY 0 0) _ := hHeld); (try simp only [Act.put, List.getElem_toArray, List.getElem_cons_succ, List.getElem_cons_zero, List.setIfInBounds_toArray, List.set_cons_zero, List.set_cons_succ])
            refine wpAnyH_ready (rs := [4]) (by kernel_rfl) (by simp) ?_; refine AllReadyH.cons rfl (fun K hK => ?_) AllReadyH.nil
            go_simp; (go_at_call 30; refine (CP.out _).mono ?_; rintro en ywr72x2 ⟨rfl, hb2⟩); have HS := Lib.hid (HS.out.below hb2); have HT := Lib.hid (HT.out.below hb2); have HX := Lib.hid (HX.out.below hb2); have HY := Lib.hid (HY.out.below hb2); refine hK.out _ _ ⟨below_after hb2 hHeld.1, HS.out, HX.out, HY.out⟩ (fun hHeld2 => ?_); clear hb2; (clear hHeld; rename _ => hHeld; clear hK K; have hHeld : (fun W => Below w.heap.size w W ∧ Bk2 W GS a0 a1 ∧ Bk2 W GX 0 0 ∧ Bk2 W GY 0 0) _ := hHeld); (try simp only [Act.put, List.getElem_toArray, List.getElem_cons_succ, List.getElem_cons_zero, List.setIfInBounds_toArray, List.set_cons_zero, List.set_cons_succ])
            (refine wpAnyH_take (i := 5) (v := ?_) rfl (by kernel_rfl) (by kernel_rfl) (by kernel_rfl) (fun _ _ _ h => h) (Or.inl ⟨rfl, ?_⟩) (by assumption) ?_; rotate_left; focus (intro W hSw; (try dsimp only at hSw); obtain ⟨hSb, hxS, hxX, hxY⟩ := hSw; obtain ⟨⟨iS0, iS1⟩, _, _⟩ := hxS; obtain ⟨⟨iX0, iX1⟩, _, _⟩ := hxX; obtain ⟨⟨iY0, iY1⟩, _, _⟩ := hxY; go_simp; try (with_reducible rfl))); (try simp only [Act.put, List.getElem_toArray, List.getElem_cons_succ, List.getElem_cons_zero, List.setIfInBounds_toArray, List.set_cons_zero, List.set_cons_succ])
            (refine wpAnyH_take (i := 7) (v := ?_) rfl (by kernel_rfl) (by kernel_rfl) (by kernel_rfl) (fun _ _ _ h => h) (Or.inl ⟨rfl, ?_⟩) (by assumption) ?_; rotate_left; focus (intro W hSw; (try dsimp only at hSw); obtain ⟨hSb, hxS, hxX, hxY⟩ := hSw; obtain ⟨⟨iS0, iS1⟩, _, _⟩ := hxS; obtain ⟨⟨iX0, iX1⟩, _, _⟩ := hxX; obtain ⟨⟨iY0, iY1⟩, _, _⟩ := hxY; go_simp; try (with_reducible rfl))); (try simp only [Act.put, List.getElem_toArray, List.getElem_cons_succ, List.getElem_cons_zero, List.setIfInBounds_toArray, List.set_cons_zero, List.set_cons_succ])
            refine wpAnyH_ready (rs := [10]) (by kernel_rfl) (by simp) ?_; refine AllReadyH.cons rfl (fun K hK => ?_) AllReadyH.nil
            go_simp; (go_at_call 42; refine (CQ.out _).mono ?_; rintro en ywr72x3 ⟨rfl, hb2⟩); have HS := Lib.hid (HS.out.below hb2); have HT := Lib.hid (HT.out.below hb2); have HX := Lib.hid (HX.out.below hb2); have HY := Lib.hid (HY.out.below hb2); refine hK.out _ _ ⟨below_after hb2 hHeld.1, HS.out, HX.out, HY.out⟩ (fun hHeld2 => ?_); clear hb2; (clear hHeld; rename _ => hHeld; clear hK K; have hHeld : (fun W => Below w.heap.size w W ∧ Bk2 W GS a0 a1 ∧ Bk2 W GX 0 0 ∧ Bk2 W GY 0 0) _ := hHeld); (try simp only [Act.put, List.getElem_toArray, List.getElem_cons_succ, List.getElem_cons_zero, List.setIfInBounds_toArray, List.set_cons_zero, List.set_cons_succ])
            (refine wpAnyH_take (i := 11) (v := ?_) rfl (by kernel_rfl) (by kernel_rfl) (by kernel_rfl) (fun _ _ _ h => h) (Or.inl ⟨rfl, ?_⟩) (by assumption) ?_; rotate_left; focus (intro W hSw; (try dsimp only at hSw); obtain ⟨hSb, hxS, hxX, hxY⟩ := hSw; obtain ⟨⟨iS0, iS1⟩, _, _⟩ := hxS; obtain ⟨⟨iX0, iX1⟩, _, _⟩ := hxX; obtain ⟨⟨iY0, iY1⟩, _, _⟩ := hxY; go_simp; try (with_reducible rfl))); (try simp only [Act.put, List.getElem_toArray, List.getElem_cons_succ, List.getElem_cons_zero, List.setIfInBounds_toArray, List.set_cons_zero, List.set_cons_succ])
            refine wpAnyH_ready (rs := [12]) (by kernel_rfl) (by simp) ?_; refine AllReadyH.cons rfl (fun K hK => ?_) AllReadyH.nil
            go_simp; (go_at_call 41; refine (CW.out _).mono ?_; rintro en ywr72x4 ⟨rfl, hb2⟩); have HS := Lib.hid (HS.out.below hb2); have HT := Lib.hid (HT.out.below hb2); have HX := Lib.hid (HX.out.below hb2); have HY := Lib.hid (HY.out.below hb2); refine hK.out _ _ ⟨below_after hb2 hHeld.1, HS.out, HX.out, HY.out⟩ (fun hHeld2 => ?_); clear hb2; (clear hHeld; rename _ => hHeld; clear hK K; have hHeld : (fun W => Below w.heap.size w W ∧ Bk2 W GS a0 a1 ∧ Bk2 W GX 0 0 ∧ Bk2 W GY 0 0) _ := hHeld); (try simp only [Act.put, List.getElem_toArray, List.getElem_cons_succ, List.getElem_cons_zero, List.setIfInBounds_toArray, List.set_cons_zero, List.set_cons_succ])
            refine wpAnyH_ready (rs := [13]) (by kernel_rfl) (by simp) ?_; refine AllReadyH.cons rfl (fun K hK => ?_) AllReadyH.nil
            obtain ⟨⟨a0, a1⟩, ⟨f0, f1⟩, az⟩ := HT.out; go_simp; clear a0 f0 a1 f1 az
            have HS := Lib.hid ((HS.out.far ⟨GT, 0, none⟩ (.int .i64 U) (by show GS ≠ GT; exact ne_S_T)).far ⟨GT, 1, none⟩ (.int .i64 V) (by show GS ≠ GT; exact ne_S_T))
            have HX := Lib.hid ((HX.out.far ⟨GT, 0, none⟩ (.int .i64 U) (by show GX ≠ GT; exact ne_X_T)).far ⟨GT, 1, none⟩ (.int .i64 V) (by show GX ≠ GT; exact ne_X_T))
            have HY := Lib.hid ((HY.out.far ⟨GT, 0, none⟩ (.int .i64 U) (by show GY ≠ GT; exact ne_Y_T)).far ⟨GT, 1, none⟩ (.int .i64 V) (by show GY ≠ GT; exact ne_Y_T))
            have HT := Lib.hid ((HT.out.set0 U).set1 V)
            refine hK.out _ _ ⟨(Below.setCell (Below.setCell hHeld.1 (p := ⟨GT, 0, none⟩) le_T _) (p := ⟨GT, 1, none⟩) le_T _), HS.out, HX.out, HY.out⟩ (fun hHeld2 => ?_); (clear hHeld; rename _ => hHeld; clear hK K; have hHeld : (fun W => Below w.heap.size w W ∧ Bk2 W GS a0 a1 ∧ Bk2 W GX 0 0 ∧ Bk2 W GY 0 0) _ := hHeld); (try simp only [Act.put, List.getElem_toArray, List.getElem_cons_succ, List.getElem_cons_zero, List.setIfInBounds_toArray, List.set_cons_zero, List.set_cons_succ])
            obtain ⟨ywr72x5, hwx⟩ : ∃ wx, (ywr72x4.setCell ⟨GT, 0, none⟩ (.int .i64 U)).setCell ⟨GT, 1, none⟩ (.int .i64 V) = wx := ⟨_, rfl⟩; rw [hwx] at HS HT HX HY hHeld ⊢; clear hwx
            refine wpAnyH_done (by kernel_rfl) ?_ _
            have HB := Lib.hid (hHeld.1)
            clear hHeld
            have KS := HS.out
            have KT := HT.out
            have KX := HX.out
            have KY := HY.out
            have KB := HB.out
            go_wp2_with fail
            go_roundw
            case rel => exact ⟨_, _, _, _, KK.out, KV.out, KS, KT, KX, KY, KB⟩
            case measure =>
              have s0 := HS0.out.1
              have t0 := HT0.out.1
              have s1 := KS.1
              have t1 := KT.1
              rw [s0.1, s0.2, t0.1, t0.2, s1.1, s1.2, t1.1, t1.2]
              exact KL.out
          · skip
            go_simp; (go_at_call 30; refine (CP.out _).mono ?_; rintro en ywr72x1 ⟨rfl, hb2⟩); have HS := Lib.hid (HS.out.below hb2); have HT := Lib.hid (HT.out.below hb2); have HX := Lib.hid (HX.out.below hb2); have HY := Lib.hid (HY.out.below hb2); refine hK.out _ _ ⟨below_after hb2 hHeld.1, HS.out, HX.out, HY.out⟩ (fun hHeld2 => ?_); clear hb2; (clear hHeld; rename _ => hHeld; clear hK K; have hHeld : (fun W => Below w.heap.size w W ∧ Bk2 W GS a0 a1 ∧ Bk2 W GX 0 0 ∧ Bk2 W GY 0 0) _ := hHeld); (try simp only [Act.put, List.getElem_toArray, List.getElem_cons_succ, List.getElem_cons_zero, List.setIfInBounds_toArray, List.set_cons_zero, List.set_cons_succ])
            (refine wpAnyH_take (i := 5) (v := ?_) rfl (by kernel_rfl) (by kernel_rfl) (by kernel_rfl) (fun _ _ _ h => h) (Or.inl ⟨rfl, ?_⟩) (by assumption) ?_; rotate_left; focus (intro W hSw; (try dsimp only at hSw); obtain ⟨hSb, hxS, hxX, hxY⟩ := hSw; obtain ⟨⟨iS0, iS1⟩, _, _⟩ := hxS; obtain ⟨⟨iX0, iX1⟩, _, _⟩ := hxX; obtain ⟨⟨iY0, iY1⟩, _, _⟩ := hxY; go_simp; try (with_reducible rfl))); (try simp only [Act.put, List.getElem_toArray, List.getElem_cons_succ, List.getElem_cons_zero, List.setIfInBounds_toArray, List.set_cons_zero, List.set_cons_succ])
            (refine wpAnyH_take (i := 7) (v := ?_) rfl (by kernel_rfl) (by kernel_rfl) (by kernel_rfl) (fun _ _ _ h => h) (Or.inl ⟨rfl, ?_⟩) (by assumption) ?_; rotate_left; focus (intro W hSw; (try dsimp only at hSw); obtain ⟨hSb, hxS, hxX, hxY⟩ := hSw; obtain ⟨⟨iS0, iS1⟩, _, _⟩ := hxS; obtain ⟨⟨iX0, iX1⟩, _, _⟩ := hxX; obtain ⟨⟨iY0, iY1⟩, _, _⟩ := hxY; go_simp; try (with_reducible rfl))); (try simp only [Act.put, List.getElem_toArray, List.getElem_cons_succ, List.getElem_cons_zero, List.setIfInBounds_toArray, List.set_cons_zero, List.set_cons_succ])
            refine wpAnyH_ready (rs := [0, 10]) (by kernel_rfl) (by simp) ?_; refine AllReadyH.cons rfl (fun K hK => ?_) (AllReadyH.cons rfl (fun K hK => ?_) AllReadyH.nil)
            · skip
              obtain ⟨⟨r0, r1⟩, r2, r3⟩ := HT.out; go_simp; clear r0 r1 r2 r3; refine hK.out _ _ hHeld (fun hHeld2 => ?_); (clear hHeld; rename _ => hHeld; clear hK K; have hHeld : (fun W => Below w.heap.size w W ∧ Bk2 W GS a0 a1 ∧ Bk2 W GX 0 0 ∧ Bk2 W GY 0 0) _ := hHeld); (try simp only [Act.put, List.getElem_toArray, List.getElem_cons_succ, List.getElem_cons_zero, List.setIfInBounds_toArray, List.set_cons_zero, List.set_cons_succ])
              refine wpAnyH_ready (rs := [10]) (by kernel_rfl) (by simp) ?_; refine AllReadyH.cons rfl (fun K hK => ?_) AllReadyH.nil
              go_simp; (go_at_call 42; refine (CQ.out _).mono ?_; rintro en ywr72x3 ⟨rfl, hb2⟩); have HS := Lib.hid (HS.out.below hb2); have HT := Lib.hid (HT.out.below hb2); have HX := Lib.hid (HX.out.below hb2); have HY := Lib.hid (HY.out.below hb2); refine hK.out _ _ ⟨below_after hb2 hHeld.1, HS.out, HX.out, HY.out⟩ (fun hHeld2 => ?_); clear hb2; (clear hHeld; rename _ => hHeld; clear hK K; have hHeld : (fun W => Below w.heap.size w W ∧ Bk2 W GS a0 a1 ∧ Bk2 W GX 0 0 ∧ Bk2 W GY 0 0) _ := hHeld); (try simp only [Act.put, List.getElem_toArray, List.getElem_cons_succ, List.getElem_cons_zero, List.setIfInBounds_toArray, List.set_cons_zero, List.set_cons_succ])
              (refine wpAnyH_take (i := 11) (v := ?_) rfl (by kernel_rfl) (by kernel_rfl) (by kernel_rfl) (fun _ _ _ h => h) (Or.inl ⟨rfl, ?_⟩) (by assumption) ?_; rotate_left; focus (intro W hSw; (try dsimp only at hSw); obtain ⟨hSb, hxS, hxX, hxY⟩ := hSw; obtain ⟨⟨iS0, iS1⟩, _, _⟩ := hxS; obtain ⟨⟨iX0, iX1⟩, _, _⟩ := hxX; obtain ⟨⟨iY0, iY1⟩, _, _⟩ := hxY; go_simp; try (with_reducible rfl))); (try simp only [Act.put, List.getElem_toArray, List.getElem_cons_succ, List.getElem_cons_zero, List.setIfInBounds_toArray, List.set_cons_zero, List.set_cons_succ])
              refine wpAnyH_ready (rs := [12]) (by kernel_rfl) (by simp) ?_; refine AllReadyH.cons rfl (fun K hK => ?_) AllReadyH.nil
              go_simp; (go_at_call 41; refine (CW.out _).mono ?_; rintro en ywr72x4 ⟨rfl, hb2⟩); have HS := Lib.hid (HS.out.below hb2); have HT := Lib.hid (HT.out.below hb2); have HX := Lib.hid (HX.out.below hb2); have HY := Lib.hid (HY.out.below hb2); refine hK.out _ _ ⟨below_after hb2 hHeld.1, HS.out, HX.out, HY.out⟩ (fun hHeld2 => ?_); clear hb2; (clear hHeld; rename _ => hHeld; clear hK K; have hHeld : (fun W => Below w.heap.size w W ∧ Bk2 W GS a0 a1 ∧ Bk2 W GX 0 0 ∧ Bk2 W GY 0 0) _ := hHeld); (try simp only [Act.put, List.getElem_toArray, List.getElem_cons_succ, List.getElem_cons_zero, List.setIfInBounds_toArray, List.set_cons_zero, List.set_cons_succ])
              refine wpAnyH_ready (rs := [13]) (by kernel_rfl) (by simp) ?_; refine AllReadyH.cons rfl (fun K hK => ?_) AllReadyH.nil
              obtain ⟨⟨a0, a1⟩, ⟨f0, f1⟩, az⟩ := HT.out; go_simp; clear a0 f0 a1 f1 az
              have HS := Lib.hid ((HS.out.far ⟨GT, 0, none⟩ (.int .i64 U) (by show GS ≠ GT; exact ne_S_T)).far ⟨GT, 1, none⟩ (.int .i64 V) (by show GS ≠ GT; exact ne_S_T))
              have HX := Lib.hid ((HX.out.far ⟨GT, 0, none⟩ (.int .i64 U) (by show GX ≠ GT; exact ne_X_T)).far ⟨GT, 1, none⟩ (.int .i64 V) (by show GX ≠ GT; exact ne_X_T))
              have HY := Lib.hid ((HY.out.far ⟨GT, 0, none⟩ (.int .i64 U) (by show GY ≠ GT; exact ne_Y_T)).far ⟨GT, 1, none⟩ (.int .i64 V) (by show GY ≠ GT; exact ne_Y_T))
              have HT := Lib.hid ((HT.out.set0 U).set1 V)
              refine hK.out _ _ ⟨(Below.setCell (Below.setCell hHeld.1 (p := ⟨GT, 0, none⟩) le_T _) (p := ⟨GT, 1, none⟩) le_T _), HS.out, HX.out, HY.out⟩ (fun hHeld2 => ?_); (clear hHeld; rename _ => hHeld; clear hK K; have hHeld : (fun W => Below w.heap.size w W ∧ Bk2 W GS a0 a1 ∧ Bk2 W GX 0 0 ∧ Bk2 W GY 0 0) _ := hHeld); (try simp only [Act.put, List.getElem_toArray, List.getElem_cons_succ, List.getElem_cons_zero, List.setIfInBounds_toArray, List.set_cons_zero, List.set_cons_succ])
              obtain ⟨ywr72x5, hwx⟩ : ∃ wx, (ywr72x4.setCell ⟨GT, 0, none⟩ (.int .i64 U)).setCell ⟨GT, 1, none⟩ (.int .i64 V) = wx := ⟨_, rfl⟩; rw [hwx] at HS HT HX HY hHeld ⊢; clear hwx
              refine wpAnyH_done (by kernel_rfl) ?_ _
              have HB := Lib.hid (hHeld.1)
              clear hHeld
              have KS := HS.out
              have KT := HT.out
              have KX := HX.out
              have KY := HY.out
              have KB := HB.out
              go_wp2_with fail
              go_roundw
              case rel => exact ⟨_, _, _, _, KK.out, KV.out, KS, KT, KX, KY, KB⟩
              case measure =>
                have s0 := HS0.out.1
                have t0 := HT0.out.1
                have s1 := KS.1
                have t1 := KT.1
                rw [s0.1, s0.2, t0.1, t0.2, s1.1, s1.2, t1.1, t1.2]
                exact KL.out
            · skip
              go_simp; (go_at_call 42; refine (CQ.out _).mono ?_; rintro en ywr72x2 ⟨rfl, hb2⟩); have HS := Lib.hid (HS.out.below hb2); have HT := Lib.hid (HT.out.below hb2); have HX := Lib.hid (HX.out.below hb2); have HY := Lib.hid (HY.out.below hb2); refine hK.out _ _ ⟨below_after hb2 hHeld.1, HS.out, HX.out, HY.out⟩ (fun hHeld2 => ?_); clear hb2; (clear hHeld; rename _ => hHeld; clear hK K; have hHeld : (fun W => Below w.heap.size w W ∧ Bk2 W GS a0 a1 ∧ Bk2 W GX 0 0 ∧ Bk2 W GY 0 0) _ := hHeld); (try simp only [Act.put, List.getElem_toArray, List.getElem_cons_succ, List.getElem_cons_zero, List.setIfInBounds_toArray, List.set_cons_zero, List.set_cons_succ])
              (refine wpAnyH_take (i := 11) (v := ?_) rfl (by kernel_rfl) (by kernel_rfl) (by kernel_rfl) (fun _ _ _ h => h) (Or.inl ⟨rfl, ?_⟩) (by assumption) ?_; rotate_left; focus (intro W hSw; (try dsimp only at hSw); obtain ⟨hSb, hxS, hxX, hxY⟩ := hSw; obtain ⟨⟨iS0, iS1⟩, _, _⟩ := hxS; obtain ⟨⟨iX0, iX1⟩, _, _⟩ := hxX; obtain ⟨⟨iY0, iY1⟩, _, _⟩ := hxY; go_simp; try (with_reducible rfl))); (try simp only [Act.put, List.getElem_toArray, List.getElem_cons_succ, List.getElem_cons_zero, List.setIfInBounds_toArray, List.set_cons_zero, List.set_cons_succ])
              refine wpAnyH_ready (rs := [0]) (by kernel_rfl) (by simp) ?_; refine AllReadyH.cons rfl (fun K hK => ?_) AllReadyH.nil
              obtain ⟨⟨r0, r1⟩, r2, r3⟩ := HT.out; go_simp; clear r0 r1 r2 r3; refine hK.out _ _ hHeld (fun hHeld2 => ?_); (clear hHeld; rename _ => hHeld; clear hK K; have hHeld : (fun W => Below w.heap.size w W ∧ Bk2 W GS a0 a1 ∧ Bk2 W GX 0 0 ∧ Bk2 W GY 0 0) _ := hHeld); (try simp only [Act.put, List.getElem_toArray, List.getElem_cons_succ, List.getElem_cons_zero, List.setIfInBounds_toArray, List.set_cons_zero, List.set_cons_succ])
              refine wpAnyH_ready (rs := [12]) (by kernel_rfl) (by simp) ?_; refine AllReadyH.cons rfl (fun K hK => ?_) AllReadyH.nil
              go_simp; (go_at_call 41; refine (CW.out _).mono ?_; rintro en ywr72x4 ⟨rfl, hb2⟩); have HS := Lib.hid (HS.out.below hb2); have HT := Lib.hid (HT.out.below hb2); have HX := Lib.hid (HX.out.below hb2); have HY := Lib.hid (HY.out.below hb2); refine hK.out _ _ ⟨below_after hb2 hHeld.1, HS.out, HX.out, HY.out⟩ (fun hHeld2 => ?_); clear hb2; (clear hHeld; rename _ => hHeld; clear hK K; have hHeld : (fun W => Below w.heap.size w W ∧ Bk2 W GS a0 a1 ∧ Bk2 W GX 0 0 ∧ Bk2 W GY 0 0) _ := hHeld); (try simp only [Act.put, List.getElem_toArray, List.getElem_cons_succ, List.getElem_cons_zero, List.setIfInBounds_toArray, List.set_cons_zero, List.set_cons_succ])
              refine wpAnyH_ready (rs := [13]) (by kernel_rfl) (by simp) ?_; refine AllReadyH.cons rfl (fun K hK => ?_) AllReadyH.nil
              obtain ⟨⟨a0, a1⟩, ⟨f0, f1⟩, az⟩ := HT.out; go_simp; clear a0 f0 a1 f1 az
              have HS := Lib.hid ((HS.out.far ⟨GT, 0, none⟩ (.int .i64 U) (by show GS ≠ GT; exact ne_S_T)).far ⟨GT, 1, none⟩ (.int .i64 V) (by show GS ≠ GT; exact ne_S_T))
              have HX := Lib.hid ((HX.out.far ⟨GT, 0, none⟩ (.int .i64 U) (by show GX ≠ GT; exact ne_X_T)).far ⟨GT, 1, none⟩ (.int .i64 V) (by show GX ≠ GT; exact ne_X_T))
              have HY := Lib.hid ((HY.out.far ⟨GT, 0, none⟩ (.int .i64 U) (by show GY ≠ GT; exact ne_Y_T)).far ⟨GT, 1, none⟩ (.int .i64 V) (by show GY ≠ GT; exact ne_Y_T))
              have HT := Lib.hid ((HT.out.set0 U).set1 V)
              refine hK.out _ _ ⟨(Below.setCell (Below.setCell hHeld.1 (p := ⟨GT, 0, none⟩) le_T _) (p := ⟨GT, 1, none⟩) le_T _), HS.out, HX.out, HY.out⟩ (fun hHeld2 => ?_); (clear hHeld; rename _ => hHeld; clear hK K; have hHeld : (fun W => Below w.heap.size w W ∧ Bk2 W GS a0 a1 ∧ Bk2 W GX 0 0 ∧ Bk2 W GY 0 0) _ := hHeld); (try simp only [Act.put, List.getElem_toArray, List.getElem_cons_succ, List.getElem_cons_zero, List.setIfInBounds_toArray, List.set_cons_zero, List.set_cons_succ])
              obtain ⟨ywr72x5, hwx⟩ : ∃ wx, (ywr72x4.setCell ⟨GT, 0, none⟩ (.int .i64 U)).setCell ⟨GT, 1, none⟩ (.int .i64 V) = wx := ⟨_, rfl⟩; rw [hwx] at HS HT HX HY hHeld ⊢; clear hwx
              refine wpAnyH_done (by kernel_rfl) ?_ _
              have HB := Lib.hid (hHeld.1)
              clear hHeld
              have KS := HS.out
              have KT := HT.out
              have KX := HX.out
              have KY := HY.out
              have KB := HB.out
              go_wp2_with fail
              go_roundw
              case rel => exact ⟨_, _, _, _, KK.out, KV.out, KS, KT, KX, KY, KB⟩
              case measure =>
                have s0 := HS0.out.1
                have t0 := HT0.out.1
                have s1 := KS.1
                have t1 := KT.1
                rw [s0.1, s0.2, t0.1, t0.2, s1.1, s1.2, t1.1, t1.2]
                exact KL.out
    · skip
      have HE : Hid (((a0, a1), (b0, b1)) = ((p0, p1), (q0, q1))) := (rdV_done HK.out hr).symm.trans HV.out
      rw [hr] at CR
      clear HV HK m0 m1 m2 m3
      obtain ⟨⟨qS0, qS1⟩, ⟨fS0, fS1⟩, zS⟩ := HS.out
      obtain ⟨⟨qT0, qT1⟩, ⟨fT0, fT1⟩, zT⟩ := HT.out
      obtain ⟨⟨qX0, qX1⟩, ⟨fX0, fX1⟩, zX⟩ := HX.out
      obtain ⟨⟨qY0, qY1⟩, ⟨fY0, fY1⟩, zY⟩ := HY.out
      go_wp2_with fail
      go_at_call 28
      refine (CR.out _).mono ?_
      rintro e w21 ⟨rfl, hb⟩
      clear qS0 fS0 qS1 fS1 zS qT0 fT0 qT1 fT1 zT qX0 fX0 qX1 fX1 zX qY0 fY0 qY1 fY1 zY
      have HS := Lib.hid (HS.out.below hb)
      have HT := Lib.hid (HT.out.below hb)
      have HX := Lib.hid (HX.out.below hb)
      have HY := Lib.hid (HY.out.below hb)
      have HB := Lib.hid (below_after hb HB.out)
      clear hb
      go_wp2_with fail
      refine wp_region_held_drew (S := fun W => Below w.heap.size w W ∧ Bk2 W GS a0 a1 ∧ Bk2 W GT b0 b1) (by kernel_rfl) ?_ (fun hHeld => ?_); focus ((try dsimp only); exact ⟨Below.drew HB.out, HS.out.below (Below.drew (Below.refl _ _)), HT.out.below (Below.drew (Below.refl _ _))⟩)
      have HS := Lib.hid (HS.out.below (Below.drew (Below.refl _ _)))
      have HT := Lib.hid (HT.out.below (Below.drew (Below.refl _ _)))
      have HX := Lib.hid (HX.out.below (Below.drew (Below.refl _ _)))
      have HY := Lib.hid (HY.out.below (Below.drew (Below.refl _ _)))
      have hHeld : (fun W => Below w.heap.size w W ∧ Bk2 W GS a0 a1 ∧ Bk2 W GT b0 b1) _ := hHeld
      obtain ⟨wD21, hwD21⟩ : ∃ wD, w21.drew = wD := ⟨_, rfl⟩
      rw [hwD21] at hHeld HS HT HX HY ⊢
      clear hwD21
      (refine wpAnyH_take (i := 0) (v := ?_) rfl (by kernel_rfl) (by kernel_rfl) (by kernel_rfl) (fun _ _ _ h => h) (Or.inl ⟨rfl, ?_⟩) (by assumption) ?_; rotate_left; focus (intro W hSw; (try dsimp only at hSw); obtain ⟨hSb, hxS, hxT⟩ := hSw; obtain ⟨⟨iS0, iS1⟩, _, _⟩ := hxS; obtain ⟨⟨iT0, iT1⟩, _, _⟩ := hxT; go_simp; try (with_reducible rfl))); (try simp only [Act.put, List.getElem_toArray, List.getElem_cons_succ, List.getElem_cons_zero, List.setIfInBounds_toArray, List.set_cons_zero, List.set_cons_succ])
      (refine wpAnyH_take (i := 1) (v := ?_) rfl (by kernel_rfl) (by kernel_rfl) (by kernel_rfl) (fun _ _ _ h => h) (Or.inl ⟨rfl, ?_⟩) (by assumption) ?_; rotate_left; focus (intro W hSw; (try dsimp only at hSw); obtain ⟨hSb, hxS, hxT⟩ := hSw; obtain ⟨⟨iS0, iS1⟩, _, _⟩ := hxS; obtain ⟨⟨iT0, iT1⟩, _, _⟩ := hxT; go_simp; try (with_reducible rfl))); (try simp only [Act.put, List.getElem_toArray, List.getElem_cons_succ, List.getElem_cons_zero, List.setIfInBounds_toArray, List.set_cons_zero, List.set_cons_succ])
      refine wpAnyH_ready (rs := [2]) (by kernel_rfl) (by simp) ?_; refine AllReadyH.cons rfl (fun K hK => ?_) AllReadyH.nil
      obtain ⟨⟨a0, a1⟩, ⟨f0, f1⟩, az⟩ := HX.out; go_simp; clear a0 f0 a1 f1 az
      have HS := Lib.hid ((HS.out.far ⟨GX, 0, none⟩ (.int .i64 a0) (by show GS ≠ GX; exact ne_S_X)).far ⟨GX, 1, none⟩ (.int .i64 a1) (by show GS ≠ GX; exact ne_S_X))
      have HT := Lib.hid ((HT.out.far ⟨GX, 0, none⟩ (.int .i64 a0) (by show GT ≠ GX; exact ne_T_X)).far ⟨GX, 1, none⟩ (.int .i64 a1) (by show GT ≠ GX; exact ne_T_X))
      have HY := Lib.hid ((HY.out.far ⟨GX, 0, none⟩ (.int .i64 a0) (by show GY ≠ GX; exact ne_Y_X)).far ⟨GX, 1, none⟩ (.int .i64 a1) (by show GY ≠ GX; exact ne_Y_X))
      have HX := Lib.hid ((HX.out.set0 a0).set1 a1)
      refine hK.out _ _ ⟨(Below.setCell (Below.setCell hHeld.1 (p := ⟨GX, 0, none⟩) le_X _) (p := ⟨GX, 1, none⟩) le_X _), HS.out, HT.out⟩ (fun hHeld2 => ?_); (clear hHeld; rename _ => hHeld; clear hK K; have hHeld : (fun W => Below w.heap.size w W ∧ Bk2 W GS a0 a1 ∧ Bk2 W GT b0 b1) _ := hHeld); (try simp only [Act.put, List.getElem_toArray, List.getElem_cons_succ, List.getElem_cons_zero, List.setIfInBounds_toArray, List.set_cons_zero, List.set_cons_succ])
      obtain ⟨ywr21x0, hwx⟩ : ∃ wx, (wD21.setCell ⟨GX, 0, none⟩ (.int .i64 a0)).setCell ⟨GX, 1, none⟩ (.int .i64 a1) = wx := ⟨_, rfl⟩; rw [hwx] at HS HT HX HY hHeld ⊢; clear hwx
      refine wpAnyH_ready (rs := [3]) (by kernel_rfl) (by simp) ?_; refine AllReadyH.cons rfl (fun K hK => ?_) AllReadyH.nil
      obtain ⟨⟨a0, a1⟩, ⟨f0, f1⟩, az⟩ := HY.out; go_simp; clear a0 f0 a1 f1 az
      have HS := Lib.hid ((HS.out.far ⟨GY, 0, none⟩ (.int .i64 b0) (by show GS ≠ GY; exact ne_S_Y)).far ⟨GY, 1, none⟩ (.int .i64 b1) (by show GS ≠ GY; exact ne_S_Y))
      have HT := Lib.hid ((HT.out.far ⟨GY, 0, none⟩ (.int .i64 b0) (by show GT ≠ GY; exact ne_T_Y)).far ⟨GY, 1, none⟩ (.int .i64 b1) (by show GT ≠ GY; exact ne_T_Y))
      have HX := Lib.hid ((HX.out.far ⟨GY, 0, none⟩ (.int .i64 b0) (by show GX ≠ GY; exact ne_X_Y)).far ⟨GY, 1, none⟩ (.int .i64 b1) (by show GX ≠ GY; exact ne_X_Y))
      have HY := Lib.hid ((HY.out.set0 b0).set1 b1)
      refine hK.out _ _ ⟨(Below.setCell (Below.setCell hHeld.1 (p := ⟨GY, 0, none⟩) le_Y _) (p := ⟨GY, 1, none⟩) le_Y _), HS.out, HT.out⟩ (fun hHeld2 => ?_); (clear hHeld; rename _ => hHeld; clear hK K; have hHeld : (fun W => Below w.heap.size w W ∧ Bk2 W GS a0 a1 ∧ Bk2 W GT b0 b1) _ := hHeld); (try simp only [Act.put, List.getElem_toArray, List.getElem_cons_succ, List.getElem_cons_zero, List.setIfInBounds_toArray, List.set_cons_zero, List.set_cons_succ])
      obtain ⟨ywr21x1, hwx⟩ : ∃ wx, (ywr21x0.setCell ⟨GY, 0, none⟩ (.int .i64 b0)).setCell ⟨GY, 1, none⟩ (.int .i64 b1) = wx := ⟨_, rfl⟩; rw [hwx] at HS HT HX HY hHeld ⊢; clear hwx
      refine wpAnyH_done (by kernel_rfl) ?_ _
      have HB := Lib.hid (hHeld.1)
      clear hHeld
      obtain ⟨⟨qS0, qS1⟩, ⟨fS0, fS1⟩, zS⟩ := HS.out
      obtain ⟨⟨qT0, qT1⟩, ⟨fT0, fT1⟩, zT⟩ := HT.out
      obtain ⟨⟨qX0, qX1⟩, ⟨fX0, fX1⟩, zX⟩ := HX.out
      obtain ⟨⟨qY0, qY1⟩, ⟨fY0, fY1⟩, zY⟩ := HY.out
      go_wp2_with fail
      refine bodyPost_ret (v := .tuple #[.agg #[.int .i64 a0, .int .i64 a1], .agg #[.int .i64 b0, .int .i64 b1]]) (by simp (maxDischargeDepth := 8) [results, Try.results24, go_sem, *]) rfl ?_
      have hb := HB.out
      exact ⟨by have h := HE.out; injection h with h1 h2; injection h1 with h3 h4; injection h2 with h5 h6; subst h3; subst h4; subst h5; subst h6; rfl, by (repeat' (first | (with_reducible exact Below.refl _ _) | (with_reducible refine Below.alloc ?_ ?_ _) | (with_reducible refine Below.setCell ?_ ?_ _) | (with_reducible refine Below.drew ?_) | (with_reducible refine below_drewN ?_ _) | (with_reducible assumption) | (with_reducible refine below_after (by with_reducible assumption) ?_) | go_size))⟩
/-- The pair that is reduced, and what is told of it. -/
def rdF (x0 y0 x1 y1 : Int) : PP := if prC x0 y0 x1 y1 = 0 then rdV ((x0, y0), (x1, y1)) else ((0, 0), (0, 0))
theorem rd_last : ∀ (n : Nat) (s : PP), RdOk s → RdOk (rdR n s)
  | 0, s, h => h
  | n + 1, s, h => by
    unfold rdR
    cases hr : redP s.1 s.2 with
    | true => exact h
    | false => exact rd_last n _ (h.step hr).1
theorem rdV_ok {s : PP} (h : RdOk s) : RdOk (rdV s) := rd_last _ _ h
def snV (x0 y0 x1 y1 : Int) : Int := dotP (rdF x0 y0 x1 y1).1 (rdF x0 y0 x1 y1).1
set_option maxHeartbeats 1600000 in
theorem impl_ShortestNorm_any (x0 y0 x1 y1 : Int) (w : World) : Calls Try.prog 13 #[.agg #[.int .i64 x0, .int .i64 y0], .agg #[.int .i64 x1, .int .i64 y1]] w fun e w' => e = .returned (.tuple #[.int .i64 (snV x0 y0 x1 y1), .int .i64 (prC x0 y0 x1 y1)]) ∧ Below w.heap.size w w' := by
  obtain ⟨C, hC⟩ : ∃ C, prC x0 y0 x1 y1 = C := ⟨_, rfl⟩
  have CC : Hid (∀ w, Calls Try.prog 21 #[.agg #[.int .i64 x0, .int .i64 y0], .agg #[.int .i64 x1, .int .i64 y1]] w fun e w' => e = .returned (.int .i64 C) ∧ Below w.heap.size w w') := fun w => by have := codeOfPair_any x0 y0 x1 y1 w; rwa [hC] at this
  unfold snV rdF
  rw [hC]
  have hs20 : w.heap.size < w.heap.size + 1 + 1 := (by omega)
  by_cases hc : C = 0
  · subst hc
    obtain ⟨⟨p0, p1⟩, hd⟩ := prC_ok hC
    have hk := rdOk_of p0 p1 hd
    have CR := Lib.hid (fun w => reducedPair_any x0 y0 x1 y1 w hk)
    obtain ⟨⟨m0, m1⟩, _⟩ := (rdV_ok hk).bm
    rw [if_pos rfl]
    obtain ⟨⟨⟨u0, u1⟩, ⟨v0, v1⟩⟩, hV⟩ : ∃ V, rdV ((x0, y0), (x1, y1)) = V := ⟨_, rfl⟩
    rw [hV] at CR m0 m1 ⊢
    dsimp only at CR m0 m1 ⊢
    clear hC p0 p1 hd hk hV
    obtain ⟨GS, hG⟩ : ∃ G, w.heap.size = G := ⟨_, rfl⟩
    have HG := Lib.hid hG
    go_enter Try.func13, Try.ntmps13
    go_upto_region 1 with fail
    obtain ⟨w0, hw0⟩ : ∃ w0, w0 = ((w.alloc (.cells #[.int .i64 x0, .int .i64 y0] 25)).alloc (.cells #[.int .i64 x1, .int .i64 y1] 25)) := ⟨_, rfl⟩
    rw [← hw0]
    have HS : Hid (Bk2 w0 GS x0 y0) := by
      have h := (bk2_new w x0 y0 25).below (W' := ((w.alloc (.cells #[.int .i64 x0, .int .i64 y0] 25)).alloc (.cells #[.int .i64 x1, .int .i64 y1] 25))) (by (repeat' (first | (with_reducible exact Below.refl _ _) | (with_reducible refine Below.alloc ?_ ?_ _) | (with_reducible refine Below.setCell ?_ ?_ _) | (with_reducible refine Below.drew ?_) | (with_reducible refine below_drewN ?_ _) | (with_reducible assumption) | (with_reducible refine below_after (by with_reducible assumption) ?_) | go_size)))
      (try simp only [World.size_alloc] at h)
      rw [hG] at h
      rw [hw0]; exact h
    have HT : Hid (Bk2 w0 (GS + 1) x1 y1) := by
      have h := (bk2_new (w.alloc (.cells #[.int .i64 x0, .int .i64 y0] 25)) x1 y1 25).below (W' := ((w.alloc (.cells #[.int .i64 x0, .int .i64 y0] 25)).alloc (.cells #[.int .i64 x1, .int .i64 y1] 25))) (by (repeat' (first | (with_reducible exact Below.refl _ _) | (with_reducible refine Below.alloc ?_ ?_ _) | (with_reducible refine Below.setCell ?_ ?_ _) | (with_reducible refine Below.drew ?_) | (with_reducible refine below_drewN ?_ _) | (with_reducible assumption) | (with_reducible refine below_after (by with_reducible assumption) ?_) | go_size)))
      (try simp only [World.size_alloc] at h)
      rw [hG] at h
      rw [hw0]; exact h
    have HB : Hid (Below w.heap.size w w0) := by show Below w.heap.size w w0; rw [hw0]; (repeat' (first | (with_reducible exact Below.refl _ _) | (with_reducible refine Below.alloc ?_ ?_ _) | (with_reducible refine Below.setCell ?_ ?_ _) | (with_reducible refine Below.drew ?_) | (with_reducible refine below_drewN ?_ _) | (with_reducible assumption) | (with_reducible refine below_after (by with_reducible assumption) ?_) | go_size))
    clear hw0
    obtain ⟨GT, hGT⟩ : ∃ g, GS + 1 = g := ⟨_, rfl⟩
    rw [hGT] at HT ⊢
    have le_S : w.heap.size ≤ GS := by omega
    have le_T : w.heap.size ≤ GT := by omega
    have ne_T_S : GT ≠ GS := by omega
    have ne_S_T : GS ≠ GT := by omega
    clear hGT
    obtain ⟨⟨qS0, qS1⟩, ⟨fS0, fS1⟩, zS⟩ := HS.out
    obtain ⟨⟨qT0, qT1⟩, ⟨fT0, fT1⟩, zT⟩ := HT.out
    go_wp2_with fail
    go_at_call 21
    refine (CC.out _).mono ?_
    rintro e w1 ⟨rfl, hb⟩
    clear qS0 fS0 qS1 fS1 zS qT0 fT0 qT1 fT1 zT
    have HS := Lib.hid (HS.out.below hb)
    have HT := Lib.hid (HT.out.below hb)
    have HB := Lib.hid (below_after hb HB.out)
    clear hb
    obtain ⟨⟨qS0, qS1⟩, ⟨fS0, fS1⟩, zS⟩ := HS.out
    obtain ⟨⟨qT0, qT1⟩, ⟨fT0, fT1⟩, zT⟩ := HT.out
    go_wp2_with fail
    go_at_call 22
    refine (CR.out _).mono ?_
    rintro e w2 ⟨rfl, hb⟩
    clear qS0 fS0 qS1 fS1 zS qT0 fT0 qT1 fT1 zT
    have HS := Lib.hid (HS.out.below hb)
    have HT := Lib.hid (HT.out.below hb)
    have HB := Lib.hid (below_after hb HB.out)
    clear hb
    obtain ⟨⟨qS0, qS1⟩, ⟨fS0, fS1⟩, zS⟩ := HS.out
    obtain ⟨⟨qT0, qT1⟩, ⟨fT0, fT1⟩, zT⟩ := HT.out
    go_upto_region 5 with fail
    obtain ⟨w3, hw3⟩ : ∃ wx, wx = ((w2.setCell ⟨GS, 0, none⟩ (.int .i64 u0)).setCell ⟨GS, 1, none⟩ (.int .i64 u1)) := ⟨_, rfl⟩
    rw [← hw3]
    clear qS0 fS0 qS1 fS1 zS qT0 fT0 qT1 fT1 zT
    have HT := Lib.hid ((HT.out.far ⟨GS, 0, none⟩ (.int .i64 u0) (by show GT ≠ GS; exact ne_T_S)).far ⟨GS, 1, none⟩ (.int .i64 u1) (by show GT ≠ GS; exact ne_T_S))
    have HS := Lib.hid ((HS.out.set0 u0).set1 u1)
    have HB := Lib.hid (Below.setCell (Below.setCell HB.out (p := ⟨GS, 0, none⟩) le_S (.int .i64 u0)) (p := ⟨GS, 1, none⟩) le_S (.int .i64 u1))
    rw [← hw3] at HS HT HB
    clear hw3
    have CD : Hid (∀ w, Calls Try.prog 29 #[.agg #[.int .i64 u0, .int .i64 u1], .agg #[.int .i64 u0, .int .i64 u1]] w fun e w' => e = .returned (.int .i64 (dotP (u0, u1) (u0, u1))) ∧ Below w.heap.size w w') := fun w => productOfPoints_any _ _ _ _ w m0.bn m1.bn m0.bn m1.bn
    obtain ⟨⟨qS0, qS1⟩, ⟨fS0, fS1⟩, zS⟩ := HS.out
    obtain ⟨⟨qT0, qT1⟩, ⟨fT0, fT1⟩, zT⟩ := HT.out
    go_wp2_with fail
    go_at_call 29
    refine (CD.out _).mono ?_
    rintro e w4 ⟨rfl, hb⟩
    clear qS0 fS0 qS1 fS1 zS qT0 fT0 qT1 fT1 zT
    have HS := Lib.hid (HS.out.below hb)
    have HT := Lib.hid (HT.out.below hb)
    have HB := Lib.hid (below_after hb HB.out)
    clear hb
    obtain ⟨⟨qS0, qS1⟩, ⟨fS0, fS1⟩, zS⟩ := HS.out
    obtain ⟨⟨qT0, qT1⟩, ⟨fT0, fT1⟩, zT⟩ := HT.out
    go_wp2_with fail
    refine bodyPost_ret (v := .tuple #[.int .i64 (dotP (u0, u1) (u0, u1)), .int .i64 0]) (by simp (maxDischargeDepth := 8) [results, Try.results13, go_sem, *]) rfl ?_
    have hb := HB.out
    exact ⟨rfl, by (repeat' (first | (with_reducible exact Below.refl _ _) | (with_reducible refine Below.alloc ?_ ?_ _) | (with_reducible refine Below.setCell ?_ ?_ _) | (with_reducible refine Below.drew ?_) | (with_reducible refine below_drewN ?_ _) | (with_reducible assumption) | (with_reducible refine below_after (by with_reducible assumption) ?_) | go_size))⟩
  · rw [if_neg hc]
    clear hC
    go_enter Try.func13, Try.ntmps13
    go_wp2_with (first | (go_at_call 21; refine (CC.out _).mono ?_; rintro e wn ⟨rfl, hb⟩; first | (have h2 := after_call2 hb hcl hfr hlt (by ((repeat' (first | (with_reducible exact Below.refl _ _) | (with_reducible refine Below.alloc ?_ ?_ _) | (with_reducible refine Below.setCell ?_ ?_ _) | (with_reducible refine Below.drew ?_) | (with_reducible refine below_drewN ?_ _) | (with_reducible assumption) | (with_reducible refine below_after (by with_reducible assumption) ?_) | go_size)); done)); obtain ⟨hclx, hfrx, hltx, hsz⟩ := after_call hb; (try simp only [World.size_alloc, World.size_setCell, World.size_drew] at hclx hfrx hltx hsz); (try (have hszl := Nat.lt_of_succ_le hsz)); obtain ⟨hcl, hfr, hlt⟩ := h2) | (obtain ⟨hcl, hfr, hlt, hsz⟩ := after_call hb; (try simp only [World.size_alloc, World.size_setCell, World.size_drew] at hcl hfr hlt hsz))))
    go_ret2
    exact ⟨rfl, by (repeat' (first | (with_reducible exact Below.refl _ _) | (with_reducible refine Below.alloc ?_ ?_ _) | (with_reducible refine Below.setCell ?_ ?_ _) | (with_reducible refine Below.drew ?_) | (with_reducible refine below_drewN ?_ _) | (with_reducible assumption) | (with_reducible refine below_after (by with_reducible assumption) ?_) | go_size))⟩
set_option maxHeartbeats 1600000 in
theorem spec_ShortestNorm_any (x0 y0 x1 y1 : Int) (w : World) : Calls Try.prog 14 #[.agg #[.int .i64 x0, .int .i64 y0], .agg #[.int .i64 x1, .int .i64 y1]] w fun e w' => e = .returned (.tuple #[.int .i64 (snV x0 y0 x1 y1), .int .i64 (prC x0 y0 x1 y1)]) ∧ Below w.heap.size w w' := by
  obtain ⟨C, hC⟩ : ∃ C, prC x0 y0 x1 y1 = C := ⟨_, rfl⟩
  have CC : Hid (∀ w, Calls Try.prog 23 #[.agg #[.int .i64 x0, .int .i64 y0], .agg #[.int .i64 x1, .int .i64 y1]] w fun e w' => e = .returned (.int .i64 C) ∧ Below w.heap.size w w') := fun w => by have := l10Pair_any x0 y0 x1 y1 w; rwa [hC] at this
  unfold snV rdF
  rw [hC]
  have hs20 : w.heap.size < w.heap.size + 1 + 1 := (by omega)
  by_cases hc : C = 0
  · subst hc
    obtain ⟨⟨p0, p1⟩, hd⟩ := prC_ok hC
    have hk := rdOk_of p0 p1 hd
    have CR := Lib.hid (fun w => l10Reduce_any x0 y0 x1 y1 w hk)
    obtain ⟨⟨m0, m1⟩, _⟩ := (rdV_ok hk).bm
    rw [if_pos rfl]
    obtain ⟨⟨⟨u0, u1⟩, ⟨v0, v1⟩⟩, hV⟩ : ∃ V, rdV ((x0, y0), (x1, y1)) = V := ⟨_, rfl⟩
    rw [hV] at CR m0 m1 ⊢
    dsimp only at CR m0 m1 ⊢
    clear hC p0 p1 hd hk hV
    go_enter Try.func14, Try.ntmps14
    go_wp2_with (first | (go_at_call 23; refine (CC.out _).mono ?_; rintro e wn ⟨rfl, hb⟩; first | (have h2 := after_call2 hb hcl hfr hlt (by ((repeat' (first | (with_reducible exact Below.refl _ _) | (with_reducible refine Below.alloc ?_ ?_ _) | (with_reducible refine Below.setCell ?_ ?_ _) | (with_reducible refine Below.drew ?_) | (with_reducible refine below_drewN ?_ _) | (with_reducible assumption) | (with_reducible refine below_after (by with_reducible assumption) ?_) | go_size)); done)); obtain ⟨hclx, hfrx, hltx, hsz⟩ := after_call hb; (try simp only [World.size_alloc, World.size_setCell, World.size_drew] at hclx hfrx hltx hsz); (try (have hszl := Nat.lt_of_succ_le hsz)); obtain ⟨hcl, hfr, hlt⟩ := h2) | (obtain ⟨hcl, hfr, hlt, hsz⟩ := after_call hb; (try simp only [World.size_alloc, World.size_setCell, World.size_drew] at hcl hfr hlt hsz))) | (go_at_call 24; refine (CR.out _).mono ?_; rintro e wn ⟨rfl, hb⟩; first | (have h2 := after_call2 hb hcl hfr hlt (by ((repeat' (first | (with_reducible exact Below.refl _ _) | (with_reducible refine Below.alloc ?_ ?_ _) | (with_reducible refine Below.setCell ?_ ?_ _) | (with_reducible refine Below.drew ?_) | (with_reducible refine below_drewN ?_ _) | (with_reducible assumption) | (with_reducible refine below_after (by with_reducible assumption) ?_) | go_size)); done)); obtain ⟨hclx, hfrx, hltx, hsz⟩ := after_call hb; (try simp only [World.size_alloc, World.size_setCell, World.size_drew] at hclx hfrx hltx hsz); (try (have hszl := Nat.lt_of_succ_le hsz)); obtain ⟨hcl, hfr, hlt⟩ := h2) | (obtain ⟨hcl, hfr, hlt, hsz⟩ := after_call hb; (try simp only [World.size_alloc, World.size_setCell, World.size_drew] at hcl hfr hlt hsz))) | (go_at_call 30; refine (l10Dot_any _ _ _ _ _ m0.bn m1.bn m0.bn m1.bn).mono ?_; rintro e wn ⟨rfl, hb⟩; first | (have h2 := after_call2 hb hcl hfr hlt (by ((repeat' (first | (with_reducible exact Below.refl _ _) | (with_reducible refine Below.alloc ?_ ?_ _) | (with_reducible refine Below.setCell ?_ ?_ _) | (with_reducible refine Below.drew ?_) | (with_reducible refine below_drewN ?_ _) | (with_reducible assumption) | (with_reducible refine below_after (by with_reducible assumption) ?_) | go_size)); done)); obtain ⟨hclx, hfrx, hltx, hsz⟩ := after_call hb; (try simp only [World.size_alloc, World.size_setCell, World.size_drew] at hclx hfrx hltx hsz); (try (have hszl := Nat.lt_of_succ_le hsz)); obtain ⟨hcl, hfr, hlt⟩ := h2) | (obtain ⟨hcl, hfr, hlt, hsz⟩ := after_call hb; (try simp only [World.size_alloc, World.size_setCell, World.size_drew] at hcl hfr hlt hsz))))
    go_ret2
    exact ⟨rfl, by (repeat' (first | (with_reducible exact Below.refl _ _) | (with_reducible refine Below.alloc ?_ ?_ _) | (with_reducible refine Below.setCell ?_ ?_ _) | (with_reducible refine Below.drew ?_) | (with_reducible refine below_drewN ?_ _) | (with_reducible assumption) | (with_reducible refine below_after (by with_reducible assumption) ?_) | go_size))⟩
  · rw [if_neg hc]
    clear hC
    go_enter Try.func14, Try.ntmps14
    go_wp2_with (first | (go_at_call 23; refine (CC.out _).mono ?_; rintro e wn ⟨rfl, hb⟩; first | (have h2 := after_call2 hb hcl hfr hlt (by ((repeat' (first | (with_reducible exact Below.refl _ _) | (with_reducible refine Below.alloc ?_ ?_ _) | (with_reducible refine Below.setCell ?_ ?_ _) | (with_reducible refine Below.drew ?_) | (with_reducible refine below_drewN ?_ _) | (with_reducible assumption) | (with_reducible refine below_after (by with_reducible assumption) ?_) | go_size)); done)); obtain ⟨hclx, hfrx, hltx, hsz⟩ := after_call hb; (try simp only [World.size_alloc, World.size_setCell, World.size_drew] at hclx hfrx hltx hsz); (try (have hszl := Nat.lt_of_succ_le hsz)); obtain ⟨hcl, hfr, hlt⟩ := h2) | (obtain ⟨hcl, hfr, hlt, hsz⟩ := after_call hb; (try simp only [World.size_alloc, World.size_setCell, World.size_drew] at hcl hfr hlt hsz))))
    go_ret2
    exact ⟨rfl, by (repeat' (first | (with_reducible exact Below.refl _ _) | (with_reducible refine Below.alloc ?_ ?_ _) | (with_reducible refine Below.setCell ?_ ?_ _) | (with_reducible refine Below.drew ?_) | (with_reducible refine below_drewN ?_ _) | (with_reducible assumption) | (with_reducible refine below_after (by with_reducible assumption) ?_) | go_size))⟩
end Go.Proofs.Ytadikmjdmddkjaa
