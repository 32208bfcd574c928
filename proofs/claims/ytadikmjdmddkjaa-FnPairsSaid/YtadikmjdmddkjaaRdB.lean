/-
  Whether a pair of points is reduced, in the program and in the model (own work).
-/
import Derived.Test.YtadikmjdmddkjaaRdA
import Derived.BigRegion
import Derived.Deep.DeepCutAuto
namespace Go.Proofs.Ytadikmjdmddkjaa
open Go.ChangeShapes Go.WideShapes Go.ChangeAt Go.RowKit
set_option linter.unusedVariables false
set_option linter.unusedSimpArgs false
set_option maxRecDepth 100000

set_option maxHeartbeats 1600000 in
theorem isReducedPair_any (x0 y0 x1 y1 : Int) (w : World) (h0 : Bm x0) (k0 : Bm y0) (h1 : Bm x1) (k1 : Bm y1) :
    Calls Try.prog 27 #[.agg #[.int .i64 x0, .int .i64 y0], .agg #[.int .i64 x1, .int .i64 y1]] w fun e w' => e = .returned (.bool (redP (x0, y0) (x1, y1))) ∧ Below w.heap.size w w' := by
  have bd := dot_bm h0 k0 h1 k1
  have CA : Hid (∀ w, Calls Try.prog 29 #[.agg #[.int .i64 x0, .int .i64 y0], .agg #[.int .i64 x0, .int .i64 y0]] w fun e w' => e = .returned (.int .i64 (dotP (x0, y0) (x0, y0))) ∧ Below w.heap.size w w') := fun w => productOfPoints_any _ _ _ _ w h0.bn k0.bn h0.bn k0.bn
  have CB : Hid (∀ w, Calls Try.prog 29 #[.agg #[.int .i64 x1, .int .i64 y1], .agg #[.int .i64 x1, .int .i64 y1]] w fun e w' => e = .returned (.int .i64 (dotP (x1, y1) (x1, y1))) ∧ Below w.heap.size w w') := fun w => productOfPoints_any _ _ _ _ w h1.bn k1.bn h1.bn k1.bn
  have CP : Hid (∀ w, Calls Try.prog 29 #[.agg #[.int .i64 x0, .int .i64 y0], .agg #[.int .i64 x1, .int .i64 y1]] w fun e w' => e = .returned (.int .i64 (dotP (x0, y0) (x1, y1))) ∧ Below w.heap.size w w') := fun w => productOfPoints_any _ _ _ _ w h0.bn k0.bn h1.bn k1.bn
  have HX : Hid (redP (x0, y0) (x1, y1) = (decide (dotP (x0, y0) (x0, y0) ≤ dotP (x1, y1) (x1, y1)) && decide (2 * absI (dotP (x0, y0) (x1, y1)) ≤ dotP (x0, y0) (x0, y0)))) := by
    show _ = _
    unfold redP
    congr 1
    rw [← Bool.decide_and]
    congr 1
    unfold absI
    apply propext
    constructor <;> intro h <;> omega
  have CU : Hid (∀ w, Calls Try.prog 43 #[.int .i64 (dotP (x0, y0) (x1, y1))] w fun e w' => e = .returned (.int .i64 (absI (dotP (x0, y0) (x1, y1)))) ∧ Below w.heap.size w w') := fun w => (absolute_any _ w (by unfold Tn; omega)).mono (by rintro e w' ⟨rfl, rfl⟩; exact ⟨rfl, Below.refl _ _⟩)
  have hab : 0 ≤ absI (dotP (x0, y0) (x1, y1)) ∧ absI (dotP (x0, y0) (x1, y1)) ≤ 4500000000000 := by unfold absI; omega
  rw [HX.out]
  clear HX bd h0 k0 h1 k1
  obtain ⟨A, hA⟩ : ∃ A, dotP (x0, y0) (x0, y0) = A := ⟨_, rfl⟩
  obtain ⟨B, hB⟩ : ∃ A, dotP (x1, y1) (x1, y1) = A := ⟨_, rfl⟩
  obtain ⟨P, hP⟩ : ∃ A, dotP (x0, y0) (x1, y1) = A := ⟨_, rfl⟩
  rw [hA] at CA ⊢
  rw [hB] at CB ⊢
  rw [hP] at CP CU hab ⊢
  clear hA hB hP
  obtain ⟨a1, a2⟩ := hab
  obtain ⟨U, hU⟩ : ∃ U, absI P = U := ⟨_, rfl⟩
  rw [hU] at CU a1 a2 ⊢
  clear hU
  obtain ⟨GS, hG⟩ : ∃ G, w.heap.size = G := ⟨_, rfl⟩
  have HG := Lib.hid hG
  go_enter Try.func27, Try.ntmps27
  go_upto_region 1 with fail
  obtain ⟨w0, hw0⟩ : ∃ w0, w0 = ((w.alloc (.cells #[.int .i64 x0, .int .i64 y0] 25)).alloc (.cells #[.int .i64 x1, .int .i64 y1] 25)) := ⟨_, rfl⟩
  rw [← hw0]
  have HS : Hid (Bk2 w0 GS x0 y0) := by
    have h := (bk2_new w x0 y0 25).below (W' := ((w.alloc (.cells #[.int .i64 x0, .int .i64 y0] 25)).alloc (.cells #[.int .i64 x1, .int .i64 y1] 25))) (by (repeat' (first | (with_reducible exact Below.refl _ _) | (with_reducible refine Below.alloc ?_ ?_ _) | (with_reducible refine Below.setCell ?_ ?_ _) | (with_reducible refine Below.drew ?_) | (with_reducible refine below_drewN ?_ _) | (with_reducible assumption) | (with_reducible refine below_after (by with_reducible assumption) ?_) | go_size)))
    (try simp only [World.size_alloc] at h)
    rw [hG] at h
    rw [hw0]; exact h
  have HT : Hid (Bk2 w0 (GS + 1) x1 y1) := by
    have h := (bk2_new (w.alloc (.cells #[.int .i64 x0, .int .i64 y0] 25)) x1 y1 25).below (W' := ((w.alloc (.cells #[.int .i64 x0, .int .i64 y0] 25)).alloc (.cells #[.int .i64 x1, .int .i64 y1] 25))) (by (repeat' (first | (with_reducible exact Below.refl _ _) | (with_reducible refine Below.alloc ?_ ?_ _) | (with_reducible refine Below.setCell ?_ ?_ _) | (with_reducible refine Below.drew ?_) | (with_reducible refine below_drewN ?_ _) | (with_reducible assumption) | (with_reducible refine below_after (by with_reducible assumption) ?_) | go_size)))
    (try simp only [World.size_alloc] at h)
    rw [hG] at h
    rw [hw0]; exact h
  have HB : Hid (Below w.heap.size w w0) := by show Below w.heap.size w w0; rw [hw0]; (repeat' (first | (with_reducible exact Below.refl _ _) | (with_reducible refine Below.alloc ?_ ?_ _) | (with_reducible refine Below.setCell ?_ ?_ _) | (with_reducible refine Below.drew ?_) | (with_reducible refine below_drewN ?_ _) | (with_reducible assumption) | (with_reducible refine below_after (by with_reducible assumption) ?_) | go_size))
  clear hw0
  obtain ⟨GT, hGT⟩ : ∃ g, GS + 1 = g := ⟨_, rfl⟩
  rw [hGT] at HT ⊢
  have le_S : w.heap.size ≤ GS := by omega
  have le_T : w.heap.size ≤ GT := by omega
  have ne_T_S : GT ≠ GS := by omega
  have ne_S_T : GS ≠ GT := by omega
  clear hGT
  obtain ⟨⟨qS0, qS1⟩, ⟨fS0, fS1⟩, zS⟩ := HS.out
  obtain ⟨⟨qT0, qT1⟩, ⟨fT0, fT1⟩, zT⟩ := HT.out
  go_wp2_with fail
  go_at_call 29
  refine (CA.out _).mono ?_
  rintro e w1 ⟨rfl, hb⟩
  clear qS0 fS0 qS1 fS1 zS qT0 fT0 qT1 fT1 zT
  have HS := Lib.hid (HS.out.below hb)
  have HT := Lib.hid (HT.out.below hb)
  have HB := Lib.hid (below_after hb HB.out)
  clear hb
  obtain ⟨⟨qS0, qS1⟩, ⟨fS0, fS1⟩, zS⟩ := HS.out
  obtain ⟨⟨qT0, qT1⟩, ⟨fT0, fT1⟩, zT⟩ := HT.out
  go_wp2_with fail
  go_at_call 29
  refine (CB.out _).mono ?_
  rintro e w2 ⟨rfl, hb⟩
  clear qS0 fS0 qS1 fS1 zS qT0 fT0 qT1 fT1 zT
  have HS := Lib.hid (HS.out.below hb)
  have HT := Lib.hid (HT.out.below hb)
  have HB := Lib.hid (below_after hb HB.out)
  clear hb
  by_cases hc : A ≤ B
  · skip
    obtain ⟨⟨qS0, qS1⟩, ⟨fS0, fS1⟩, zS⟩ := HS.out
    obtain ⟨⟨qT0, qT1⟩, ⟨fT0, fT1⟩, zT⟩ := HT.out
    go_wp2_with fail
    go_at_call 29
    refine (CP.out _).mono ?_
    rintro e w3 ⟨rfl, hb⟩
    clear qS0 fS0 qS1 fS1 zS qT0 fT0 qT1 fT1 zT
    have HS := Lib.hid (HS.out.below hb)
    have HT := Lib.hid (HT.out.below hb)
    have HB := Lib.hid (below_after hb HB.out)
    clear hb
    obtain ⟨⟨qS0, qS1⟩, ⟨fS0, fS1⟩, zS⟩ := HS.out
    obtain ⟨⟨qT0, qT1⟩, ⟨fT0, fT1⟩, zT⟩ := HT.out
    go_wp2_with fail
    go_at_call 43
    refine (CU.out _).mono ?_
    rintro e w4 ⟨rfl, hb⟩
    clear qS0 fS0 qS1 fS1 zS qT0 fT0 qT1 fT1 zT
    have HS := Lib.hid (HS.out.below hb)
    have HT := Lib.hid (HT.out.below hb)
    have HB := Lib.hid (below_after hb HB.out)
    clear hb
    obtain ⟨⟨qS0, qS1⟩, ⟨fS0, fS1⟩, zS⟩ := HS.out
    obtain ⟨⟨qT0, qT1⟩, ⟨fT0, fT1⟩, zT⟩ := HT.out
    go_wp2_with fail
    go_ret
    have hb := HB.out
    exact ⟨by first | (simp [hc]; done) | (have hm := HM.out; have hw := HW.out; simp [hc, hm, hw]; done) | (simp; intro h; omega), by first | exact hb | exact hG ▸ hb⟩
  · skip
    obtain ⟨⟨qS0, qS1⟩, ⟨fS0, fS1⟩, zS⟩ := HS.out
    obtain ⟨⟨qT0, qT1⟩, ⟨fT0, fT1⟩, zT⟩ := HT.out
    go_wp2_with fail
    go_ret
    have hb := HB.out
    exact ⟨by first | (simp [hc]; done) | (have hm := HM.out; have hw := HW.out; simp [hc, hm, hw]; done) | (simp; intro h; omega), by first | exact hb | exact hG ▸ hb⟩
set_option maxHeartbeats 1600000 in
theorem l10Reduced_any (x0 y0 x1 y1 : Int) (w : World) (h0 : Bm x0) (k0 : Bm y0) (h1 : Bm x1) (k1 : Bm y1) :
    Calls Try.prog 28 #[.agg #[.int .i64 x0, .int .i64 y0], .agg #[.int .i64 x1, .int .i64 y1]] w fun e w' => e = .returned (.bool (redP (x0, y0) (x1, y1))) ∧ Below w.heap.size w w' := by
  have bd := dot_bm h0 k0 h1 k1
  have CA : Hid (∀ w, Calls Try.prog 30 #[.agg #[.int .i64 x0, .int .i64 y0], .agg #[.int .i64 x0, .int .i64 y0]] w fun e w' => e = .returned (.int .i64 (dotP (x0, y0) (x0, y0))) ∧ Below w.heap.size w w') := fun w => l10Dot_any _ _ _ _ w h0.bn k0.bn h0.bn k0.bn
  have CB : Hid (∀ w, Calls Try.prog 30 #[.agg #[.int .i64 x1, .int .i64 y1], .agg #[.int .i64 x1, .int .i64 y1]] w fun e w' => e = .returned (.int .i64 (dotP (x1, y1) (x1, y1))) ∧ Below w.heap.size w w') := fun w => l10Dot_any _ _ _ _ w h1.bn k1.bn h1.bn k1.bn
  have CP : Hid (∀ w, Calls Try.prog 30 #[.agg #[.int .i64 x0, .int .i64 y0], .agg #[.int .i64 x1, .int .i64 y1]] w fun e w' => e = .returned (.int .i64 (dotP (x0, y0) (x1, y1))) ∧ Below w.heap.size w w') := fun w => l10Dot_any _ _ _ _ w h0.bn k0.bn h1.bn k1.bn
  have HX : Hid (redP (x0, y0) (x1, y1) = (decide (dotP (x0, y0) (x0, y0) ≤ dotP (x1, y1) (x1, y1)) && decide (max (2 * dotP (x0, y0) (x1, y1)) (-(2 * dotP (x0, y0) (x1, y1))) ≤ dotP (x0, y0) (x0, y0)))) := by
    show _ = _
    unfold redP
    congr 1
    rw [← Bool.decide_and]
    congr 1
    apply propext
    constructor <;> intro h <;> omega
  rw [HX.out]
  clear HX h0 k0 h1 k1
  obtain ⟨A, hA⟩ : ∃ A, dotP (x0, y0) (x0, y0) = A := ⟨_, rfl⟩
  obtain ⟨B, hB⟩ : ∃ A, dotP (x1, y1) (x1, y1) = A := ⟨_, rfl⟩
  obtain ⟨P, hP⟩ : ∃ A, dotP (x0, y0) (x1, y1) = A := ⟨_, rfl⟩
  rw [hA] at CA ⊢
  rw [hB] at CB ⊢
  rw [hP] at CP bd ⊢
  clear hA hB hP
  obtain ⟨b1, b2⟩ := bd
  obtain ⟨M, hM⟩ : ∃ M, max (2 * P) (-(2 * P)) = M := ⟨_, rfl⟩
  have hmx := fun (W : World) (ts : Array TypeId) (t : TypeId) => run_max2 Try.prog W ts t (2 * P) (-(2 * P)) M hM
  rw [hM]
  have HM := Lib.hid hM
  have hw : IntKind.i64.wrap (-(2 * P)) = -(2 * P) := by rw [IntKind.wrap_i64]; omega
  have HW := Lib.hid hw
  clear hM hw
  obtain ⟨GS, hG⟩ : ∃ G, w.heap.size = G := ⟨_, rfl⟩
  have HG := Lib.hid hG
  go_enter Try.func28, Try.ntmps28
  go_upto_region 1 with fail
  obtain ⟨w0, hw0⟩ : ∃ w0, w0 = ((w.alloc (.cells #[.int .i64 x0, .int .i64 y0] 25)).alloc (.cells #[.int .i64 x1, .int .i64 y1] 25)) := ⟨_, rfl⟩
  rw [← hw0]
  have HS : Hid (Bk2 w0 GS x0 y0) := by
    have h := (bk2_new w x0 y0 25).below (W' := ((w.alloc (.cells #[.int .i64 x0, .int .i64 y0] 25)).alloc (.cells #[.int .i64 x1, .int .i64 y1] 25))) (by (repeat' (first | (with_reducible exact Below.refl _ _) | (with_reducible refine Below.alloc ?_ ?_ _) | (with_reducible refine Below.setCell ?_ ?_ _) | (with_reducible refine Below.drew ?_) | (with_reducible refine below_drewN ?_ _) | (with_reducible assumption) | (with_reducible refine below_after (by with_reducible assumption) ?_) | go_size)))
    (try simp only [World.size_alloc] at h)
    rw [hG] at h
    rw [hw0]; exact h
  have HT : Hid (Bk2 w0 (GS + 1) x1 y1) := by
    have h := (bk2_new (w.alloc (.cells #[.int .i64 x0, .int .i64 y0] 25)) x1 y1 25).below (W' := ((w.alloc (.cells #[.int .i64 x0, .int .i64 y0] 25)).alloc (.cells #[.int .i64 x1, .int .i64 y1] 25))) (by (repeat' (first | (with_reducible exact Below.refl _ _) | (with_reducible refine Below.alloc ?_ ?_ _) | (with_reducible refine Below.setCell ?_ ?_ _) | (with_reducible refine Below.drew ?_) | (with_reducible refine below_drewN ?_ _) | (with_reducible assumption) | (with_reducible refine below_after (by with_reducible assumption) ?_) | go_size)))
    (try simp only [World.size_alloc] at h)
    rw [hG] at h
    rw [hw0]; exact h
  have HB : Hid (Below w.heap.size w w0) := by show Below w.heap.size w w0; rw [hw0]; (repeat' (first | (with_reducible exact Below.refl _ _) | (with_reducible refine Below.alloc ?_ ?_ _) | (with_reducible refine Below.setCell ?_ ?_ _) | (with_reducible refine Below.drew ?_) | (with_reducible refine below_drewN ?_ _) | (with_reducible assumption) | (with_reducible refine below_after (by with_reducible assumption) ?_) | go_size))
  clear hw0
  obtain ⟨GT, hGT⟩ : ∃ g, GS + 1 = g := ⟨_, rfl⟩
  rw [hGT] at HT ⊢
  have le_S : w.heap.size ≤ GS := by omega
  have le_T : w.heap.size ≤ GT := by omega
  have ne_T_S : GT ≠ GS := by omega
  have ne_S_T : GS ≠ GT := by omega
  clear hGT
  obtain ⟨⟨qS0, qS1⟩, ⟨fS0, fS1⟩, zS⟩ := HS.out
  obtain ⟨⟨qT0, qT1⟩, ⟨fT0, fT1⟩, zT⟩ := HT.out
  go_wp2_with fail
  go_at_call 30
  refine (CP.out _).mono ?_
  rintro e w1 ⟨rfl, hb⟩
  clear qS0 fS0 qS1 fS1 zS qT0 fT0 qT1 fT1 zT
  have HS := Lib.hid (HS.out.below hb)
  have HT := Lib.hid (HT.out.below hb)
  have HB := Lib.hid (below_after hb HB.out)
  clear hb
  by_cases hc : A ≤ B
  · skip
    have d2 : decide (A ≤ B) = true := by simpa using hc
    have HXX : Hid (∀ W, Below w1.heap.size w1 W → Bk2 W GS x0 y0 ∧ Bk2 W GT x1 y1) := fun W hW => ⟨HS.out.below hW, HT.out.below hW⟩
    go_wp2_with fail
    refine wp_region_held_drew (S := fun W => Below w1.heap.size w1 W) (by kernel_rfl) ?_ (fun hHeld => ?_); focus ((try dsimp only); exact (Below.refl _ _).drew)
    have HS := Lib.hid (HS.out.below (Below.drew (Below.refl _ _)))
    have HT := Lib.hid (HT.out.below (Below.drew (Below.refl _ _)))
    have hHeld : Below w1.heap.size w1 _ := hHeld
    obtain ⟨wD1, hwD1⟩ : ∃ wD, w1.drew = wD := ⟨_, rfl⟩
    rw [hwD1] at hHeld HS HT ⊢
    clear hwD1
    (refine wpAnyH_take (i := 0) (v := ?_) rfl (by kernel_rfl) (by kernel_rfl) (by kernel_rfl) (fun _ _ _ h => h) (Or.inl ⟨rfl, ?_⟩) (by assumption) ?_; rotate_left; focus (intro W hSw; (try dsimp only at hSw); have hxx := HXX.out _ hSw; obtain ⟨hxS, hxT⟩ := hxx; obtain ⟨⟨iS0, iS1⟩, _, _⟩ := hxS; obtain ⟨⟨iT0, iT1⟩, _, _⟩ := hxT; go_simp; try (with_reducible rfl))); (try simp only [Act.put, List.getElem_toArray, List.getElem_cons_succ, List.getElem_cons_zero, List.setIfInBounds_toArray, List.set_cons_zero, List.set_cons_succ])
    (refine wpAnyH_take (i := 1) (v := ?_) rfl (by kernel_rfl) (by kernel_rfl) (by kernel_rfl) (fun _ _ _ h => h) (Or.inl ⟨rfl, ?_⟩) (by assumption) ?_; rotate_left; focus (intro W hSw; (try dsimp only at hSw); have hxx := HXX.out _ hSw; obtain ⟨hxS, hxT⟩ := hxx; obtain ⟨⟨iS0, iS1⟩, _, _⟩ := hxS; obtain ⟨⟨iT0, iT1⟩, _, _⟩ := hxT; go_simp; try (with_reducible rfl))); (try simp only [Act.put, List.getElem_toArray, List.getElem_cons_succ, List.getElem_cons_zero, List.setIfInBounds_toArray, List.set_cons_zero, List.set_cons_succ])
    (refine wpAnyH_take (i := 3) (v := ?_) rfl (by kernel_rfl) (by kernel_rfl) (by kernel_rfl) (fun _ _ _ h => h) (Or.inl ⟨rfl, ?_⟩) (by assumption) ?_; rotate_left; focus (intro W hSw; (try dsimp only at hSw); have hxx := HXX.out _ hSw; obtain ⟨hxS, hxT⟩ := hxx; obtain ⟨⟨iS0, iS1⟩, _, _⟩ := hxS; obtain ⟨⟨iT0, iT1⟩, _, _⟩ := hxT; go_simp; try (with_reducible rfl))); (try simp only [Act.put, List.getElem_toArray, List.getElem_cons_succ, List.getElem_cons_zero, List.setIfInBounds_toArray, List.set_cons_zero, List.set_cons_succ])
    (refine wpAnyH_take (i := 4) (v := ?_) rfl (by kernel_rfl) (by kernel_rfl) (by kernel_rfl) (fun _ _ _ h => h) (Or.inl ⟨rfl, ?_⟩) (by assumption) ?_; rotate_left; focus (intro W hSw; (try dsimp only at hSw); have hxx := HXX.out _ hSw; obtain ⟨hxS, hxT⟩ := hxx; obtain ⟨⟨iS0, iS1⟩, _, _⟩ := hxS; obtain ⟨⟨iT0, iT1⟩, _, _⟩ := hxT; go_simp; try (with_reducible rfl))); (try simp only [Act.put, List.getElem_toArray, List.getElem_cons_succ, List.getElem_cons_zero, List.setIfInBounds_toArray, List.set_cons_zero, List.set_cons_succ])
    refine wpAnyH_ready (rs := [2]) (by kernel_rfl) (by simp) ?_; refine AllReadyH.cons rfl (fun K hK => ?_) AllReadyH.nil
    go_simp; (go_at_call 30; refine (CA.out _).mono ?_; rintro en ywr1x0 ⟨rfl, hb2⟩); have HS := Lib.hid (HS.out.below hb2); have HT := Lib.hid (HT.out.below hb2); refine hK.out _ _ (below_after hb2 hHeld) (fun hHeld2 => ?_); clear hb2; (clear hHeld; rename _ => hHeld; clear hK K; have hHeld : Below w1.heap.size w1 _ := hHeld); (try simp only [Act.put, List.getElem_toArray, List.getElem_cons_succ, List.getElem_cons_zero, List.setIfInBounds_toArray, List.set_cons_zero, List.set_cons_succ])
    refine wpAnyH_ready (rs := [5]) (by kernel_rfl) (by simp) ?_; refine AllReadyH.cons rfl (fun K hK => ?_) AllReadyH.nil
    go_simp; (go_at_call 30; refine (CB.out _).mono ?_; rintro en ywr1x1 ⟨rfl, hb2⟩); have HS := Lib.hid (HS.out.below hb2); have HT := Lib.hid (HT.out.below hb2); refine hK.out _ _ (below_after hb2 hHeld) (fun hHeld2 => ?_); clear hb2; (clear hHeld; rename _ => hHeld; clear hK K; have hHeld : Below w1.heap.size w1 _ := hHeld); (try simp only [Act.put, List.getElem_toArray, List.getElem_cons_succ, List.getElem_cons_zero, List.setIfInBounds_toArray, List.set_cons_zero, List.set_cons_succ])
    (refine wpAnyH_take (i := 6) (v := ?_) rfl (by kernel_rfl) (by kernel_rfl) (by kernel_rfl) (fun _ _ _ h => h) (Or.inl ⟨rfl, ?_⟩) (by assumption) ?_; rotate_left; focus (intro W hSw; (try dsimp only at hSw); have hxx := HXX.out _ hSw; obtain ⟨hxS, hxT⟩ := hxx; obtain ⟨⟨iS0, iS1⟩, _, _⟩ := hxS; obtain ⟨⟨iT0, iT1⟩, _, _⟩ := hxT; go_simp; try (with_reducible rfl))); (try simp only [Act.put, List.getElem_toArray, List.getElem_cons_succ, List.getElem_cons_zero, List.setIfInBounds_toArray, List.set_cons_zero, List.set_cons_succ])
    (refine wpAnyH_take (i := 7) (v := ?_) rfl (by kernel_rfl) (by kernel_rfl) (by kernel_rfl) (fun _ _ _ h => h) (Or.inl ⟨rfl, ?_⟩) (by assumption) ?_; rotate_left; focus (intro W hSw; (try dsimp only at hSw); have hxx := HXX.out _ hSw; obtain ⟨hxS, hxT⟩ := hxx; obtain ⟨⟨iS0, iS1⟩, _, _⟩ := hxS; obtain ⟨⟨iT0, iT1⟩, _, _⟩ := hxT; go_simp; try (with_reducible rfl))); (try simp only [Act.put, List.getElem_toArray, List.getElem_cons_succ, List.getElem_cons_zero, List.setIfInBounds_toArray, List.set_cons_zero, List.set_cons_succ])
    (refine wpAnyH_take (i := 8) (v := ?_) rfl (by kernel_rfl) (by kernel_rfl) (by kernel_rfl) (fun _ _ _ h => h) (Or.inl ⟨rfl, ?_⟩) (by assumption) ?_; rotate_left; focus (intro W hSw; (try dsimp only at hSw); have hxx := HXX.out _ hSw; obtain ⟨hxS, hxT⟩ := hxx; obtain ⟨⟨iS0, iS1⟩, _, _⟩ := hxS; obtain ⟨⟨iT0, iT1⟩, _, _⟩ := hxT; go_simp; try (with_reducible rfl))); (try simp only [Act.put, List.getElem_toArray, List.getElem_cons_succ, List.getElem_cons_zero, List.setIfInBounds_toArray, List.set_cons_zero, List.set_cons_succ])
    (refine wpAnyH_take (i := 9) (v := ?_) rfl (by kernel_rfl) (by kernel_rfl) (by kernel_rfl) (fun _ _ _ h => h) (Or.inl ⟨rfl, ?_⟩) (by assumption) ?_; rotate_left; focus (intro W hSw; (try dsimp only at hSw); have hxx := HXX.out _ hSw; obtain ⟨hxS, hxT⟩ := hxx; obtain ⟨⟨iS0, iS1⟩, _, _⟩ := hxS; obtain ⟨⟨iT0, iT1⟩, _, _⟩ := hxT; go_simp; try (with_reducible rfl))); (try simp only [Act.put, List.getElem_toArray, List.getElem_cons_succ, List.getElem_cons_zero, List.setIfInBounds_toArray, List.set_cons_zero, List.set_cons_succ])
    (refine wpAnyH_take (i := 10) (v := ?_) rfl (by kernel_rfl) (by kernel_rfl) (by kernel_rfl) (fun _ _ _ h => h) (Or.inl ⟨rfl, ?_⟩) (by assumption) ?_; rotate_left; focus (intro W hSw; (try dsimp only at hSw); have hxx := HXX.out _ hSw; obtain ⟨hxS, hxT⟩ := hxx; obtain ⟨⟨iS0, iS1⟩, _, _⟩ := hxS; obtain ⟨⟨iT0, iT1⟩, _, _⟩ := hxT; go_simp; try (with_reducible rfl))); (try simp only [Act.put, List.getElem_toArray, List.getElem_cons_succ, List.getElem_cons_zero, List.setIfInBounds_toArray, List.set_cons_zero, List.set_cons_succ])
    (refine wpAnyH_take (i := 11) (v := ?_) rfl (by kernel_rfl) (by kernel_rfl) (by kernel_rfl) (fun _ _ _ h => h) (Or.inl ⟨rfl, ?_⟩) (by assumption) ?_; rotate_left; focus (intro W hSw; (try dsimp only at hSw); have hxx := HXX.out _ hSw; obtain ⟨hxS, hxT⟩ := hxx; obtain ⟨⟨iS0, iS1⟩, _, _⟩ := hxS; obtain ⟨⟨iT0, iT1⟩, _, _⟩ := hxT; go_simp; try (with_reducible rfl))); (try simp only [Act.put, List.getElem_toArray, List.getElem_cons_succ, List.getElem_cons_zero, List.setIfInBounds_toArray, List.set_cons_zero, List.set_cons_succ])
    (refine wpAnyH_take (i := 12) (v := ?_) rfl (by kernel_rfl) (by kernel_rfl) (by kernel_rfl) (fun _ _ _ h => h) (Or.inl ⟨rfl, ?_⟩) (by assumption) ?_; rotate_left; focus (intro W hSw; (try dsimp only at hSw); have hxx := HXX.out _ hSw; obtain ⟨hxS, hxT⟩ := hxx; obtain ⟨⟨iS0, iS1⟩, _, _⟩ := hxS; obtain ⟨⟨iT0, iT1⟩, _, _⟩ := hxT; go_simp; try (with_reducible rfl))); (try simp only [Act.put, List.getElem_toArray, List.getElem_cons_succ, List.getElem_cons_zero, List.setIfInBounds_toArray, List.set_cons_zero, List.set_cons_succ])
    (refine wpAnyH_take (i := 13) (v := ?_) rfl (by kernel_rfl) (by kernel_rfl) (by kernel_rfl) (fun _ _ _ h => h) (Or.inl ⟨rfl, ?_⟩) (by assumption) ?_; rotate_left; focus (intro W hSw; (try dsimp only at hSw); have hxx := HXX.out _ hSw; obtain ⟨hxS, hxT⟩ := hxx; obtain ⟨⟨iS0, iS1⟩, _, _⟩ := hxS; obtain ⟨⟨iT0, iT1⟩, _, _⟩ := hxT; go_simp; try (with_reducible rfl))); (try simp only [Act.put, List.getElem_toArray, List.getElem_cons_succ, List.getElem_cons_zero, List.setIfInBounds_toArray, List.set_cons_zero, List.set_cons_succ])
    refine wpAnyH_ready (rs := [14]) (by kernel_rfl) (by simp) ?_; refine AllReadyH.cons rfl (fun K hK => ?_) AllReadyH.nil
    go_simp; (go_at_call 30; refine (CA.out _).mono ?_; rintro en ywr1x2 ⟨rfl, hb2⟩); have HS := Lib.hid (HS.out.below hb2); have HT := Lib.hid (HT.out.below hb2); refine hK.out _ _ (below_after hb2 hHeld) (fun hHeld2 => ?_); clear hb2; (clear hHeld; rename _ => hHeld; clear hK K; have hHeld : Below w1.heap.size w1 _ := hHeld); (try simp only [Act.put, List.getElem_toArray, List.getElem_cons_succ, List.getElem_cons_zero, List.setIfInBounds_toArray, List.set_cons_zero, List.set_cons_succ])
    (refine wpAnyH_take (i := 15) (v := ?_) rfl (by kernel_rfl) (by kernel_rfl) (by kernel_rfl) (fun _ _ _ h => h) (Or.inl ⟨rfl, ?_⟩) (by assumption) ?_; rotate_left; focus (intro W hSw; (try dsimp only at hSw); have hxx := HXX.out _ hSw; obtain ⟨hxS, hxT⟩ := hxx; obtain ⟨⟨iS0, iS1⟩, _, _⟩ := hxS; obtain ⟨⟨iT0, iT1⟩, _, _⟩ := hxT; go_simp; try (with_reducible rfl))); (try simp only [Act.put, List.getElem_toArray, List.getElem_cons_succ, List.getElem_cons_zero, List.setIfInBounds_toArray, List.set_cons_zero, List.set_cons_succ])
    (refine wpAnyH_take (i := 16) (v := ?_) rfl (by kernel_rfl) (by kernel_rfl) (by kernel_rfl) (fun _ _ _ h => h) (Or.inl ⟨rfl, ?_⟩) (by assumption) ?_; rotate_left; focus (intro W hSw; (try dsimp only at hSw); have hxx := HXX.out _ hSw; obtain ⟨hxS, hxT⟩ := hxx; obtain ⟨⟨iS0, iS1⟩, _, _⟩ := hxS; obtain ⟨⟨iT0, iT1⟩, _, _⟩ := hxT; go_simp; try (with_reducible rfl))); (try simp only [Act.put, List.getElem_toArray, List.getElem_cons_succ, List.getElem_cons_zero, List.setIfInBounds_toArray, List.set_cons_zero, List.set_cons_succ])
    (refine wpAnyH_take (i := 17) (v := ?_) rfl (by kernel_rfl) (by kernel_rfl) (by kernel_rfl) (fun _ _ _ h => h) (Or.inl ⟨rfl, ?_⟩) (by assumption) ?_; rotate_left; focus (intro W hSw; (try dsimp only at hSw); have hxx := HXX.out _ hSw; obtain ⟨hxS, hxT⟩ := hxx; obtain ⟨⟨iS0, iS1⟩, _, _⟩ := hxS; obtain ⟨⟨iT0, iT1⟩, _, _⟩ := hxT; go_simp; try (with_reducible rfl))); (try simp only [Act.put, List.getElem_toArray, List.getElem_cons_succ, List.getElem_cons_zero, List.setIfInBounds_toArray, List.set_cons_zero, List.set_cons_succ])
    refine wpAnyH_done (by kernel_rfl) ?_ _
    have HB := Lib.hid (HB.out.trans (hHeld.mono HB.out.size))
    clear hHeld HXX
    obtain ⟨⟨qS0, qS1⟩, ⟨fS0, fS1⟩, zS⟩ := HS.out
    obtain ⟨⟨qT0, qT1⟩, ⟨fT0, fT1⟩, zT⟩ := HT.out
    go_wp2_with fail
    go_ret
    have hb := HB.out
    exact ⟨by first | (simp [hc]; done) | (have hm := HM.out; have hw := HW.out; simp [hc, hm, hw]; done) | (simp; intro h; omega), by first | exact hb | exact hG ▸ hb⟩
  · skip
    have d2 : decide (A ≤ B) = false := by simpa using hc
    have HXX : Hid (∀ W, Below w1.heap.size w1 W → Bk2 W GS x0 y0 ∧ Bk2 W GT x1 y1) := fun W hW => ⟨HS.out.below hW, HT.out.below hW⟩
    go_wp2_with fail
    refine wp_region_held_drew (S := fun W => Below w1.heap.size w1 W) (by kernel_rfl) ?_ (fun hHeld => ?_); focus ((try dsimp only); exact (Below.refl _ _).drew)
    have HS := Lib.hid (HS.out.below (Below.drew (Below.refl _ _)))
    have HT := Lib.hid (HT.out.below (Below.drew (Below.refl _ _)))
    have hHeld : Below w1.heap.size w1 _ := hHeld
    obtain ⟨wD1, hwD1⟩ : ∃ wD, w1.drew = wD := ⟨_, rfl⟩
    rw [hwD1] at hHeld HS HT ⊢
    clear hwD1
    (refine wpAnyH_take (i := 0) (v := ?_) rfl (by kernel_rfl) (by kernel_rfl) (by kernel_rfl) (fun _ _ _ h => h) (Or.inl ⟨rfl, ?_⟩) (by assumption) ?_; rotate_left; focus (intro W hSw; (try dsimp only at hSw); have hxx := HXX.out _ hSw; obtain ⟨hxS, hxT⟩ := hxx; obtain ⟨⟨iS0, iS1⟩, _, _⟩ := hxS; obtain ⟨⟨iT0, iT1⟩, _, _⟩ := hxT; go_simp; try (with_reducible rfl))); (try simp only [Act.put, List.getElem_toArray, List.getElem_cons_succ, List.getElem_cons_zero, List.setIfInBounds_toArray, List.set_cons_zero, List.set_cons_succ])
    (refine wpAnyH_take (i := 1) (v := ?_) rfl (by kernel_rfl) (by kernel_rfl) (by kernel_rfl) (fun _ _ _ h => h) (Or.inl ⟨rfl, ?_⟩) (by assumption) ?_; rotate_left; focus (intro W hSw; (try dsimp only at hSw); have hxx := HXX.out _ hSw; obtain ⟨hxS, hxT⟩ := hxx; obtain ⟨⟨iS0, iS1⟩, _, _⟩ := hxS; obtain ⟨⟨iT0, iT1⟩, _, _⟩ := hxT; go_simp; try (with_reducible rfl))); (try simp only [Act.put, List.getElem_toArray, List.getElem_cons_succ, List.getElem_cons_zero, List.setIfInBounds_toArray, List.set_cons_zero, List.set_cons_succ])
    (refine wpAnyH_take (i := 3) (v := ?_) rfl (by kernel_rfl) (by kernel_rfl) (by kernel_rfl) (fun _ _ _ h => h) (Or.inl ⟨rfl, ?_⟩) (by assumption) ?_; rotate_left; focus (intro W hSw; (try dsimp only at hSw); have hxx := HXX.out _ hSw; obtain ⟨hxS, hxT⟩ := hxx; obtain ⟨⟨iS0, iS1⟩, _, _⟩ := hxS; obtain ⟨⟨iT0, iT1⟩, _, _⟩ := hxT; go_simp; try (with_reducible rfl))); (try simp only [Act.put, List.getElem_toArray, List.getElem_cons_succ, List.getElem_cons_zero, List.setIfInBounds_toArray, List.set_cons_zero, List.set_cons_succ])
    (refine wpAnyH_take (i := 4) (v := ?_) rfl (by kernel_rfl) (by kernel_rfl) (by kernel_rfl) (fun _ _ _ h => h) (Or.inl ⟨rfl, ?_⟩) (by assumption) ?_; rotate_left; focus (intro W hSw; (try dsimp only at hSw); have hxx := HXX.out _ hSw; obtain ⟨hxS, hxT⟩ := hxx; obtain ⟨⟨iS0, iS1⟩, _, _⟩ := hxS; obtain ⟨⟨iT0, iT1⟩, _, _⟩ := hxT; go_simp; try (with_reducible rfl))); (try simp only [Act.put, List.getElem_toArray, List.getElem_cons_succ, List.getElem_cons_zero, List.setIfInBounds_toArray, List.set_cons_zero, List.set_cons_succ])
    refine wpAnyH_ready (rs := [2]) (by kernel_rfl) (by simp) ?_; refine AllReadyH.cons rfl (fun K hK => ?_) AllReadyH.nil
    go_simp; (go_at_call 30; refine (CA.out _).mono ?_; rintro en ywr1x0 ⟨rfl, hb2⟩); have HS := Lib.hid (HS.out.below hb2); have HT := Lib.hid (HT.out.below hb2); refine hK.out _ _ (below_after hb2 hHeld) (fun hHeld2 => ?_); clear hb2; (clear hHeld; rename _ => hHeld; clear hK K; have hHeld : Below w1.heap.size w1 _ := hHeld); (try simp only [Act.put, List.getElem_toArray, List.getElem_cons_succ, List.getElem_cons_zero, List.setIfInBounds_toArray, List.set_cons_zero, List.set_cons_succ])
    refine wpAnyH_ready (rs := [5]) (by kernel_rfl) (by simp) ?_; refine AllReadyH.cons rfl (fun K hK => ?_) AllReadyH.nil
    go_simp; (go_at_call 30; refine (CB.out _).mono ?_; rintro en ywr1x1 ⟨rfl, hb2⟩); have HS := Lib.hid (HS.out.below hb2); have HT := Lib.hid (HT.out.below hb2); refine hK.out _ _ (below_after hb2 hHeld) (fun hHeld2 => ?_); clear hb2; (clear hHeld; rename _ => hHeld; clear hK K; have hHeld : Below w1.heap.size w1 _ := hHeld); (try simp only [Act.put, List.getElem_toArray, List.getElem_cons_succ, List.getElem_cons_zero, List.setIfInBounds_toArray, List.set_cons_zero, List.set_cons_succ])
    (refine wpAnyH_take (i := 6) (v := ?_) rfl (by kernel_rfl) (by kernel_rfl) (by kernel_rfl) (fun _ _ _ h => h) (Or.inl ⟨rfl, ?_⟩) (by assumption) ?_; rotate_left; focus (intro W hSw; (try dsimp only at hSw); have hxx := HXX.out _ hSw; obtain ⟨hxS, hxT⟩ := hxx; obtain ⟨⟨iS0, iS1⟩, _, _⟩ := hxS; obtain ⟨⟨iT0, iT1⟩, _, _⟩ := hxT; go_simp; try (with_reducible rfl))); (try simp only [Act.put, List.getElem_toArray, List.getElem_cons_succ, List.getElem_cons_zero, List.setIfInBounds_toArray, List.set_cons_zero, List.set_cons_succ])
    (refine wpAnyH_take (i := 7) (v := ?_) rfl (by kernel_rfl) (by kernel_rfl) (by kernel_rfl) (fun _ _ _ h => h) (Or.inl ⟨rfl, ?_⟩) (by assumption) ?_; rotate_left; focus (intro W hSw; (try dsimp only at hSw); have hxx := HXX.out _ hSw; obtain ⟨hxS, hxT⟩ := hxx; obtain ⟨⟨iS0, iS1⟩, _, _⟩ := hxS; obtain ⟨⟨iT0, iT1⟩, _, _⟩ := hxT; go_simp; try (with_reducible rfl))); (try simp only [Act.put, List.getElem_toArray, List.getElem_cons_succ, List.getElem_cons_zero, List.setIfInBounds_toArray, List.set_cons_zero, List.set_cons_succ])
    (refine wpAnyH_take (i := 8) rfl (by kernel_rfl) (by kernel_rfl) (by kernel_rfl) (fun _ _ _ h => h) (Or.inr ⟨rfl, rfl⟩) (by assumption) ?_); (try simp only [Act.put, List.getElem_toArray, List.getElem_cons_succ, List.getElem_cons_zero, List.setIfInBounds_toArray, List.set_cons_zero, List.set_cons_succ])
    (refine wpAnyH_take (i := 9) rfl (by kernel_rfl) (by kernel_rfl) (by kernel_rfl) (fun _ _ _ h => h) (Or.inr ⟨rfl, rfl⟩) (by assumption) ?_); (try simp only [Act.put, List.getElem_toArray, List.getElem_cons_succ, List.getElem_cons_zero, List.setIfInBounds_toArray, List.set_cons_zero, List.set_cons_succ])
    (refine wpAnyH_take (i := 10) rfl (by kernel_rfl) (by kernel_rfl) (by kernel_rfl) (fun _ _ _ h => h) (Or.inr ⟨rfl, rfl⟩) (by assumption) ?_); (try simp only [Act.put, List.getElem_toArray, List.getElem_cons_succ, List.getElem_cons_zero, List.setIfInBounds_toArray, List.set_cons_zero, List.set_cons_succ])
    (refine wpAnyH_take (i := 11) rfl (by kernel_rfl) (by kernel_rfl) (by kernel_rfl) (fun _ _ _ h => h) (Or.inr ⟨rfl, rfl⟩) (by assumption) ?_); (try simp only [Act.put, List.getElem_toArray, List.getElem_cons_succ, List.getElem_cons_zero, List.setIfInBounds_toArray, List.set_cons_zero, List.set_cons_succ])
    (refine wpAnyH_take (i := 12) rfl (by kernel_rfl) (by kernel_rfl) (by kernel_rfl) (fun _ _ _ h => h) (Or.inr ⟨rfl, rfl⟩) (by assumption) ?_); (try simp only [Act.put, List.getElem_toArray, List.getElem_cons_succ, List.getElem_cons_zero, List.setIfInBounds_toArray, List.set_cons_zero, List.set_cons_succ])
    (refine wpAnyH_take (i := 13) rfl (by kernel_rfl) (by kernel_rfl) (by kernel_rfl) (fun _ _ _ h => h) (Or.inr ⟨rfl, rfl⟩) (by assumption) ?_); (try simp only [Act.put, List.getElem_toArray, List.getElem_cons_succ, List.getElem_cons_zero, List.setIfInBounds_toArray, List.set_cons_zero, List.set_cons_succ])
    (refine wpAnyH_take (i := 14) rfl (by kernel_rfl) (by kernel_rfl) (by kernel_rfl) (fun _ _ _ h => h) (Or.inr ⟨rfl, rfl⟩) (by assumption) ?_); (try simp only [Act.put, List.getElem_toArray, List.getElem_cons_succ, List.getElem_cons_zero, List.setIfInBounds_toArray, List.set_cons_zero, List.set_cons_succ])
    (refine wpAnyH_take (i := 15) rfl (by kernel_rfl) (by kernel_rfl) (by kernel_rfl) (fun _ _ _ h => h) (Or.inr ⟨rfl, rfl⟩) (by assumption) ?_); (try simp only [Act.put, List.getElem_toArray, List.getElem_cons_succ, List.getElem_cons_zero, List.setIfInBounds_toArray, List.set_cons_zero, List.set_cons_succ])
    (refine wpAnyH_take (i := 16) (v := ?_) rfl (by kernel_rfl) (by kernel_rfl) (by kernel_rfl) (fun _ _ _ h => h) (Or.inl ⟨rfl, ?_⟩) (by assumption) ?_; rotate_left; focus (intro W hSw; (try dsimp only at hSw); have hxx := HXX.out _ hSw; obtain ⟨hxS, hxT⟩ := hxx; obtain ⟨⟨iS0, iS1⟩, _, _⟩ := hxS; obtain ⟨⟨iT0, iT1⟩, _, _⟩ := hxT; go_simp; try (with_reducible rfl))); (try simp only [Act.put, List.getElem_toArray, List.getElem_cons_succ, List.getElem_cons_zero, List.setIfInBounds_toArray, List.set_cons_zero, List.set_cons_succ])
    (refine wpAnyH_take (i := 17) (v := ?_) rfl (by kernel_rfl) (by kernel_rfl) (by kernel_rfl) (fun _ _ _ h => h) (Or.inl ⟨rfl, ?_⟩) (by assumption) ?_; rotate_left; focus (intro W hSw; (try dsimp only at hSw); have hxx := HXX.out _ hSw; obtain ⟨hxS, hxT⟩ := hxx; obtain ⟨⟨iS0, iS1⟩, _, _⟩ := hxS; obtain ⟨⟨iT0, iT1⟩, _, _⟩ := hxT; go_simp; try (with_reducible rfl))); (try simp only [Act.put, List.getElem_toArray, List.getElem_cons_succ, List.getElem_cons_zero, List.setIfInBounds_toArray, List.set_cons_zero, List.set_cons_succ])
    refine wpAnyH_done (by kernel_rfl) ?_ _
    have HB := Lib.hid (HB.out.trans (hHeld.mono HB.out.size))
    clear hHeld HXX
    obtain ⟨⟨qS0, qS1⟩, ⟨fS0, fS1⟩, zS⟩ := HS.out
    obtain ⟨⟨qT0, qT1⟩, ⟨fT0, fT1⟩, zT⟩ := HT.out
    go_wp2_with fail
    go_ret
    have hb := HB.out
    exact ⟨by first | (simp [hc]; done) | (have hm := HM.out; have hw := HW.out; simp [hc, hm, hw]; done) | (simp; intro h; omega), by first | exact hb | exact hG ▸ hb⟩
def rpV (x0 y0 x1 y1 : Int) : Bool := if prC x0 y0 x1 y1 = 0 then redP (x0, y0) (x1, y1) else false
theorem prC_ok {x0 y0 x1 y1 : Int} (h : prC x0 y0 x1 y1 = 0) : (isPt (x0, y0) = true ∧ isPt (x1, y1) = true) ∧ detP (x0, y0) (x1, y1) ≠ 0 := by
  unfold prC at h
  split at h
  · next hp =>
    split at h
    · cases h
    · next hd => exact ⟨Bool.and_eq_true_iff.1 hp, hd⟩
  · cases h
theorem impl_IsReducedPair_any (x0 y0 x1 y1 : Int) (w : World) : Calls Try.prog 10 #[.agg #[.int .i64 x0, .int .i64 y0], .agg #[.int .i64 x1, .int .i64 y1]] w fun e w' => e = .returned (.tuple #[.bool (rpV x0 y0 x1 y1), .int .i64 (prC x0 y0 x1 y1)]) ∧ Below w.heap.size w w' := by
  unfold rpV
  obtain ⟨C, hC⟩ : ∃ C, prC x0 y0 x1 y1 = C := ⟨_, rfl⟩
  have CC : Hid (∀ w, Calls Try.prog 21 #[.agg #[.int .i64 x0, .int .i64 y0], .agg #[.int .i64 x1, .int .i64 y1]] w fun e w' => e = .returned (.int .i64 C) ∧ Below w.heap.size w w') := fun w => by have := codeOfPair_any x0 y0 x1 y1 w; rwa [hC] at this
  rw [hC]
  have hs20 : w.heap.size < w.heap.size + 1 + 1 := (by omega)
  by_cases hc : C = 0
  · subst hc
    obtain ⟨⟨p0, p1⟩, _⟩ := prC_ok hC
    have CR : Hid (∀ w, Calls Try.prog 27 #[.agg #[.int .i64 x0, .int .i64 y0], .agg #[.int .i64 x1, .int .i64 y1]] w fun e w' => e = .returned (.bool (redP (x0, y0) (x1, y1))) ∧ Below w.heap.size w w') := fun w => isReducedPair_any x0 y0 x1 y1 w (isPt_bm1 p0) (isPt_bm2 p0) (isPt_bm1 p1) (isPt_bm2 p1)
    clear hC p0 p1
    go_enter Try.func10, Try.ntmps10
    go_wp2_with (first | (go_at_call 21; refine (CC.out _).mono ?_; rintro e wn ⟨rfl, hb⟩; first | (have h2 := after_call2 hb hcl hfr hlt (by ((repeat' (first | (with_reducible exact Below.refl _ _) | (with_reducible refine Below.alloc ?_ ?_ _) | (with_reducible refine Below.setCell ?_ ?_ _) | (with_reducible refine Below.drew ?_) | (with_reducible refine below_drewN ?_ _) | (with_reducible assumption) | (with_reducible refine below_after (by with_reducible assumption) ?_) | go_size)); done)); obtain ⟨hclx, hfrx, hltx, hsz⟩ := after_call hb; (try simp only [World.size_alloc, World.size_setCell, World.size_drew] at hclx hfrx hltx hsz); (try (have hszl := Nat.lt_of_succ_le hsz)); obtain ⟨hcl, hfr, hlt⟩ := h2) | (obtain ⟨hcl, hfr, hlt, hsz⟩ := after_call hb; (try simp only [World.size_alloc, World.size_setCell, World.size_drew] at hcl hfr hlt hsz))) | (go_at_call 27; refine (CR.out _).mono ?_; rintro e wn ⟨rfl, hb⟩; first | (have h2 := after_call2 hb hcl hfr hlt (by ((repeat' (first | (with_reducible exact Below.refl _ _) | (with_reducible refine Below.alloc ?_ ?_ _) | (with_reducible refine Below.setCell ?_ ?_ _) | (with_reducible refine Below.drew ?_) | (with_reducible refine below_drewN ?_ _) | (with_reducible assumption) | (with_reducible refine below_after (by with_reducible assumption) ?_) | go_size)); done)); obtain ⟨hclx, hfrx, hltx, hsz⟩ := after_call hb; (try simp only [World.size_alloc, World.size_setCell, World.size_drew] at hclx hfrx hltx hsz); (try (have hszl := Nat.lt_of_succ_le hsz)); obtain ⟨hcl, hfr, hlt⟩ := h2) | (obtain ⟨hcl, hfr, hlt, hsz⟩ := after_call hb; (try simp only [World.size_alloc, World.size_setCell, World.size_drew] at hcl hfr hlt hsz))))
    go_ret2
    exact ⟨rfl, by (repeat' (first | (with_reducible exact Below.refl _ _) | (with_reducible refine Below.alloc ?_ ?_ _) | (with_reducible refine Below.setCell ?_ ?_ _) | (with_reducible refine Below.drew ?_) | (with_reducible refine below_drewN ?_ _) | (with_reducible assumption) | (with_reducible refine below_after (by with_reducible assumption) ?_) | go_size))⟩
  · rw [if_neg hc]
    clear hC
    go_enter Try.func10, Try.ntmps10
    go_wp2_with (first | (go_at_call 21; refine (CC.out _).mono ?_; rintro e wn ⟨rfl, hb⟩; first | (have h2 := after_call2 hb hcl hfr hlt (by ((repeat' (first | (with_reducible exact Below.refl _ _) | (with_reducible refine Below.alloc ?_ ?_ _) | (with_reducible refine Below.setCell ?_ ?_ _) | (with_reducible refine Below.drew ?_) | (with_reducible refine below_drewN ?_ _) | (with_reducible assumption) | (with_reducible refine below_after (by with_reducible assumption) ?_) | go_size)); done)); obtain ⟨hclx, hfrx, hltx, hsz⟩ := after_call hb; (try simp only [World.size_alloc, World.size_setCell, World.size_drew] at hclx hfrx hltx hsz); (try (have hszl := Nat.lt_of_succ_le hsz)); obtain ⟨hcl, hfr, hlt⟩ := h2) | (obtain ⟨hcl, hfr, hlt, hsz⟩ := after_call hb; (try simp only [World.size_alloc, World.size_setCell, World.size_drew] at hcl hfr hlt hsz))))
    go_ret2
    exact ⟨rfl, by (repeat' (first | (with_reducible exact Below.refl _ _) | (with_reducible refine Below.alloc ?_ ?_ _) | (with_reducible refine Below.setCell ?_ ?_ _) | (with_reducible refine Below.drew ?_) | (with_reducible refine below_drewN ?_ _) | (with_reducible assumption) | (with_reducible refine below_after (by with_reducible assumption) ?_) | go_size))⟩
theorem spec_IsReducedPair_any (x0 y0 x1 y1 : Int) (w : World) : Calls Try.prog 11 #[.agg #[.int .i64 x0, .int .i64 y0], .agg #[.int .i64 x1, .int .i64 y1]] w fun e w' => e = .returned (.tuple #[.bool (rpV x0 y0 x1 y1), .int .i64 (prC x0 y0 x1 y1)]) ∧ Below w.heap.size w w' := by
  unfold rpV
  obtain ⟨C, hC⟩ : ∃ C, prC x0 y0 x1 y1 = C := ⟨_, rfl⟩
  have CC : Hid (∀ w, Calls Try.prog 23 #[.agg #[.int .i64 x0, .int .i64 y0], .agg #[.int .i64 x1, .int .i64 y1]] w fun e w' => e = .returned (.int .i64 C) ∧ Below w.heap.size w w') := fun w => by have := l10Pair_any x0 y0 x1 y1 w; rwa [hC] at this
  rw [hC]
  have hs20 : w.heap.size < w.heap.size + 1 + 1 := (by omega)
  by_cases hc : C = 0
  · subst hc
    obtain ⟨⟨p0, p1⟩, _⟩ := prC_ok hC
    have CR : Hid (∀ w, Calls Try.prog 28 #[.agg #[.int .i64 x0, .int .i64 y0], .agg #[.int .i64 x1, .int .i64 y1]] w fun e w' => e = .returned (.bool (redP (x0, y0) (x1, y1))) ∧ Below w.heap.size w w') := fun w => l10Reduced_any x0 y0 x1 y1 w (isPt_bm1 p0) (isPt_bm2 p0) (isPt_bm1 p1) (isPt_bm2 p1)
    clear hC p0 p1
    go_enter Try.func11, Try.ntmps11
    go_wp2_with (first | (go_at_call 23; refine (CC.out _).mono ?_; rintro e wn ⟨rfl, hb⟩; first | (have h2 := after_call2 hb hcl hfr hlt (by ((repeat' (first | (with_reducible exact Below.refl _ _) | (with_reducible refine Below.alloc ?_ ?_ _) | (with_reducible refine Below.setCell ?_ ?_ _) | (with_reducible refine Below.drew ?_) | (with_reducible refine below_drewN ?_ _) | (with_reducible assumption) | (with_reducible refine below_after (by with_reducible assumption) ?_) | go_size)); done)); obtain ⟨hclx, hfrx, hltx, hsz⟩ := after_call hb; (try simp only [World.size_alloc, World.size_setCell, World.size_drew] at hclx hfrx hltx hsz); (try (have hszl := Nat.lt_of_succ_le hsz)); obtain ⟨hcl, hfr, hlt⟩ := h2) | (obtain ⟨hcl, hfr, hlt, hsz⟩ := after_call hb; (try simp only [World.size_alloc, World.size_setCell, World.size_drew] at hcl hfr hlt hsz))) | (go_at_call 28; refine (CR.out _).mono ?_; rintro e wn ⟨rfl, hb⟩; first | (have h2 := after_call2 hb hcl hfr hlt (by ((repeat' (first | (with_reducible exact Below.refl _ _) | (with_reducible refine Below.alloc ?_ ?_ _) | (with_reducible refine Below.setCell ?_ ?_ _) | (with_reducible refine Below.drew ?_) | (with_reducible refine below_drewN ?_ _) | (with_reducible assumption) | (with_reducible refine below_after (by with_reducible assumption) ?_) | go_size)); done)); obtain ⟨hclx, hfrx, hltx, hsz⟩ := after_call hb; (try simp only [World.size_alloc, World.size_setCell, World.size_drew] at hclx hfrx hltx hsz); (try (have hszl := Nat.lt_of_succ_le hsz)); obtain ⟨hcl, hfr, hlt⟩ := h2) | (obtain ⟨hcl, hfr, hlt, hsz⟩ := after_call hb; (try simp only [World.size_alloc, World.size_setCell, World.size_drew] at hcl hfr hlt hsz))))
    go_ret2
    exact ⟨rfl, by (repeat' (first | (with_reducible exact Below.refl _ _) | (with_reducible refine Below.alloc ?_ ?_ _) | (with_reducible refine Below.setCell ?_ ?_ _) | (with_reducible refine Below.drew ?_) | (with_reducible refine below_drewN ?_ _) | (with_reducible assumption) | (with_reducible refine below_after (by with_reducible assumption) ?_) | go_size))⟩
  · rw [if_neg hc]
    clear hC
    go_enter Try.func11, Try.ntmps11
    go_wp2_with (first | (go_at_call 23; refine (CC.out _).mono ?_; rintro e wn ⟨rfl, hb⟩; first | (have h2 := after_call2 hb hcl hfr hlt (by ((repeat' (first | (with_reducible exact Below.refl _ _) | (with_reducible refine Below.alloc ?_ ?_ _) | (with_reducible refine Below.setCell ?_ ?_ _) | (with_reducible refine Below.drew ?_) | (with_reducible refine below_drewN ?_ _) | (with_reducible assumption) | (with_reducible refine below_after (by with_reducible assumption) ?_) | go_size)); done)); obtain ⟨hclx, hfrx, hltx, hsz⟩ := after_call hb; (try simp only [World.size_alloc, World.size_setCell, World.size_drew] at hclx hfrx hltx hsz); (try (have hszl := Nat.lt_of_succ_le hsz)); obtain ⟨hcl, hfr, hlt⟩ := h2) | (obtain ⟨hcl, hfr, hlt, hsz⟩ := after_call hb; (try simp only [World.size_alloc, World.size_setCell, World.size_drew] at hcl hfr hlt hsz))))
    go_ret2
    exact ⟨rfl, by (repeat' (first | (with_reducible exact Below.refl _ _) | (with_reducible refine Below.alloc ?_ ?_ _) | (with_reducible refine Below.setCell ?_ ?_ _) | (with_reducible refine Below.drew ?_) | (with_reducible refine below_drewN ?_ _) | (with_reducible assumption) | (with_reducible refine below_after (by with_reducible assumption) ?_) | go_size))⟩
end Go.Proofs.Ytadikmjdmddkjaa
