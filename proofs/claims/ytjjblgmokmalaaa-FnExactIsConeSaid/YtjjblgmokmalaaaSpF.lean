/-
  Tetrahedra and distances in the model (own work).
-/
import Derived.Test.YtjjblgmokmalaaaSpD
namespace Go.Proofs.Ytjjblgmokmalaaa
open Go.ChangeShapes Go.WideShapes Go.ChangeAt Go.RowKit
set_option linter.unusedVariables false
set_option linter.unusedSimpArgs false
set_option maxRecDepth 100000

theorem isTe_parts {t0 t1 t2 t3 t4 t5 t6 t7 t8 t9 t10 t11 : Int} (h : isTe t0 t1 t2 t3 t4 t5 t6 t7 t8 t9 t10 t11 = true) : W3 20 t0 t1 t2 ∧ W3 20 t3 t4 t5 ∧ W3 20 t6 t7 t8 ∧ W3 20 t9 t10 t11 ∧ voV t0 t1 t2 t3 t4 t5 t6 t7 t8 t9 t10 t11 ≠ 0 := by
  simp only [isTe, Bool.and_eq_true, Bool.not_eq_true', beq_eq_false_iff_ne] at h
  exact ⟨isSp_W3 h.1.1.1.1, isSp_W3 h.1.1.1.2, isSp_W3 h.1.1.2, isSp_W3 h.1.2, h.2⟩
/-- What the distance is made of: the plane's cross product, and its product with the spot. -/
def dcX (a0 a1 a2 b0 b1 b2 c0 c1 c2 : Int) : Int := crX (b0 - a0) (b1 - a1) (b2 - a2) (c0 - a0) (c1 - a1) (c2 - a2)
def dcY (a0 a1 a2 b0 b1 b2 c0 c1 c2 : Int) : Int := crY (b0 - a0) (b1 - a1) (b2 - a2) (c0 - a0) (c1 - a1) (c2 - a2)
def dcZ (a0 a1 a2 b0 b1 b2 c0 c1 c2 : Int) : Int := crZ (b0 - a0) (b1 - a1) (b2 - a2) (c0 - a0) (c1 - a1) (c2 - a2)
def dis (X Y Z d0 d1 d2 : Int) : Int := absI ((dotV X Y Z d0 d1 d2).tdiv (lenV X Y Z))
def diO (a0 a1 a2 b0 b1 b2 c0 c1 c2 d0 d1 d2 : Int) : Bool := isSp a0 a1 a2 && isSp b0 b1 b2 && isSp c0 c1 c2 && isSp d0 d1 d2
def z3 (X Y Z : Int) : Bool := (X == 0 && Y == 0) && Z == 0
def diK (a0 a1 a2 b0 b1 b2 c0 c1 c2 d0 d1 d2 : Int) : Int := bif diO a0 a1 a2 b0 b1 b2 c0 c1 c2 d0 d1 d2 then (bif z3 (dcX a0 a1 a2 b0 b1 b2 c0 c1 c2) (dcY a0 a1 a2 b0 b1 b2 c0 c1 c2) (dcZ a0 a1 a2 b0 b1 b2 c0 c1 c2) then 5 else 0) else 1
def diV (a0 a1 a2 b0 b1 b2 c0 c1 c2 d0 d1 d2 : Int) : Int := bif diO a0 a1 a2 b0 b1 b2 c0 c1 c2 d0 d1 d2 then (bif z3 (dcX a0 a1 a2 b0 b1 b2 c0 c1 c2) (dcY a0 a1 a2 b0 b1 b2 c0 c1 c2) (dcZ a0 a1 a2 b0 b1 b2 c0 c1 c2) then 0 else dis (dcX a0 a1 a2 b0 b1 b2 c0 c1 c2) (dcY a0 a1 a2 b0 b1 b2 c0 c1 c2) (dcZ a0 a1 a2 b0 b1 b2 c0 c1 c2) (d0 - a0) (d1 - a1) (d2 - a2)) else 0
theorem lenV_pos {X Y Z : Int} (h : z3 X Y Z = false) : 0 < lenV X Y Z := by
  have h0 : 0 ≤ lenV X Y Z := Int.natCast_nonneg _
  rcases Int.lt_or_eq_of_le h0 with h1 | h1
  · exact h1
  · exfalso
    have h2 : Int.gcd (gcdI X Y) Z = 0 := by unfold lenV gcdI at h1; unfold gcdI; omega
    rw [Int.gcd_eq_zero_iff] at h2
    have h3 : Int.gcd X Y = 0 := by have := h2.1; unfold gcdI at this; omega
    rw [Int.gcd_eq_zero_iff] at h3
    simp [z3, h2.2, h3.1, h3.2] at h
theorem tdiv_wi {k n l : Int} (h : Wi k n) (hl : 0 < l) : Wi k (n.tdiv l) := by
  have h1 : (n.tdiv l).natAbs = n.natAbs / l.natAbs := Int.natAbs_tdiv n l
  have h2 := Nat.div_le_self n.natAbs l.natAbs
  unfold Wi at *
  omega
set_option maxHeartbeats 800000 in
theorem l08Volume_any (t0 t1 t2 t3 t4 t5 t6 t7 t8 t9 t10 t11 : Int) (w : World) (h0 : W3 20 t0 t1 t2) (h1 : W3 20 t3 t4 t5) (h2 : W3 20 t6 t7 t8) (h3 : W3 20 t9 t10 t11) :
    Calls Try.prog 26 #[.agg #[.int .i64 t0, .int .i64 t1, .int .i64 t2, .int .i64 t3, .int .i64 t4, .int .i64 t5, .int .i64 t6, .int .i64 t7, .int .i64 t8, .int .i64 t9, .int .i64 t10, .int .i64 t11]] w fun e w' => e = .returned (.int .i64 (voV t0 t1 t2 t3 t4 t5 t6 t7 t8 t9 t10 t11)) ∧ Below w.heap.size w w' := by
  have HU0 : Hid (W3 100000000000 t0 t1 t2) := h0.up (by omega)
  have HU1 : Hid (W3 100000000000 t3 t4 t5) := h1.up (by omega)
  have HU2 : Hid (W3 100000000000 t6 t7 t8) := h2.up (by omega)
  have HU3 : Hid (W3 100000000000 t9 t10 t11) := h3.up (by omega)
  have HE0 : Hid (W3 100000 (t3 - t0) (t4 - t1) (t5 - t2)) := (h1.sub h0).up (by omega)
  have HE1 : Hid (W3 100000 (t6 - t0) (t7 - t1) (t8 - t2)) := (h2.sub h0).up (by omega)
  have HE2 : Hid (W3 100000 (t9 - t0) (t10 - t1) (t11 - t2)) := (h3.sub h0).up (by omega)
  have HD : Hid (Wi 1000000000000000000 (detV (t3 - t0) (t4 - t1) (t5 - t2) (t6 - t0) (t7 - t1) (t8 - t2) (t9 - t0) (t10 - t1) (t11 - t2))) := ((h1.sub h0).det (h2.sub h0) (h3.sub h0)).up (by omega)
  clear h0 h1 h2 h3
  unfold voV
  obtain ⟨GT, hG⟩ : ∃ G, w.heap.size = G := ⟨_, rfl⟩
  have HG := Lib.hid hG
  go_enter Try.func26, Try.ntmps26
  go_upto_region 1 with fail
  obtain ⟨w0, hw0⟩ : ∃ w0, w0 = (w.alloc (.cells #[.int .i64 t0, .int .i64 t1, .int .i64 t2, .int .i64 t3, .int .i64 t4, .int .i64 t5, .int .i64 t6, .int .i64 t7, .int .i64 t8, .int .i64 t9, .int .i64 t10, .int .i64 t11] 36)) := ⟨_, rfl⟩
  rw [← hw0]
  have HT : Hid (Bk12 w0 GT t0 t1 t2 t3 t4 t5 t6 t7 t8 t9 t10 t11) := by
    have h := (bk12_new w t0 t1 t2 t3 t4 t5 t6 t7 t8 t9 t10 t11 36).below (W' := (w.alloc (.cells #[.int .i64 t0, .int .i64 t1, .int .i64 t2, .int .i64 t3, .int .i64 t4, .int .i64 t5, .int .i64 t6, .int .i64 t7, .int .i64 t8, .int .i64 t9, .int .i64 t10, .int .i64 t11] 36))) (by (repeat' (first | (with_reducible exact Below.refl _ _) | (with_reducible refine Below.alloc ?_ ?_ _) | (with_reducible refine Below.setCell ?_ ?_ _) | (with_reducible refine Below.drew ?_) | (with_reducible refine below_drewN ?_ _) | (with_reducible assumption) | (with_reducible refine below_after (by with_reducible assumption) ?_) | go_size)))
    (try simp only [World.size_alloc] at h)
    rw [hG] at h
    rw [hw0]; exact h
  have HB : Hid (Below w.heap.size w w0) := by show Below w.heap.size w w0; rw [hw0]; (repeat' (first | (with_reducible exact Below.refl _ _) | (with_reducible refine Below.alloc ?_ ?_ _) | (with_reducible refine Below.setCell ?_ ?_ _) | (with_reducible refine Below.drew ?_) | (with_reducible refine below_drewN ?_ _) | (with_reducible assumption) | (with_reducible refine below_after (by with_reducible assumption) ?_) | go_size))
  clear hw0
  have le_T : w.heap.size ≤ GT := by omega
  have HXX : Hid (∀ W, Below w0.heap.size w0 W → Bk12 W GT t0 t1 t2 t3 t4 t5 t6 t7 t8 t9 t10 t11) := fun W hW => HT.out.below hW
  go_wp2_with fail
  refine wp_region_held_drew (S := fun W => Below w0.heap.size w0 W) (by kernel_rfl) ?_ (fun hHeld => ?_); focus ((try dsimp only); exact (Below.refl _ _).drew)
  have HT := Lib.hid (HT.out.below (Below.drew (Below.refl _ _)))
  have hHeld : Below w0.heap.size w0 _ := hHeld
  obtain ⟨wD0, hwD0⟩ : ∃ wD, w0.drew = wD := ⟨_, rfl⟩
  rw [hwD0] at hHeld HT ⊢
  clear hwD0
  (refine wpAnyH_take (i := 0) (v := ?_) rfl (by kernel_rfl) (by kernel_rfl) (by kernel_rfl) (fun _ _ _ h => h) (Or.inl ⟨rfl, ?_⟩) (by assumption) ?_; rotate_left; focus (intro W hSw; (try dsimp only at hSw); have hxx := HXX.out _ hSw; have hxT := hxx; obtain ⟨⟨iT0, iT1, iT2, iT3, iT4, iT5, iT6, iT7, iT8, iT9, iT10, iT11⟩, _, _⟩ := hxT; go_simp; try (with_reducible rfl))); (try simp only [Act.put, List.getElem_toArray, List.getElem_cons_succ, List.getElem_cons_zero, List.setIfInBounds_toArray, List.set_cons_zero, List.set_cons_succ])
  (refine wpAnyH_take (i := 1) (v := ?_) rfl (by kernel_rfl) (by kernel_rfl) (by kernel_rfl) (fun _ _ _ h => h) (Or.inl ⟨rfl, ?_⟩) (by assumption) ?_; rotate_left; focus (intro W hSw; (try dsimp only at hSw); have hxx := HXX.out _ hSw; have hxT := hxx; obtain ⟨⟨iT0, iT1, iT2, iT3, iT4, iT5, iT6, iT7, iT8, iT9, iT10, iT11⟩, _, _⟩ := hxT; go_simp; try (with_reducible rfl))); (try simp only [Act.put, List.getElem_toArray, List.getElem_cons_succ, List.getElem_cons_zero, List.setIfInBounds_toArray, List.set_cons_zero, List.set_cons_succ])
  (refine wpAnyH_take (i := 2) (v := ?_) rfl (by kernel_rfl) (by kernel_rfl) (by kernel_rfl) (fun _ _ _ h => h) (Or.inl ⟨rfl, ?_⟩) (by assumption) ?_; rotate_left; focus (intro W hSw; (try dsimp only at hSw); have hxx := HXX.out _ hSw; have hxT := hxx; obtain ⟨⟨iT0, iT1, iT2, iT3, iT4, iT5, iT6, iT7, iT8, iT9, iT10, iT11⟩, _, _⟩ := hxT; go_simp; try (with_reducible rfl))); (try simp only [Act.put, List.getElem_toArray, List.getElem_cons_succ, List.getElem_cons_zero, List.setIfInBounds_toArray, List.set_cons_zero, List.set_cons_succ])
  (refine wpAnyH_take (i := 3) (v := ?_) rfl (by kernel_rfl) (by kernel_rfl) (by kernel_rfl) (fun _ _ _ h => h) (Or.inl ⟨rfl, ?_⟩) (by assumption) ?_; rotate_left; focus (intro W hSw; (try dsimp only at hSw); have hxx := HXX.out _ hSw; have hxT := hxx; obtain ⟨⟨iT0, iT1, iT2, iT3, iT4, iT5, iT6, iT7, iT8, iT9, iT10, iT11⟩, _, _⟩ := hxT; go_simp; try (with_reducible rfl))); (try simp only [Act.put, List.getElem_toArray, List.getElem_cons_succ, List.getElem_cons_zero, List.setIfInBounds_toArray, List.set_cons_zero, List.set_cons_succ])
  (refine wpAnyH_take (i := 5) (v := ?_) rfl (by kernel_rfl) (by kernel_rfl) (by kernel_rfl) (fun _ _ _ h => h) (Or.inl ⟨rfl, ?_⟩) (by assumption) ?_; rotate_left; focus (intro W hSw; (try dsimp only at hSw); have hxx := HXX.out _ hSw; have hxT := hxx; obtain ⟨⟨iT0, iT1, iT2, iT3, iT4, iT5, iT6, iT7, iT8, iT9, iT10, iT11⟩, _, _⟩ := hxT; go_simp; try (with_reducible rfl))); (try simp only [Act.put, List.getElem_toArray, List.getElem_cons_succ, List.getElem_cons_zero, List.setIfInBounds_toArray, List.set_cons_zero, List.set_cons_succ])
  (refine wpAnyH_take (i := 6) (v := ?_) rfl (by kernel_rfl) (by kernel_rfl) (by kernel_rfl) (fun _ _ _ h => h) (Or.inl ⟨rfl, ?_⟩) (by assumption) ?_; rotate_left; focus (intro W hSw; (try dsimp only at hSw); have hxx := HXX.out _ hSw; have hxT := hxx; obtain ⟨⟨iT0, iT1, iT2, iT3, iT4, iT5, iT6, iT7, iT8, iT9, iT10, iT11⟩, _, _⟩ := hxT; go_simp; try (with_reducible rfl))); (try simp only [Act.put, List.getElem_toArray, List.getElem_cons_succ, List.getElem_cons_zero, List.setIfInBounds_toArray, List.set_cons_zero, List.set_cons_succ])
  (refine wpAnyH_take (i := 7) (v := ?_) rfl (by kernel_rfl) (by kernel_rfl) (by kernel_rfl) (fun _ _ _ h => h) (Or.inl ⟨rfl, ?_⟩) (by assumption) ?_; rotate_left; focus (intro W hSw; (try dsimp only at hSw); have hxx := HXX.out _ hSw; have hxT := hxx; obtain ⟨⟨iT0, iT1, iT2, iT3, iT4, iT5, iT6, iT7, iT8, iT9, iT10, iT11⟩, _, _⟩ := hxT; go_simp; try (with_reducible rfl))); (try simp only [Act.put, List.getElem_toArray, List.getElem_cons_succ, List.getElem_cons_zero, List.setIfInBounds_toArray, List.set_cons_zero, List.set_cons_succ])
  (refine wpAnyH_take (i := 8) (v := ?_) rfl (by kernel_rfl) (by kernel_rfl) (by kernel_rfl) (fun _ _ _ h => h) (Or.inl ⟨rfl, ?_⟩) (by assumption) ?_; rotate_left; focus (intro W hSw; (try dsimp only at hSw); have hxx := HXX.out _ hSw; have hxT := hxx; obtain ⟨⟨iT0, iT1, iT2, iT3, iT4, iT5, iT6, iT7, iT8, iT9, iT10, iT11⟩, _, _⟩ := hxT; go_simp; try (with_reducible rfl))); (try simp only [Act.put, List.getElem_toArray, List.getElem_cons_succ, List.getElem_cons_zero, List.setIfInBounds_toArray, List.set_cons_zero, List.set_cons_succ])
  (refine wpAnyH_take (i := 10) (v := ?_) rfl (by kernel_rfl) (by kernel_rfl) (by kernel_rfl) (fun _ _ _ h => h) (Or.inl ⟨rfl, ?_⟩) (by assumption) ?_; rotate_left; focus (intro W hSw; (try dsimp only at hSw); have hxx := HXX.out _ hSw; have hxT := hxx; obtain ⟨⟨iT0, iT1, iT2, iT3, iT4, iT5, iT6, iT7, iT8, iT9, iT10, iT11⟩, _, _⟩ := hxT; go_simp; try (with_reducible rfl))); (try simp only [Act.put, List.getElem_toArray, List.getElem_cons_succ, List.getElem_cons_zero, List.setIfInBounds_toArray, List.set_cons_zero, List.set_cons_succ])
  (refine wpAnyH_take (i := 11) (v := ?_) rfl (by kernel_rfl) (by kernel_rfl) (by kernel_rfl) (fun _ _ _ h => h) (Or.inl ⟨rfl, ?_⟩) (by assumption) ?_; rotate_left; focus (intro W hSw; (try dsimp only at hSw); have hxx := HXX.out _ hSw; have hxT := hxx; obtain ⟨⟨iT0, iT1, iT2, iT3, iT4, iT5, iT6, iT7, iT8, iT9, iT10, iT11⟩, _, _⟩ := hxT; go_simp; try (with_reducible rfl))); (try simp only [Act.put, List.getElem_toArray, List.getElem_cons_succ, List.getElem_cons_zero, List.setIfInBounds_toArray, List.set_cons_zero, List.set_cons_succ])
  (refine wpAnyH_take (i := 12) (v := ?_) rfl (by kernel_rfl) (by kernel_rfl) (by kernel_rfl) (fun _ _ _ h => h) (Or.inl ⟨rfl, ?_⟩) (by assumption) ?_; rotate_left; focus (intro W hSw; (try dsimp only at hSw); have hxx := HXX.out _ hSw; have hxT := hxx; obtain ⟨⟨iT0, iT1, iT2, iT3, iT4, iT5, iT6, iT7, iT8, iT9, iT10, iT11⟩, _, _⟩ := hxT; go_simp; try (with_reducible rfl))); (try simp only [Act.put, List.getElem_toArray, List.getElem_cons_succ, List.getElem_cons_zero, List.setIfInBounds_toArray, List.set_cons_zero, List.set_cons_succ])
  (refine wpAnyH_take (i := 13) (v := ?_) rfl (by kernel_rfl) (by kernel_rfl) (by kernel_rfl) (fun _ _ _ h => h) (Or.inl ⟨rfl, ?_⟩) (by assumption) ?_; rotate_left; focus (intro W hSw; (try dsimp only at hSw); have hxx := HXX.out _ hSw; have hxT := hxx; obtain ⟨⟨iT0, iT1, iT2, iT3, iT4, iT5, iT6, iT7, iT8, iT9, iT10, iT11⟩, _, _⟩ := hxT; go_simp; try (with_reducible rfl))); (try simp only [Act.put, List.getElem_toArray, List.getElem_cons_succ, List.getElem_cons_zero, List.setIfInBounds_toArray, List.set_cons_zero, List.set_cons_succ])
  refine wpAnyH_ready (rs := [4]) (by kernel_rfl) (by simp) ?_; refine AllReadyH.cons rfl (fun K hK => ?_) AllReadyH.nil
  go_simp; (go_at_call 30; refine (l08Plus_minus _ _ _ _ _ _ _ HU1.out HU0.out).mono ?_; rintro en ywr0x0 ⟨rfl, hb2⟩); have HT := Lib.hid (HT.out.below hb2); refine hK.out _ _ (below_after hb2 hHeld) (fun hHeld2 => ?_); clear hb2; (clear hHeld; rename _ => hHeld; clear hK K; have hHeld : Below w0.heap.size w0 _ := hHeld); (try simp only [Act.put, List.getElem_toArray, List.getElem_cons_succ, List.getElem_cons_zero, List.setIfInBounds_toArray, List.set_cons_zero, List.set_cons_succ])
  refine wpAnyH_ready (rs := [9]) (by kernel_rfl) (by simp) ?_; refine AllReadyH.cons rfl (fun K hK => ?_) AllReadyH.nil
  go_simp; (go_at_call 30; refine (l08Plus_minus _ _ _ _ _ _ _ HU2.out HU0.out).mono ?_; rintro en ywr0x1 ⟨rfl, hb2⟩); have HT := Lib.hid (HT.out.below hb2); refine hK.out _ _ (below_after hb2 hHeld) (fun hHeld2 => ?_); clear hb2; (clear hHeld; rename _ => hHeld; clear hK K; have hHeld : Below w0.heap.size w0 _ := hHeld); (try simp only [Act.put, List.getElem_toArray, List.getElem_cons_succ, List.getElem_cons_zero, List.setIfInBounds_toArray, List.set_cons_zero, List.set_cons_succ])
  refine wpAnyH_ready (rs := [14]) (by kernel_rfl) (by simp) ?_; refine AllReadyH.cons rfl (fun K hK => ?_) AllReadyH.nil
  go_simp; (go_at_call 30; refine (l08Plus_minus _ _ _ _ _ _ _ HU3.out HU0.out).mono ?_; rintro en ywr0x2 ⟨rfl, hb2⟩); have HT := Lib.hid (HT.out.below hb2); refine hK.out _ _ (below_after hb2 hHeld) (fun hHeld2 => ?_); clear hb2; (clear hHeld; rename _ => hHeld; clear hK K; have hHeld : Below w0.heap.size w0 _ := hHeld); (try simp only [Act.put, List.getElem_toArray, List.getElem_cons_succ, List.getElem_cons_zero, List.setIfInBounds_toArray, List.set_cons_zero, List.set_cons_succ])
  refine wpAnyH_ready (rs := [15]) (by kernel_rfl) (by simp) ?_; refine AllReadyH.cons rfl (fun K hK => ?_) AllReadyH.nil
  go_simp; (go_at_call 29; refine (l08Det_any _ _ _ _ _ _ _ _ _ _ HE0.out HE1.out HE2.out).mono ?_; rintro en ywr0x3 ⟨rfl, hb2⟩); have HT := Lib.hid (HT.out.below hb2); refine hK.out _ _ (below_after hb2 hHeld) (fun hHeld2 => ?_); clear hb2; (clear hHeld; rename _ => hHeld; clear hK K; have hHeld : Below w0.heap.size w0 _ := hHeld); (try simp only [Act.put, List.getElem_toArray, List.getElem_cons_succ, List.getElem_cons_zero, List.setIfInBounds_toArray, List.set_cons_zero, List.set_cons_succ])
  (refine wpAnyH_take (i := 16) (v := ?_) rfl (by kernel_rfl) (by kernel_rfl) (by kernel_rfl) (fun _ _ _ h => h) (Or.inl ⟨rfl, ?_⟩) (by assumption) ?_; rotate_left; focus (intro W hSw; (try dsimp only at hSw); have hxx := HXX.out _ hSw; have hxT := hxx; obtain ⟨⟨iT0, iT1, iT2, iT3, iT4, iT5, iT6, iT7, iT8, iT9, iT10, iT11⟩, _, _⟩ := hxT; go_simp; try (with_reducible rfl))); (try simp only [Act.put, List.getElem_toArray, List.getElem_cons_succ, List.getElem_cons_zero, List.setIfInBounds_toArray, List.set_cons_zero, List.set_cons_succ])
  refine wpAnyH_done (by kernel_rfl) ?_ _
  have HB := Lib.hid (HB.out.trans (hHeld.mono HB.out.size))
  clear hHeld HXX
  generalize hD : detV (t3 - t0) (t4 - t1) (t5 - t2) (t6 - t0) (t7 - t1) (t8 - t2) (t9 - t0) (t10 - t1) (t11 - t2) = D at *
  obtain ⟨⟨qT0, qT1, qT2, qT3, qT4, qT5, qT6, qT7, qT8, qT9, qT10, qT11⟩, ⟨fT0, fT1, fT2, fT3, fT4, fT5, fT6, fT7, fT8, fT9, fT10, fT11⟩, zT⟩ := HT.out
  have hd := HD.out
  unfold Wi at hd
  clear HD
  go_wp2_with fail
  all_goals
    go_ret
    have hb := HB.out
    have hb2 := HB.out
    rw [hG] at hb2
    exact ⟨ret_int (by unfold absI; omega), by (repeat' (first | (with_reducible exact Below.refl _ _) | (with_reducible refine Below.alloc ?_ ?_ _) | (with_reducible refine Below.setCell ?_ ?_ _) | (with_reducible refine Below.drew ?_) | (with_reducible refine below_drewN ?_ _) | (with_reducible assumption) | (with_reducible refine below_after (by with_reducible assumption) ?_) | go_size))⟩
set_option maxHeartbeats 1600000 in
theorem l08Tetra_any (t0 t1 t2 t3 t4 t5 t6 t7 t8 t9 t10 t11 : Int) (w : World) :
    Calls Try.prog 19 #[.agg #[.int .i64 t0, .int .i64 t1, .int .i64 t2, .int .i64 t3, .int .i64 t4, .int .i64 t5, .int .i64 t6, .int .i64 t7, .int .i64 t8, .int .i64 t9, .int .i64 t10, .int .i64 t11]] w fun e w' => e = .returned (.bool (isTe t0 t1 t2 t3 t4 t5 t6 t7 t8 t9 t10 t11)) ∧ Below w.heap.size w w' := by
  cases k0 : isSp t0 t1 t2
  · skip
    have HK0 := Lib.hid k0
    have HS0 : Hid (∀ w, Calls Try.prog 15 #[.agg #[.int .i64 t0, .int .i64 t1, .int .i64 t2]] w fun e w' => e = .returned (.bool false) ∧ Below w.heap.size w w') := fun w => by have := l08Spot_any t0 t1 t2 w; rwa [k0] at this
    clear k0
    obtain ⟨GT, hG⟩ : ∃ G, w.heap.size = G := ⟨_, rfl⟩
    have HG := Lib.hid hG
    go_enter Try.func19, Try.ntmps19
    go_upto_region 1 with fail
    obtain ⟨w0, hw0⟩ : ∃ w0, w0 = (w.alloc (.cells #[.int .i64 t0, .int .i64 t1, .int .i64 t2, .int .i64 t3, .int .i64 t4, .int .i64 t5, .int .i64 t6, .int .i64 t7, .int .i64 t8, .int .i64 t9, .int .i64 t10, .int .i64 t11] 36)) := ⟨_, rfl⟩
    rw [← hw0]
    have HT : Hid (Bk12 w0 GT t0 t1 t2 t3 t4 t5 t6 t7 t8 t9 t10 t11) := by
      have h := (bk12_new w t0 t1 t2 t3 t4 t5 t6 t7 t8 t9 t10 t11 36).below (W' := (w.alloc (.cells #[.int .i64 t0, .int .i64 t1, .int .i64 t2, .int .i64 t3, .int .i64 t4, .int .i64 t5, .int .i64 t6, .int .i64 t7, .int .i64 t8, .int .i64 t9, .int .i64 t10, .int .i64 t11] 36))) (by (repeat' (first | (with_reducible exact Below.refl _ _) | (with_reducible refine Below.alloc ?_ ?_ _) | (with_reducible refine Below.setCell ?_ ?_ _) | (with_reducible refine Below.drew ?_) | (with_reducible refine below_drewN ?_ _) | (with_reducible assumption) | (with_reducible refine below_after (by with_reducible assumption) ?_) | go_size)))
      (try simp only [World.size_alloc] at h)
      rw [hG] at h
      rw [hw0]; exact h
    have HB : Hid (Below w.heap.size w w0) := by show Below w.heap.size w w0; rw [hw0]; (repeat' (first | (with_reducible exact Below.refl _ _) | (with_reducible refine Below.alloc ?_ ?_ _) | (with_reducible refine Below.setCell ?_ ?_ _) | (with_reducible refine Below.drew ?_) | (with_reducible refine below_drewN ?_ _) | (with_reducible assumption) | (with_reducible refine below_after (by with_reducible assumption) ?_) | go_size))
    clear hw0
    have le_T : w.heap.size ≤ GT := by omega
    obtain ⟨⟨qT0, qT1, qT2, qT3, qT4, qT5, qT6, qT7, qT8, qT9, qT10, qT11⟩, ⟨fT0, fT1, fT2, fT3, fT4, fT5, fT6, fT7, fT8, fT9, fT10, fT11⟩, zT⟩ := HT.out
    go_wp2_with fail
    refine wp_loop_rounds 5 ?_
    clear qT0 fT0 qT1 fT1 qT2 fT2 qT3 fT3 qT4 fT4 qT5 fT5 qT6 fT6 qT7 fT7 qT8 fT8 qT9 fT9 qT10 fT10 qT11 fT11 zT
    rw [rounds_succ]
    obtain ⟨⟨qT0, qT1, qT2, qT3, qT4, qT5, qT6, qT7, qT8, qT9, qT10, qT11⟩, ⟨fT0, fT1, fT2, fT3, fT4, fT5, fT6, fT7, fT8, fT9, fT10, fT11⟩, zT⟩ := HT.out
    go_wp2_with fail
    go_at_call 15
    refine (HS0.out _).mono ?_
    rintro e w1 ⟨rfl, hb⟩
    clear qT0 fT0 qT1 fT1 qT2 fT2 qT3 fT3 qT4 fT4 qT5 fT5 qT6 fT6 qT7 fT7 qT8 fT8 qT9 fT9 qT10 fT10 qT11 fT11 zT
    have HT := Lib.hid (HT.out.below hb)
    have HB := Lib.hid (below_after hb HB.out)
    clear hb
    obtain ⟨⟨qT0, qT1, qT2, qT3, qT4, qT5, qT6, qT7, qT8, qT9, qT10, qT11⟩, ⟨fT0, fT1, fT2, fT3, fT4, fT5, fT6, fT7, fT8, fT9, fT10, fT11⟩, zT⟩ := HT.out
    go_wp2_with fail
    refine bodyPost_ret (v := .bool false) (by simp (maxDischargeDepth := 8) [results, Try.results19, go_sem, *]) rfl ?_
    have hb := HB.out
    exact ⟨by simp [isTe, HK0.out], by (repeat' (first | (with_reducible exact Below.refl _ _) | (with_reducible refine Below.alloc ?_ ?_ _) | (with_reducible refine Below.setCell ?_ ?_ _) | (with_reducible refine Below.drew ?_) | (with_reducible refine below_drewN ?_ _) | (with_reducible assumption) | (with_reducible refine below_after (by with_reducible assumption) ?_) | go_size))⟩
  · skip
    have HK0 := Lib.hid k0
    have HS0 : Hid (∀ w, Calls Try.prog 15 #[.agg #[.int .i64 t0, .int .i64 t1, .int .i64 t2]] w fun e w' => e = .returned (.bool true) ∧ Below w.heap.size w w') := fun w => by have := l08Spot_any t0 t1 t2 w; rwa [k0] at this
    clear k0
    cases k1 : isSp t3 t4 t5
    · skip
      have HK1 := Lib.hid k1
      have HS1 : Hid (∀ w, Calls Try.prog 15 #[.agg #[.int .i64 t3, .int .i64 t4, .int .i64 t5]] w fun e w' => e = .returned (.bool false) ∧ Below w.heap.size w w') := fun w => by have := l08Spot_any t3 t4 t5 w; rwa [k1] at this
      clear k1
      obtain ⟨GT, hG⟩ : ∃ G, w.heap.size = G := ⟨_, rfl⟩
      have HG := Lib.hid hG
      go_enter Try.func19, Try.ntmps19
      go_upto_region 1 with fail
      obtain ⟨w0, hw0⟩ : ∃ w0, w0 = (w.alloc (.cells #[.int .i64 t0, .int .i64 t1, .int .i64 t2, .int .i64 t3, .int .i64 t4, .int .i64 t5, .int .i64 t6, .int .i64 t7, .int .i64 t8, .int .i64 t9, .int .i64 t10, .int .i64 t11] 36)) := ⟨_, rfl⟩
      rw [← hw0]
      have HT : Hid (Bk12 w0 GT t0 t1 t2 t3 t4 t5 t6 t7 t8 t9 t10 t11) := by
        have h := (bk12_new w t0 t1 t2 t3 t4 t5 t6 t7 t8 t9 t10 t11 36).below (W' := (w.alloc (.cells #[.int .i64 t0, .int .i64 t1, .int .i64 t2, .int .i64 t3, .int .i64 t4, .int .i64 t5, .int .i64 t6, .int .i64 t7, .int .i64 t8, .int .i64 t9, .int .i64 t10, .int .i64 t11] 36))) (by (repeat' (first | (with_reducible exact Below.refl _ _) | (with_reducible refine Below.alloc ?_ ?_ _) | (with_reducible refine Below.setCell ?_ ?_ _) | (with_reducible refine Below.drew ?_) | (with_reducible refine below_drewN ?_ _) | (with_reducible assumption) | (with_reducible refine below_after (by with_reducible assumption) ?_) | go_size)))
        (try simp only [World.size_alloc] at h)
        rw [hG] at h
        rw [hw0]; exact h
      have HB : Hid (Below w.heap.size w w0) := by show Below w.heap.size w w0; rw [hw0]; (repeat' (first | (with_reducible exact Below.refl _ _) | (with_reducible refine Below.alloc ?_ ?_ _) | (with_reducible refine Below.setCell ?_ ?_ _) | (with_reducible refine Below.drew ?_) | (with_reducible refine below_drewN ?_ _) | (with_reducible assumption) | (with_reducible refine below_after (by with_reducible assumption) ?_) | go_size))
      clear hw0
      have le_T : w.heap.size ≤ GT := by omega
      obtain ⟨⟨qT0, qT1, qT2, qT3, qT4, qT5, qT6, qT7, qT8, qT9, qT10, qT11⟩, ⟨fT0, fT1, fT2, fT3, fT4, fT5, fT6, fT7, fT8, fT9, fT10, fT11⟩, zT⟩ := HT.out
      go_wp2_with fail
      refine wp_loop_rounds 5 ?_
      clear qT0 fT0 qT1 fT1 qT2 fT2 qT3 fT3 qT4 fT4 qT5 fT5 qT6 fT6 qT7 fT7 qT8 fT8 qT9 fT9 qT10 fT10 qT11 fT11 zT
      rw [rounds_succ]
      obtain ⟨⟨qT0, qT1, qT2, qT3, qT4, qT5, qT6, qT7, qT8, qT9, qT10, qT11⟩, ⟨fT0, fT1, fT2, fT3, fT4, fT5, fT6, fT7, fT8, fT9, fT10, fT11⟩, zT⟩ := HT.out
      go_wp2_with fail
      go_at_call 15
      refine (HS0.out _).mono ?_
      rintro e w1 ⟨rfl, hb⟩
      clear qT0 fT0 qT1 fT1 qT2 fT2 qT3 fT3 qT4 fT4 qT5 fT5 qT6 fT6 qT7 fT7 qT8 fT8 qT9 fT9 qT10 fT10 qT11 fT11 zT
      have HT := Lib.hid (HT.out.below hb)
      have HB := Lib.hid (below_after hb HB.out)
      clear hb
      obtain ⟨⟨qT0, qT1, qT2, qT3, qT4, qT5, qT6, qT7, qT8, qT9, qT10, qT11⟩, ⟨fT0, fT1, fT2, fT3, fT4, fT5, fT6, fT7, fT8, fT9, fT10, fT11⟩, zT⟩ := HT.out
      go_wp2_with fail
      clear qT0 fT0 qT1 fT1 qT2 fT2 qT3 fT3 qT4 fT4 qT5 fT5 qT6 fT6 qT7 fT7 qT8 fT8 qT9 fT9 qT10 fT10 qT11 fT11 zT
      rw [rounds_succ]
      obtain ⟨⟨qT0, qT1, qT2, qT3, qT4, qT5, qT6, qT7, qT8, qT9, qT10, qT11⟩, ⟨fT0, fT1, fT2, fT3, fT4, fT5, fT6, fT7, fT8, fT9, fT10, fT11⟩, zT⟩ := HT.out
      go_wp2_with fail
      go_at_call 15
      refine (HS1.out _).mono ?_
      rintro e w2 ⟨rfl, hb⟩
      clear qT0 fT0 qT1 fT1 qT2 fT2 qT3 fT3 qT4 fT4 qT5 fT5 qT6 fT6 qT7 fT7 qT8 fT8 qT9 fT9 qT10 fT10 qT11 fT11 zT
      have HT := Lib.hid (HT.out.below hb)
      have HB := Lib.hid (below_after hb HB.out)
      clear hb
      obtain ⟨⟨qT0, qT1, qT2, qT3, qT4, qT5, qT6, qT7, qT8, qT9, qT10, qT11⟩, ⟨fT0, fT1, fT2, fT3, fT4, fT5, fT6, fT7, fT8, fT9, fT10, fT11⟩, zT⟩ := HT.out
      go_wp2_with fail
      refine bodyPost_ret (v := .bool false) (by simp (maxDischargeDepth := 8) [results, Try.results19, go_sem, *]) rfl ?_
      have hb := HB.out
      exact ⟨by simp [isTe, HK0.out, HK1.out], by (repeat' (first | (with_reducible exact Below.refl _ _) | (with_reducible refine Below.alloc ?_ ?_ _) | (with_reducible refine Below.setCell ?_ ?_ _) | (with_reducible refine Below.drew ?_) | (with_reducible refine below_drewN ?_ _) | (with_reducible assumption) | (with_reducible refine below_after (by with_reducible assumption) ?_) | go_size))⟩
    · skip
      have HK1 := Lib.hid k1
      have HS1 : Hid (∀ w, Calls Try.prog 15 #[.agg #[.int .i64 t3, .int .i64 t4, .int .i64 t5]] w fun e w' => e = .returned (.bool true) ∧ Below w.heap.size w w') := fun w => by have := l08Spot_any t3 t4 t5 w; rwa [k1] at this
      clear k1
      cases k2 : isSp t6 t7 t8
      · skip
        have HK2 := Lib.hid k2
        have HS2 : Hid (∀ w, Calls Try.prog 15 #[.agg #[.int .i64 t6, .int .i64 t7, .int .i64 t8]] w fun e w' => e = .returned (.bool false) ∧ Below w.heap.size w w') := fun w => by have := l08Spot_any t6 t7 t8 w; rwa [k2] at this
        clear k2
        obtain ⟨GT, hG⟩ : ∃ G, w.heap.size = G := ⟨_, rfl⟩
        have HG := Lib.hid hG
        go_enter Try.func19, Try.ntmps19
        go_upto_region 1 with fail
        obtain ⟨w0, hw0⟩ : ∃ w0, w0 = (w.alloc (.cells #[.int .i64 t0, .int .i64 t1, .int .i64 t2, .int .i64 t3, .int .i64 t4, .int .i64 t5, .int .i64 t6, .int .i64 t7, .int .i64 t8, .int .i64 t9, .int .i64 t10, .int .i64 t11] 36)) := ⟨_, rfl⟩
        rw [← hw0]
        have HT : Hid (Bk12 w0 GT t0 t1 t2 t3 t4 t5 t6 t7 t8 t9 t10 t11) := by
          have h := (bk12_new w t0 t1 t2 t3 t4 t5 t6 t7 t8 t9 t10 t11 36).below (W' := (w.alloc (.cells #[.int .i64 t0, .int .i64 t1, .int .i64 t2, .int .i64 t3, .int .i64 t4, .int .i64 t5, .int .i64 t6, .int .i64 t7, .int .i64 t8, .int .i64 t9, .int .i64 t10, .int .i64 t11] 36))) (by (repeat' (first | (with_reducible exact Below.refl _ _) | (with_reducible refine Below.alloc ?_ ?_ _) | (with_reducible refine Below.setCell ?_ ?_ _) | (with_reducible refine Below.drew ?_) | (with_reducible refine below_drewN ?_ _) | (with_reducible assumption) | (with_reducible refine below_after (by with_reducible assumption) ?_) | go_size)))
          (try simp only [World.size_alloc] at h)
          rw [hG] at h
          rw [hw0]; exact h
        have HB : Hid (Below w.heap.size w w0) := by show Below w.heap.size w w0; rw [hw0]; (repeat' (first | (with_reducible exact Below.refl _ _) | (with_reducible refine Below.alloc ?_ ?_ _) | (with_reducible refine Below.setCell ?_ ?_ _) | (with_reducible refine Below.drew ?_) | (with_reducible refine below_drewN ?_ _) | (with_reducible assumption) | (with_reducible refine below_after (by with_reducible assumption) ?_) | go_size))
        clear hw0
        have le_T : w.heap.size ≤ GT := by omega
        obtain ⟨⟨qT0, qT1, qT2, qT3, qT4, qT5, qT6, qT7, qT8, qT9, qT10, qT11⟩, ⟨fT0, fT1, fT2, fT3, fT4, fT5, fT6, fT7, fT8, fT9, fT10, fT11⟩, zT⟩ := HT.out
        go_wp2_with fail
        refine wp_loop_rounds 5 ?_
        clear qT0 fT0 qT1 fT1 qT2 fT2 qT3 fT3 qT4 fT4 qT5 fT5 qT6 fT6 qT7 fT7 qT8 fT8 qT9 fT9 qT10 fT10 qT11 fT11 zT
        rw [rounds_succ]
        obtain ⟨⟨qT0, qT1, qT2, qT3, qT4, qT5, qT6, qT7, qT8, qT9, qT10, qT11⟩, ⟨fT0, fT1, fT2, fT3, fT4, fT5, fT6, fT7, fT8, fT9, fT10, fT11⟩, zT⟩ := HT.out
        go_wp2_with fail
        go_at_call 15
        refine (HS0.out _).mono ?_
        rintro e w1 ⟨rfl, hb⟩
        clear qT0 fT0 qT1 fT1 qT2 fT2 qT3 fT3 qT4 fT4 qT5 fT5 qT6 fT6 qT7 fT7 qT8 fT8 qT9 fT9 qT10 fT10 qT11 fT11 zT
        have HT := Lib.hid (HT.out.below hb)
        have HB := Lib.hid (below_after hb HB.out)
        clear hb
        obtain ⟨⟨qT0, qT1, qT2, qT3, qT4, qT5, qT6, qT7, qT8, qT9, qT10, qT11⟩, ⟨fT0, fT1, fT2, fT3, fT4, fT5, fT6, fT7, fT8, fT9, fT10, fT11⟩, zT⟩ := HT.out
        go_wp2_with fail
        clear qT0 fT0 qT1 fT1 qT2 fT2 qT3 fT3 qT4 fT4 qT5 fT5 qT6 fT6 qT7 fT7 qT8 fT8 qT9 fT9 qT10 fT10 qT11 fT11 zT
        rw [rounds_succ]
        obtain ⟨⟨qT0, qT1, qT2, qT3, qT4, qT5, qT6, qT7, qT8, qT9, qT10, qT11⟩, ⟨fT0, fT1, fT2, fT3, fT4, fT5, fT6, fT7, fT8, fT9, fT10, fT11⟩, zT⟩ := HT.out
        go_wp2_with fail
        go_at_call 15
        refine (HS1.out _).mono ?_
        rintro e w2 ⟨rfl, hb⟩
        clear qT0 fT0 qT1 fT1 qT2 fT2 qT3 fT3 qT4 fT4 qT5 fT5 qT6 fT6 qT7 fT7 qT8 fT8 qT9 fT9 qT10 fT10 qT11 fT11 zT
        have HT := Lib.hid (HT.out.below hb)
        have HB := Lib.hid (below_after hb HB.out)
        clear hb
        obtain ⟨⟨qT0, qT1, qT2, qT3, qT4, qT5, qT6, qT7, qT8, qT9, qT10, qT11⟩, ⟨fT0, fT1, fT2, fT3, fT4, fT5, fT6, fT7, fT8, fT9, fT10, fT11⟩, zT⟩ := HT.out
        go_wp2_with fail
        clear qT0 fT0 qT1 fT1 qT2 fT2 qT3 fT3 qT4 fT4 qT5 fT5 qT6 fT6 qT7 fT7 qT8 fT8 qT9 fT9 qT10 fT10 qT11 fT11 zT
        rw [rounds_succ]
        obtain ⟨⟨qT0, qT1, qT2, qT3, qT4, qT5, qT6, qT7, qT8, qT9, qT10, qT11⟩, ⟨fT0, fT1, fT2, fT3, fT4, fT5, fT6, fT7, fT8, fT9, fT10, fT11⟩, zT⟩ := HT.out
        go_wp2_with fail
        go_at_call 15
        refine (HS2.out _).mono ?_
        rintro e w3 ⟨rfl, hb⟩
        clear qT0 fT0 qT1 fT1 qT2 fT2 qT3 fT3 qT4 fT4 qT5 fT5 qT6 fT6 qT7 fT7 qT8 fT8 qT9 fT9 qT10 fT10 qT11 fT11 zT
        have HT := Lib.hid (HT.out.below hb)
        have HB := Lib.hid (below_after hb HB.out)
        clear hb
        obtain ⟨⟨qT0, qT1, qT2, qT3, qT4, qT5, qT6, qT7, qT8, qT9, qT10, qT11⟩, ⟨fT0, fT1, fT2, fT3, fT4, fT5, fT6, fT7, fT8, fT9, fT10, fT11⟩, zT⟩ := HT.out
        go_wp2_with fail
        refine bodyPost_ret (v := .bool false) (by simp (maxDischargeDepth := 8) [results, Try.results19, go_sem, *]) rfl ?_
        have hb := HB.out
        exact ⟨by simp [isTe, HK0.out, HK1.out, HK2.out], by (repeat' (first | (with_reducible exact Below.refl _ _) | (with_reducible refine Below.alloc ?_ ?_ _) | (with_reducible refine Below.setCell ?_ ?_ _) | (with_reducible refine Below.drew ?_) | (with_reducible refine below_drewN ?_ _) | (with_reducible assumption) | (with_reducible refine below_after (by with_reducible assumption) ?_) | go_size))⟩
      · skip
        have HK2 := Lib.hid k2
        have HS2 : Hid (∀ w, Calls Try.prog 15 #[.agg #[.int .i64 t6, .int .i64 t7, .int .i64 t8]] w fun e w' => e = .returned (.bool true) ∧ Below w.heap.size w w') := fun w => by have := l08Spot_any t6 t7 t8 w; rwa [k2] at this
        clear k2
        cases k3 : isSp t9 t10 t11
        · skip
          have HK3 := Lib.hid k3
          have HS3 : Hid (∀ w, Calls Try.prog 15 #[.agg #[.int .i64 t9, .int .i64 t10, .int .i64 t11]] w fun e w' => e = .returned (.bool false) ∧ Below w.heap.size w w') := fun w => by have := l08Spot_any t9 t10 t11 w; rwa [k3] at this
          clear k3
          obtain ⟨GT, hG⟩ : ∃ G, w.heap.size = G := ⟨_, rfl⟩
          have HG := Lib.hid hG
          go_enter Try.func19, Try.ntmps19
          go_upto_region 1 with fail
          obtain ⟨w0, hw0⟩ : ∃ w0, w0 = (w.alloc (.cells #[.int .i64 t0, .int .i64 t1, .int .i64 t2, .int .i64 t3, .int .i64 t4, .int .i64 t5, .int .i64 t6, .int .i64 t7, .int .i64 t8, .int .i64 t9, .int .i64 t10, .int .i64 t11] 36)) := ⟨_, rfl⟩
          rw [← hw0]
          have HT : Hid (Bk12 w0 GT t0 t1 t2 t3 t4 t5 t6 t7 t8 t9 t10 t11) := by
            have h := (bk12_new w t0 t1 t2 t3 t4 t5 t6 t7 t8 t9 t10 t11 36).below (W' := (w.alloc (.cells #[.int .i64 t0, .int .i64 t1, .int .i64 t2, .int .i64 t3, .int .i64 t4, .int .i64 t5, .int .i64 t6, .int .i64 t7, .int .i64 t8, .int .i64 t9, .int .i64 t10, .int .i64 t11] 36))) (by (repeat' (first | (with_reducible exact Below.refl _ _) | (with_reducible refine Below.alloc ?_ ?_ _) | (with_reducible refine Below.setCell ?_ ?_ _) | (with_reducible refine Below.drew ?_) | (with_reducible refine below_drewN ?_ _) | (with_reducible assumption) | (with_reducible refine below_after (by with_reducible assumption) ?_) | go_size)))
            (try simp only [World.size_alloc] at h)
            rw [hG] at h
            rw [hw0]; exact h
          have HB : Hid (Below w.heap.size w w0) := by show Below w.heap.size w w0; rw [hw0]; (repeat' (first | (with_reducible exact Below.refl _ _) | (with_reducible refine Below.alloc ?_ ?_ _) | (with_reducible refine Below.setCell ?_ ?_ _) | (with_reducible refine Below.drew ?_) | (with_reducible refine below_drewN ?_ _) | (with_reducible assumption) | (with_reducible refine below_after (by with_reducible assumption) ?_) | go_size))
          clear hw0
          have le_T : w.heap.size ≤ GT := by omega
          obtain ⟨⟨qT0, qT1, qT2, qT3, qT4, qT5, qT6, qT7, qT8, qT9, qT10, qT11⟩, ⟨fT0, fT1, fT2, fT3, fT4, fT5, fT6, fT7, fT8, fT9, fT10, fT11⟩, zT⟩ := HT.out
          go_wp2_with fail
          refine wp_loop_rounds 5 ?_
          clear qT0 fT0 qT1 fT1 qT2 fT2 qT3 fT3 qT4 fT4 qT5 fT5 qT6 fT6 qT7 fT7 qT8 fT8 qT9 fT9 qT10 fT10 qT11 fT11 zT
          rw [rounds_succ]
          obtain ⟨⟨qT0, qT1, qT2, qT3, qT4, qT5, qT6, qT7, qT8, qT9, qT10, qT11⟩, ⟨fT0, fT1, fT2, fT3, fT4, fT5, fT6, fT7, fT8, fT9, fT10, fT11⟩, zT⟩ := HT.out
          go_wp2_with fail
          go_at_call 15
          refine (HS0.out _).mono ?_
          rintro e w1 ⟨rfl, hb⟩
          clear qT0 fT0 qT1 fT1 qT2 fT2 qT3 fT3 qT4 fT4 qT5 fT5 qT6 fT6 qT7 fT7 qT8 fT8 qT9 fT9 qT10 fT10 qT11 fT11 zT
          have HT := Lib.hid (HT.out.below hb)
          have HB := Lib.hid (below_after hb HB.out)
          clear hb
          obtain ⟨⟨qT0, qT1, qT2, qT3, qT4, qT5, qT6, qT7, qT8, qT9, qT10, qT11⟩, ⟨fT0, fT1, fT2, fT3, fT4, fT5, fT6, fT7, fT8, fT9, fT10, fT11⟩, zT⟩ := HT.out
          go_wp2_with fail
          clear qT0 fT0 qT1 fT1 qT2 fT2 qT3 fT3 qT4 fT4 qT5 fT5 qT6 fT6 qT7 fT7 qT8 fT8 qT9 fT9 qT10 fT10 qT11 fT11 zT
          rw [rounds_succ]
          obtain ⟨⟨qT0, qT1, qT2, qT3, qT4, qT5, qT6, qT7, qT8, qT9, qT10, qT11⟩, ⟨fT0, fT1, fT2, fT3, fT4, fT5, fT6, fT7, fT8, fT9, fT10, fT11⟩, zT⟩ := HT.out
          go_wp2_with fail
          go_at_call 15
          refine (HS1.out _).mono ?_
          rintro e w2 ⟨rfl, hb⟩
          clear qT0 fT0 qT1 fT1 qT2 fT2 qT3 fT3 qT4 fT4 qT5 fT5 qT6 fT6 qT7 fT7 qT8 fT8 qT9 fT9 qT10 fT10 qT11 fT11 zT
          have HT := Lib.hid (HT.out.below hb)
          have HB := Lib.hid (below_after hb HB.out)
          clear hb
          obtain ⟨⟨qT0, qT1, qT2, qT3, qT4, qT5, qT6, qT7, qT8, qT9, qT10, qT11⟩, ⟨fT0, fT1, fT2, fT3, fT4, fT5, fT6, fT7, fT8, fT9, fT10, fT11⟩, zT⟩ := HT.out
          go_wp2_with fail
          clear qT0 fT0 qT1 fT1 qT2 fT2 qT3 fT3 qT4 fT4 qT5 fT5 qT6 fT6 qT7 fT7 qT8 fT8 qT9 fT9 qT10 fT10 qT11 fT11 zT
          rw [rounds_succ]
          obtain ⟨⟨qT0, qT1, qT2, qT3, qT4, qT5, qT6, qT7, qT8, qT9, qT10, qT11⟩, ⟨fT0, fT1, fT2, fT3, fT4, fT5, fT6, fT7, fT8, fT9, fT10, fT11⟩, zT⟩ := HT.out
          go_wp2_with fail
          go_at_call 15
          refine (HS2.out _).mono ?_
          rintro e w3 ⟨rfl, hb⟩
          clear qT0 fT0 qT1 fT1 qT2 fT2 qT3 fT3 qT4 fT4 qT5 fT5 qT6 fT6 qT7 fT7 qT8 fT8 qT9 fT9 qT10 fT10 qT11 fT11 zT
          have HT := Lib.hid (HT.out.below hb)
          have HB := Lib.hid (below_after hb HB.out)
          clear hb
          obtain ⟨⟨qT0, qT1, qT2, qT3, qT4, qT5, qT6, qT7, qT8, qT9, qT10, qT11⟩, ⟨fT0, fT1, fT2, fT3, fT4, fT5, fT6, fT7, fT8, fT9, fT10, fT11⟩, zT⟩ := HT.out
          go_wp2_with fail
          clear qT0 fT0 qT1 fT1 qT2 fT2 qT3 fT3 qT4 fT4 qT5 fT5 qT6 fT6 qT7 fT7 qT8 fT8 qT9 fT9 qT10 fT10 qT11 fT11 zT
          rw [rounds_succ]
          obtain ⟨⟨qT0, qT1, qT2, qT3, qT4, qT5, qT6, qT7, qT8, qT9, qT10, qT11⟩, ⟨fT0, fT1, fT2, fT3, fT4, fT5, fT6, fT7, fT8, fT9, fT10, fT11⟩, zT⟩ := HT.out
          go_wp2_with fail
          go_at_call 15
          refine (HS3.out _).mono ?_
          rintro e w4 ⟨rfl, hb⟩
          clear qT0 fT0 qT1 fT1 qT2 fT2 qT3 fT3 qT4 fT4 qT5 fT5 qT6 fT6 qT7 fT7 qT8 fT8 qT9 fT9 qT10 fT10 qT11 fT11 zT
          have HT := Lib.hid (HT.out.below hb)
          have HB := Lib.hid (below_after hb HB.out)
          clear hb
          obtain ⟨⟨qT0, qT1, qT2, qT3, qT4, qT5, qT6, qT7, qT8, qT9, qT10, qT11⟩, ⟨fT0, fT1, fT2, fT3, fT4, fT5, fT6, fT7, fT8, fT9, fT10, fT11⟩, zT⟩ := HT.out
          go_wp2_with fail
          refine bodyPost_ret (v := .bool false) (by simp (maxDischargeDepth := 8) [results, Try.results19, go_sem, *]) rfl ?_
          have hb := HB.out
          exact ⟨by simp [isTe, HK0.out, HK1.out, HK2.out, HK3.out], by (repeat' (first | (with_reducible exact Below.refl _ _) | (with_reducible refine Below.alloc ?_ ?_ _) | (with_reducible refine Below.setCell ?_ ?_ _) | (with_reducible refine Below.drew ?_) | (with_reducible refine below_drewN ?_ _) | (with_reducible assumption) | (with_reducible refine below_after (by with_reducible assumption) ?_) | go_size))⟩
        · skip
          have HK3 := Lib.hid k3
          have HS3 : Hid (∀ w, Calls Try.prog 15 #[.agg #[.int .i64 t9, .int .i64 t10, .int .i64 t11]] w fun e w' => e = .returned (.bool true) ∧ Below w.heap.size w w') := fun w => by have := l08Spot_any t9 t10 t11 w; rwa [k3] at this
          clear k3
          obtain ⟨S, hS⟩ : ∃ S, voV t0 t1 t2 t3 t4 t5 t6 t7 t8 t9 t10 t11 = S := ⟨_, rfl⟩
          have HSZ : Hid (∀ w, Calls Try.prog 26 #[.agg #[.int .i64 t0, .int .i64 t1, .int .i64 t2, .int .i64 t3, .int .i64 t4, .int .i64 t5, .int .i64 t6, .int .i64 t7, .int .i64 t8, .int .i64 t9, .int .i64 t10, .int .i64 t11]] w fun e w' => e = .returned (.int .i64 S) ∧ Below w.heap.size w w') := fun w => by have := l08Volume_any t0 t1 t2 t3 t4 t5 t6 t7 t8 t9 t10 t11 w (isSp_W3 HK0.out) (isSp_W3 HK1.out) (isSp_W3 HK2.out) (isSp_W3 HK3.out); rwa [hS] at this
          by_cases hz : S = 0
          · subst hz
            have HV : Hid (isTe t0 t1 t2 t3 t4 t5 t6 t7 t8 t9 t10 t11 = false) := by show _ = _; simp [isTe, hS]
            clear hS
            obtain ⟨GT, hG⟩ : ∃ G, w.heap.size = G := ⟨_, rfl⟩
            have HG := Lib.hid hG
            go_enter Try.func19, Try.ntmps19
            go_upto_region 1 with fail
            obtain ⟨w0, hw0⟩ : ∃ w0, w0 = (w.alloc (.cells #[.int .i64 t0, .int .i64 t1, .int .i64 t2, .int .i64 t3, .int .i64 t4, .int .i64 t5, .int .i64 t6, .int .i64 t7, .int .i64 t8, .int .i64 t9, .int .i64 t10, .int .i64 t11] 36)) := ⟨_, rfl⟩
            rw [← hw0]
            have HT : Hid (Bk12 w0 GT t0 t1 t2 t3 t4 t5 t6 t7 t8 t9 t10 t11) := by
              have h := (bk12_new w t0 t1 t2 t3 t4 t5 t6 t7 t8 t9 t10 t11 36).below (W' := (w.alloc (.cells #[.int .i64 t0, .int .i64 t1, .int .i64 t2, .int .i64 t3, .int .i64 t4, .int .i64 t5, .int .i64 t6, .int .i64 t7, .int .i64 t8, .int .i64 t9, .int .i64 t10, .int .i64 t11] 36))) (by (repeat' (first | (with_reducible exact Below.refl _ _) | (with_reducible refine Below.alloc ?_ ?_ _) | (with_reducible refine Below.setCell ?_ ?_ _) | (with_reducible refine Below.drew ?_) | (with_reducible refine below_drewN ?_ _) | (with_reducible assumption) | (with_reducible refine below_after (by with_reducible assumption) ?_) | go_size)))
              (try simp only [World.size_alloc] at h)
              rw [hG] at h
              rw [hw0]; exact h
            have HB : Hid (Below w.heap.size w w0) := by show Below w.heap.size w w0; rw [hw0]; (repeat' (first | (with_reducible exact Below.refl _ _) | (with_reducible refine Below.alloc ?_ ?_ _) | (with_reducible refine Below.setCell ?_ ?_ _) | (with_reducible refine Below.drew ?_) | (with_reducible refine below_drewN ?_ _) | (with_reducible assumption) | (with_reducible refine below_after (by with_reducible assumption) ?_) | go_size))
            clear hw0
            have le_T : w.heap.size ≤ GT := by omega
            obtain ⟨⟨qT0, qT1, qT2, qT3, qT4, qT5, qT6, qT7, qT8, qT9, qT10, qT11⟩, ⟨fT0, fT1, fT2, fT3, fT4, fT5, fT6, fT7, fT8, fT9, fT10, fT11⟩, zT⟩ := HT.out
            go_wp2_with fail
            refine wp_loop_rounds 5 ?_
            clear qT0 fT0 qT1 fT1 qT2 fT2 qT3 fT3 qT4 fT4 qT5 fT5 qT6 fT6 qT7 fT7 qT8 fT8 qT9 fT9 qT10 fT10 qT11 fT11 zT
            rw [rounds_succ]
            obtain ⟨⟨qT0, qT1, qT2, qT3, qT4, qT5, qT6, qT7, qT8, qT9, qT10, qT11⟩, ⟨fT0, fT1, fT2, fT3, fT4, fT5, fT6, fT7, fT8, fT9, fT10, fT11⟩, zT⟩ := HT.out
            go_wp2_with fail
            go_at_call 15
            refine (HS0.out _).mono ?_
            rintro e w1 ⟨rfl, hb⟩
            clear qT0 fT0 qT1 fT1 qT2 fT2 qT3 fT3 qT4 fT4 qT5 fT5 qT6 fT6 qT7 fT7 qT8 fT8 qT9 fT9 qT10 fT10 qT11 fT11 zT
            have HT := Lib.hid (HT.out.below hb)
            have HB := Lib.hid (below_after hb HB.out)
            clear hb
            obtain ⟨⟨qT0, qT1, qT2, qT3, qT4, qT5, qT6, qT7, qT8, qT9, qT10, qT11⟩, ⟨fT0, fT1, fT2, fT3, fT4, fT5, fT6, fT7, fT8, fT9, fT10, fT11⟩, zT⟩ := HT.out
            go_wp2_with fail
            clear qT0 fT0 qT1 fT1 qT2 fT2 qT3 fT3 qT4 fT4 qT5 fT5 qT6 fT6 qT7 fT7 qT8 fT8 qT9 fT9 qT10 fT10 qT11 fT11 zT
            rw [rounds_succ]
            obtain ⟨⟨qT0, qT1, qT2, qT3, qT4, qT5, qT6, qT7, qT8, qT9, qT10, qT11⟩, ⟨fT0, fT1, fT2, fT3, fT4, fT5, fT6, fT7, fT8, fT9, fT10, fT11⟩, zT⟩ := HT.out
            go_wp2_with fail
            go_at_call 15
            refine (HS1.out _).mono ?_
            rintro e w2 ⟨rfl, hb⟩
            clear qT0 fT0 qT1 fT1 qT2 fT2 qT3 fT3 qT4 fT4 qT5 fT5 qT6 fT6 qT7 fT7 qT8 fT8 qT9 fT9 qT10 fT10 qT11 fT11 zT
            have HT := Lib.hid (HT.out.below hb)
            have HB := Lib.hid (below_after hb HB.out)
            clear hb
            obtain ⟨⟨qT0, qT1, qT2, qT3, qT4, qT5, qT6, qT7, qT8, qT9, qT10, qT11⟩, ⟨fT0, fT1, fT2, fT3, fT4, fT5, fT6, fT7, fT8, fT9, fT10, fT11⟩, zT⟩ := HT.out
            go_wp2_with fail
            clear qT0 fT0 qT1 fT1 qT2 fT2 qT3 fT3 qT4 fT4 qT5 fT5 qT6 fT6 qT7 fT7 qT8 fT8 qT9 fT9 qT10 fT10 qT11 fT11 zT
            rw [rounds_succ]
            obtain ⟨⟨qT0, qT1, qT2, qT3, qT4, qT5, qT6, qT7, qT8, qT9, qT10, qT11⟩, ⟨fT0, fT1, fT2, fT3, fT4, fT5, fT6, fT7, fT8, fT9, fT10, fT11⟩, zT⟩ := HT.out
            go_wp2_with fail
            go_at_call 15
            refine (HS2.out _).mono ?_
            rintro e w3 ⟨rfl, hb⟩
            clear qT0 fT0 qT1 fT1 qT2 fT2 qT3 fT3 qT4 fT4 qT5 fT5 qT6 fT6 qT7 fT7 qT8 fT8 qT9 fT9 qT10 fT10 qT11 fT11 zT
            have HT := Lib.hid (HT.out.below hb)
            have HB := Lib.hid (below_after hb HB.out)
            clear hb
            obtain ⟨⟨qT0, qT1, qT2, qT3, qT4, qT5, qT6, qT7, qT8, qT9, qT10, qT11⟩, ⟨fT0, fT1, fT2, fT3, fT4, fT5, fT6, fT7, fT8, fT9, fT10, fT11⟩, zT⟩ := HT.out
            go_wp2_with fail
            clear qT0 fT0 qT1 fT1 qT2 fT2 qT3 fT3 qT4 fT4 qT5 fT5 qT6 fT6 qT7 fT7 qT8 fT8 qT9 fT9 qT10 fT10 qT11 fT11 zT
            rw [rounds_succ]
            obtain ⟨⟨qT0, qT1, qT2, qT3, qT4, qT5, qT6, qT7, qT8, qT9, qT10, qT11⟩, ⟨fT0, fT1, fT2, fT3, fT4, fT5, fT6, fT7, fT8, fT9, fT10, fT11⟩, zT⟩ := HT.out
            go_wp2_with fail
            go_at_call 15
            refine (HS3.out _).mono ?_
            rintro e w4 ⟨rfl, hb⟩
            clear qT0 fT0 qT1 fT1 qT2 fT2 qT3 fT3 qT4 fT4 qT5 fT5 qT6 fT6 qT7 fT7 qT8 fT8 qT9 fT9 qT10 fT10 qT11 fT11 zT
            have HT := Lib.hid (HT.out.below hb)
            have HB := Lib.hid (below_after hb HB.out)
            clear hb
            obtain ⟨⟨qT0, qT1, qT2, qT3, qT4, qT5, qT6, qT7, qT8, qT9, qT10, qT11⟩, ⟨fT0, fT1, fT2, fT3, fT4, fT5, fT6, fT7, fT8, fT9, fT10, fT11⟩, zT⟩ := HT.out
            go_wp2_with fail
            clear qT0 fT0 qT1 fT1 qT2 fT2 qT3 fT3 qT4 fT4 qT5 fT5 qT6 fT6 qT7 fT7 qT8 fT8 qT9 fT9 qT10 fT10 qT11 fT11 zT
            rw [rounds_succ]
            obtain ⟨⟨qT0, qT1, qT2, qT3, qT4, qT5, qT6, qT7, qT8, qT9, qT10, qT11⟩, ⟨fT0, fT1, fT2, fT3, fT4, fT5, fT6, fT7, fT8, fT9, fT10, fT11⟩, zT⟩ := HT.out
            go_wp2_with fail
            go_at_call 26
            refine (HSZ.out _).mono ?_
            rintro e w5 ⟨rfl, hb⟩
            clear qT0 fT0 qT1 fT1 qT2 fT2 qT3 fT3 qT4 fT4 qT5 fT5 qT6 fT6 qT7 fT7 qT8 fT8 qT9 fT9 qT10 fT10 qT11 fT11 zT
            have HT := Lib.hid (HT.out.below hb)
            have HB := Lib.hid (below_after hb HB.out)
            clear hb
            obtain ⟨⟨qT0, qT1, qT2, qT3, qT4, qT5, qT6, qT7, qT8, qT9, qT10, qT11⟩, ⟨fT0, fT1, fT2, fT3, fT4, fT5, fT6, fT7, fT8, fT9, fT10, fT11⟩, zT⟩ := HT.out
            go_wp2_with fail
            refine bodyPost_ret (v := .bool false) (by simp (maxDischargeDepth := 8) [results, Try.results19, go_sem, *]) rfl ?_
            have hb := HB.out
            exact ⟨by rw [HV.out], by (repeat' (first | (with_reducible exact Below.refl _ _) | (with_reducible refine Below.alloc ?_ ?_ _) | (with_reducible refine Below.setCell ?_ ?_ _) | (with_reducible refine Below.drew ?_) | (with_reducible refine below_drewN ?_ _) | (with_reducible assumption) | (with_reducible refine below_after (by with_reducible assumption) ?_) | go_size))⟩
          · have HV : Hid (isTe t0 t1 t2 t3 t4 t5 t6 t7 t8 t9 t10 t11 = true) := by show _ = _; simp [isTe, hS, hz, HK0.out, HK1.out, HK2.out, HK3.out]
            clear hS
            obtain ⟨GT, hG⟩ : ∃ G, w.heap.size = G := ⟨_, rfl⟩
            have HG := Lib.hid hG
            go_enter Try.func19, Try.ntmps19
            go_upto_region 1 with fail
            obtain ⟨w0, hw0⟩ : ∃ w0, w0 = (w.alloc (.cells #[.int .i64 t0, .int .i64 t1, .int .i64 t2, .int .i64 t3, .int .i64 t4, .int .i64 t5, .int .i64 t6, .int .i64 t7, .int .i64 t8, .int .i64 t9, .int .i64 t10, .int .i64 t11] 36)) := ⟨_, rfl⟩
            rw [← hw0]
            have HT : Hid (Bk12 w0 GT t0 t1 t2 t3 t4 t5 t6 t7 t8 t9 t10 t11) := by
              have h := (bk12_new w t0 t1 t2 t3 t4 t5 t6 t7 t8 t9 t10 t11 36).below (W' := (w.alloc (.cells #[.int .i64 t0, .int .i64 t1, .int .i64 t2, .int .i64 t3, .int .i64 t4, .int .i64 t5, .int .i64 t6, .int .i64 t7, .int .i64 t8, .int .i64 t9, .int .i64 t10, .int .i64 t11] 36))) (by (repeat' (first | (with_reducible exact Below.refl _ _) | (with_reducible refine Below.alloc ?_ ?_ _) | (with_reducible refine Below.setCell ?_ ?_ _) | (with_reducible refine Below.drew ?_) | (with_reducible refine below_drewN ?_ _) | (with_reducible assumption) | (with_reducible refine below_after (by with_reducible assumption) ?_) | go_size)))
              (try simp only [World.size_alloc] at h)
              rw [hG] at h
              rw [hw0]; exact h
            have HB : Hid (Below w.heap.size w w0) := by show Below w.heap.size w w0; rw [hw0]; (repeat' (first | (with_reducible exact Below.refl _ _) | (with_reducible refine Below.alloc ?_ ?_ _) | (with_reducible refine Below.setCell ?_ ?_ _) | (with_reducible refine Below.drew ?_) | (with_reducible refine below_drewN ?_ _) | (with_reducible assumption) | (with_reducible refine below_after (by with_reducible assumption) ?_) | go_size))
            clear hw0
            have le_T : w.heap.size ≤ GT := by omega
            obtain ⟨⟨qT0, qT1, qT2, qT3, qT4, qT5, qT6, qT7, qT8, qT9, qT10, qT11⟩, ⟨fT0, fT1, fT2, fT3, fT4, fT5, fT6, fT7, fT8, fT9, fT10, fT11⟩, zT⟩ := HT.out
            go_wp2_with fail
            refine wp_loop_rounds 5 ?_
            clear qT0 fT0 qT1 fT1 qT2 fT2 qT3 fT3 qT4 fT4 qT5 fT5 qT6 fT6 qT7 fT7 qT8 fT8 qT9 fT9 qT10 fT10 qT11 fT11 zT
            rw [rounds_succ]
            obtain ⟨⟨qT0, qT1, qT2, qT3, qT4, qT5, qT6, qT7, qT8, qT9, qT10, qT11⟩, ⟨fT0, fT1, fT2, fT3, fT4, fT5, fT6, fT7, fT8, fT9, fT10, fT11⟩, zT⟩ := HT.out
            go_wp2_with fail
            go_at_call 15
            refine (HS0.out _).mono ?_
            rintro e w1 ⟨rfl, hb⟩
            clear qT0 fT0 qT1 fT1 qT2 fT2 qT3 fT3 qT4 fT4 qT5 fT5 qT6 fT6 qT7 fT7 qT8 fT8 qT9 fT9 qT10 fT10 qT11 fT11 zT
            have HT := Lib.hid (HT.out.below hb)
            have HB := Lib.hid (below_after hb HB.out)
            clear hb
            obtain ⟨⟨qT0, qT1, qT2, qT3, qT4, qT5, qT6, qT7, qT8, qT9, qT10, qT11⟩, ⟨fT0, fT1, fT2, fT3, fT4, fT5, fT6, fT7, fT8, fT9, fT10, fT11⟩, zT⟩ := HT.out
            go_wp2_with fail
            clear qT0 fT0 qT1 fT1 qT2 fT2 qT3 fT3 qT4 fT4 qT5 fT5 qT6 fT6 qT7 fT7 qT8 fT8 qT9 fT9 qT10 fT10 qT11 fT11 zT
            rw [rounds_succ]
            obtain ⟨⟨qT0, qT1, qT2, qT3, qT4, qT5, qT6, qT7, qT8, qT9, qT10, qT11⟩, ⟨fT0, fT1, fT2, fT3, fT4, fT5, fT6, fT7, fT8, fT9, fT10, fT11⟩, zT⟩ := HT.out
            go_wp2_with fail
            go_at_call 15
            refine (HS1.out _).mono ?_
            rintro e w2 ⟨rfl, hb⟩
            clear qT0 fT0 qT1 fT1 qT2 fT2 qT3 fT3 qT4 fT4 qT5 fT5 qT6 fT6 qT7 fT7 qT8 fT8 qT9 fT9 qT10 fT10 qT11 fT11 zT
            have HT := Lib.hid (HT.out.below hb)
            have HB := Lib.hid (below_after hb HB.out)
            clear hb
            obtain ⟨⟨qT0, qT1, qT2, qT3, qT4, qT5, qT6, qT7, qT8, qT9, qT10, qT11⟩, ⟨fT0, fT1, fT2, fT3, fT4, fT5, fT6, fT7, fT8, fT9, fT10, fT11⟩, zT⟩ := HT.out
            go_wp2_with fail
            clear qT0 fT0 qT1 fT1 qT2 fT2 qT3 fT3 qT4 fT4 qT5 fT5 qT6 fT6 qT7 fT7 qT8 fT8 qT9 fT9 qT10 fT10 qT11 fT11 zT
            rw [rounds_succ]
            obtain ⟨⟨qT0, qT1, qT2, qT3, qT4, qT5, qT6, qT7, qT8, qT9, qT10, qT11⟩, ⟨fT0, fT1, fT2, fT3, fT4, fT5, fT6, fT7, fT8, fT9, fT10, fT11⟩, zT⟩ := HT.out
            go_wp2_with fail
            go_at_call 15
            refine (HS2.out _).mono ?_
            rintro e w3 ⟨rfl, hb⟩
            clear qT0 fT0 qT1 fT1 qT2 fT2 qT3 fT3 qT4 fT4 qT5 fT5 qT6 fT6 qT7 fT7 qT8 fT8 qT9 fT9 qT10 fT10 qT11 fT11 zT
            have HT := Lib.hid (HT.out.below hb)
            have HB := Lib.hid (below_after hb HB.out)
            clear hb
            obtain ⟨⟨qT0, qT1, qT2, qT3, qT4, qT5, qT6, qT7, qT8, qT9, qT10, qT11⟩, ⟨fT0, fT1, fT2, fT3, fT4, fT5, fT6, fT7, fT8, fT9, fT10, fT11⟩, zT⟩ := HT.out
            go_wp2_with fail
            clear qT0 fT0 qT1 fT1 qT2 fT2 qT3 fT3 qT4 fT4 qT5 fT5 qT6 fT6 qT7 fT7 qT8 fT8 qT9 fT9 qT10 fT10 qT11 fT11 zT
            rw [rounds_succ]
            obtain ⟨⟨qT0, qT1, qT2, qT3, qT4, qT5, qT6, qT7, qT8, qT9, qT10, qT11⟩, ⟨fT0, fT1, fT2, fT3, fT4, fT5, fT6, fT7, fT8, fT9, fT10, fT11⟩, zT⟩ := HT.out
            go_wp2_with fail
            go_at_call 15
            refine (HS3.out _).mono ?_
            rintro e w4 ⟨rfl, hb⟩
            clear qT0 fT0 qT1 fT1 qT2 fT2 qT3 fT3 qT4 fT4 qT5 fT5 qT6 fT6 qT7 fT7 qT8 fT8 qT9 fT9 qT10 fT10 qT11 fT11 zT
            have HT := Lib.hid (HT.out.below hb)
            have HB := Lib.hid (below_after hb HB.out)
            clear hb
            obtain ⟨⟨qT0, qT1, qT2, qT3, qT4, qT5, qT6, qT7, qT8, qT9, qT10, qT11⟩, ⟨fT0, fT1, fT2, fT3, fT4, fT5, fT6, fT7, fT8, fT9, fT10, fT11⟩, zT⟩ := HT.out
            go_wp2_with fail
            clear qT0 fT0 qT1 fT1 qT2 fT2 qT3 fT3 qT4 fT4 qT5 fT5 qT6 fT6 qT7 fT7 qT8 fT8 qT9 fT9 qT10 fT10 qT11 fT11 zT
            rw [rounds_succ]
            obtain ⟨⟨qT0, qT1, qT2, qT3, qT4, qT5, qT6, qT7, qT8, qT9, qT10, qT11⟩, ⟨fT0, fT1, fT2, fT3, fT4, fT5, fT6, fT7, fT8, fT9, fT10, fT11⟩, zT⟩ := HT.out
            go_wp2_with fail
            go_at_call 26
            refine (HSZ.out _).mono ?_
            rintro e w5 ⟨rfl, hb⟩
            clear qT0 fT0 qT1 fT1 qT2 fT2 qT3 fT3 qT4 fT4 qT5 fT5 qT6 fT6 qT7 fT7 qT8 fT8 qT9 fT9 qT10 fT10 qT11 fT11 zT
            have HT := Lib.hid (HT.out.below hb)
            have HB := Lib.hid (below_after hb HB.out)
            clear hb
            obtain ⟨⟨qT0, qT1, qT2, qT3, qT4, qT5, qT6, qT7, qT8, qT9, qT10, qT11⟩, ⟨fT0, fT1, fT2, fT3, fT4, fT5, fT6, fT7, fT8, fT9, fT10, fT11⟩, zT⟩ := HT.out
            go_wp2_with fail
            refine bodyPost_ret (v := .bool true) (by simp (maxDischargeDepth := 8) [results, Try.results19, go_sem, *]) rfl ?_
            have hb := HB.out
            exact ⟨by rw [HV.out], by (repeat' (first | (with_reducible exact Below.refl _ _) | (with_reducible refine Below.alloc ?_ ?_ _) | (with_reducible refine Below.setCell ?_ ?_ _) | (with_reducible refine Below.drew ?_) | (with_reducible refine below_drewN ?_ _) | (with_reducible assumption) | (with_reducible refine below_after (by with_reducible assumption) ?_) | go_size))⟩
theorem ret_pair {a b c d : Int} (h : a = c) (h' : b = d) : Ending.returned (.tuple #[.int .i64 a, .int .i64 b]) = .returned (.tuple #[.int .i64 c, .int .i64 d]) := by rw [h, h']
end Go.Proofs.Ytjjblgmokmalaaa
