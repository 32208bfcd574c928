/-
  Tetrahedra and distances in the model (own work).
-/
import Derived.Test.YtjjblgmokmalaaaDoorSpD
namespace Go.Proofs.YtjjblgmokmalaaaDoor
open Go.ChangeShapes Go.WideShapes Go.ChangeAt Go.RowKit
set_option linter.unusedVariables false
set_option maxRecDepth 100000
set_option linter.unusedSimpArgs false
set_option maxRecDepth 100000

theorem isTe_parts {t0 t1 t2 t3 t4 t5 t6 t7 t8 t9 t10 t11 : Int} (h : isTe t0 t1 t2 t3 t4 t5 t6 t7 t8 t9 t10 t11 = true) : W3 20 t0 t1 t2 ∧ W3 20 t3 t4 t5 ∧ W3 20 t6 t7 t8 ∧ W3 20 t9 t10 t11 ∧ voV t0 t1 t2 t3 t4 t5 t6 t7 t8 t9 t10 t11 ≠ 0 := by
  simp only [isTe, Bool.and_eq_true, Bool.not_eq_true', beq_eq_false_iff_ne] at h
  exact ⟨isSp_W3 h.1.1.1.1, isSp_W3 h.1.1.1.2, isSp_W3 h.1.1.2, isSp_W3 h.1.2, h.2⟩
/-- What the distance is made of: the plane's cross product, and its product with the spot. -/
def dcX (a0 a1 a2 b0 b1 b2 c0 c1 c2 : Int) : Int := crX (b0 - a0) (b1 - a1) (b2 - a2) (c0 - a0) (c1 - a1) (c2 - a2)
def dcY (a0 a1 a2 b0 b1 b2 c0 c1 c2 : Int) : Int := crY (b0 - a0) (b1 - a1) (b2 - a2) (c0 - a0) (c1 - a1) (c2 - a2)
def dcZ (a0 a1 a2 b0 b1 b2 c0 c1 c2 : Int) : Int := crZ (b0 - a0) (b1 - a1) (b2 - a2) (c0 - a0) (c1 - a1) (c2 - a2)
def dis (X Y Z d0 d1 d2 : Int) : Int := absI ((dotV X Y Z d0 d1 d2).tdiv (lenV X Y Z))
def diO (a0 a1 a2 b0 b1 b2 c0 c1 c2 d0 d1 d2 : Int) : Bool := isSp a0 a1 a2 && isSp b0 b1 b2 && isSp c0 c1 c2 && isSp d0 d1 d2
def z3 (X Y Z : Int) : Bool := (X == 0 && Y == 0) && Z == 0
def diK (a0 a1 a2 b0 b1 b2 c0 c1 c2 d0 d1 d2 : Int) : Int := bif diO a0 a1 a2 b0 b1 b2 c0 c1 c2 d0 d1 d2 then (bif z3 (dcX a0 a1 a2 b0 b1 b2 c0 c1 c2) (dcY a0 a1 a2 b0 b1 b2 c0 c1 c2) (dcZ a0 a1 a2 b0 b1 b2 c0 c1 c2) then 5 else 0) else 1
def diV (a0 a1 a2 b0 b1 b2 c0 c1 c2 d0 d1 d2 : Int) : Int := bif diO a0 a1 a2 b0 b1 b2 c0 c1 c2 d0 d1 d2 then (bif z3 (dcX a0 a1 a2 b0 b1 b2 c0 c1 c2) (dcY a0 a1 a2 b0 b1 b2 c0 c1 c2) (dcZ a0 a1 a2 b0 b1 b2 c0 c1 c2) then 0 else dis (dcX a0 a1 a2 b0 b1 b2 c0 c1 c2) (dcY a0 a1 a2 b0 b1 b2 c0 c1 c2) (dcZ a0 a1 a2 b0 b1 b2 c0 c1 c2) (d0 - a0) (d1 - a1) (d2 - a2)) else 0
theorem lenV_pos {X Y Z : Int} (h : z3 X Y Z = false) : 0 < lenV X Y Z := by
  have h0 : 0 ≤ lenV X Y Z := Int.natCast_nonneg _
  rcases Int.lt_or_eq_of_le h0 with h1 | h1
  · exact h1
  · exfalso
    have h2 : Int.gcd (gcdI X Y) Z = 0 := by unfold lenV gcdI at h1; unfold gcdI; omega
    rw [Int.gcd_eq_zero_iff] at h2
    have h3 : Int.gcd X Y = 0 := by have := h2.1; unfold gcdI at this; omega
    rw [Int.gcd_eq_zero_iff] at h3
    simp [z3, h2.2, h3.1, h3.2] at h
theorem tdiv_wi {k n l : Int} (h : Wi k n) (hl : 0 < l) : Wi k (n.tdiv l) := by
  have h1 : (n.tdiv l).natAbs = n.natAbs / l.natAbs := Int.natAbs_tdiv n l
  have h2 := Nat.div_le_self n.natAbs l.natAbs
  unfold Wi at *
  omega
set_option maxHeartbeats 800000 in
theorem l08Volume_any (t0 t1 t2 t3 t4 t5 t6 t7 t8 t9 t10 t11 : Int) (w : World) (h0 : W3 20 t0 t1 t2) (h1 : W3 20 t3 t4 t5) (h2 : W3 20 t6 t7 t8) (h3 : W3 20 t9 t10 t11) :
    Calls Tryd.prog 77 #[.agg #[.int .i64 t0, .int .i64 t1, .int .i64 t2, .int .i64 t3, .int .i64 t4, .int .i64 t5, .int .i64 t6, .int .i64 t7, .int .i64 t8, .int .i64 t9, .int .i64 t10, .int .i64 t11]] w fun e w' => e = .returned (.int .i64 (voV t0 t1 t2 t3 t4 t5 t6 t7 t8 t9 t10 t11)) ∧ Below w.heap.size w w' := by
  have HU0 : Hid (W3 100000000000 t0 t1 t2) := h0.up (by omega)
  have HU1 : Hid (W3 100000000000 t3 t4 t5) := h1.up (by omega)
  have HU2 : Hid (W3 100000000000 t6 t7 t8) := h2.up (by omega)
  have HU3 : Hid (W3 100000000000 t9 t10 t11) := h3.up (by omega)
  have HE0 : Hid (W3 100000 (t3 - t0) (t4 - t1) (t5 - t2)) := (h1.sub h0).up (by omega)
  have HE1 : Hid (W3 100000 (t6 - t0) (t7 - t1) (t8 - t2)) := (h2.sub h0).up (by omega)
  have HE2 : Hid (W3 100000 (t9 - t0) (t10 - t1) (t11 - t2)) := (h3.sub h0).up (by omega)
  have HD : Hid (Wi 1000000000000000000 (detV (t3 - t0) (t4 - t1) (t5 - t2) (t6 - t0) (t7 - t1) (t8 - t2) (t9 - t0) (t10 - t1) (t11 - t2))) := ((h1.sub h0).det (h2.sub h0) (h3.sub h0)).up (by omega)
  clear h0 h1 h2 h3
  unfold voV
  obtain ⟨GT, hG⟩ : ∃ G, w.heap.size = G := ⟨_, rfl⟩
  have HG := Lib.hid hG
  go_enter Tryd.func77, Tryd.ntmps77
  go_upto_region 1 with fail
  obtain ⟨w0, hw0⟩ : ∃ w0, w0 = (w.alloc (.cells #[.int .i64 t0, .int .i64 t1, .int .i64 t2, .int .i64 t3, .int .i64 t4, .int .i64 t5, .int .i64 t6, .int .i64 t7, .int .i64 t8, .int .i64 t9, .int .i64 t10, .int .i64 t11] 54)) := ⟨_, rfl⟩
  rw [← hw0]
  have HT : Hid (Bk12 w0 GT t0 t1 t2 t3 t4 t5 t6 t7 t8 t9 t10 t11) := by
    have h := (bk12_new w t0 t1 t2 t3 t4 t5 t6 t7 t8 t9 t10 t11 54).below (W' := (w.alloc (.cells #[.int .i64 t0, .int .i64 t1, .int .i64 t2, .int .i64 t3, .int .i64 t4, .int .i64 t5, .int .i64 t6, .int .i64 t7, .int .i64 t8, .int .i64 t9, .int .i64 t10, .int .i64 t11] 54))) (by (repeat' (first | (with_reducible exact Below.refl _ _) | (with_reducible refine Below.alloc ?_ ?_ _) | (with_reducible refine Below.setCell ?_ ?_ _) | (with_reducible refine Below.drew ?_) | (with_reducible refine below_drewN ?_ _) | (with_reducible assumption) | (with_reducible refine below_after (by with_reducible assumption) ?_) | go_size)))
    (try simp only [World.size_alloc] at h)
    rw [hG] at h
    rw [hw0]; exact h
  have HB : Hid (Below w.heap.size w w0) := by show Below w.heap.size w w0; rw [hw0]; (repeat' (first | (with_reducible exact Below.refl _ _) | (with_reducible refine Below.alloc ?_ ?_ _) | (with_reducible refine Below.setCell ?_ ?_ _) | (with_reducible refine Below.drew ?_) | (with_reducible refine below_drewN ?_ _) | (with_reducible assumption) | (with_reducible refine below_after (by with_reducible assumption) ?_) | go_size))
  clear hw0
  have le_T : w.heap.size ≤ GT := by omega
  have HXX : Hid (∀ W, Below w0.heap.size w0 W → Bk12 W GT t0 t1 t2 t3 t4 t5 t6 t7 t8 t9 t10 t11) := fun W hW => HT.out.below hW
  go_wp2_with fail
  refine wp_region_held_drew (S := fun W => Below w0.heap.size w0 W) (by kernel_rfl) ?_ (fun hHeld => ?_); focus ((try dsimp only); exact (Below.refl _ _).drew)
  have HT := Lib.hid (HT.out.below (Below.drew (Below.refl _ _)))
  have hHeld : Below w0.heap.size w0 _ := hHeld
  obtain ⟨wD0, hwD0⟩ : ∃ wD, w0.drew = wD := ⟨_, rfl⟩
  rw [hwD0] at hHeld HT ⊢
  clear hwD0
  (refine wpAnyH_take (i := 0) (v := ?_) rfl (by kernel_rfl) (by kernel_rfl) (by kernel_rfl) (fun _ _ _ h => h) (Or.inl ⟨rfl, ?_⟩) (by assumption) ?_; rotate_left; focus (intro W hSw; (try dsimp only at hSw); have hxx := HXX.out _ hSw; have hxT := hxx; obtain ⟨⟨iT0, iT1, iT2, iT3, iT4, iT5, iT6, iT7, iT8, iT9, iT10, iT11⟩, _, _⟩ := hxT; go_simp; try (with_reducible rfl))); (try simp only [Act.put, List.getElem_toArray, List.getElem_cons_succ, List.getElem_cons_zero, List.setIfInBounds_toArray, List.set_cons_zero, List.set_cons_succ])
  (refine wpAnyH_take (i := 1) (v := ?_) rfl (by kernel_rfl) (by kernel_rfl) (by kernel_rfl) (fun _ _ _ h => h) (Or.inl ⟨rfl, ?_⟩) (by assumption) ?_; rotate_left; focus (intro W hSw; (try dsimp only at hSw); have hxx := HXX.out _ hSw; have hxT := hxx; obtain ⟨⟨iT0, iT1, iT2, iT3, iT4, iT5, iT6, iT7, iT8, iT9, iT10, iT11⟩, _, _⟩ := hxT; go_simp; try (with_reducible rfl))); (try simp only [Act.put, List.getElem_toArray, List.getElem_cons_succ, List.getElem_cons_zero, List.setIfInBounds_toArray, List.set_cons_zero, List.set_cons_succ])
  (refine wpAnyH_take (i := 2) (v := ?_) rfl (by kernel_rfl) (by kernel_rfl) (by kernel_rfl) (fun _ _ _ h => h) (Or.inl ⟨rfl, ?_⟩) (by assumption) ?_; rotate_left; focus (intro W hSw; (try dsimp only at hSw); have hxx := HXX.out _ hSw; have hxT := hxx; obtain ⟨⟨iT0, iT1, iT2, iT3, iT4, iT5, iT6, iT7, iT8, iT9, iT10, iT11⟩, _, _⟩ := hxT; go_simp; try (with_reducible rfl))); (try simp only [Act.put, List.getElem_toArray, List.getElem_cons_succ, List.getElem_cons_zero, List.setIfInBounds_toArray, List.set_cons_zero, List.set_cons_succ])
  (refine wpAnyH_take (i := 3) (v := ?_) rfl (by kernel_rfl) (by kernel_rfl) (by kernel_rfl) (fun _ _ _ h => h) (Or.inl ⟨rfl, ?_⟩) (by assumption) ?_; rotate_left; focus (intro W hSw; (try dsimp only at hSw); have hxx := HXX.out _ hSw; have hxT := hxx; obtain ⟨⟨iT0, iT1, iT2, iT3, iT4, iT5, iT6, iT7, iT8, iT9, iT10, iT11⟩, _, _⟩ := hxT; go_simp; try (with_reducible rfl))); (try simp only [Act.put, List.getElem_toArray, List.getElem_cons_succ, List.getElem_cons_zero, List.setIfInBounds_toArray, List.set_cons_zero, List.set_cons_succ])
  (refine wpAnyH_take (i := 5) (v := ?_) rfl (by kernel_rfl) (by kernel_rfl) (by kernel_rfl) (fun _ _ _ h => h) (Or.inl ⟨rfl, ?_⟩) (by assumption) ?_; rotate_left; focus (intro W hSw; (try dsimp only at hSw); have hxx := HXX.out _ hSw; have hxT := hxx; obtain ⟨⟨iT0, iT1, iT2, iT3, iT4, iT5, iT6, iT7, iT8, iT9, iT10, iT11⟩, _, _⟩ := hxT; go_simp; try (with_reducible rfl))); (try simp only [Act.put, List.getElem_toArray, List.getElem_cons_succ, List.getElem_cons_zero, List.setIfInBounds_toArray, List.set_cons_zero, List.set_cons_succ])
  (refine wpAnyH_take (i := 6) (v := ?_) rfl (by kernel_rfl) (by kernel_rfl) (by kernel_rfl) (fun _ _ _ h => h) (Or.inl ⟨rfl, ?_⟩) (by assumption) ?_; rotate_left; focus (intro W hSw; (try dsimp only at hSw); have hxx := HXX.out _ hSw; have hxT := hxx; obtain ⟨⟨iT0, iT1, iT2, iT3, iT4, iT5, iT6, iT7, iT8, iT9, iT10, iT11⟩, _, _⟩ := hxT; go_simp; try (with_reducible rfl))); (try simp only [Act.put, List.getElem_toArray, List.getElem_cons_succ, List.getElem_cons_zero, List.setIfInBounds_toArray, List.set_cons_zero, List.set_cons_succ])
  (refine wpAnyH_take (i := 7) (v := ?_) rfl (by kernel_rfl) (by kernel_rfl) (by kernel_rfl) (fun _ _ _ h => h) (Or.inl ⟨rfl, ?_⟩) (by assumption) ?_; rotate_left; focus (intro W hSw; (try dsimp only at hSw); have hxx := HXX.out _ hSw; have hxT := hxx; obtain ⟨⟨iT0, iT1, iT2, iT3, iT4, iT5, iT6, iT7, iT8, iT9, iT10, iT11⟩, _, _⟩ := hxT; go_simp; try (with_reducible rfl))); (try simp only [Act.put, List.getElem_toArray, List.getElem_cons_succ, List.getElem_cons_zero, List.setIfInBounds_toArray, List.set_cons_zero, List.set_cons_succ])
  (refine wpAnyH_take (i := 8) (v := ?_) rfl (by kernel_rfl) (by kernel_rfl) (by kernel_rfl) (fun _ _ _ h => h) (Or.inl ⟨rfl, ?_⟩) (by assumption) ?_; rotate_left; focus (intro W hSw; (try dsimp only at hSw); have hxx := HXX.out _ hSw; have hxT := hxx; obtain ⟨⟨iT0, iT1, iT2, iT3, iT4, iT5, iT6, iT7, iT8, iT9, iT10, iT11⟩, _, _⟩ := hxT; go_simp; try (with_reducible rfl))); (try simp only [Act.put, List.getElem_toArray, List.getElem_cons_succ, List.getElem_cons_zero, List.setIfInBounds_toArray, List.set_cons_zero, List.set_cons_succ])
  (refine wpAnyH_take (i := 10) (v := ?_) rfl (by kernel_rfl) (by kernel_rfl) (by kernel_rfl) (fun _ _ _ h => h) (Or.inl ⟨rfl, ?_⟩) (by assumption) ?_; rotate_left; focus (intro W hSw; (try dsimp only at hSw); have hxx := HXX.out _ hSw; have hxT := hxx; obtain ⟨⟨iT0, iT1, iT2, iT3, iT4, iT5, iT6, iT7, iT8, iT9, iT10, iT11⟩, _, _⟩ := hxT; go_simp; try (with_reducible rfl))); (try simp only [Act.put, List.getElem_toArray, List.getElem_cons_succ, List.getElem_cons_zero, List.setIfInBounds_toArray, List.set_cons_zero, List.set_cons_succ])
  (refine wpAnyH_take (i := 11) (v := ?_) rfl (by kernel_rfl) (by kernel_rfl) (by kernel_rfl) (fun _ _ _ h => h) (Or.inl ⟨rfl, ?_⟩) (by assumption) ?_; rotate_left; focus (intro W hSw; (try dsimp only at hSw); have hxx := HXX.out _ hSw; have hxT := hxx; obtain ⟨⟨iT0, iT1, iT2, iT3, iT4, iT5, iT6, iT7, iT8, iT9, iT10, iT11⟩, _, _⟩ := hxT; go_simp; try (with_reducible rfl))); (try simp only [Act.put, List.getElem_toArray, List.getElem_cons_succ, List.getElem_cons_zero, List.setIfInBounds_toArray, List.set_cons_zero, List.set_cons_succ])
  (refine wpAnyH_take (i := 12) (v := ?_) rfl (by kernel_rfl) (by kernel_rfl) (by kernel_rfl) (fun _ _ _ h => h) (Or.inl ⟨rfl, ?_⟩) (by assumption) ?_; rotate_left; focus (intro W hSw; (try dsimp only at hSw); have hxx := HXX.out _ hSw; have hxT := hxx; obtain ⟨⟨iT0, iT1, iT2, iT3, iT4, iT5, iT6, iT7, iT8, iT9, iT10, iT11⟩, _, _⟩ := hxT; go_simp; try (with_reducible rfl))); (try simp only [Act.put, List.getElem_toArray, List.getElem_cons_succ, List.getElem_cons_zero, List.setIfInBounds_toArray, List.set_cons_zero, List.set_cons_succ])
  (refine wpAnyH_take (i := 13) (v := ?_) rfl (by kernel_rfl) (by kernel_rfl) (by kernel_rfl) (fun _ _ _ h => h) (Or.inl ⟨rfl, ?_⟩) (by assumption) ?_; rotate_left; focus (intro W hSw; (try dsimp only at hSw); have hxx := HXX.out _ hSw; have hxT := hxx; obtain ⟨⟨iT0, iT1, iT2, iT3, iT4, iT5, iT6, iT7, iT8, iT9, iT10, iT11⟩, _, _⟩ := hxT; go_simp; try (with_reducible rfl))); (try simp only [Act.put, List.getElem_toArray, List.getElem_cons_succ, List.getElem_cons_zero, List.setIfInBounds_toArray, List.set_cons_zero, List.set_cons_succ])
  refine wpAnyH_ready (rs := [4]) (by kernel_rfl) (by simp) ?_; refine AllReadyH.cons rfl (fun K hK => ?_) AllReadyH.nil
  go_simp; (go_at_call 85; refine (l08Plus_minus _ _ _ _ _ _ _ HU1.out HU0.out).mono ?_; rintro en ywr0x0 ⟨rfl, hb2⟩); have HT := Lib.hid (HT.out.below hb2); refine hK.out _ _ (below_after hb2 hHeld) (fun hHeld2 => ?_); clear hb2; (clear hHeld; rename _ => hHeld; clear hK K; have hHeld : Below w0.heap.size w0 _ := hHeld); (try simp only [Act.put, List.getElem_toArray, List.getElem_cons_succ, List.getElem_cons_zero, List.setIfInBounds_toArray, List.set_cons_zero, List.set_cons_succ])
  refine wpAnyH_ready (rs := [9]) (by kernel_rfl) (by simp) ?_; refine AllReadyH.cons rfl (fun K hK => ?_) AllReadyH.nil
  go_simp; (go_at_call 85; refine (l08Plus_minus _ _ _ _ _ _ _ HU2.out HU0.out).mono ?_; rintro en ywr0x1 ⟨rfl, hb2⟩); have HT := Lib.hid (HT.out.below hb2); refine hK.out _ _ (below_after hb2 hHeld) (fun hHeld2 => ?_); clear hb2; (clear hHeld; rename _ => hHeld; clear hK K; have hHeld : Below w0.heap.size w0 _ := hHeld); (try simp only [Act.put, List.getElem_toArray, List.getElem_cons_succ, List.getElem_cons_zero, List.setIfInBounds_toArray, List.set_cons_zero, List.set_cons_succ])
  refine wpAnyH_ready (rs := [14]) (by kernel_rfl) (by simp) ?_; refine AllReadyH.cons rfl (fun K hK => ?_) AllReadyH.nil
  go_simp; (go_at_call 85; refine (l08Plus_minus _ _ _ _ _ _ _ HU3.out HU0.out).mono ?_; rintro en ywr0x2 ⟨rfl, hb2⟩); have HT := Lib.hid (HT.out.below hb2); refine hK.out _ _ (below_after hb2 hHeld) (fun hHeld2 => ?_); clear hb2; (clear hHeld; rename _ => hHeld; clear hK K; have hHeld : Below w0.heap.size w0 _ := hHeld); (try simp only [Act.put, List.getElem_toArray, List.getElem_cons_succ, List.getElem_cons_zero, List.setIfInBounds_toArray, List.set_cons_zero, List.set_cons_succ])
  refine wpAnyH_ready (rs := [15]) (by kernel_rfl) (by simp) ?_; refine AllReadyH.cons rfl (fun K hK => ?_) AllReadyH.nil
  go_simp; (go_at_call 51; refine (l08Det_any _ _ _ _ _ _ _ _ _ _ HE0.out HE1.out HE2.out).mono ?_; rintro en ywr0x3 ⟨rfl, hb2⟩); have HT := Lib.hid (HT.out.below hb2); refine hK.out _ _ (below_after hb2 hHeld) (fun hHeld2 => ?_); clear hb2; (clear hHeld; rename _ => hHeld; clear hK K; have hHeld : Below w0.heap.size w0 _ := hHeld); (try simp only [Act.put, List.getElem_toArray, List.getElem_cons_succ, List.getElem_cons_zero, List.setIfInBounds_toArray, List.set_cons_zero, List.set_cons_succ])
  (refine wpAnyH_take (i := 16) (v := ?_) rfl (by kernel_rfl) (by kernel_rfl) (by kernel_rfl) (fun _ _ _ h => h) (Or.inl ⟨rfl, ?_⟩) (by assumption) ?_; rotate_left; focus (intro W hSw; (try dsimp only at hSw); have hxx := HXX.out _ hSw; have hxT := hxx; obtain ⟨⟨iT0, iT1, iT2, iT3, iT4, iT5, iT6, iT7, iT8, iT9, iT10, iT11⟩, _, _⟩ := hxT; go_simp; try (with_reducible rfl))); (try simp only [Act.put, List.getElem_toArray, List.getElem_cons_succ, List.getElem_cons_zero, List.setIfInBounds_toArray, List.set_cons_zero, List.set_cons_succ])
  refine wpAnyH_done (by kernel_rfl) ?_ _
  have HB := Lib.hid (HB.out.trans (hHeld.mono HB.out.size))
  clear hHeld HXX
  generalize hD : detV (t3 - t0) (t4 - t1) (t5 - t2) (t6 - t0) (t7 - t1) (t8 - t2) (t9 - t0) (t10 - t1) (t11 - t2) = D at *
  obtain ⟨⟨qT0, qT1, qT2, qT3, qT4, qT5, qT6, qT7, qT8, qT9, qT10, qT11⟩, ⟨fT0, fT1, fT2, fT3, fT4, fT5, fT6, fT7, fT8, fT9, fT10, fT11⟩, zT⟩ := HT.out
  have hd := HD.out
  unfold Wi at hd
  clear HD
  go_wp2_with fail
  all_goals
    go_ret
    have hb := HB.out
    have hb2 := HB.out
    rw [hG] at hb2
    exact ⟨ret_int (by unfold absI; omega), by (repeat' (first | (with_reducible exact Below.refl _ _) | (with_reducible refine Below.alloc ?_ ?_ _) | (with_reducible refine Below.setCell ?_ ?_ _) | (with_reducible refine Below.drew ?_) | (with_reducible refine below_drewN ?_ _) | (with_reducible assumption) | (with_reducible refine below_after (by with_reducible assumption) ?_) | go_size))⟩
set_option maxHeartbeats 1600000 in
theorem l08Tetra_any (t0 t1 t2 t3 t4 t5 t6 t7 t8 t9 t10 t11 : Int) (w : World) :
    Calls Tryd.prog 76 #[.agg #[.int .i64 t0, .int .i64 t1, .int .i64 t2, .int .i64 t3, .int .i64 t4, .int .i64 t5, .int .i64 t6, .int .i64 t7, .int .i64 t8, .int .i64 t9, .int .i64 t10, .int .i64 t11]] w fun e w' => e = .returned (.bool (isTe t0 t1 t2 t3 t4 t5 t6 t7 t8 t9 t10 t11)) ∧ Below w.heap.size w w' := by
  cases k0 : isSp t0 t1 t2
  · skip
    have HK0 := Lib.hid k0
    have HS0 : Hid (∀ w, Calls Tryd.prog 45 #[.agg #[.int .i64 t0, .int .i64 t1, .int .i64 t2]] w fun e w' => e = .returned (.bool false) ∧ Below w.heap.size w w') := fun w => by have := l08Spot_any t0 t1 t2 w; rwa [k0] at this
    clear k0
    obtain ⟨GT, hG⟩ : ∃ G, w.heap.size = G := ⟨_, rfl⟩
    have HG := Lib.hid hG
    go_enter Tryd.func76, Tryd.ntmps76
    go_upto_region 1 with fail
    obtain ⟨w0, hw0⟩ : ∃ w0, w0 = (w.alloc (.cells #[.int .i64 t0, .int .i64 t1, .int .i64 t2, .int .i64 t3, .int .i64 t4, .int .i64 t5, .int .i64 t6, .int .i64 t7, .int .i64 t8, .int .i64 t9, .int .i64 t10, .int .i64 t11] 54)) := ⟨_, rfl⟩
    rw [← hw0]
    have HT : Hid (Bk12 w0 GT t0 t1 t2 t3 t4 t5 t6 t7 t8 t9 t10 t11) := by
      have h := (bk12_new w t0 t1 t2 t3 t4 t5 t6 t7 t8 t9 t10 t11 54).below (W' := (w.alloc (.cells #[.int .i64 t0, .int .i64 t1, .int .i64 t2, .int .i64 t3, .int .i64 t4, .int .i64 t5, .int .i64 t6, .int .i64 t7, .int .i64 t8, .int .i64 t9, .int .i64 t10, .int .i64 t11] 54))) (by (repeat' (first | (with_reducible exact Below.refl _ _) | (with_reducible refine Below.alloc ?_ ?_ _) | (with_reducible refine Below.setCell ?_ ?_ _) | (with_reducible refine Below.drew ?_) | (with_reducible refine below_drewN ?_ _) | (with_reducible assumption) | (with_reducible refine below_after (by with_reducible assumption) ?_) | go_size)))
      (try simp only [World.size_alloc] at h)
      rw [hG] at h
      rw [hw0]; exact h
    have HB : Hid (Below w.heap.size w w0) := by show Below w.heap.size w w0; rw [hw0]; (repeat' (first | (with_reducible exact Below.refl _ _) | (with_reducible refine Below.alloc ?_ ?_ _) | (with_reducible refine Below.setCell ?_ ?_ _) | (with_reducible refine Below.drew ?_) | (with_reducible refine below_drewN ?_ _) | (with_reducible assumption) | (with_reducible refine below_after (by with_reducible assumption) ?_) | go_size))
    clear hw0
    have le_T : w.heap.size ≤ GT := by omega
    obtain ⟨⟨qT0, qT1, qT2, qT3, qT4, qT5, qT6, qT7, qT8, qT9, qT10, qT11⟩, ⟨fT0, fT1, fT2, fT3, fT4, fT5, fT6, fT7, fT8, fT9, fT10, fT11⟩, zT⟩ := HT.out
    go_wp2_with fail
    refine wp_loop_rounds 5 ?_
    clear qT0 fT0 qT1 fT1 qT2 fT2 qT3 fT3 qT4 fT4 qT5 fT5 qT6 fT6 qT7 fT7 qT8 fT8 qT9 fT9 qT10 fT10 qT11 fT11 zT
    rw [rounds_succ]
    obtain ⟨⟨qT0, qT1, qT2, qT3, qT4, qT5, qT6, qT7, qT8, qT9, qT10, qT11⟩, ⟨fT0, fT1, fT2, fT3, fT4, fT5, fT6, fT7, fT8, fT9, fT10, fT11⟩, zT⟩ := HT.out
    go_wp2_with fail
    go_at_call 45
    refine (HS0.out _).mono ?_
    rintro e w1 ⟨rfl, hb⟩
    clear qT0 fT0 qT1 fT1 qT2 fT2 qT3 fT3 qT4 fT4 qT5 fT5 qT6 fT6 qT7 fT7 qT8 fT8 qT9 fT9 qT10 fT10 qT11 fT11 zT
    have HT := Lib.hid (HT.out.below hb)
    have HB := Lib.hid (below_after hb HB.out)
    clear hb
    obtain ⟨⟨qT0, qT1, qT2, qT3, qT4, qT5, qT6, qT7, qT8, qT9, qT10, qT11⟩, ⟨fT0, fT1, fT2, fT3, fT4, fT5, fT6, fT7, fT8, fT9, fT10, fT11⟩, zT⟩ := HT.out
    go_wp2_with fail
    refine bodyPost_ret (v := .bool false) (by simp (maxDischargeDepth := 8) [results, Tryd.results76, go_sem, *]) rfl ?_
    have hb := HB.out
    exact ⟨by simp [isTe, HK0.out], by (repeat' (first | (with_reducible exact Below.refl _ _) | (with_reducible refine Below.alloc ?_ ?_ _) | (with_reducible refine Below.setCell ?_ ?_ _) | (with_reducible refine Below.drew ?_) | (with_reducible refine below_drewN ?_ _) | (with_reducible assumption) | (with_reducible refine below_after (by with_reducible assumption) ?_) | go_size))⟩
  · skip
    have HK0 := Lib.hid k0
    have HS0 : Hid (∀ w, Calls Tryd.prog 45 #[.agg #[.int .i64 t0, .int .i64 t1, .int .i64 t2]] w fun e w' => e = .returned (.bool true) ∧ Below w.heap.size w w') := fun w => by have := l08Spot_any t0 t1 t2 w; rwa [k0] at this
    clear k0
    cases k1 : isSp t3 t4 t5
    · skip
      have HK1 := Lib.hid k1
      have HS1 : Hid (∀ w, Calls Tryd.prog 45 #[.agg #[.int .i64 t3, .int .i64 t4, .int .i64 t5]] w fun e w' => e = .returned (.bool false) ∧ Below w.heap.size w w') := fun w => by have := l08Spot_any t3 t4 t5 w; rwa [k1] at this
      clear k1
      obtain ⟨GT, hG⟩ : ∃ G, w.heap.size = G := ⟨_, rfl⟩
      have HG := Lib.hid hG
      go_enter Tryd.func76, Tryd.ntmps76
      go_upto_region 1 with fail
      obtain ⟨w0, hw0⟩ : ∃ w0, w0 = (w.alloc (.cells #[.int .i64 t0, .int .i64 t1, .int .i64 t2, .int .i64 t3, .int .i64 t4, .int .i64 t5, .int .i64 t6, .int .i64 t7, .int .i64 t8, .int .i64 t9, .int .i64 t10, .int .i64 t11] 54)) := ⟨_, rfl⟩
      rw [← hw0]
      have HT : Hid (Bk12 w0 GT t0 t1 t2 t3 t4 t5 t6 t7 t8 t9 t10 t11) := by
        have h := (bk12_new w t0 t1 t2 t3 t4 t5 t6 t7 t8 t9 t10 t11 54).below (W' := (w.alloc (.cells #[.int .i64 t0, .int .i64 t1, .int .i64 t2, .int .i64 t3, .int .i64 t4, .int .i64 t5, .int .i64 t6, .int .i64 t7, .int .i64 t8, .int .i64 t9, .int .i64 t10, .int .i64 t11] 54))) (by (repeat' (first | (with_reducible exact Below.refl _ _) | (with_reducible refine Below.alloc ?_ ?_ _) | (with_reducible refine Below.setCell ?_ ?_ _) | (with_reducible refine Below.drew ?_) | (with_reducible refine below_drewN ?_ _) | (with_reducible assumption) | (with_reducible refine below_after (by with_reducible assumption) ?_) | go_size)))
        (try simp only [World.size_alloc] at h)
        rw [hG] at h
        rw [hw0]; exact h
      have HB : Hid (Below w.heap.size w w0) := by show Below w.heap.size w w0; rw [hw0]; (repeat' (first | (with_reducible exact Below.refl _ _) | (with_reducible refine Below.alloc ?_ ?_ _) | (with_reducible refine Below.setCell ?_ ?_ _) | (with_reducible refine Below.drew ?_) | (with_reducible refine below_drewN ?_ _) | (with_reducible assumption) | (with_reducible refine below_after (by with_reducible assumption) ?_) | go_size))
      clear hw0
      have le_T : w.heap.size ≤ GT := by omega
      obtain ⟨⟨qT0, qT1, qT2, qT3, qT4, qT5, qT6, qT7, qT8, qT9, qT10, qT11⟩, ⟨fT0, fT1, fT2, fT3, fT4, fT5, fT6, fT7, fT8, fT9, fT10, fT11⟩, zT⟩ := HT.out
      go_wp2_with fail
      refine wp_loop_rounds 5 ?_
      clear qT0 fT0 qT1 fT1 qT2 fT2 qT3 fT3 qT4 fT4 qT5 fT5 qT6 fT6 qT7 fT7 qT8 fT8 qT9 fT9 qT10 fT10 qT11 fT11 zT
      rw [rounds_succ]
      obtain ⟨⟨qT0, qT1, qT2, qT3, qT4, qT5, qT6, qT7, qT8, qT9, qT10, qT11⟩, ⟨fT0, fT1, fT2, fT3, fT4, fT5, fT6, fT7, fT8, fT9, fT10, fT11⟩, zT⟩ := HT.out
      go_wp2_with fail
      go_at_call 45
      refine (HS0.out _).mono ?_
      rintro e w1 ⟨rfl, hb⟩
      clear qT0 fT0 qT1 fT1 qT2 fT2 qT3 fT3 qT4 fT4 qT5 fT5 qT6 fT6 qT7 fT7 qT8 fT8 qT9 fT9 qT10 fT10 qT11 fT11 zT
      have HT := Lib.hid (HT.out.below hb)
      have HB := Lib.hid (below_after hb HB.out)
      clear hb
      obtain ⟨⟨qT0, qT1, qT2, qT3, qT4, qT5, qT6, qT7, qT8, qT9, qT10, qT11⟩, ⟨fT0, fT1, fT2, fT3, fT4, fT5, fT6, fT7, fT8, fT9, fT10, fT11⟩, zT⟩ := HT.out
      go_wp2_with fail
      clear qT0 fT0 qT1 fT1 qT2 fT2 qT3 fT3 qT4 fT4 qT5 fT5 qT6 fT6 qT7 fT7 qT8 fT8 qT9 fT9 qT10 fT10 qT11 fT11 zT
      rw [rounds_succ]
      obtain ⟨⟨qT0, qT1, qT2, qT3, qT4, qT5, qT6, qT7, qT8, qT9, qT10, qT11⟩, ⟨fT0, fT1, fT2, fT3, fT4, fT5, fT6, fT7, fT8, fT9, fT10, fT11⟩, zT⟩ := HT.out
      go_wp2_with fail
      go_at_call 45
      refine (HS1.out _).mono ?_
      rintro e w2 ⟨rfl, hb⟩
      clear qT0 fT0 qT1 fT1 qT2 fT2 qT3 fT3 qT4 fT4 qT5 fT5 qT6 fT6 qT7 fT7 qT8 fT8 qT9 fT9 qT10 fT10 qT11 fT11 zT
      have HT := Lib.hid (HT.out.below hb)
      have HB := Lib.hid (below_after hb HB.out)
      clear hb
      obtain ⟨⟨qT0, qT1, qT2, qT3, qT4, qT5, qT6, qT7, qT8, qT9, qT10, qT11⟩, ⟨fT0, fT1, fT2, fT3, fT4, fT5, fT6, fT7, fT8, fT9, fT10, fT11⟩, zT⟩ := HT.out
      go_wp2_with fail
      refine bodyPost_ret (v := .bool false) (by simp (maxDischargeDepth := 8) [results, Tryd.results76, go_sem, *]) rfl ?_
      have hb := HB.out
      exact ⟨by simp [isTe, HK0.out, HK1.out], by (repeat' (first | (with_reducible exact Below.refl _ _) | (with_reducible refine Below.alloc ?_ ?_ _) | (with_reducible refine Below.setCell ?_ ?_ _) | (with_reducible refine Below.drew ?_) | (with_reducible refine below_drewN ?_ _) | (with_reducible assumption) | (with_reducible refine below_after (by with_reducible assumption) ?_) | go_size))⟩
    · skip
      have HK1 := Lib.hid k1
      have HS1 : Hid (∀ w, Calls Tryd.prog 45 #[.agg #[.int .i64 t3, .int .i64 t4, .int .i64 t5]] w fun e w' => e = .returned (.bool true) ∧ Below w.heap.size w w') := fun w => by have := l08Spot_any t3 t4 t5 w; rwa [k1] at this
      clear k1
      cases k2 : isSp t6 t7 t8
      · skip
        have HK2 := Lib.hid k2
        have HS2 : Hid (∀ w, Calls Tryd.prog 45 #[.agg #[.int .i64 t6, .int .i64 t7, .int .i64 t8]] w fun e w' => e = .returned (.bool false) ∧ Below w.heap.size w w') := fun w => by have := l08Spot_any t6 t7 t8 w; rwa [k2] at this
        clear k2
        obtain ⟨GT, hG⟩ : ∃ G, w.heap.size = G := ⟨_, rfl⟩
        have HG := Lib.hid hG
        go_enter Tryd.func76, Tryd.ntmps76
        go_upto_region 1 with fail
        obtain ⟨w0, hw0⟩ : ∃ w0, w0 = (w.alloc (.cells #[.int .i64 t0, .int .i64 t1, .int .i64 t2, .int .i64 t3, .int .i64 t4, .int .i64 t5, .int .i64 t6, .int .i64 t7, .int .i64 t8, .int .i64 t9, .int .i64 t10, .int .i64 t11] 54)) := ⟨_, rfl⟩
        rw [← hw0]
        have HT : Hid (Bk12 w0 GT t0 t1 t2 t3 t4 t5 t6 t7 t8 t9 t10 t11) := by
          have h := (bk12_new w t0 t1 t2 t3 t4 t5 t6 t7 t8 t9 t10 t11 54).below (W' := (w.alloc (.cells #[.int .i64 t0, .int .i64 t1, .int .i64 t2, .int .i64 t3, .int .i64 t4, .int .i64 t5, .int .i64 t6, .int .i64 t7, .int .i64 t8, .int .i64 t9, .int .i64 t10, .int .i64 t11] 54))) (by (repeat' (first | (with_reducible exact Below.refl _ _) | (with_reducible refine Below.alloc ?_ ?_ _) | (with_reducible refine Below.setCell ?_ ?_ _) | (with_reducible refine Below.drew ?_) | (with_reducible refine below_drewN ?_ _) | (with_reducible assumption) | (with_reducible refine below_after (by with_reducible assumption) ?_) | go_size)))
          (try simp only [World.size_alloc] at h)
          rw [hG] at h
          rw [hw0]; exact h
        have HB : Hid (Below w.heap.size w w0) := by show Below w.heap.size w w0; rw [hw0]; (repeat' (first | (with_reducible exact Below.refl _ _) | (with_reducible refine Below.alloc ?_ ?_ _) | (with_reducible refine Below.setCell ?_ ?_ _) | (with_reducible refine Below.drew ?_) | (with_reducible refine below_drewN ?_ _) | (with_reducible assumption) | (with_reducible refine below_after (by with_reducible assumption) ?_) | go_size))
        clear hw0
        have le_T : w.heap.size ≤ GT := by omega
        obtain ⟨⟨qT0, qT1, qT2, qT3, qT4, qT5, qT6, qT7, qT8, qT9, qT10, qT11⟩, ⟨fT0, fT1, fT2, fT3, fT4, fT5, fT6, fT7, fT8, fT9, fT10, fT11⟩, zT⟩ := HT.out
        go_wp2_with fail
        refine wp_loop_rounds 5 ?_
        clear qT0 fT0 qT1 fT1 qT2 fT2 qT3 fT3 qT4 fT4 qT5 fT5 qT6 fT6 qT7 fT7 qT8 fT8 qT9 fT9 qT10 fT10 qT11 fT11 zT
        rw [rounds_succ]
        obtain ⟨⟨qT0, qT1, qT2, qT3, qT4, qT5, qT6, qT7, qT8, qT9, qT10, qT11⟩, ⟨fT0, fT1, fT2, fT3, fT4, fT5, fT6, fT7, fT8, fT9, fT10, fT11⟩, zT⟩ := HT.out
        go_wp2_with fail
        go_at_call 45
        refine (HS0.out _).mono ?_
        rintro e w1 ⟨rfl, hb⟩
        clear qT0 fT0 qT1 fT1 qT2 fT2 qT3 fT3 qT4 fT4 qT5 fT5 qT6 fT6 qT7 fT7 qT8 fT8 qT9 fT9 qT10 fT10 qT11 fT11 zT
        have HT := Lib.hid (HT.out.below hb)
        have HB := Lib.hid (below_after hb HB.out)
        clear hb
        obtain ⟨⟨qT0, qT1, qT2, qT3, qT4, qT5, qT6, qT7, qT8, qT9, qT10, qT11⟩, ⟨fT0, fT1, fT2, fT3, fT4, fT5, fT6, fT7, fT8, fT9, fT10, fT11⟩, zT⟩ := HT.out
        go_wp2_with fail
        clear qT0 fT0 qT1 fT1 qT2 fT2 qT3 fT3 qT4 fT4 qT5 fT5 qT6 fT6 qT7 fT7 qT8 fT8 qT9 fT9 qT10 fT10 qT11 fT11 zT
        rw [rounds_succ]
        obtain ⟨⟨qT0, qT1, qT2, qT3, qT4, qT5, qT6, qT7, qT8, qT9, qT10, qT11⟩, ⟨fT0, fT1, fT2, fT3, fT4, fT5, fT6, fT7, fT8, fT9, fT10, fT11⟩, zT⟩ := HT.out
        go_wp2_with fail
        go_at_call 45
        refine (HS1.out _).mono ?_
        rintro e w2 ⟨rfl, hb⟩
        clear qT0 fT0 qT1 fT1 qT2 fT2 qT3 fT3 qT4 fT4 qT5 fT5 qT6 fT6 qT7 fT7 qT8 fT8 qT9 fT9 qT10 fT10 qT11 fT11 zT
        have HT := Lib.hid (HT.out.below hb)
        have HB := Lib.hid (below_after hb HB.out)
        clear hb
        obtain ⟨⟨qT0, qT1, qT2, qT3, qT4, qT5, qT6, qT7, qT8, qT9, qT10, qT11⟩, ⟨fT0, fT1, fT2, fT3, fT4, fT5, fT6, fT7, fT8, fT9, fT10, fT11⟩, zT⟩ := HT.out
        go_wp2_with fail
        clear qT0 fT0 qT1 fT1 qT2 fT2 qT3 fT3 qT4 fT4 qT5 fT5 qT6 fT6 qT7 fT7 qT8 fT8 qT9 fT9 qT10 fT10 qT11 fT11 zT
        rw [rounds_succ]
        obtain ⟨⟨qT0, qT1, qT2, qT3, qT4, qT5, qT6, qT7, qT8, qT9, qT10, qT11⟩, ⟨fT0, fT1, fT2, fT3, fT4, fT5, fT6, fT7, fT8, fT9, fT10, fT11⟩, zT⟩ := HT.out
        go_wp2_with fail
        go_at_call 45
        refine (HS2.out _).mono ?_
        rintro e w3 ⟨rfl, hb⟩
        clear qT0 fT0 qT1 fT1 qT2 fT2 qT3 fT3 qT4 fT4 qT5 fT5 qT6 fT6 qT7 fT7 qT8 fT8 qT9 fT9 qT10 fT10 qT11 fT11 zT
        have HT := Lib.hid (HT.out.below hb)
        have HB := Lib.hid (below_after hb HB.out)
        clear hb
        obtain ⟨⟨qT0, qT1, qT2, qT3, qT4, qT5, qT6, qT7, qT8, qT9, qT10, qT11⟩, ⟨fT0, fT1, fT2, fT3, fT4, fT5, fT6, fT7, fT8, fT9, fT10, fT11⟩, zT⟩ := HT.out
        go_wp2_with fail
        refine bodyPost_ret (v := .bool false) (by simp (maxDischargeDepth := 8) [results, Tryd.results76, go_sem, *]) rfl ?_
        have hb := HB.out
        exact ⟨by simp [isTe, HK0.out, HK1.out, HK2.out], by (repeat' (first | (with_reducible exact Below.refl _ _) | (with_reducible refine Below.alloc ?_ ?_ _) | (with_reducible refine Below.setCell ?_ ?_ _) | (with_reducible refine Below.drew ?_) | (with_reducible refine below_drewN ?_ _) | (with_reducible assumption) | (with_reducible refine below_after (by with_reducible assumption) ?_) | go_size))⟩
      · skip
        have HK2 := Lib.hid k2
        have HS2 : Hid (∀ w, Calls Tryd.prog 45 #[.agg #[.int .i64 t6, .int .i64 t7, .int .i64 t8]] w fun e w' => e = .returned (.bool true) ∧ Below w.heap.size w w') := fun w => by have := l08Spot_any t6 t7 t8 w; rwa [k2] at this
        clear k2
        cases k3 : isSp t9 t10 t11
        · skip
          have HK3 := Lib.hid k3
          have HS3 : Hid (∀ w, Calls Tryd.prog 45 #[.agg #[.int .i64 t9, .int .i64 t10, .int .i64 t11]] w fun e w' => e = .returned (.bool false) ∧ Below w.heap.size w w') := fun w => by have := l08Spot_any t9 t10 t11 w; rwa [k3] at this
          clear k3
          obtain ⟨GT, hG⟩ : ∃ G, w.heap.size = G := ⟨_, rfl⟩
          have HG := Lib.hid hG
          go_enter Tryd.func76, Tryd.ntmps76
          go_upto_region 1 with fail
          obtain ⟨w0, hw0⟩ : ∃ w0, w0 = (w.alloc (.cells #[.int .i64 t0, .int .i64 t1, .int .i64 t2, .int .i64 t3, .int .i64 t4, .int .i64 t5, .int .i64 t6, .int .i64 t7, .int .i64 t8, .int .i64 t9, .int .i64 t10, .int .i64 t11] 54)) := ⟨_, rfl⟩
          rw [← hw0]
          have HT : Hid (Bk12 w0 GT t0 t1 t2 t3 t4 t5 t6 t7 t8 t9 t10 t11) := by
            have h := (bk12_new w t0 t1 t2 t3 t4 t5 t6 t7 t8 t9 t10 t11 54).below (W' := (w.alloc (.cells #[.int .i64 t0, .int .i64 t1, .int .i64 t2, .int .i64 t3, .int .i64 t4, .int .i64 t5, .int .i64 t6, .int .i64 t7, .int .i64 t8, .int .i64 t9, .int .i64 t10, .int .i64 t11] 54))) (by (repeat' (first | (with_reducible exact Below.refl _ _) | (with_reducible refine Below.alloc ?_ ?_ _) | (with_reducible refine Below.setCell ?_ ?_ _) | (with_reducible refine Below.drew ?_) | (with_reducible refine below_drewN ?_ _) | (with_reducible assumption) | (with_reducible refine below_after (by with_reducible assumption) ?_) | go_size)))
            (try simp only [World.size_alloc] at h)
            rw [hG] at h
            rw [hw0]; exact h
          have HB : Hid (Below w.heap.size w w0) := by show Below w.heap.size w w0; rw [hw0]; (repeat' (first | (with_reducible exact Below.refl _ _) | (with_reducible refine Below.alloc ?_ ?_ _) | (with_reducible refine Below.setCell ?_ ?_ _) | (with_reducible refine Below.drew ?_) | (with_reducible refine below_drewN ?_ _) | (with_reducible assumption) | (with_reducible refine below_after (by with_reducible assumption) ?_) | go_size))
          clear hw0
          have le_T : w.heap.size ≤ GT := by omega
          obtain ⟨⟨qT0, qT1, qT2, qT3, qT4, qT5, qT6, qT7, qT8, qT9, qT10, qT11⟩, ⟨fT0, fT1, fT2, fT3, fT4, fT5, fT6, fT7, fT8, fT9, fT10, fT11⟩, zT⟩ := HT.out
          go_wp2_with fail
          refine wp_loop_rounds 5 ?_
          clear qT0 fT0 qT1 fT1 qT2 fT2 qT3 fT3 qT4 fT4 qT5 fT5 qT6 fT6 qT7 fT7 qT8 fT8 qT9 fT9 qT10 fT10 qT11 fT11 zT
          rw [rounds_succ]
          obtain ⟨⟨qT0, qT1, qT2, qT3, qT4, qT5, qT6, qT7, qT8, qT9, qT10, qT11⟩, ⟨fT0, fT1, fT2, fT3, fT4, fT5, fT6, fT7, fT8, fT9, fT10, fT11⟩, zT⟩ := HT.out
          go_wp2_with fail
          go_at_call 45
          refine (HS0.out _).mono ?_
          rintro e w1 ⟨rfl, hb⟩
          clear qT0 fT0 qT1 fT1 qT2 fT2 qT3 fT3 qT4 fT4 qT5 fT5 qT6 fT6 qT7 fT7 qT8 fT8 qT9 fT9 qT10 fT10 qT11 fT11 zT
          have HT := Lib.hid (HT.out.below hb)
          have HB := Lib.hid (below_after hb HB.out)
          clear hb
          obtain ⟨⟨qT0, qT1, qT2, qT3, qT4, qT5, qT6, qT7, qT8, qT9, qT10, qT11⟩, ⟨fT0, fT1, fT2, fT3, fT4, fT5, fT6, fT7, fT8, fT9, fT10, fT11⟩, zT⟩ := HT.out
          go_wp2_with fail
          clear qT0 fT0 qT1 fT1 qT2 fT2 qT3 fT3 qT4 fT4 qT5 fT5 qT6 fT6 qT7 fT7 qT8 fT8 qT9 fT9 qT10 fT10 qT11 fT11 zT
          rw [rounds_succ]
          obtain ⟨⟨qT0, qT1, qT2, qT3, qT4, qT5, qT6, qT7, qT8, qT9, qT10, qT11⟩, ⟨fT0, fT1, fT2, fT3, fT4, fT5, fT6, fT7, fT8, fT9, fT10, fT11⟩, zT⟩ := HT.out
          go_wp2_with fail
          go_at_call 45
          refine (HS1.out _).mono ?_
          rintro e w2 ⟨rfl, hb⟩
          clear qT0 fT0 qT1 fT1 qT2 fT2 qT3 fT3 qT4 fT4 qT5 fT5 qT6 fT6 qT7 fT7 qT8 fT8 qT9 fT9 qT10 fT10 qT11 fT11 zT
          have HT := Lib.hid (HT.out.below hb)
          have HB := Lib.hid (below_after hb HB.out)
          clear hb
          obtain ⟨⟨qT0, qT1, qT2, qT3, qT4, qT5, qT6, qT7, qT8, qT9, qT10, qT11⟩, ⟨fT0, fT1, fT2, fT3, fT4, fT5, fT6, fT7, fT8, fT9, fT10, fT11⟩, zT⟩ := HT.out
          go_wp2_with fail
          clear qT0 fT0 qT1 fT1 qT2 fT2 qT3 fT3 qT4 fT4 qT5 fT5 qT6 fT6 qT7 fT7 qT8 fT8 qT9 fT9 qT10 fT10 qT11 fT11 zT
          rw [rounds_succ]
          obtain ⟨⟨qT0, qT1, qT2, qT3, qT4, qT5, qT6, qT7, qT8, qT9, qT10, qT11⟩, ⟨fT0, fT1, fT2, fT3, fT4, fT5, fT6, fT7, fT8, fT9, fT10, fT11⟩, zT⟩ := HT.out
          go_wp2_with fail
          go_at_call 45
          refine (HS2.out _).mono ?_
          rintro e w3 ⟨rfl, hb⟩
          clear qT0 fT0 qT1 fT1 qT2 fT2 qT3 fT3 qT4 fT4 qT5 fT5 qT6 fT6 qT7 fT7 qT8 fT8 qT9 fT9 qT10 fT10 qT11 fT11 zT
          have HT := Lib.hid (HT.out.below hb)
          have HB := Lib.hid (below_after hb HB.out)
          clear hb
          obtain ⟨⟨qT0, qT1, qT2, qT3, qT4, qT5, qT6, qT7, qT8, qT9, qT10, qT11⟩, ⟨fT0, fT1, fT2, fT3, fT4, fT5, fT6, fT7, fT8, fT9, fT10, fT11⟩, zT⟩ := HT.out
          go_wp2_with fail
          clear qT0 fT0 qT1 fT1 qT2 fT2 qT3 fT3 qT4 fT4 qT5 fT5 qT6 fT6 qT7 fT7 qT8 fT8 qT9 fT9 qT10 fT10 qT11 fT11 zT
          rw [rounds_succ]
          obtain ⟨⟨qT0, qT1, qT2, qT3, qT4, qT5, qT6, qT7, qT8, qT9, qT10, qT11⟩, ⟨fT0, fT1, fT2, fT3, fT4, fT5, fT6, fT7, fT8, fT9, fT10, fT11⟩, zT⟩ := HT.out
          go_wp2_with fail
          go_at_call 45
          refine (HS3.out _).mono ?_
          rintro e w4 ⟨rfl, hb⟩
          clear qT0 fT0 qT1 fT1 qT2 fT2 qT3 fT3 qT4 fT4 qT5 fT5 qT6 fT6 qT7 fT7 qT8 fT8 qT9 fT9 qT10 fT10 qT11 fT11 zT
          have HT := Lib.hid (HT.out.below hb)
          have HB := Lib.hid (below_after hb HB.out)
          clear hb
          obtain ⟨⟨qT0, qT1, qT2, qT3, qT4, qT5, qT6, qT7, qT8, qT9, qT10, qT11⟩, ⟨fT0, fT1, fT2, fT3, fT4, fT5, fT6, fT7, fT8, fT9, fT10, fT11⟩, zT⟩ := HT.out
          go_wp2_with fail
          refine bodyPost_ret (v := .bool false) (by simp (maxDischargeDepth := 8) [results, Tryd.results76, go_sem, *]) rfl ?_
          have hb := HB.out
          exact ⟨by simp [isTe, HK0.out, HK1.out, HK2.out, HK3.out], by (repeat' (first | (with_reducible exact Below.refl _ _) | (with_reducible refine Below.alloc ?_ ?_ _) | (with_reducible refine Below.setCell ?_ ?_ _) | (with_reducible refine Below.drew ?_) | (with_reducible refine below_drewN ?_ _) | (with_reducible assumption) | (with_reducible refine below_after (by with_reducible assumption) ?_) | go_size))⟩
        · skip
          have HK3 := Lib.hid k3
          have HS3 : Hid (∀ w, Calls Tryd.prog 45 #[.agg #[.int .i64 t9, .int .i64 t10, .int .i64 t11]] w fun e w' => e = .returned (.bool true) ∧ Below w.heap.size w w') := fun w => by have := l08Spot_any t9 t10 t11 w; rwa [k3] at this
          clear k3
          obtain ⟨S, hS⟩ : ∃ S, voV t0 t1 t2 t3 t4 t5 t6 t7 t8 t9 t10 t11 = S := ⟨_, rfl⟩
          have HSZ : Hid (∀ w, Calls Tryd.prog 77 #[.agg #[.int .i64 t0, .int .i64 t1, .int .i64 t2, .int .i64 t3, .int .i64 t4, .int .i64 t5, .int .i64 t6, .int .i64 t7, .int .i64 t8, .int .i64 t9, .int .i64 t10, .int .i64 t11]] w fun e w' => e = .returned (.int .i64 S) ∧ Below w.heap.size w w') := fun w => by have := l08Volume_any t0 t1 t2 t3 t4 t5 t6 t7 t8 t9 t10 t11 w (isSp_W3 HK0.out) (isSp_W3 HK1.out) (isSp_W3 HK2.out) (isSp_W3 HK3.out); rwa [hS] at this
          by_cases hz : S = 0
          · subst hz
            have HV : Hid (isTe t0 t1 t2 t3 t4 t5 t6 t7 t8 t9 t10 t11 = false) := by show _ = _; simp [isTe, hS]
            clear hS
            obtain ⟨GT, hG⟩ : ∃ G, w.heap.size = G := ⟨_, rfl⟩
            have HG := Lib.hid hG
            go_enter Tryd.func76, Tryd.ntmps76
            go_upto_region 1 with fail
            obtain ⟨w0, hw0⟩ : ∃ w0, w0 = (w.alloc (.cells #[.int .i64 t0, .int .i64 t1, .int .i64 t2, .int .i64 t3, .int .i64 t4, .int .i64 t5, .int .i64 t6, .int .i64 t7, .int .i64 t8, .int .i64 t9, .int .i64 t10, .int .i64 t11] 54)) := ⟨_, rfl⟩
            rw [← hw0]
            have HT : Hid (Bk12 w0 GT t0 t1 t2 t3 t4 t5 t6 t7 t8 t9 t10 t11) := by
              have h := (bk12_new w t0 t1 t2 t3 t4 t5 t6 t7 t8 t9 t10 t11 54).below (W' := (w.alloc (.cells #[.int .i64 t0, .int .i64 t1, .int .i64 t2, .int .i64 t3, .int .i64 t4, .int .i64 t5, .int .i64 t6, .int .i64 t7, .int .i64 t8, .int .i64 t9, .int .i64 t10, .int .i64 t11] 54))) (by (repeat' (first | (with_reducible exact Below.refl _ _) | (with_reducible refine Below.alloc ?_ ?_ _) | (with_reducible refine Below.setCell ?_ ?_ _) | (with_reducible refine Below.drew ?_) | (with_reducible refine below_drewN ?_ _) | (with_reducible assumption) | (with_reducible refine below_after (by with_reducible assumption) ?_) | go_size)))
              (try simp only [World.size_alloc] at h)
              rw [hG] at h
              rw [hw0]; exact h
            have HB : Hid (Below w.heap.size w w0) := by show Below w.heap.size w w0; rw [hw0]; (repeat' (first | (with_reducible exact Below.refl _ _) | (with_reducible refine Below.alloc ?_ ?_ _) | (with_reducible refine Below.setCell ?_ ?_ _) | (with_reducible refine Below.drew ?_) | (with_reducible refine below_drewN ?_ _) | (with_reducible assumption) | (with_reducible refine below_after (by with_reducible assumption) ?_) | go_size))
            clear hw0
            have le_T : w.heap.size ≤ GT := by omega
            obtain ⟨⟨qT0, qT1, qT2, qT3, qT4, qT5, qT6, qT7, qT8, qT9, qT10, qT11⟩, ⟨fT0, fT1, fT2, fT3, fT4, fT5, fT6, fT7, fT8, fT9, fT10, fT11⟩, zT⟩ := HT.out
            go_wp2_with fail
            refine wp_loop_rounds 5 ?_
            clear qT0 fT0 qT1 fT1 qT2 fT2 qT3 fT3 qT4 fT4 qT5 fT5 qT6 fT6 qT7 fT7 qT8 fT8 qT9 fT9 qT10 fT10 qT11 fT11 zT
            rw [rounds_succ]
            obtain ⟨⟨qT0, qT1, qT2, qT3, qT4, qT5, qT6, qT7, qT8, qT9, qT10, qT11⟩, ⟨fT0, fT1, fT2, fT3, fT4, fT5, fT6, fT7, fT8, fT9, fT10, fT11⟩, zT⟩ := HT.out
            go_wp2_with fail
            go_at_call 45
            refine (HS0.out _).mono ?_
            rintro e w1 ⟨rfl, hb⟩
            clear qT0 fT0 qT1 fT1 qT2 fT2 qT3 fT3 qT4 fT4 qT5 fT5 qT6 fT6 qT7 fT7 qT8 fT8 qT9 fT9 qT10 fT10 qT11 fT11 zT
            have HT := Lib.hid (HT.out.below hb)
            have HB := Lib.hid (below_after hb HB.out)
            clear hb
            obtain ⟨⟨qT0, qT1, qT2, qT3, qT4, qT5, qT6, qT7, qT8, qT9, qT10, qT11⟩, ⟨fT0, fT1, fT2, fT3, fT4, fT5, fT6, fT7, fT8, fT9, fT10, fT11⟩, zT⟩ := HT.out
            go_wp2_with fail
            clear qT0 fT0 qT1 fT1 qT2 fT2 qT3 fT3 qT4 fT4 qT5 fT5 qT6 fT6 qT7 fT7 qT8 fT8 qT9 fT9 qT10 fT10 qT11 fT11 zT
            rw [rounds_succ]
            obtain ⟨⟨qT0, qT1, qT2, qT3, qT4, qT5, qT6, qT7, qT8, qT9, qT10, qT11⟩, ⟨fT0, fT1, fT2, fT3, fT4, fT5, fT6, fT7, fT8, fT9, fT10, fT11⟩, zT⟩ := HT.out
            go_wp2_with fail
            go_at_call 45
            refine (HS1.out _).mono ?_
            rintro e w2 ⟨rfl, hb⟩
            clear qT0 fT0 qT1 fT1 qT2 fT2 qT3 fT3 qT4 fT4 qT5 fT5 qT6 fT6 qT7 fT7 qT8 fT8 qT9 fT9 qT10 fT10 qT11 fT11 zT
            have HT := Lib.hid (HT.out.below hb)
            have HB := Lib.hid (below_after hb HB.out)
            clear hb
            obtain ⟨⟨qT0, qT1, qT2, qT3, qT4, qT5, qT6, qT7, qT8, qT9, qT10, qT11⟩, ⟨fT0, fT1, fT2, fT3, fT4, fT5, fT6, fT7, fT8, fT9, fT10, fT11⟩, zT⟩ := HT.out
            go_wp2_with fail
            clear qT0 fT0 qT1 fT1 qT2 fT2 qT3 fT3 qT4 fT4 qT5 fT5 qT6 fT6 qT7 fT7 qT8 fT8 qT9 fT9 qT10 fT10 qT11 fT11 zT
            rw [rounds_succ]
            obtain ⟨⟨qT0, qT1, qT2, qT3, qT4, qT5, qT6, qT7, qT8, qT9, qT10, qT11⟩, ⟨fT0, fT1, fT2, fT3, fT4, fT5, fT6, fT7, fT8, fT9, fT10, fT11⟩, zT⟩ := HT.out
            go_wp2_with fail
            go_at_call 45
            refine (HS2.out _).mono ?_
            rintro e w3 ⟨rfl, hb⟩
            clear qT0 fT0 qT1 fT1 qT2 fT2 qT3 fT3 qT4 fT4 qT5 fT5 qT6 fT6 qT7 fT7 qT8 fT8 qT9 fT9 qT10 fT10 qT11 fT11 zT
            have HT := Lib.hid (HT.out.below hb)
            have HB := Lib.hid (below_after hb HB.out)
            clear hb
            obtain ⟨⟨qT0, qT1, qT2, qT3, qT4, qT5, qT6, qT7, qT8, qT9, qT10, qT11⟩, ⟨fT0, fT1, fT2, fT3, fT4, fT5, fT6, fT7, fT8, fT9, fT10, fT11⟩, zT⟩ := HT.out
            go_wp2_with fail
            clear qT0 fT0 qT1 fT1 qT2 fT2 qT3 fT3 qT4 fT4 qT5 fT5 qT6 fT6 qT7 fT7 qT8 fT8 qT9 fT9 qT10 fT10 qT11 fT11 zT
            rw [rounds_succ]
            obtain ⟨⟨qT0, qT1, qT2, qT3, qT4, qT5, qT6, qT7, qT8, qT9, qT10, qT11⟩, ⟨fT0, fT1, fT2, fT3, fT4, fT5, fT6, fT7, fT8, fT9, fT10, fT11⟩, zT⟩ := HT.out
            go_wp2_with fail
            go_at_call 45
            refine (HS3.out _).mono ?_
            rintro e w4 ⟨rfl, hb⟩
            clear qT0 fT0 qT1 fT1 qT2 fT2 qT3 fT3 qT4 fT4 qT5 fT5 qT6 fT6 qT7 fT7 qT8 fT8 qT9 fT9 qT10 fT10 qT11 fT11 zT
            have HT := Lib.hid (HT.out.below hb)
            have HB := Lib.hid (below_after hb HB.out)
            clear hb
            obtain ⟨⟨qT0, qT1, qT2, qT3, qT4, qT5, qT6, qT7, qT8, qT9, qT10, qT11⟩, ⟨fT0, fT1, fT2, fT3, fT4, fT5, fT6, fT7, fT8, fT9, fT10, fT11⟩, zT⟩ := HT.out
            go_wp2_with fail
            clear qT0 fT0 qT1 fT1 qT2 fT2 qT3 fT3 qT4 fT4 qT5 fT5 qT6 fT6 qT7 fT7 qT8 fT8 qT9 fT9 qT10 fT10 qT11 fT11 zT
            rw [rounds_succ]
            obtain ⟨⟨qT0, qT1, qT2, qT3, qT4, qT5, qT6, qT7, qT8, qT9, qT10, qT11⟩, ⟨fT0, fT1, fT2, fT3, fT4, fT5, fT6, fT7, fT8, fT9, fT10, fT11⟩, zT⟩ := HT.out
            go_wp2_with fail
            go_at_call 77
            refine (HSZ.out _).mono ?_
            rintro e w5 ⟨rfl, hb⟩
            clear qT0 fT0 qT1 fT1 qT2 fT2 qT3 fT3 qT4 fT4 qT5 fT5 qT6 fT6 qT7 fT7 qT8 fT8 qT9 fT9 qT10 fT10 qT11 fT11 zT
            have HT := Lib.hid (HT.out.below hb)
            have HB := Lib.hid (below_after hb HB.out)
            clear hb
            obtain ⟨⟨qT0, qT1, qT2, qT3, qT4, qT5, qT6, qT7, qT8, qT9, qT10, qT11⟩, ⟨fT0, fT1, fT2, fT3, fT4, fT5, fT6, fT7, fT8, fT9, fT10, fT11⟩, zT⟩ := HT.out
            go_wp2_with fail
            refine bodyPost_ret (v := .bool false) (by simp (maxDischargeDepth := 8) [results, Tryd.results76, go_sem, *]) rfl ?_
            have hb := HB.out
            exact ⟨by rw [HV.out], by (repeat' (first | (with_reducible exact Below.refl _ _) | (with_reducible refine Below.alloc ?_ ?_ _) | (with_reducible refine Below.setCell ?_ ?_ _) | (with_reducible refine Below.drew ?_) | (with_reducible refine below_drewN ?_ _) | (with_reducible assumption) | (with_reducible refine below_after (by with_reducible assumption) ?_) | go_size))⟩
          · have HV : Hid (isTe t0 t1 t2 t3 t4 t5 t6 t7 t8 t9 t10 t11 = true) := by show _ = _; simp [isTe, hS, hz, HK0.out, HK1.out, HK2.out, HK3.out]
            clear hS
            obtain ⟨GT, hG⟩ : ∃ G, w.heap.size = G := ⟨_, rfl⟩
            have HG := Lib.hid hG
            go_enter Tryd.func76, Tryd.ntmps76
            go_upto_region 1 with fail
            obtain ⟨w0, hw0⟩ : ∃ w0, w0 = (w.alloc (.cells #[.int .i64 t0, .int .i64 t1, .int .i64 t2, .int .i64 t3, .int .i64 t4, .int .i64 t5, .int .i64 t6, .int .i64 t7, .int .i64 t8, .int .i64 t9, .int .i64 t10, .int .i64 t11] 54)) := ⟨_, rfl⟩
            rw [← hw0]
            have HT : Hid (Bk12 w0 GT t0 t1 t2 t3 t4 t5 t6 t7 t8 t9 t10 t11) := by
              have h := (bk12_new w t0 t1 t2 t3 t4 t5 t6 t7 t8 t9 t10 t11 54).below (W' := (w.alloc (.cells #[.int .i64 t0, .int .i64 t1, .int .i64 t2, .int .i64 t3, .int .i64 t4, .int .i64 t5, .int .i64 t6, .int .i64 t7, .int .i64 t8, .int .i64 t9, .int .i64 t10, .int .i64 t11] 54))) (by (repeat' (first | (with_reducible exact Below.refl _ _) | (with_reducible refine Below.alloc ?_ ?_ _) | (with_reducible refine Below.setCell ?_ ?_ _) | (with_reducible refine Below.drew ?_) | (with_reducible refine below_drewN ?_ _) | (with_reducible assumption) | (with_reducible refine below_after (by with_reducible assumption) ?_) | go_size)))
              (try simp only [World.size_alloc] at h)
              rw [hG] at h
              rw [hw0]; exact h
            have HB : Hid (Below w.heap.size w w0) := by show Below w.heap.size w w0; rw [hw0]; (repeat' (first | (with_reducible exact Below.refl _ _) | (with_reducible refine Below.alloc ?_ ?_ _) | (with_reducible refine Below.setCell ?_ ?_ _) | (with_reducible refine Below.drew ?_) | (with_reducible refine below_drewN ?_ _) | (with_reducible assumption) | (with_reducible refine below_after (by with_reducible assumption) ?_) | go_size))
            clear hw0
            have le_T : w.heap.size ≤ GT := by omega
            obtain ⟨⟨qT0, qT1, qT2, qT3, qT4, qT5, qT6, qT7, qT8, qT9, qT10, qT11⟩, ⟨fT0, fT1, fT2, fT3, fT4, fT5, fT6, fT7, fT8, fT9, fT10, fT11⟩, zT⟩ := HT.out
            go_wp2_with fail
            refine wp_loop_rounds 5 ?_
            clear qT0 fT0 qT1 fT1 qT2 fT2 qT3 fT3 qT4 fT4 qT5 fT5 qT6 fT6 qT7 fT7 qT8 fT8 qT9 fT9 qT10 fT10 qT11 fT11 zT
            rw [rounds_succ]
            obtain ⟨⟨qT0, qT1, qT2, qT3, qT4, qT5, qT6, qT7, qT8, qT9, qT10, qT11⟩, ⟨fT0, fT1, fT2, fT3, fT4, fT5, fT6, fT7, fT8, fT9, fT10, fT11⟩, zT⟩ := HT.out
            go_wp2_with fail
            go_at_call 45
            refine (HS0.out _).mono ?_
            rintro e w1 ⟨rfl, hb⟩
            clear qT0 fT0 qT1 fT1 qT2 fT2 qT3 fT3 qT4 fT4 qT5 fT5 qT6 fT6 qT7 fT7 qT8 fT8 qT9 fT9 qT10 fT10 qT11 fT11 zT
            have HT := Lib.hid (HT.out.below hb)
            have HB := Lib.hid (below_after hb HB.out)
            clear hb
            obtain ⟨⟨qT0, qT1, qT2, qT3, qT4, qT5, qT6, qT7, qT8, qT9, qT10, qT11⟩, ⟨fT0, fT1, fT2, fT3, fT4, fT5, fT6, fT7, fT8, fT9, fT10, fT11⟩, zT⟩ := HT.out
            go_wp2_with fail
            clear qT0 fT0 qT1 fT1 qT2 fT2 qT3 fT3 qT4 fT4 qT5 fT5 qT6 fT6 qT7 fT7 qT8 fT8 qT9 fT9 qT10 fT10 qT11 fT11 zT
            rw [rounds_succ]
            obtain ⟨⟨qT0, qT1, qT2, qT3, qT4, qT5, qT6, qT7, qT8, qT9, qT10, qT11⟩, ⟨fT0, fT1, fT2, fT3, fT4, fT5, fT6, fT7, fT8, fT9, fT10, fT11⟩, zT⟩ := HT.out
            go_wp2_with fail
            go_at_call 45
            refine (HS1.out _).mono ?_
            rintro e w2 ⟨rfl, hb⟩
            clear qT0 fT0 qT1 fT1 qT2 fT2 qT3 fT3 qT4 fT4 qT5 fT5 qT6 fT6 qT7 fT7 qT8 fT8 qT9 fT9 qT10 fT10 qT11 fT11 zT
            have HT := Lib.hid (HT.out.below hb)
            have HB := Lib.hid (below_after hb HB.out)
            clear hb
            obtain ⟨⟨qT0, qT1, qT2, qT3, qT4, qT5, qT6, qT7, qT8, qT9, qT10, qT11⟩, ⟨fT0, fT1, fT2, fT3, fT4, fT5, fT6, fT7, fT8, fT9, fT10, fT11⟩, zT⟩ := HT.out
            go_wp2_with fail
            clear qT0 fT0 qT1 fT1 qT2 fT2 qT3 fT3 qT4 fT4 qT5 fT5 qT6 fT6 qT7 fT7 qT8 fT8 qT9 fT9 qT10 fT10 qT11 fT11 zT
            rw [rounds_succ]
            obtain ⟨⟨qT0, qT1, qT2, qT3, qT4, qT5, qT6, qT7, qT8, qT9, qT10, qT11⟩, ⟨fT0, fT1, fT2, fT3, fT4, fT5, fT6, fT7, fT8, fT9, fT10, fT11⟩, zT⟩ := HT.out
            go_wp2_with fail
            go_at_call 45
            refine (HS2.out _).mono ?_
            rintro e w3 ⟨rfl, hb⟩
            clear qT0 fT0 qT1 fT1 qT2 fT2 qT3 fT3 qT4 fT4 qT5 fT5 qT6 fT6 qT7 fT7 qT8 fT8 qT9 fT9 qT10 fT10 qT11 fT11 zT
            have HT := Lib.hid (HT.out.below hb)
            have HB := Lib.hid (below_after hb HB.out)
            clear hb
            obtain ⟨⟨qT0, qT1, qT2, qT3, qT4, qT5, qT6, qT7, qT8, qT9, qT10, qT11⟩, ⟨fT0, fT1, fT2, fT3, fT4, fT5, fT6, fT7, fT8, fT9, fT10, fT11⟩, zT⟩ := HT.out
            go_wp2_with fail
            clear qT0 fT0 qT1 fT1 qT2 fT2 qT3 fT3 qT4 fT4 qT5 fT5 qT6 fT6 qT7 fT7 qT8 fT8 qT9 fT9 qT10 fT10 qT11 fT11 zT
            rw [rounds_succ]
            obtain ⟨⟨qT0, qT1, qT2, qT3, qT4, qT5, qT6, qT7, qT8, qT9, qT10, qT11⟩, ⟨fT0, fT1, fT2, fT3, fT4, fT5, fT6, fT7, fT8, fT9, fT10, fT11⟩, zT⟩ := HT.out
            go_wp2_with fail
            go_at_call 45
            refine (HS3.out _).mono ?_
            rintro e w4 ⟨rfl, hb⟩
            clear qT0 fT0 qT1 fT1 qT2 fT2 qT3 fT3 qT4 fT4 qT5 fT5 qT6 fT6 qT7 fT7 qT8 fT8 qT9 fT9 qT10 fT10 qT11 fT11 zT
            have HT := Lib.hid (HT.out.below hb)
            have HB := Lib.hid (below_after hb HB.out)
            clear hb
            obtain ⟨⟨qT0, qT1, qT2, qT3, qT4, qT5, qT6, qT7, qT8, qT9, qT10, qT11⟩, ⟨fT0, fT1, fT2, fT3, fT4, fT5, fT6, fT7, fT8, fT9, fT10, fT11⟩, zT⟩ := HT.out
            go_wp2_with fail
            clear qT0 fT0 qT1 fT1 qT2 fT2 qT3 fT3 qT4 fT4 qT5 fT5 qT6 fT6 qT7 fT7 qT8 fT8 qT9 fT9 qT10 fT10 qT11 fT11 zT
            rw [rounds_succ]
            obtain ⟨⟨qT0, qT1, qT2, qT3, qT4, qT5, qT6, qT7, qT8, qT9, qT10, qT11⟩, ⟨fT0, fT1, fT2, fT3, fT4, fT5, fT6, fT7, fT8, fT9, fT10, fT11⟩, zT⟩ := HT.out
            go_wp2_with fail
            go_at_call 77
            refine (HSZ.out _).mono ?_
            rintro e w5 ⟨rfl, hb⟩
            clear qT0 fT0 qT1 fT1 qT2 fT2 qT3 fT3 qT4 fT4 qT5 fT5 qT6 fT6 qT7 fT7 qT8 fT8 qT9 fT9 qT10 fT10 qT11 fT11 zT
            have HT := Lib.hid (HT.out.below hb)
            have HB := Lib.hid (below_after hb HB.out)
            clear hb
            obtain ⟨⟨qT0, qT1, qT2, qT3, qT4, qT5, qT6, qT7, qT8, qT9, qT10, qT11⟩, ⟨fT0, fT1, fT2, fT3, fT4, fT5, fT6, fT7, fT8, fT9, fT10, fT11⟩, zT⟩ := HT.out
            go_wp2_with fail
            refine bodyPost_ret (v := .bool true) (by simp (maxDischargeDepth := 8) [results, Tryd.results76, go_sem, *]) rfl ?_
            have hb := HB.out
            exact ⟨by rw [HV.out], by (repeat' (first | (with_reducible exact Below.refl _ _) | (with_reducible refine Below.alloc ?_ ?_ _) | (with_reducible refine Below.setCell ?_ ?_ _) | (with_reducible refine Below.drew ?_) | (with_reducible refine below_drewN ?_ _) | (with_reducible assumption) | (with_reducible refine below_after (by with_reducible assumption) ?_) | go_size))⟩
set_option maxHeartbeats 800000 in
theorem spec_VolumeOf_any (t0 t1 t2 t3 t4 t5 t6 t7 t8 t9 t10 t11 : Int) (w : World) :
    Calls Tryd.prog 36 #[.agg #[.int .i64 t0, .int .i64 t1, .int .i64 t2, .int .i64 t3, .int .i64 t4, .int .i64 t5, .int .i64 t6, .int .i64 t7, .int .i64 t8, .int .i64 t9, .int .i64 t10, .int .i64 t11]] w fun e w' => e = .returned (.tuple #[.int .i64 (vtV t0 t1 t2 t3 t4 t5 t6 t7 t8 t9 t10 t11), .int .i64 (bok (isTe t0 t1 t2 t3 t4 t5 t6 t7 t8 t9 t10 t11))]) ∧ Below w.heap.size w w' := by
  cases k0 : isTe t0 t1 t2 t3 t4 t5 t6 t7 t8 t9 t10 t11
  · have HK0 := Lib.hid k0
    have HS0 : Hid (∀ w, Calls Tryd.prog 76 #[.agg #[.int .i64 t0, .int .i64 t1, .int .i64 t2, .int .i64 t3, .int .i64 t4, .int .i64 t5, .int .i64 t6, .int .i64 t7, .int .i64 t8, .int .i64 t9, .int .i64 t10, .int .i64 t11]] w fun e w' => e = .returned (.bool false) ∧ Below w.heap.size w w') := fun w => by have := l08Tetra_any t0 t1 t2 t3 t4 t5 t6 t7 t8 t9 t10 t11 w; rwa [k0] at this
    clear k0
    obtain ⟨GT, hG⟩ : ∃ G, w.heap.size = G := ⟨_, rfl⟩
    have HG := Lib.hid hG
    go_enter Tryd.func36, Tryd.ntmps36
    go_upto_region 1 with fail
    obtain ⟨w0, hw0⟩ : ∃ w0, w0 = (w.alloc (.cells #[.int .i64 t0, .int .i64 t1, .int .i64 t2, .int .i64 t3, .int .i64 t4, .int .i64 t5, .int .i64 t6, .int .i64 t7, .int .i64 t8, .int .i64 t9, .int .i64 t10, .int .i64 t11] 54)) := ⟨_, rfl⟩
    rw [← hw0]
    have HT : Hid (Bk12 w0 GT t0 t1 t2 t3 t4 t5 t6 t7 t8 t9 t10 t11) := by
      have h := (bk12_new w t0 t1 t2 t3 t4 t5 t6 t7 t8 t9 t10 t11 54).below (W' := (w.alloc (.cells #[.int .i64 t0, .int .i64 t1, .int .i64 t2, .int .i64 t3, .int .i64 t4, .int .i64 t5, .int .i64 t6, .int .i64 t7, .int .i64 t8, .int .i64 t9, .int .i64 t10, .int .i64 t11] 54))) (by (repeat' (first | (with_reducible exact Below.refl _ _) | (with_reducible refine Below.alloc ?_ ?_ _) | (with_reducible refine Below.setCell ?_ ?_ _) | (with_reducible refine Below.drew ?_) | (with_reducible refine below_drewN ?_ _) | (with_reducible assumption) | (with_reducible refine below_after (by with_reducible assumption) ?_) | go_size)))
      (try simp only [World.size_alloc] at h)
      rw [hG] at h
      rw [hw0]; exact h
    have HB : Hid (Below w.heap.size w w0) := by show Below w.heap.size w w0; rw [hw0]; (repeat' (first | (with_reducible exact Below.refl _ _) | (with_reducible refine Below.alloc ?_ ?_ _) | (with_reducible refine Below.setCell ?_ ?_ _) | (with_reducible refine Below.drew ?_) | (with_reducible refine below_drewN ?_ _) | (with_reducible assumption) | (with_reducible refine below_after (by with_reducible assumption) ?_) | go_size))
    clear hw0
    have le_T : w.heap.size ≤ GT := by omega
    obtain ⟨⟨qT0, qT1, qT2, qT3, qT4, qT5, qT6, qT7, qT8, qT9, qT10, qT11⟩, ⟨fT0, fT1, fT2, fT3, fT4, fT5, fT6, fT7, fT8, fT9, fT10, fT11⟩, zT⟩ := HT.out
    go_wp2_with fail
    go_at_call 76
    refine (HS0.out _).mono ?_
    rintro e w1 ⟨rfl, hb⟩
    clear qT0 fT0 qT1 fT1 qT2 fT2 qT3 fT3 qT4 fT4 qT5 fT5 qT6 fT6 qT7 fT7 qT8 fT8 qT9 fT9 qT10 fT10 qT11 fT11 zT
    have HT := Lib.hid (HT.out.below hb)
    have HB := Lib.hid (below_after hb HB.out)
    clear hb
    obtain ⟨⟨qT0, qT1, qT2, qT3, qT4, qT5, qT6, qT7, qT8, qT9, qT10, qT11⟩, ⟨fT0, fT1, fT2, fT3, fT4, fT5, fT6, fT7, fT8, fT9, fT10, fT11⟩, zT⟩ := HT.out
    go_wp2_with fail
    refine bodyPost_ret (v := .tuple #[.int .i64 0, .int .i64 1]) (by simp (maxDischargeDepth := 8) [results, Tryd.results36, go_sem, *]) rfl ?_
    have hb := HB.out
    exact ⟨by simp [vtV, bvl, bok, HK0.out], by (repeat' (first | (with_reducible exact Below.refl _ _) | (with_reducible refine Below.alloc ?_ ?_ _) | (with_reducible refine Below.setCell ?_ ?_ _) | (with_reducible refine Below.drew ?_) | (with_reducible refine below_drewN ?_ _) | (with_reducible assumption) | (with_reducible refine below_after (by with_reducible assumption) ?_) | go_size))⟩
  · have HK0 := Lib.hid k0
    have HS0 : Hid (∀ w, Calls Tryd.prog 76 #[.agg #[.int .i64 t0, .int .i64 t1, .int .i64 t2, .int .i64 t3, .int .i64 t4, .int .i64 t5, .int .i64 t6, .int .i64 t7, .int .i64 t8, .int .i64 t9, .int .i64 t10, .int .i64 t11]] w fun e w' => e = .returned (.bool true) ∧ Below w.heap.size w w') := fun w => by have := l08Tetra_any t0 t1 t2 t3 t4 t5 t6 t7 t8 t9 t10 t11 w; rwa [k0] at this
    clear k0
    obtain ⟨GT, hG⟩ : ∃ G, w.heap.size = G := ⟨_, rfl⟩
    have HG := Lib.hid hG
    go_enter Tryd.func36, Tryd.ntmps36
    go_upto_region 1 with fail
    obtain ⟨w0, hw0⟩ : ∃ w0, w0 = (w.alloc (.cells #[.int .i64 t0, .int .i64 t1, .int .i64 t2, .int .i64 t3, .int .i64 t4, .int .i64 t5, .int .i64 t6, .int .i64 t7, .int .i64 t8, .int .i64 t9, .int .i64 t10, .int .i64 t11] 54)) := ⟨_, rfl⟩
    rw [← hw0]
    have HT : Hid (Bk12 w0 GT t0 t1 t2 t3 t4 t5 t6 t7 t8 t9 t10 t11) := by
      have h := (bk12_new w t0 t1 t2 t3 t4 t5 t6 t7 t8 t9 t10 t11 54).below (W' := (w.alloc (.cells #[.int .i64 t0, .int .i64 t1, .int .i64 t2, .int .i64 t3, .int .i64 t4, .int .i64 t5, .int .i64 t6, .int .i64 t7, .int .i64 t8, .int .i64 t9, .int .i64 t10, .int .i64 t11] 54))) (by (repeat' (first | (with_reducible exact Below.refl _ _) | (with_reducible refine Below.alloc ?_ ?_ _) | (with_reducible refine Below.setCell ?_ ?_ _) | (with_reducible refine Below.drew ?_) | (with_reducible refine below_drewN ?_ _) | (with_reducible assumption) | (with_reducible refine below_after (by with_reducible assumption) ?_) | go_size)))
      (try simp only [World.size_alloc] at h)
      rw [hG] at h
      rw [hw0]; exact h
    have HB : Hid (Below w.heap.size w w0) := by show Below w.heap.size w w0; rw [hw0]; (repeat' (first | (with_reducible exact Below.refl _ _) | (with_reducible refine Below.alloc ?_ ?_ _) | (with_reducible refine Below.setCell ?_ ?_ _) | (with_reducible refine Below.drew ?_) | (with_reducible refine below_drewN ?_ _) | (with_reducible assumption) | (with_reducible refine below_after (by with_reducible assumption) ?_) | go_size))
    clear hw0
    have le_T : w.heap.size ≤ GT := by omega
    obtain ⟨⟨qT0, qT1, qT2, qT3, qT4, qT5, qT6, qT7, qT8, qT9, qT10, qT11⟩, ⟨fT0, fT1, fT2, fT3, fT4, fT5, fT6, fT7, fT8, fT9, fT10, fT11⟩, zT⟩ := HT.out
    go_wp2_with fail
    go_at_call 76
    refine (HS0.out _).mono ?_
    rintro e w1 ⟨rfl, hb⟩
    clear qT0 fT0 qT1 fT1 qT2 fT2 qT3 fT3 qT4 fT4 qT5 fT5 qT6 fT6 qT7 fT7 qT8 fT8 qT9 fT9 qT10 fT10 qT11 fT11 zT
    have HT := Lib.hid (HT.out.below hb)
    have HB := Lib.hid (below_after hb HB.out)
    clear hb
    obtain ⟨⟨qT0, qT1, qT2, qT3, qT4, qT5, qT6, qT7, qT8, qT9, qT10, qT11⟩, ⟨fT0, fT1, fT2, fT3, fT4, fT5, fT6, fT7, fT8, fT9, fT10, fT11⟩, zT⟩ := HT.out
    go_wp2_with fail
    go_at_call 77
    refine (l08Volume_any _ _ _ _ _ _ _ _ _ _ _ _ _ (isTe_parts HK0.out).1 (isTe_parts HK0.out).2.1 (isTe_parts HK0.out).2.2.1 (isTe_parts HK0.out).2.2.2.1).mono ?_
    rintro e w2 ⟨rfl, hb⟩
    clear qT0 fT0 qT1 fT1 qT2 fT2 qT3 fT3 qT4 fT4 qT5 fT5 qT6 fT6 qT7 fT7 qT8 fT8 qT9 fT9 qT10 fT10 qT11 fT11 zT
    have HT := Lib.hid (HT.out.below hb)
    have HB := Lib.hid (below_after hb HB.out)
    clear hb
    obtain ⟨⟨qT0, qT1, qT2, qT3, qT4, qT5, qT6, qT7, qT8, qT9, qT10, qT11⟩, ⟨fT0, fT1, fT2, fT3, fT4, fT5, fT6, fT7, fT8, fT9, fT10, fT11⟩, zT⟩ := HT.out
    go_wp2_with fail
    refine bodyPost_ret (v := .tuple #[.int .i64 (voV t0 t1 t2 t3 t4 t5 t6 t7 t8 t9 t10 t11), .int .i64 0]) (by simp (maxDischargeDepth := 8) [results, Tryd.results36, go_sem, *]) rfl ?_
    have hb := HB.out
    exact ⟨by simp [vtV, bvl, bok, HK0.out], by (repeat' (first | (with_reducible exact Below.refl _ _) | (with_reducible refine Below.alloc ?_ ?_ _) | (with_reducible refine Below.setCell ?_ ?_ _) | (with_reducible refine Below.drew ?_) | (with_reducible refine below_drewN ?_ _) | (with_reducible assumption) | (with_reducible refine below_after (by with_reducible assumption) ?_) | go_size))⟩
theorem ret_pair {a b c d : Int} (h : a = c) (h' : b = d) : Ending.returned (.tuple #[.int .i64 a, .int .i64 b]) = .returned (.tuple #[.int .i64 c, .int .i64 d]) := by rw [h, h']
set_option maxHeartbeats 12800000 in
theorem spec_DistanceOfSpot_any (a0 a1 a2 b0 b1 b2 c0 c1 c2 d0 d1 d2 : Int) (w : World) :
    Calls Tryd.prog 43 #[.agg #[.int .i64 a0, .int .i64 a1, .int .i64 a2], .agg #[.int .i64 b0, .int .i64 b1, .int .i64 b2], .agg #[.int .i64 c0, .int .i64 c1, .int .i64 c2], .agg #[.int .i64 d0, .int .i64 d1, .int .i64 d2]] w fun e w' => e = .returned (.tuple #[.int .i64 (diV a0 a1 a2 b0 b1 b2 c0 c1 c2 d0 d1 d2), .int .i64 (diK a0 a1 a2 b0 b1 b2 c0 c1 c2 d0 d1 d2)]) ∧ Below w.heap.size w w' := by
  cases k0 : isSp a0 a1 a2
  · skip
    have HK0 := Lib.hid k0
    have HS0 : Hid (∀ w, Calls Tryd.prog 45 #[.agg #[.int .i64 a0, .int .i64 a1, .int .i64 a2]] w fun e w' => e = .returned (.bool false) ∧ Below w.heap.size w w') := fun w => by have := l08Spot_any a0 a1 a2 w; rwa [k0] at this
    clear k0
    obtain ⟨GA, hG⟩ : ∃ G, w.heap.size = G := ⟨_, rfl⟩
    have HG := Lib.hid hG
    go_enter Tryd.func43, Tryd.ntmps43
    go_upto_region 1 with fail
    obtain ⟨w0, hw0⟩ : ∃ w0, w0 = ((((w.alloc (.cells #[.int .i64 a0, .int .i64 a1, .int .i64 a2] 26)).alloc (.cells #[.int .i64 b0, .int .i64 b1, .int .i64 b2] 26)).alloc (.cells #[.int .i64 c0, .int .i64 c1, .int .i64 c2] 26)).alloc (.cells #[.int .i64 d0, .int .i64 d1, .int .i64 d2] 26)) := ⟨_, rfl⟩
    rw [← hw0]
    have HA : Hid (Bk3 w0 GA a0 a1 a2) := by
      have h := (bk3_new w a0 a1 a2 26).below (W' := ((((w.alloc (.cells #[.int .i64 a0, .int .i64 a1, .int .i64 a2] 26)).alloc (.cells #[.int .i64 b0, .int .i64 b1, .int .i64 b2] 26)).alloc (.cells #[.int .i64 c0, .int .i64 c1, .int .i64 c2] 26)).alloc (.cells #[.int .i64 d0, .int .i64 d1, .int .i64 d2] 26))) (by (repeat' (first | (with_reducible exact Below.refl _ _) | (with_reducible refine Below.alloc ?_ ?_ _) | (with_reducible refine Below.setCell ?_ ?_ _) | (with_reducible refine Below.drew ?_) | (with_reducible refine below_drewN ?_ _) | (with_reducible assumption) | (with_reducible refine below_after (by with_reducible assumption) ?_) | go_size)))
      (try simp only [World.size_alloc] at h)
      rw [hG] at h
      rw [hw0]; exact h
    have HV : Hid (Bk3 w0 (GA + 1) b0 b1 b2) := by
      have h := (bk3_new (w.alloc (.cells #[.int .i64 a0, .int .i64 a1, .int .i64 a2] 26)) b0 b1 b2 26).below (W' := ((((w.alloc (.cells #[.int .i64 a0, .int .i64 a1, .int .i64 a2] 26)).alloc (.cells #[.int .i64 b0, .int .i64 b1, .int .i64 b2] 26)).alloc (.cells #[.int .i64 c0, .int .i64 c1, .int .i64 c2] 26)).alloc (.cells #[.int .i64 d0, .int .i64 d1, .int .i64 d2] 26))) (by (repeat' (first | (with_reducible exact Below.refl _ _) | (with_reducible refine Below.alloc ?_ ?_ _) | (with_reducible refine Below.setCell ?_ ?_ _) | (with_reducible refine Below.drew ?_) | (with_reducible refine below_drewN ?_ _) | (with_reducible assumption) | (with_reducible refine below_after (by with_reducible assumption) ?_) | go_size)))
      (try simp only [World.size_alloc] at h)
      rw [hG] at h
      rw [hw0]; exact h
    have HC : Hid (Bk3 w0 (GA + 1 + 1) c0 c1 c2) := by
      have h := (bk3_new ((w.alloc (.cells #[.int .i64 a0, .int .i64 a1, .int .i64 a2] 26)).alloc (.cells #[.int .i64 b0, .int .i64 b1, .int .i64 b2] 26)) c0 c1 c2 26).below (W' := ((((w.alloc (.cells #[.int .i64 a0, .int .i64 a1, .int .i64 a2] 26)).alloc (.cells #[.int .i64 b0, .int .i64 b1, .int .i64 b2] 26)).alloc (.cells #[.int .i64 c0, .int .i64 c1, .int .i64 c2] 26)).alloc (.cells #[.int .i64 d0, .int .i64 d1, .int .i64 d2] 26))) (by (repeat' (first | (with_reducible exact Below.refl _ _) | (with_reducible refine Below.alloc ?_ ?_ _) | (with_reducible refine Below.setCell ?_ ?_ _) | (with_reducible refine Below.drew ?_) | (with_reducible refine below_drewN ?_ _) | (with_reducible assumption) | (with_reducible refine below_after (by with_reducible assumption) ?_) | go_size)))
      (try simp only [World.size_alloc] at h)
      rw [hG] at h
      rw [hw0]; exact h
    have HD : Hid (Bk3 w0 (GA + 1 + 1 + 1) d0 d1 d2) := by
      have h := (bk3_new (((w.alloc (.cells #[.int .i64 a0, .int .i64 a1, .int .i64 a2] 26)).alloc (.cells #[.int .i64 b0, .int .i64 b1, .int .i64 b2] 26)).alloc (.cells #[.int .i64 c0, .int .i64 c1, .int .i64 c2] 26)) d0 d1 d2 26).below (W' := ((((w.alloc (.cells #[.int .i64 a0, .int .i64 a1, .int .i64 a2] 26)).alloc (.cells #[.int .i64 b0, .int .i64 b1, .int .i64 b2] 26)).alloc (.cells #[.int .i64 c0, .int .i64 c1, .int .i64 c2] 26)).alloc (.cells #[.int .i64 d0, .int .i64 d1, .int .i64 d2] 26))) (by (repeat' (first | (with_reducible exact Below.refl _ _) | (with_reducible refine Below.alloc ?_ ?_ _) | (with_reducible refine Below.setCell ?_ ?_ _) | (with_reducible refine Below.drew ?_) | (with_reducible refine below_drewN ?_ _) | (with_reducible assumption) | (with_reducible refine below_after (by with_reducible assumption) ?_) | go_size)))
      (try simp only [World.size_alloc] at h)
      rw [hG] at h
      rw [hw0]; exact h
    have HB : Hid (Below w.heap.size w w0) := by show Below w.heap.size w w0; rw [hw0]; (repeat' (first | (with_reducible exact Below.refl _ _) | (with_reducible refine Below.alloc ?_ ?_ _) | (with_reducible refine Below.setCell ?_ ?_ _) | (with_reducible refine Below.drew ?_) | (with_reducible refine below_drewN ?_ _) | (with_reducible assumption) | (with_reducible refine below_after (by with_reducible assumption) ?_) | go_size))
    clear hw0
    obtain ⟨GD, hGD⟩ : ∃ g, GA + 1 + 1 + 1 = g := ⟨_, rfl⟩
    rw [hGD] at HD ⊢
    obtain ⟨GC, hGC⟩ : ∃ g, GA + 1 + 1 = g := ⟨_, rfl⟩
    rw [hGC] at HC ⊢
    obtain ⟨GV, hGV⟩ : ∃ g, GA + 1 = g := ⟨_, rfl⟩
    rw [hGV] at HV ⊢
    have le_A : w.heap.size ≤ GA := by omega
    have le_V : w.heap.size ≤ GV := by omega
    have ne_V_A : GV ≠ GA := by omega
    have ne_A_V : GA ≠ GV := by omega
    have le_C : w.heap.size ≤ GC := by omega
    have ne_C_A : GC ≠ GA := by omega
    have ne_A_C : GA ≠ GC := by omega
    have ne_C_V : GC ≠ GV := by omega
    have ne_V_C : GV ≠ GC := by omega
    have le_D : w.heap.size ≤ GD := by omega
    have ne_D_A : GD ≠ GA := by omega
    have ne_A_D : GA ≠ GD := by omega
    have ne_D_V : GD ≠ GV := by omega
    have ne_V_D : GV ≠ GD := by omega
    have ne_D_C : GD ≠ GC := by omega
    have ne_C_D : GC ≠ GD := by omega
    clear hGV hGC hGD
    obtain ⟨⟨qA0, qA1, qA2⟩, ⟨fA0, fA1, fA2⟩, zA⟩ := HA.out
    obtain ⟨⟨qV0, qV1, qV2⟩, ⟨fV0, fV1, fV2⟩, zV⟩ := HV.out
    obtain ⟨⟨qC0, qC1, qC2⟩, ⟨fC0, fC1, fC2⟩, zC⟩ := HC.out
    obtain ⟨⟨qD0, qD1, qD2⟩, ⟨fD0, fD1, fD2⟩, zD⟩ := HD.out
    go_wp2_with fail
    go_at_call 45
    refine (HS0.out _).mono ?_
    rintro e w1 ⟨rfl, hb⟩
    clear qA0 fA0 qA1 fA1 qA2 fA2 zA qV0 fV0 qV1 fV1 qV2 fV2 zV qC0 fC0 qC1 fC1 qC2 fC2 zC qD0 fD0 qD1 fD1 qD2 fD2 zD
    have HA := Lib.hid (HA.out.below hb)
    have HV := Lib.hid (HV.out.below hb)
    have HC := Lib.hid (HC.out.below hb)
    have HD := Lib.hid (HD.out.below hb)
    have HB := Lib.hid (below_after hb HB.out)
    clear hb
    obtain ⟨⟨qA0, qA1, qA2⟩, ⟨fA0, fA1, fA2⟩, zA⟩ := HA.out
    obtain ⟨⟨qV0, qV1, qV2⟩, ⟨fV0, fV1, fV2⟩, zV⟩ := HV.out
    obtain ⟨⟨qC0, qC1, qC2⟩, ⟨fC0, fC1, fC2⟩, zC⟩ := HC.out
    obtain ⟨⟨qD0, qD1, qD2⟩, ⟨fD0, fD1, fD2⟩, zD⟩ := HD.out
    go_wp2_with fail
    refine bodyPost_ret (v := .tuple #[.int .i64 0, .int .i64 1]) (by simp (maxDischargeDepth := 8) [results, Tryd.results43, go_sem, *]) rfl ?_
    have hb := HB.out
    exact ⟨by simp [diV, diK, diO, HK0.out], by (repeat' (first | (with_reducible exact Below.refl _ _) | (with_reducible refine Below.alloc ?_ ?_ _) | (with_reducible refine Below.setCell ?_ ?_ _) | (with_reducible refine Below.drew ?_) | (with_reducible refine below_drewN ?_ _) | (with_reducible assumption) | (with_reducible refine below_after (by with_reducible assumption) ?_) | go_size))⟩
  · skip
    have HK0 := Lib.hid k0
    have HS0 : Hid (∀ w, Calls Tryd.prog 45 #[.agg #[.int .i64 a0, .int .i64 a1, .int .i64 a2]] w fun e w' => e = .returned (.bool true) ∧ Below w.heap.size w w') := fun w => by have := l08Spot_any a0 a1 a2 w; rwa [k0] at this
    clear k0
    cases k1 : isSp b0 b1 b2
    · skip
      have HK1 := Lib.hid k1
      have HS1 : Hid (∀ w, Calls Tryd.prog 45 #[.agg #[.int .i64 b0, .int .i64 b1, .int .i64 b2]] w fun e w' => e = .returned (.bool false) ∧ Below w.heap.size w w') := fun w => by have := l08Spot_any b0 b1 b2 w; rwa [k1] at this
      clear k1
      obtain ⟨GA, hG⟩ : ∃ G, w.heap.size = G := ⟨_, rfl⟩
      have HG := Lib.hid hG
      go_enter Tryd.func43, Tryd.ntmps43
      go_upto_region 1 with fail
      obtain ⟨w0, hw0⟩ : ∃ w0, w0 = ((((w.alloc (.cells #[.int .i64 a0, .int .i64 a1, .int .i64 a2] 26)).alloc (.cells #[.int .i64 b0, .int .i64 b1, .int .i64 b2] 26)).alloc (.cells #[.int .i64 c0, .int .i64 c1, .int .i64 c2] 26)).alloc (.cells #[.int .i64 d0, .int .i64 d1, .int .i64 d2] 26)) := ⟨_, rfl⟩
      rw [← hw0]
      have HA : Hid (Bk3 w0 GA a0 a1 a2) := by
        have h := (bk3_new w a0 a1 a2 26).below (W' := ((((w.alloc (.cells #[.int .i64 a0, .int .i64 a1, .int .i64 a2] 26)).alloc (.cells #[.int .i64 b0, .int .i64 b1, .int .i64 b2] 26)).alloc (.cells #[.int .i64 c0, .int .i64 c1, .int .i64 c2] 26)).alloc (.cells #[.int .i64 d0, .int .i64 d1, .int .i64 d2] 26))) (by (repeat' (first | (with_reducible exact Below.refl _ _) | (with_reducible refine Below.alloc ?_ ?_ _) | (with_reducible refine Below.setCell ?_ ?_ _) | (with_reducible refine Below.drew ?_) | (with_reducible refine below_drewN ?_ _) | (with_reducible assumption) | (with_reducible refine below_after (by with_reducible assumption) ?_) | go_size)))
        (try simp only [World.size_alloc] at h)
        rw [hG] at h
        rw [hw0]; exact h
      have HV : Hid (Bk3 w0 (GA + 1) b0 b1 b2) := by
        have h := (bk3_new (w.alloc (.cells #[.int .i64 a0, .int .i64 a1, .int .i64 a2] 26)) b0 b1 b2 26).below (W' := ((((w.alloc (.cells #[.int .i64 a0, .int .i64 a1, .int .i64 a2] 26)).alloc (.cells #[.int .i64 b0, .int .i64 b1, .int .i64 b2] 26)).alloc (.cells #[.int .i64 c0, .int .i64 c1, .int .i64 c2] 26)).alloc (.cells #[.int .i64 d0, .int .i64 d1, .int .i64 d2] 26))) (by (repeat' (first | (with_reducible exact Below.refl _ _) | (with_reducible refine Below.alloc ?_ ?_ _) | (with_reducible refine Below.setCell ?_ ?_ _) | (with_reducible refine Below.drew ?_) | (with_reducible refine below_drewN ?_ _) | (with_reducible assumption) | (with_reducible refine below_after (by with_reducible assumption) ?_) | go_size)))
        (try simp only [World.size_alloc] at h)
        rw [hG] at h
        rw [hw0]; exact h
      have HC : Hid (Bk3 w0 (GA + 1 + 1) c0 c1 c2) := by
        have h := (bk3_new ((w.alloc (.cells #[.int .i64 a0, .int .i64 a1, .int .i64 a2] 26)).alloc (.cells #[.int .i64 b0, .int .i64 b1, .int .i64 b2] 26)) c0 c1 c2 26).below (W' := ((((w.alloc (.cells #[.int .i64 a0, .int .i64 a1, .int .i64 a2] 26)).alloc (.cells #[.int .i64 b0, .int .i64 b1, .int .i64 b2] 26)).alloc (.cells #[.int .i64 c0, .int .i64 c1, .int .i64 c2] 26)).alloc (.cells #[.int .i64 d0, .int .i64 d1, .int .i64 d2] 26))) (by (repeat' (first | (with_reducible exact Below.refl _ _) | (with_reducible refine Below.alloc ?_ ?_ _) | (with_reducible refine Below.setCell ?_ ?_ _) | (with_reducible refine Below.drew ?_) | (with_reducible refine below_drewN ?_ _) | (with_reducible assumption) | (with_reducible refine below_after (by with_reducible assumption) ?_) | go_size)))
        (try simp only [World.size_alloc] at h)
        rw [hG] at h
        rw [hw0]; exact h
      have HD : Hid (Bk3 w0 (GA + 1 + 1 + 1) d0 d1 d2) := by
        have h := (bk3_new (((w.alloc (.cells #[.int .i64 a0, .int .i64 a1, .int .i64 a2] 26)).alloc (.cells #[.int .i64 b0, .int .i64 b1, .int .i64 b2] 26)).alloc (.cells #[.int .i64 c0, .int .i64 c1, .int .i64 c2] 26)) d0 d1 d2 26).below (W' := ((((w.alloc (.cells #[.int .i64 a0, .int .i64 a1, .int .i64 a2] 26)).alloc (.cells #[.int .i64 b0, .int .i64 b1, .int .i64 b2] 26)).alloc (.cells #[.int .i64 c0, .int .i64 c1, .int .i64 c2] 26)).alloc (.cells #[.int .i64 d0, .int .i64 d1, .int .i64 d2] 26))) (by (repeat' (first | (with_reducible exact Below.refl _ _) | (with_reducible refine Below.alloc ?_ ?_ _) | (with_reducible refine Below.setCell ?_ ?_ _) | (with_reducible refine Below.drew ?_) | (with_reducible refine below_drewN ?_ _) | (with_reducible assumption) | (with_reducible refine below_after (by with_reducible assumption) ?_) | go_size)))
        (try simp only [World.size_alloc] at h)
        rw [hG] at h
        rw [hw0]; exact h
      have HB : Hid (Below w.heap.size w w0) := by show Below w.heap.size w w0; rw [hw0]; (repeat' (first | (with_reducible exact Below.refl _ _) | (with_reducible refine Below.alloc ?_ ?_ _) | (with_reducible refine Below.setCell ?_ ?_ _) | (with_reducible refine Below.drew ?_) | (with_reducible refine below_drewN ?_ _) | (with_reducible assumption) | (with_reducible refine below_after (by with_reducible assumption) ?_) | go_size))
      clear hw0
      obtain ⟨GD, hGD⟩ : ∃ g, GA + 1 + 1 + 1 = g := ⟨_, rfl⟩
      rw [hGD] at HD ⊢
      obtain ⟨GC, hGC⟩ : ∃ g, GA + 1 + 1 = g := ⟨_, rfl⟩
      rw [hGC] at HC ⊢
      obtain ⟨GV, hGV⟩ : ∃ g, GA + 1 = g := ⟨_, rfl⟩
      rw [hGV] at HV ⊢
      have le_A : w.heap.size ≤ GA := by omega
      have le_V : w.heap.size ≤ GV := by omega
      have ne_V_A : GV ≠ GA := by omega
      have ne_A_V : GA ≠ GV := by omega
      have le_C : w.heap.size ≤ GC := by omega
      have ne_C_A : GC ≠ GA := by omega
      have ne_A_C : GA ≠ GC := by omega
      have ne_C_V : GC ≠ GV := by omega
      have ne_V_C : GV ≠ GC := by omega
      have le_D : w.heap.size ≤ GD := by omega
      have ne_D_A : GD ≠ GA := by omega
      have ne_A_D : GA ≠ GD := by omega
      have ne_D_V : GD ≠ GV := by omega
      have ne_V_D : GV ≠ GD := by omega
      have ne_D_C : GD ≠ GC := by omega
      have ne_C_D : GC ≠ GD := by omega
      clear hGV hGC hGD
      obtain ⟨⟨qA0, qA1, qA2⟩, ⟨fA0, fA1, fA2⟩, zA⟩ := HA.out
      obtain ⟨⟨qV0, qV1, qV2⟩, ⟨fV0, fV1, fV2⟩, zV⟩ := HV.out
      obtain ⟨⟨qC0, qC1, qC2⟩, ⟨fC0, fC1, fC2⟩, zC⟩ := HC.out
      obtain ⟨⟨qD0, qD1, qD2⟩, ⟨fD0, fD1, fD2⟩, zD⟩ := HD.out
      go_wp2_with fail
      go_at_call 45
      refine (HS0.out _).mono ?_
      rintro e w1 ⟨rfl, hb⟩
      clear qA0 fA0 qA1 fA1 qA2 fA2 zA qV0 fV0 qV1 fV1 qV2 fV2 zV qC0 fC0 qC1 fC1 qC2 fC2 zC qD0 fD0 qD1 fD1 qD2 fD2 zD
      have HA := Lib.hid (HA.out.below hb)
      have HV := Lib.hid (HV.out.below hb)
      have HC := Lib.hid (HC.out.below hb)
      have HD := Lib.hid (HD.out.below hb)
      have HB := Lib.hid (below_after hb HB.out)
      clear hb
      obtain ⟨⟨qA0, qA1, qA2⟩, ⟨fA0, fA1, fA2⟩, zA⟩ := HA.out
      obtain ⟨⟨qV0, qV1, qV2⟩, ⟨fV0, fV1, fV2⟩, zV⟩ := HV.out
      obtain ⟨⟨qC0, qC1, qC2⟩, ⟨fC0, fC1, fC2⟩, zC⟩ := HC.out
      obtain ⟨⟨qD0, qD1, qD2⟩, ⟨fD0, fD1, fD2⟩, zD⟩ := HD.out
      go_wp2_with fail
      go_at_call 45
      refine (HS1.out _).mono ?_
      rintro e w2 ⟨rfl, hb⟩
      clear qA0 fA0 qA1 fA1 qA2 fA2 zA qV0 fV0 qV1 fV1 qV2 fV2 zV qC0 fC0 qC1 fC1 qC2 fC2 zC qD0 fD0 qD1 fD1 qD2 fD2 zD
      have HA := Lib.hid (HA.out.below hb)
      have HV := Lib.hid (HV.out.below hb)
      have HC := Lib.hid (HC.out.below hb)
      have HD := Lib.hid (HD.out.below hb)
      have HB := Lib.hid (below_after hb HB.out)
      clear hb
      obtain ⟨⟨qA0, qA1, qA2⟩, ⟨fA0, fA1, fA2⟩, zA⟩ := HA.out
      obtain ⟨⟨qV0, qV1, qV2⟩, ⟨fV0, fV1, fV2⟩, zV⟩ := HV.out
      obtain ⟨⟨qC0, qC1, qC2⟩, ⟨fC0, fC1, fC2⟩, zC⟩ := HC.out
      obtain ⟨⟨qD0, qD1, qD2⟩, ⟨fD0, fD1, fD2⟩, zD⟩ := HD.out
      go_wp2_with fail
      refine bodyPost_ret (v := .tuple #[.int .i64 0, .int .i64 1]) (by simp (maxDischargeDepth := 8) [results, Tryd.results43, go_sem, *]) rfl ?_
      have hb := HB.out
      exact ⟨by simp [diV, diK, diO, HK0.out, HK1.out], by (repeat' (first | (with_reducible exact Below.refl _ _) | (with_reducible refine Below.alloc ?_ ?_ _) | (with_reducible refine Below.setCell ?_ ?_ _) | (with_reducible refine Below.drew ?_) | (with_reducible refine below_drewN ?_ _) | (with_reducible assumption) | (with_reducible refine below_after (by with_reducible assumption) ?_) | go_size))⟩
    · skip
      have HK1 := Lib.hid k1
      have HS1 : Hid (∀ w, Calls Tryd.prog 45 #[.agg #[.int .i64 b0, .int .i64 b1, .int .i64 b2]] w fun e w' => e = .returned (.bool true) ∧ Below w.heap.size w w') := fun w => by have := l08Spot_any b0 b1 b2 w; rwa [k1] at this
      clear k1
      cases k2 : isSp c0 c1 c2
      · skip
        have HK2 := Lib.hid k2
        have HS2 : Hid (∀ w, Calls Tryd.prog 45 #[.agg #[.int .i64 c0, .int .i64 c1, .int .i64 c2]] w fun e w' => e = .returned (.bool false) ∧ Below w.heap.size w w') := fun w => by have := l08Spot_any c0 c1 c2 w; rwa [k2] at this
        clear k2
        obtain ⟨GA, hG⟩ : ∃ G, w.heap.size = G := ⟨_, rfl⟩
        have HG := Lib.hid hG
        go_enter Tryd.func43, Tryd.ntmps43
        go_upto_region 1 with fail
        obtain ⟨w0, hw0⟩ : ∃ w0, w0 = ((((w.alloc (.cells #[.int .i64 a0, .int .i64 a1, .int .i64 a2] 26)).alloc (.cells #[.int .i64 b0, .int .i64 b1, .int .i64 b2] 26)).alloc (.cells #[.int .i64 c0, .int .i64 c1, .int .i64 c2] 26)).alloc (.cells #[.int .i64 d0, .int .i64 d1, .int .i64 d2] 26)) := ⟨_, rfl⟩
        rw [← hw0]
        have HA : Hid (Bk3 w0 GA a0 a1 a2) := by
          have h := (bk3_new w a0 a1 a2 26).below (W' := ((((w.alloc (.cells #[.int .i64 a0, .int .i64 a1, .int .i64 a2] 26)).alloc (.cells #[.int .i64 b0, .int .i64 b1, .int .i64 b2] 26)).alloc (.cells #[.int .i64 c0, .int .i64 c1, .int .i64 c2] 26)).alloc (.cells #[.int .i64 d0, .int .i64 d1, .int .i64 d2] 26))) (by (repeat' (first | (with_reducible exact Below.refl _ _) | (with_reducible refine Below.alloc ?_ ?_ _) | (with_reducible refine Below.setCell ?_ ?_ _) | (with_reducible refine Below.drew ?_) | (with_reducible refine below_drewN ?_ _) | (with_reducible assumption) | (with_reducible refine below_after (by with_reducible assumption) ?_) | go_size)))
          (try simp only [World.size_alloc] at h)
          rw [hG] at h
          rw [hw0]; exact h
        have HV : Hid (Bk3 w0 (GA + 1) b0 b1 b2) := by
          have h := (bk3_new (w.alloc (.cells #[.int .i64 a0, .int .i64 a1, .int .i64 a2] 26)) b0 b1 b2 26).below (W' := ((((w.alloc (.cells #[.int .i64 a0, .int .i64 a1, .int .i64 a2] 26)).alloc (.cells #[.int .i64 b0, .int .i64 b1, .int .i64 b2] 26)).alloc (.cells #[.int .i64 c0, .int .i64 c1, .int .i64 c2] 26)).alloc (.cells #[.int .i64 d0, .int .i64 d1, .int .i64 d2] 26))) (by (repeat' (first | (with_reducible exact Below.refl _ _) | (with_reducible refine Below.alloc ?_ ?_ _) | (with_reducible refine Below.setCell ?_ ?_ _) | (with_reducible refine Below.drew ?_) | (with_reducible refine below_drewN ?_ _) | (with_reducible assumption) | (with_reducible refine below_after (by with_reducible assumption) ?_) | go_size)))
          (try simp only [World.size_alloc] at h)
          rw [hG] at h
          rw [hw0]; exact h
        have HC : Hid (Bk3 w0 (GA + 1 + 1) c0 c1 c2) := by
          have h := (bk3_new ((w.alloc (.cells #[.int .i64 a0, .int .i64 a1, .int .i64 a2] 26)).alloc (.cells #[.int .i64 b0, .int .i64 b1, .int .i64 b2] 26)) c0 c1 c2 26).below (W' := ((((w.alloc (.cells #[.int .i64 a0, .int .i64 a1, .int .i64 a2] 26)).alloc (.cells #[.int .i64 b0, .int .i64 b1, .int .i64 b2] 26)).alloc (.cells #[.int .i64 c0, .int .i64 c1, .int .i64 c2] 26)).alloc (.cells #[.int .i64 d0, .int .i64 d1, .int .i64 d2] 26))) (by (repeat' (first | (with_reducible exact Below.refl _ _) | (with_reducible refine Below.alloc ?_ ?_ _) | (with_reducible refine Below.setCell ?_ ?_ _) | (with_reducible refine Below.drew ?_) | (with_reducible refine below_drewN ?_ _) | (with_reducible assumption) | (with_reducible refine below_after (by with_reducible assumption) ?_) | go_size)))
          (try simp only [World.size_alloc] at h)
          rw [hG] at h
          rw [hw0]; exact h
        have HD : Hid (Bk3 w0 (GA + 1 + 1 + 1) d0 d1 d2) := by
          have h := (bk3_new (((w.alloc (.cells #[.int .i64 a0, .int .i64 a1, .int .i64 a2] 26)).alloc (.cells #[.int .i64 b0, .int .i64 b1, .int .i64 b2] 26)).alloc (.cells #[.int .i64 c0, .int .i64 c1, .int .i64 c2] 26)) d0 d1 d2 26).below (W' := ((((w.alloc (.cells #[.int .i64 a0, .int .i64 a1, .int .i64 a2] 26)).alloc (.cells #[.int .i64 b0, .int .i64 b1, .int .i64 b2] 26)).alloc (.cells #[.int .i64 c0, .int .i64 c1, .int .i64 c2] 26)).alloc (.cells #[.int .i64 d0, .int .i64 d1, .int .i64 d2] 26))) (by (repeat' (first | (with_reducible exact Below.refl _ _) | (with_reducible refine Below.alloc ?_ ?_ _) | (with_reducible refine Below.setCell ?_ ?_ _) | (with_reducible refine Below.drew ?_) | (with_reducible refine below_drewN ?_ _) | (with_reducible assumption) | (with_reducible refine below_after (by with_reducible assumption) ?_) | go_size)))
          (try simp only [World.size_alloc] at h)
          rw [hG] at h
          rw [hw0]; exact h
        have HB : Hid (Below w.heap.size w w0) := by show Below w.heap.size w w0; rw [hw0]; (repeat' (first | (with_reducible exact Below.refl _ _) | (with_reducible refine Below.alloc ?_ ?_ _) | (with_reducible refine Below.setCell ?_ ?_ _) | (with_reducible refine Below.drew ?_) | (with_reducible refine below_drewN ?_ _) | (with_reducible assumption) | (with_reducible refine below_after (by with_reducible assumption) ?_) | go_size))
        clear hw0
        obtain ⟨GD, hGD⟩ : ∃ g, GA + 1 + 1 + 1 = g := ⟨_, rfl⟩
        rw [hGD] at HD ⊢
        obtain ⟨GC, hGC⟩ : ∃ g, GA + 1 + 1 = g := ⟨_, rfl⟩
        rw [hGC] at HC ⊢
        obtain ⟨GV, hGV⟩ : ∃ g, GA + 1 = g := ⟨_, rfl⟩
        rw [hGV] at HV ⊢
        have le_A : w.heap.size ≤ GA := by omega
        have le_V : w.heap.size ≤ GV := by omega
        have ne_V_A : GV ≠ GA := by omega
        have ne_A_V : GA ≠ GV := by omega
        have le_C : w.heap.size ≤ GC := by omega
        have ne_C_A : GC ≠ GA := by omega
        have ne_A_C : GA ≠ GC := by omega
        have ne_C_V : GC ≠ GV := by omega
        have ne_V_C : GV ≠ GC := by omega
        have le_D : w.heap.size ≤ GD := by omega
        have ne_D_A : GD ≠ GA := by omega
        have ne_A_D : GA ≠ GD := by omega
        have ne_D_V : GD ≠ GV := by omega
        have ne_V_D : GV ≠ GD := by omega
        have ne_D_C : GD ≠ GC := by omega
        have ne_C_D : GC ≠ GD := by omega
        clear hGV hGC hGD
        obtain ⟨⟨qA0, qA1, qA2⟩, ⟨fA0, fA1, fA2⟩, zA⟩ := HA.out
        obtain ⟨⟨qV0, qV1, qV2⟩, ⟨fV0, fV1, fV2⟩, zV⟩ := HV.out
        obtain ⟨⟨qC0, qC1, qC2⟩, ⟨fC0, fC1, fC2⟩, zC⟩ := HC.out
        obtain ⟨⟨qD0, qD1, qD2⟩, ⟨fD0, fD1, fD2⟩, zD⟩ := HD.out
        go_wp2_with fail
        go_at_call 45
        refine (HS0.out _).mono ?_
        rintro e w1 ⟨rfl, hb⟩
        clear qA0 fA0 qA1 fA1 qA2 fA2 zA qV0 fV0 qV1 fV1 qV2 fV2 zV qC0 fC0 qC1 fC1 qC2 fC2 zC qD0 fD0 qD1 fD1 qD2 fD2 zD
        have HA := Lib.hid (HA.out.below hb)
        have HV := Lib.hid (HV.out.below hb)
        have HC := Lib.hid (HC.out.below hb)
        have HD := Lib.hid (HD.out.below hb)
        have HB := Lib.hid (below_after hb HB.out)
        clear hb
        obtain ⟨⟨qA0, qA1, qA2⟩, ⟨fA0, fA1, fA2⟩, zA⟩ := HA.out
        obtain ⟨⟨qV0, qV1, qV2⟩, ⟨fV0, fV1, fV2⟩, zV⟩ := HV.out
        obtain ⟨⟨qC0, qC1, qC2⟩, ⟨fC0, fC1, fC2⟩, zC⟩ := HC.out
        obtain ⟨⟨qD0, qD1, qD2⟩, ⟨fD0, fD1, fD2⟩, zD⟩ := HD.out
        go_wp2_with fail
        go_at_call 45
        refine (HS1.out _).mono ?_
        rintro e w2 ⟨rfl, hb⟩
        clear qA0 fA0 qA1 fA1 qA2 fA2 zA qV0 fV0 qV1 fV1 qV2 fV2 zV qC0 fC0 qC1 fC1 qC2 fC2 zC qD0 fD0 qD1 fD1 qD2 fD2 zD
        have HA := Lib.hid (HA.out.below hb)
        have HV := Lib.hid (HV.out.below hb)
        have HC := Lib.hid (HC.out.below hb)
        have HD := Lib.hid (HD.out.below hb)
        have HB := Lib.hid (below_after hb HB.out)
        clear hb
        obtain ⟨⟨qA0, qA1, qA2⟩, ⟨fA0, fA1, fA2⟩, zA⟩ := HA.out
        obtain ⟨⟨qV0, qV1, qV2⟩, ⟨fV0, fV1, fV2⟩, zV⟩ := HV.out
        obtain ⟨⟨qC0, qC1, qC2⟩, ⟨fC0, fC1, fC2⟩, zC⟩ := HC.out
        obtain ⟨⟨qD0, qD1, qD2⟩, ⟨fD0, fD1, fD2⟩, zD⟩ := HD.out
        go_wp2_with fail
        go_at_call 45
        refine (HS2.out _).mono ?_
        rintro e w3 ⟨rfl, hb⟩
        clear qA0 fA0 qA1 fA1 qA2 fA2 zA qV0 fV0 qV1 fV1 qV2 fV2 zV qC0 fC0 qC1 fC1 qC2 fC2 zC qD0 fD0 qD1 fD1 qD2 fD2 zD
        have HA := Lib.hid (HA.out.below hb)
        have HV := Lib.hid (HV.out.below hb)
        have HC := Lib.hid (HC.out.below hb)
        have HD := Lib.hid (HD.out.below hb)
        have HB := Lib.hid (below_after hb HB.out)
        clear hb
        obtain ⟨⟨qA0, qA1, qA2⟩, ⟨fA0, fA1, fA2⟩, zA⟩ := HA.out
        obtain ⟨⟨qV0, qV1, qV2⟩, ⟨fV0, fV1, fV2⟩, zV⟩ := HV.out
        obtain ⟨⟨qC0, qC1, qC2⟩, ⟨fC0, fC1, fC2⟩, zC⟩ := HC.out
        obtain ⟨⟨qD0, qD1, qD2⟩, ⟨fD0, fD1, fD2⟩, zD⟩ := HD.out
        go_wp2_with fail
        refine bodyPost_ret (v := .tuple #[.int .i64 0, .int .i64 1]) (by simp (maxDischargeDepth := 8) [results, Tryd.results43, go_sem, *]) rfl ?_
        have hb := HB.out
        exact ⟨by simp [diV, diK, diO, HK0.out, HK1.out, HK2.out], by (repeat' (first | (with_reducible exact Below.refl _ _) | (with_reducible refine Below.alloc ?_ ?_ _) | (with_reducible refine Below.setCell ?_ ?_ _) | (with_reducible refine Below.drew ?_) | (with_reducible refine below_drewN ?_ _) | (with_reducible assumption) | (with_reducible refine below_after (by with_reducible assumption) ?_) | go_size))⟩
      · skip
        have HK2 := Lib.hid k2
        have HS2 : Hid (∀ w, Calls Tryd.prog 45 #[.agg #[.int .i64 c0, .int .i64 c1, .int .i64 c2]] w fun e w' => e = .returned (.bool true) ∧ Below w.heap.size w w') := fun w => by have := l08Spot_any c0 c1 c2 w; rwa [k2] at this
        clear k2
        cases k3 : isSp d0 d1 d2
        · skip
          have HK3 := Lib.hid k3
          have HS3 : Hid (∀ w, Calls Tryd.prog 45 #[.agg #[.int .i64 d0, .int .i64 d1, .int .i64 d2]] w fun e w' => e = .returned (.bool false) ∧ Below w.heap.size w w') := fun w => by have := l08Spot_any d0 d1 d2 w; rwa [k3] at this
          clear k3
          obtain ⟨GA, hG⟩ : ∃ G, w.heap.size = G := ⟨_, rfl⟩
          have HG := Lib.hid hG
          go_enter Tryd.func43, Tryd.ntmps43
          go_upto_region 1 with fail
          obtain ⟨w0, hw0⟩ : ∃ w0, w0 = ((((w.alloc (.cells #[.int .i64 a0, .int .i64 a1, .int .i64 a2] 26)).alloc (.cells #[.int .i64 b0, .int .i64 b1, .int .i64 b2] 26)).alloc (.cells #[.int .i64 c0, .int .i64 c1, .int .i64 c2] 26)).alloc (.cells #[.int .i64 d0, .int .i64 d1, .int .i64 d2] 26)) := ⟨_, rfl⟩
          rw [← hw0]
          have HA : Hid (Bk3 w0 GA a0 a1 a2) := by
            have h := (bk3_new w a0 a1 a2 26).below (W' := ((((w.alloc (.cells #[.int .i64 a0, .int .i64 a1, .int .i64 a2] 26)).alloc (.cells #[.int .i64 b0, .int .i64 b1, .int .i64 b2] 26)).alloc (.cells #[.int .i64 c0, .int .i64 c1, .int .i64 c2] 26)).alloc (.cells #[.int .i64 d0, .int .i64 d1, .int .i64 d2] 26))) (by (repeat' (first | (with_reducible exact Below.refl _ _) | (with_reducible refine Below.alloc ?_ ?_ _) | (with_reducible refine Below.setCell ?_ ?_ _) | (with_reducible refine Below.drew ?_) | (with_reducible refine below_drewN ?_ _) | (with_reducible assumption) | (with_reducible refine below_after (by with_reducible assumption) ?_) | go_size)))
            (try simp only [World.size_alloc] at h)
            rw [hG] at h
            rw [hw0]; exact h
          have HV : Hid (Bk3 w0 (GA + 1) b0 b1 b2) := by
            have h := (bk3_new (w.alloc (.cells #[.int .i64 a0, .int .i64 a1, .int .i64 a2] 26)) b0 b1 b2 26).below (W' := ((((w.alloc (.cells #[.int .i64 a0, .int .i64 a1, .int .i64 a2] 26)).alloc (.cells #[.int .i64 b0, .int .i64 b1, .int .i64 b2] 26)).alloc (.cells #[.int .i64 c0, .int .i64 c1, .int .i64 c2] 26)).alloc (.cells #[.int .i64 d0, .int .i64 d1, .int .i64 d2] 26))) (by (repeat' (first | (with_reducible exact Below.refl _ _) | (with_reducible refine Below.alloc ?_ ?_ _) | (with_reducible refine Below.setCell ?_ ?_ _) | (with_reducible refine Below.drew ?_) | (with_reducible refine below_drewN ?_ _) | (with_reducible assumption) | (with_reducible refine below_after (by with_reducible assumption) ?_) | go_size)))
            (try simp only [World.size_alloc] at h)
            rw [hG] at h
            rw [hw0]; exact h
          have HC : Hid (Bk3 w0 (GA + 1 + 1) c0 c1 c2) := by
            have h := (bk3_new ((w.alloc (.cells #[.int .i64 a0, .int .i64 a1, .int .i64 a2] 26)).alloc (.cells #[.int .i64 b0, .int .i64 b1, .int .i64 b2] 26)) c0 c1 c2 26).below (W' := ((((w.alloc (.cells #[.int .i64 a0, .int .i64 a1, .int .i64 a2] 26)).alloc (.cells #[.int .i64 b0, .int .i64 b1, .int .i64 b2] 26)).alloc (.cells #[.int .i64 c0, .int .i64 c1, .int .i64 c2] 26)).alloc (.cells #[.int .i64 d0, .int .i64 d1, .int .i64 d2] 26))) (by (repeat' (first | (with_reducible exact Below.refl _ _) | (with_reducible refine Below.alloc ?_ ?_ _) | (with_reducible refine Below.setCell ?_ ?_ _) | (with_reducible refine Below.drew ?_) | (with_reducible refine below_drewN ?_ _) | (with_reducible assumption) | (with_reducible refine below_after (by with_reducible assumption) ?_) | go_size)))
            (try simp only [World.size_alloc] at h)
            rw [hG] at h
            rw [hw0]; exact h
          have HD : Hid (Bk3 w0 (GA + 1 + 1 + 1) d0 d1 d2) := by
            have h := (bk3_new (((w.alloc (.cells #[.int .i64 a0, .int .i64 a1, .int .i64 a2] 26)).alloc (.cells #[.int .i64 b0, .int .i64 b1, .int .i64 b2] 26)).alloc (.cells #[.int .i64 c0, .int .i64 c1, .int .i64 c2] 26)) d0 d1 d2 26).below (W' := ((((w.alloc (.cells #[.int .i64 a0, .int .i64 a1, .int .i64 a2] 26)).alloc (.cells #[.int .i64 b0, .int .i64 b1, .int .i64 b2] 26)).alloc (.cells #[.int .i64 c0, .int .i64 c1, .int .i64 c2] 26)).alloc (.cells #[.int .i64 d0, .int .i64 d1, .int .i64 d2] 26))) (by (repeat' (first | (with_reducible exact Below.refl _ _) | (with_reducible refine Below.alloc ?_ ?_ _) | (with_reducible refine Below.setCell ?_ ?_ _) | (with_reducible refine Below.drew ?_) | (with_reducible refine below_drewN ?_ _) | (with_reducible assumption) | (with_reducible refine below_after (by with_reducible assumption) ?_) | go_size)))
            (try simp only [World.size_alloc] at h)
            rw [hG] at h
            rw [hw0]; exact h
          have HB : Hid (Below w.heap.size w w0) := by show Below w.heap.size w w0; rw [hw0]; (repeat' (first | (with_reducible exact Below.refl _ _) | (with_reducible refine Below.alloc ?_ ?_ _) | (with_reducible refine Below.setCell ?_ ?_ _) | (with_reducible refine Below.drew ?_) | (with_reducible refine below_drewN ?_ _) | (with_reducible assumption) | (with_reducible refine below_after (by with_reducible assumption) ?_) | go_size))
          clear hw0
          obtain ⟨GD, hGD⟩ : ∃ g, GA + 1 + 1 + 1 = g := ⟨_, rfl⟩
          rw [hGD] at HD ⊢
          obtain ⟨GC, hGC⟩ : ∃ g, GA + 1 + 1 = g := ⟨_, rfl⟩
          rw [hGC] at HC ⊢
          obtain ⟨GV, hGV⟩ : ∃ g, GA + 1 = g := ⟨_, rfl⟩
          rw [hGV] at HV ⊢
          have le_A : w.heap.size ≤ GA := by omega
          have le_V : w.heap.size ≤ GV := by omega
          have ne_V_A : GV ≠ GA := by omega
          have ne_A_V : GA ≠ GV := by omega
          have le_C : w.heap.size ≤ GC := by omega
          have ne_C_A : GC ≠ GA := by omega
          have ne_A_C : GA ≠ GC := by omega
          have ne_C_V : GC ≠ GV := by omega
          have ne_V_C : GV ≠ GC := by omega
          have le_D : w.heap.size ≤ GD := by omega
          have ne_D_A : GD ≠ GA := by omega
          have ne_A_D : GA ≠ GD := by omega
          have ne_D_V : GD ≠ GV := by omega
          have ne_V_D : GV ≠ GD := by omega
          have ne_D_C : GD ≠ GC := by omega
          have ne_C_D : GC ≠ GD := by omega
          clear hGV hGC hGD
          obtain ⟨⟨qA0, qA1, qA2⟩, ⟨fA0, fA1, fA2⟩, zA⟩ := HA.out
          obtain ⟨⟨qV0, qV1, qV2⟩, ⟨fV0, fV1, fV2⟩, zV⟩ := HV.out
          obtain ⟨⟨qC0, qC1, qC2⟩, ⟨fC0, fC1, fC2⟩, zC⟩ := HC.out
          obtain ⟨⟨qD0, qD1, qD2⟩, ⟨fD0, fD1, fD2⟩, zD⟩ := HD.out
          go_wp2_with fail
          go_at_call 45
          refine (HS0.out _).mono ?_
          rintro e w1 ⟨rfl, hb⟩
          clear qA0 fA0 qA1 fA1 qA2 fA2 zA qV0 fV0 qV1 fV1 qV2 fV2 zV qC0 fC0 qC1 fC1 qC2 fC2 zC qD0 fD0 qD1 fD1 qD2 fD2 zD
          have HA := Lib.hid (HA.out.below hb)
          have HV := Lib.hid (HV.out.below hb)
          have HC := Lib.hid (HC.out.below hb)
          have HD := Lib.hid (HD.out.below hb)
          have HB := Lib.hid (below_after hb HB.out)
          clear hb
          obtain ⟨⟨qA0, qA1, qA2⟩, ⟨fA0, fA1, fA2⟩, zA⟩ := HA.out
          obtain ⟨⟨qV0, qV1, qV2⟩, ⟨fV0, fV1, fV2⟩, zV⟩ := HV.out
          obtain ⟨⟨qC0, qC1, qC2⟩, ⟨fC0, fC1, fC2⟩, zC⟩ := HC.out
          obtain ⟨⟨qD0, qD1, qD2⟩, ⟨fD0, fD1, fD2⟩, zD⟩ := HD.out
          go_wp2_with fail
          go_at_call 45
          refine (HS1.out _).mono ?_
          rintro e w2 ⟨rfl, hb⟩
          clear qA0 fA0 qA1 fA1 qA2 fA2 zA qV0 fV0 qV1 fV1 qV2 fV2 zV qC0 fC0 qC1 fC1 qC2 fC2 zC qD0 fD0 qD1 fD1 qD2 fD2 zD
          have HA := Lib.hid (HA.out.below hb)
          have HV := Lib.hid (HV.out.below hb)
          have HC := Lib.hid (HC.out.below hb)
          have HD := Lib.hid (HD.out.below hb)
          have HB := Lib.hid (below_after hb HB.out)
          clear hb
          obtain ⟨⟨qA0, qA1, qA2⟩, ⟨fA0, fA1, fA2⟩, zA⟩ := HA.out
          obtain ⟨⟨qV0, qV1, qV2⟩, ⟨fV0, fV1, fV2⟩, zV⟩ := HV.out
          obtain ⟨⟨qC0, qC1, qC2⟩, ⟨fC0, fC1, fC2⟩, zC⟩ := HC.out
          obtain ⟨⟨qD0, qD1, qD2⟩, ⟨fD0, fD1, fD2⟩, zD⟩ := HD.out
          go_wp2_with fail
          go_at_call 45
          refine (HS2.out _).mono ?_
          rintro e w3 ⟨rfl, hb⟩
          clear qA0 fA0 qA1 fA1 qA2 fA2 zA qV0 fV0 qV1 fV1 qV2 fV2 zV qC0 fC0 qC1 fC1 qC2 fC2 zC qD0 fD0 qD1 fD1 qD2 fD2 zD
          have HA := Lib.hid (HA.out.below hb)
          have HV := Lib.hid (HV.out.below hb)
          have HC := Lib.hid (HC.out.below hb)
          have HD := Lib.hid (HD.out.below hb)
          have HB := Lib.hid (below_after hb HB.out)
          clear hb
          obtain ⟨⟨qA0, qA1, qA2⟩, ⟨fA0, fA1, fA2⟩, zA⟩ := HA.out
          obtain ⟨⟨qV0, qV1, qV2⟩, ⟨fV0, fV1, fV2⟩, zV⟩ := HV.out
          obtain ⟨⟨qC0, qC1, qC2⟩, ⟨fC0, fC1, fC2⟩, zC⟩ := HC.out
          obtain ⟨⟨qD0, qD1, qD2⟩, ⟨fD0, fD1, fD2⟩, zD⟩ := HD.out
          go_wp2_with fail
          go_at_call 45
          refine (HS3.out _).mono ?_
          rintro e w4 ⟨rfl, hb⟩
          clear qA0 fA0 qA1 fA1 qA2 fA2 zA qV0 fV0 qV1 fV1 qV2 fV2 zV qC0 fC0 qC1 fC1 qC2 fC2 zC qD0 fD0 qD1 fD1 qD2 fD2 zD
          have HA := Lib.hid (HA.out.below hb)
          have HV := Lib.hid (HV.out.below hb)
          have HC := Lib.hid (HC.out.below hb)
          have HD := Lib.hid (HD.out.below hb)
          have HB := Lib.hid (below_after hb HB.out)
          clear hb
          obtain ⟨⟨qA0, qA1, qA2⟩, ⟨fA0, fA1, fA2⟩, zA⟩ := HA.out
          obtain ⟨⟨qV0, qV1, qV2⟩, ⟨fV0, fV1, fV2⟩, zV⟩ := HV.out
          obtain ⟨⟨qC0, qC1, qC2⟩, ⟨fC0, fC1, fC2⟩, zC⟩ := HC.out
          obtain ⟨⟨qD0, qD1, qD2⟩, ⟨fD0, fD1, fD2⟩, zD⟩ := HD.out
          go_wp2_with fail
          refine bodyPost_ret (v := .tuple #[.int .i64 0, .int .i64 1]) (by simp (maxDischargeDepth := 8) [results, Tryd.results43, go_sem, *]) rfl ?_
          have hb := HB.out
          exact ⟨by simp [diV, diK, diO, HK0.out, HK1.out, HK2.out, HK3.out], by (repeat' (first | (with_reducible exact Below.refl _ _) | (with_reducible refine Below.alloc ?_ ?_ _) | (with_reducible refine Below.setCell ?_ ?_ _) | (with_reducible refine Below.drew ?_) | (with_reducible refine below_drewN ?_ _) | (with_reducible assumption) | (with_reducible refine below_after (by with_reducible assumption) ?_) | go_size))⟩
        · skip
          have HK3 := Lib.hid k3
          have HS3 : Hid (∀ w, Calls Tryd.prog 45 #[.agg #[.int .i64 d0, .int .i64 d1, .int .i64 d2]] w fun e w' => e = .returned (.bool true) ∧ Below w.heap.size w w') := fun w => by have := l08Spot_any d0 d1 d2 w; rwa [k3] at this
          clear k3
          have HUA : Hid (W3 100000000000 a0 a1 a2) := (isSp_W3 HK0.out).up (by omega)
          have HUB : Hid (W3 100000000000 b0 b1 b2) := (isSp_W3 HK1.out).up (by omega)
          have HUC : Hid (W3 100000000000 c0 c1 c2) := (isSp_W3 HK2.out).up (by omega)
          have HUD : Hid (W3 100000000000 d0 d1 d2) := (isSp_W3 HK3.out).up (by omega)
          have HEB : Hid (W3 1000000 (b0 - a0) (b1 - a1) (b2 - a2)) := ((isSp_W3 HK1.out).sub (isSp_W3 HK0.out)).up (by omega)
          have HEC : Hid (W3 1000000 (c0 - a0) (c1 - a1) (c2 - a2)) := ((isSp_W3 HK2.out).sub (isSp_W3 HK0.out)).up (by omega)
          have HED : Hid (W3 100000000000 (d0 - a0) (d1 - a1) (d2 - a2)) := ((isSp_W3 HK3.out).sub (isSp_W3 HK0.out)).up (by omega)
          have HEX : Hid (W3 1000000 (dcX a0 a1 a2 b0 b1 b2 c0 c1 c2) (dcY a0 a1 a2 b0 b1 b2 c0 c1 c2) (dcZ a0 a1 a2 b0 b1 b2 c0 c1 c2)) := (((isSp_W3 HK1.out).sub (isSp_W3 HK0.out)).cr ((isSp_W3 HK2.out).sub (isSp_W3 HK0.out))).up (by omega)
          have HLC : Hid (∀ w, Calls Tryd.prog 46 #[.agg #[.int .i64 ((b0 - a0)), .int .i64 ((b1 - a1)), .int .i64 ((b2 - a2))], .agg #[.int .i64 ((c0 - a0)), .int .i64 ((c1 - a1)), .int .i64 ((c2 - a2))]] w fun e w' => e = .returned (.agg #[.int .i64 (dcX a0 a1 a2 b0 b1 b2 c0 c1 c2), .int .i64 (dcY a0 a1 a2 b0 b1 b2 c0 c1 c2), .int .i64 (dcZ a0 a1 a2 b0 b1 b2 c0 c1 c2)]) ∧ Below w.heap.size w w') := fun w => l08Cross_any _ _ _ _ _ _ w HEB.out HEC.out
          have HVV : Hid (diV a0 a1 a2 b0 b1 b2 c0 c1 c2 d0 d1 d2 = (bif z3 (dcX a0 a1 a2 b0 b1 b2 c0 c1 c2) (dcY a0 a1 a2 b0 b1 b2 c0 c1 c2) (dcZ a0 a1 a2 b0 b1 b2 c0 c1 c2) then 0 else dis (dcX a0 a1 a2 b0 b1 b2 c0 c1 c2) (dcY a0 a1 a2 b0 b1 b2 c0 c1 c2) (dcZ a0 a1 a2 b0 b1 b2 c0 c1 c2) (d0 - a0) (d1 - a1) (d2 - a2))) := by
            show _ = _
            unfold diV diO
            rw [HK0.out, HK1.out, HK2.out, HK3.out]; rfl
          have HVK : Hid (diK a0 a1 a2 b0 b1 b2 c0 c1 c2 d0 d1 d2 = (bif z3 (dcX a0 a1 a2 b0 b1 b2 c0 c1 c2) (dcY a0 a1 a2 b0 b1 b2 c0 c1 c2) (dcZ a0 a1 a2 b0 b1 b2 c0 c1 c2) then 5 else 0)) := by
            show _ = _
            unfold diK diO
            rw [HK0.out, HK1.out, HK2.out, HK3.out]; rfl
          generalize dcX a0 a1 a2 b0 b1 b2 c0 c1 c2 = X at *
          generalize dcY a0 a1 a2 b0 b1 b2 c0 c1 c2 = Y at *
          generalize dcZ a0 a1 a2 b0 b1 b2 c0 c1 c2 = Z at *
          generalize diV a0 a1 a2 b0 b1 b2 c0 c1 c2 d0 d1 d2 = VV at *
          generalize diK a0 a1 a2 b0 b1 b2 c0 c1 c2 d0 d1 d2 = KK at *
          have HWD : Hid (Wi 1000000000000000000 (dotV X Y Z (d0 - a0) (d1 - a1) (d2 - a2))) := (HEX.out.dot ((isSp_W3 HK3.out).sub (isSp_W3 HK0.out) : W3 (20 + 20) _ _ _)).up (by omega)
          have heq := eq_sp X Y Z 0 0 0
          cases hz : ((X == 0 && Y == 0) && Z == 0)
          · rw [hz] at heq
            have HZ : Hid (z3 X Y Z = false) := hz
            clear hz
            have hlp := lenV_pos HZ.out
            have HLL : Hid (∀ w, Calls Tryd.prog 55 #[.agg #[.int .i64 X, .int .i64 Y, .int .i64 Z]] w fun e w' => e = .returned (.int .i64 (lenV X Y Z)) ∧ Below w.heap.size w w') := fun w => l08Length_any X Y Z w HEX.out
            have HDI : Hid (dis X Y Z (d0 - a0) (d1 - a1) (d2 - a2) = absI ((dotV X Y Z (d0 - a0) (d1 - a1) (d2 - a2)).tdiv (lenV X Y Z))) := rfl
            have hq := tdiv_wi HWD.out hlp
            unfold Wi at hq
            have HLD : Hid (∀ w, Calls Tryd.prog 86 #[.agg #[.int .i64 X, .int .i64 Y, .int .i64 Z], .agg #[.int .i64 ((d0 - a0)), .int .i64 ((d1 - a1)), .int .i64 ((d2 - a2))]] w fun e w' => e = .returned (.int .i64 (dotV X Y Z (d0 - a0) (d1 - a1) (d2 - a2))) ∧ Below w.heap.size w w') := fun w => l08Dot_any X Y Z _ _ _ w HEX.out HED.out
            generalize lenV X Y Z = L at *
            generalize dotV X Y Z (d0 - a0) (d1 - a1) (d2 - a2) = N at *
            have hl0 : ¬ L = 0 := by omega
            have hl1 : (L == 0) = false := by simpa using hl0
            have hwq : wrap64 (N.tdiv L) = N.tdiv L := IntWalk.wrap64_in _ ⟨by omega, by omega⟩
            have hwn : wrap64 (-(N.tdiv L)) = -(N.tdiv L) := IntWalk.wrap64_in _ ⟨by omega, by omega⟩
            obtain ⟨GA, hG⟩ : ∃ G, w.heap.size = G := ⟨_, rfl⟩
            have HG := Lib.hid hG
            go_enter Tryd.func43, Tryd.ntmps43
            go_upto_region 1 with fail
            obtain ⟨w0, hw0⟩ : ∃ w0, w0 = ((((w.alloc (.cells #[.int .i64 a0, .int .i64 a1, .int .i64 a2] 26)).alloc (.cells #[.int .i64 b0, .int .i64 b1, .int .i64 b2] 26)).alloc (.cells #[.int .i64 c0, .int .i64 c1, .int .i64 c2] 26)).alloc (.cells #[.int .i64 d0, .int .i64 d1, .int .i64 d2] 26)) := ⟨_, rfl⟩
            rw [← hw0]
            have HA : Hid (Bk3 w0 GA a0 a1 a2) := by
              have h := (bk3_new w a0 a1 a2 26).below (W' := ((((w.alloc (.cells #[.int .i64 a0, .int .i64 a1, .int .i64 a2] 26)).alloc (.cells #[.int .i64 b0, .int .i64 b1, .int .i64 b2] 26)).alloc (.cells #[.int .i64 c0, .int .i64 c1, .int .i64 c2] 26)).alloc (.cells #[.int .i64 d0, .int .i64 d1, .int .i64 d2] 26))) (by (repeat' (first | (with_reducible exact Below.refl _ _) | (with_reducible refine Below.alloc ?_ ?_ _) | (with_reducible refine Below.setCell ?_ ?_ _) | (with_reducible refine Below.drew ?_) | (with_reducible refine below_drewN ?_ _) | (with_reducible assumption) | (with_reducible refine below_after (by with_reducible assumption) ?_) | go_size)))
              (try simp only [World.size_alloc] at h)
              rw [hG] at h
              rw [hw0]; exact h
            have HV : Hid (Bk3 w0 (GA + 1) b0 b1 b2) := by
              have h := (bk3_new (w.alloc (.cells #[.int .i64 a0, .int .i64 a1, .int .i64 a2] 26)) b0 b1 b2 26).below (W' := ((((w.alloc (.cells #[.int .i64 a0, .int .i64 a1, .int .i64 a2] 26)).alloc (.cells #[.int .i64 b0, .int .i64 b1, .int .i64 b2] 26)).alloc (.cells #[.int .i64 c0, .int .i64 c1, .int .i64 c2] 26)).alloc (.cells #[.int .i64 d0, .int .i64 d1, .int .i64 d2] 26))) (by (repeat' (first | (with_reducible exact Below.refl _ _) | (with_reducible refine Below.alloc ?_ ?_ _) | (with_reducible refine Below.setCell ?_ ?_ _) | (with_reducible refine Below.drew ?_) | (with_reducible refine below_drewN ?_ _) | (with_reducible assumption) | (with_reducible refine below_after (by with_reducible assumption) ?_) | go_size)))
              (try simp only [World.size_alloc] at h)
              rw [hG] at h
              rw [hw0]; exact h
            have HC : Hid (Bk3 w0 (GA + 1 + 1) c0 c1 c2) := by
              have h := (bk3_new ((w.alloc (.cells #[.int .i64 a0, .int .i64 a1, .int .i64 a2] 26)).alloc (.cells #[.int .i64 b0, .int .i64 b1, .int .i64 b2] 26)) c0 c1 c2 26).below (W' := ((((w.alloc (.cells #[.int .i64 a0, .int .i64 a1, .int .i64 a2] 26)).alloc (.cells #[.int .i64 b0, .int .i64 b1, .int .i64 b2] 26)).alloc (.cells #[.int .i64 c0, .int .i64 c1, .int .i64 c2] 26)).alloc (.cells #[.int .i64 d0, .int .i64 d1, .int .i64 d2] 26))) (by (repeat' (first | (with_reducible exact Below.refl _ _) | (with_reducible refine Below.alloc ?_ ?_ _) | (with_reducible refine Below.setCell ?_ ?_ _) | (with_reducible refine Below.drew ?_) | (with_reducible refine below_drewN ?_ _) | (with_reducible assumption) | (with_reducible refine below_after (by with_reducible assumption) ?_) | go_size)))
              (try simp only [World.size_alloc] at h)
              rw [hG] at h
              rw [hw0]; exact h
            have HD : Hid (Bk3 w0 (GA + 1 + 1 + 1) d0 d1 d2) := by
              have h := (bk3_new (((w.alloc (.cells #[.int .i64 a0, .int .i64 a1, .int .i64 a2] 26)).alloc (.cells #[.int .i64 b0, .int .i64 b1, .int .i64 b2] 26)).alloc (.cells #[.int .i64 c0, .int .i64 c1, .int .i64 c2] 26)) d0 d1 d2 26).below (W' := ((((w.alloc (.cells #[.int .i64 a0, .int .i64 a1, .int .i64 a2] 26)).alloc (.cells #[.int .i64 b0, .int .i64 b1, .int .i64 b2] 26)).alloc (.cells #[.int .i64 c0, .int .i64 c1, .int .i64 c2] 26)).alloc (.cells #[.int .i64 d0, .int .i64 d1, .int .i64 d2] 26))) (by (repeat' (first | (with_reducible exact Below.refl _ _) | (with_reducible refine Below.alloc ?_ ?_ _) | (with_reducible refine Below.setCell ?_ ?_ _) | (with_reducible refine Below.drew ?_) | (with_reducible refine below_drewN ?_ _) | (with_reducible assumption) | (with_reducible refine below_after (by with_reducible assumption) ?_) | go_size)))
              (try simp only [World.size_alloc] at h)
              rw [hG] at h
              rw [hw0]; exact h
            have HB : Hid (Below w.heap.size w w0) := by show Below w.heap.size w w0; rw [hw0]; (repeat' (first | (with_reducible exact Below.refl _ _) | (with_reducible refine Below.alloc ?_ ?_ _) | (with_reducible refine Below.setCell ?_ ?_ _) | (with_reducible refine Below.drew ?_) | (with_reducible refine below_drewN ?_ _) | (with_reducible assumption) | (with_reducible refine below_after (by with_reducible assumption) ?_) | go_size))
            clear hw0
            obtain ⟨GD, hGD⟩ : ∃ g, GA + 1 + 1 + 1 = g := ⟨_, rfl⟩
            rw [hGD] at HD ⊢
            obtain ⟨GC, hGC⟩ : ∃ g, GA + 1 + 1 = g := ⟨_, rfl⟩
            rw [hGC] at HC ⊢
            obtain ⟨GV, hGV⟩ : ∃ g, GA + 1 = g := ⟨_, rfl⟩
            rw [hGV] at HV ⊢
            have le_A : w.heap.size ≤ GA := by omega
            have le_V : w.heap.size ≤ GV := by omega
            have ne_V_A : GV ≠ GA := by omega
            have ne_A_V : GA ≠ GV := by omega
            have le_C : w.heap.size ≤ GC := by omega
            have ne_C_A : GC ≠ GA := by omega
            have ne_A_C : GA ≠ GC := by omega
            have ne_C_V : GC ≠ GV := by omega
            have ne_V_C : GV ≠ GC := by omega
            have le_D : w.heap.size ≤ GD := by omega
            have ne_D_A : GD ≠ GA := by omega
            have ne_A_D : GA ≠ GD := by omega
            have ne_D_V : GD ≠ GV := by omega
            have ne_V_D : GV ≠ GD := by omega
            have ne_D_C : GD ≠ GC := by omega
            have ne_C_D : GC ≠ GD := by omega
            clear hGV hGC hGD
            obtain ⟨⟨qA0, qA1, qA2⟩, ⟨fA0, fA1, fA2⟩, zA⟩ := HA.out
            obtain ⟨⟨qV0, qV1, qV2⟩, ⟨fV0, fV1, fV2⟩, zV⟩ := HV.out
            obtain ⟨⟨qC0, qC1, qC2⟩, ⟨fC0, fC1, fC2⟩, zC⟩ := HC.out
            obtain ⟨⟨qD0, qD1, qD2⟩, ⟨fD0, fD1, fD2⟩, zD⟩ := HD.out
            go_wp2_with fail
            go_at_call 45
            refine (HS0.out _).mono ?_
            rintro e w1 ⟨rfl, hb⟩
            clear qA0 fA0 qA1 fA1 qA2 fA2 zA qV0 fV0 qV1 fV1 qV2 fV2 zV qC0 fC0 qC1 fC1 qC2 fC2 zC qD0 fD0 qD1 fD1 qD2 fD2 zD
            have HA := Lib.hid (HA.out.below hb)
            have HV := Lib.hid (HV.out.below hb)
            have HC := Lib.hid (HC.out.below hb)
            have HD := Lib.hid (HD.out.below hb)
            have HB := Lib.hid (below_after hb HB.out)
            clear hb
            obtain ⟨⟨qA0, qA1, qA2⟩, ⟨fA0, fA1, fA2⟩, zA⟩ := HA.out
            obtain ⟨⟨qV0, qV1, qV2⟩, ⟨fV0, fV1, fV2⟩, zV⟩ := HV.out
            obtain ⟨⟨qC0, qC1, qC2⟩, ⟨fC0, fC1, fC2⟩, zC⟩ := HC.out
            obtain ⟨⟨qD0, qD1, qD2⟩, ⟨fD0, fD1, fD2⟩, zD⟩ := HD.out
            go_wp2_with fail
            go_at_call 45
            refine (HS1.out _).mono ?_
            rintro e w2 ⟨rfl, hb⟩
            clear qA0 fA0 qA1 fA1 qA2 fA2 zA qV0 fV0 qV1 fV1 qV2 fV2 zV qC0 fC0 qC1 fC1 qC2 fC2 zC qD0 fD0 qD1 fD1 qD2 fD2 zD
            have HA := Lib.hid (HA.out.below hb)
            have HV := Lib.hid (HV.out.below hb)
            have HC := Lib.hid (HC.out.below hb)
            have HD := Lib.hid (HD.out.below hb)
            have HB := Lib.hid (below_after hb HB.out)
            clear hb
            obtain ⟨⟨qA0, qA1, qA2⟩, ⟨fA0, fA1, fA2⟩, zA⟩ := HA.out
            obtain ⟨⟨qV0, qV1, qV2⟩, ⟨fV0, fV1, fV2⟩, zV⟩ := HV.out
            obtain ⟨⟨qC0, qC1, qC2⟩, ⟨fC0, fC1, fC2⟩, zC⟩ := HC.out
            obtain ⟨⟨qD0, qD1, qD2⟩, ⟨fD0, fD1, fD2⟩, zD⟩ := HD.out
            go_wp2_with fail
            go_at_call 45
            refine (HS2.out _).mono ?_
            rintro e w3 ⟨rfl, hb⟩
            clear qA0 fA0 qA1 fA1 qA2 fA2 zA qV0 fV0 qV1 fV1 qV2 fV2 zV qC0 fC0 qC1 fC1 qC2 fC2 zC qD0 fD0 qD1 fD1 qD2 fD2 zD
            have HA := Lib.hid (HA.out.below hb)
            have HV := Lib.hid (HV.out.below hb)
            have HC := Lib.hid (HC.out.below hb)
            have HD := Lib.hid (HD.out.below hb)
            have HB := Lib.hid (below_after hb HB.out)
            clear hb
            obtain ⟨⟨qA0, qA1, qA2⟩, ⟨fA0, fA1, fA2⟩, zA⟩ := HA.out
            obtain ⟨⟨qV0, qV1, qV2⟩, ⟨fV0, fV1, fV2⟩, zV⟩ := HV.out
            obtain ⟨⟨qC0, qC1, qC2⟩, ⟨fC0, fC1, fC2⟩, zC⟩ := HC.out
            obtain ⟨⟨qD0, qD1, qD2⟩, ⟨fD0, fD1, fD2⟩, zD⟩ := HD.out
            go_wp2_with fail
            go_at_call 45
            refine (HS3.out _).mono ?_
            rintro e w4 ⟨rfl, hb⟩
            clear qA0 fA0 qA1 fA1 qA2 fA2 zA qV0 fV0 qV1 fV1 qV2 fV2 zV qC0 fC0 qC1 fC1 qC2 fC2 zC qD0 fD0 qD1 fD1 qD2 fD2 zD
            have HA := Lib.hid (HA.out.below hb)
            have HV := Lib.hid (HV.out.below hb)
            have HC := Lib.hid (HC.out.below hb)
            have HD := Lib.hid (HD.out.below hb)
            have HB := Lib.hid (below_after hb HB.out)
            clear hb
            have HXX : Hid (∀ W, Below w4.heap.size w4 W → Bk3 W GA a0 a1 a2 ∧ Bk3 W GV b0 b1 b2 ∧ Bk3 W GC c0 c1 c2 ∧ Bk3 W GD d0 d1 d2) := fun W hW => ⟨HA.out.below hW, HV.out.below hW, HC.out.below hW, HD.out.below hW⟩
            go_wp2_with fail
            refine wp_region_held_drew (S := fun W => Below w4.heap.size w4 W) (by kernel_rfl) ?_ (fun hHeld => ?_); focus ((try dsimp only); exact (Below.refl _ _).drew)
            have HA := Lib.hid (HA.out.below (Below.drew (Below.refl _ _)))
            have HV := Lib.hid (HV.out.below (Below.drew (Below.refl _ _)))
            have HC := Lib.hid (HC.out.below (Below.drew (Below.refl _ _)))
            have HD := Lib.hid (HD.out.below (Below.drew (Below.refl _ _)))
            have hHeld : Below w4.heap.size w4 _ := hHeld
            obtain ⟨wD4, hwD4⟩ : ∃ wD, w4.drew = wD := ⟨_, rfl⟩
            rw [hwD4] at hHeld HA HV HC HD ⊢
            clear hwD4
            (refine wpAnyH_take (i := 0) (v := ?_) rfl (by kernel_rfl) (by kernel_rfl) (by kernel_rfl) (fun _ _ _ h => h) (Or.inl ⟨rfl, ?_⟩) (by assumption) ?_; rotate_left; focus (intro W hSw; (try dsimp only at hSw); have hxx := HXX.out _ hSw; obtain ⟨hxA, hxV, hxC, hxD⟩ := hxx; obtain ⟨⟨iA0, iA1, iA2⟩, _, _⟩ := hxA; obtain ⟨⟨iV0, iV1, iV2⟩, _, _⟩ := hxV; obtain ⟨⟨iC0, iC1, iC2⟩, _, _⟩ := hxC; obtain ⟨⟨iD0, iD1, iD2⟩, _, _⟩ := hxD; go_simp; try (with_reducible rfl))); (try simp only [Act.put, List.getElem_toArray, List.getElem_cons_succ, List.getElem_cons_zero, List.setIfInBounds_toArray, List.set_cons_zero, List.set_cons_succ])
            (refine wpAnyH_take (i := 1) (v := ?_) rfl (by kernel_rfl) (by kernel_rfl) (by kernel_rfl) (fun _ _ _ h => h) (Or.inl ⟨rfl, ?_⟩) (by assumption) ?_; rotate_left; focus (intro W hSw; (try dsimp only at hSw); have hxx := HXX.out _ hSw; obtain ⟨hxA, hxV, hxC, hxD⟩ := hxx; obtain ⟨⟨iA0, iA1, iA2⟩, _, _⟩ := hxA; obtain ⟨⟨iV0, iV1, iV2⟩, _, _⟩ := hxV; obtain ⟨⟨iC0, iC1, iC2⟩, _, _⟩ := hxC; obtain ⟨⟨iD0, iD1, iD2⟩, _, _⟩ := hxD; go_simp; try (with_reducible rfl))); (try simp only [Act.put, List.getElem_toArray, List.getElem_cons_succ, List.getElem_cons_zero, List.setIfInBounds_toArray, List.set_cons_zero, List.set_cons_succ])
            (refine wpAnyH_take (i := 3) (v := ?_) rfl (by kernel_rfl) (by kernel_rfl) (by kernel_rfl) (fun _ _ _ h => h) (Or.inl ⟨rfl, ?_⟩) (by assumption) ?_; rotate_left; focus (intro W hSw; (try dsimp only at hSw); have hxx := HXX.out _ hSw; obtain ⟨hxA, hxV, hxC, hxD⟩ := hxx; obtain ⟨⟨iA0, iA1, iA2⟩, _, _⟩ := hxA; obtain ⟨⟨iV0, iV1, iV2⟩, _, _⟩ := hxV; obtain ⟨⟨iC0, iC1, iC2⟩, _, _⟩ := hxC; obtain ⟨⟨iD0, iD1, iD2⟩, _, _⟩ := hxD; go_simp; try (with_reducible rfl))); (try simp only [Act.put, List.getElem_toArray, List.getElem_cons_succ, List.getElem_cons_zero, List.setIfInBounds_toArray, List.set_cons_zero, List.set_cons_succ])
            (refine wpAnyH_take (i := 4) (v := ?_) rfl (by kernel_rfl) (by kernel_rfl) (by kernel_rfl) (fun _ _ _ h => h) (Or.inl ⟨rfl, ?_⟩) (by assumption) ?_; rotate_left; focus (intro W hSw; (try dsimp only at hSw); have hxx := HXX.out _ hSw; obtain ⟨hxA, hxV, hxC, hxD⟩ := hxx; obtain ⟨⟨iA0, iA1, iA2⟩, _, _⟩ := hxA; obtain ⟨⟨iV0, iV1, iV2⟩, _, _⟩ := hxV; obtain ⟨⟨iC0, iC1, iC2⟩, _, _⟩ := hxC; obtain ⟨⟨iD0, iD1, iD2⟩, _, _⟩ := hxD; go_simp; try (with_reducible rfl))); (try simp only [Act.put, List.getElem_toArray, List.getElem_cons_succ, List.getElem_cons_zero, List.setIfInBounds_toArray, List.set_cons_zero, List.set_cons_succ])
            refine wpAnyH_ready (rs := [2, 7]) (by kernel_rfl) (by simp) ?_; refine AllReadyH.cons rfl (fun K hK => ?_) (AllReadyH.cons rfl (fun K hK => ?_) AllReadyH.nil)
            · skip
              go_simp; (go_at_call 85; refine (l08Plus_minus _ _ _ _ _ _ _ HUB.out HUA.out).mono ?_; rintro en ywr4x0 ⟨rfl, hb2⟩); have HA := Lib.hid (HA.out.below hb2); have HV := Lib.hid (HV.out.below hb2); have HC := Lib.hid (HC.out.below hb2); have HD := Lib.hid (HD.out.below hb2); refine hK.out _ _ (below_after hb2 hHeld) (fun hHeld2 => ?_); clear hb2; (clear hHeld; rename _ => hHeld; clear hK K; have hHeld : Below w4.heap.size w4 _ := hHeld); (try simp only [Act.put, List.getElem_toArray, List.getElem_cons_succ, List.getElem_cons_zero, List.setIfInBounds_toArray, List.set_cons_zero, List.set_cons_succ])
              refine wpAnyH_ready (rs := [5, 7]) (by kernel_rfl) (by simp) ?_; refine AllReadyH.cons rfl (fun K hK => ?_) (AllReadyH.cons rfl (fun K hK => ?_) AllReadyH.nil)
              · skip
                go_simp; (go_at_call 85; refine (l08Plus_minus _ _ _ _ _ _ _ HUC.out HUA.out).mono ?_; rintro en ywr4x1 ⟨rfl, hb2⟩); have HA := Lib.hid (HA.out.below hb2); have HV := Lib.hid (HV.out.below hb2); have HC := Lib.hid (HC.out.below hb2); have HD := Lib.hid (HD.out.below hb2); refine hK.out _ _ (below_after hb2 hHeld) (fun hHeld2 => ?_); clear hb2; (clear hHeld; rename _ => hHeld; clear hK K; have hHeld : Below w4.heap.size w4 _ := hHeld); (try simp only [Act.put, List.getElem_toArray, List.getElem_cons_succ, List.getElem_cons_zero, List.setIfInBounds_toArray, List.set_cons_zero, List.set_cons_succ])
                refine wpAnyH_ready (rs := [6, 7]) (by kernel_rfl) (by simp) ?_; refine AllReadyH.cons rfl (fun K hK => ?_) (AllReadyH.cons rfl (fun K hK => ?_) AllReadyH.nil)
                · skip
                  go_simp; (go_at_call 46; refine (HLC.out _).mono ?_; rintro en ywr4x2 ⟨rfl, hb2⟩); have HA := Lib.hid (HA.out.below hb2); have HV := Lib.hid (HV.out.below hb2); have HC := Lib.hid (HC.out.below hb2); have HD := Lib.hid (HD.out.below hb2); refine hK.out _ _ (below_after hb2 hHeld) (fun hHeld2 => ?_); clear hb2; (clear hHeld; rename _ => hHeld; clear hK K; have hHeld : Below w4.heap.size w4 _ := hHeld); (try simp only [Act.put, List.getElem_toArray, List.getElem_cons_succ, List.getElem_cons_zero, List.setIfInBounds_toArray, List.set_cons_zero, List.set_cons_succ])
                  refine wpAnyH_ready (rs := [7]) (by kernel_rfl) (by simp) ?_; refine AllReadyH.cons rfl (fun K hK => ?_) AllReadyH.nil
                  go_simp; obtain ⟨GW, hGW⟩ : ∃ G, ywr4x2.heap.size = G := ⟨_, rfl⟩; have le_W : w4.heap.size ≤ GW := by rw [← hGW]; exact Below.size hHeld
                  have ne_W_A : GW ≠ GA := by have := HA.out.2.2; omega
                  have ne_A_W : GA ≠ GW := Ne.symm ne_W_A
                  have ne_W_V : GW ≠ GV := by have := HV.out.2.2; omega
                  have ne_V_W : GV ≠ GW := Ne.symm ne_W_V
                  have ne_W_C : GW ≠ GC := by have := HC.out.2.2; omega
                  have ne_C_W : GC ≠ GW := Ne.symm ne_W_C
                  have ne_W_D : GW ≠ GD := by have := HD.out.2.2; omega
                  have ne_D_W : GD ≠ GW := Ne.symm ne_W_D
                  have HA := Lib.hid (HA.out.below ((Below.refl _ _).alloc (Nat.le_refl _) (.cells #[.int .i64 0, .int .i64 0, .int .i64 0] 26))); have HV := Lib.hid (HV.out.below ((Below.refl _ _).alloc (Nat.le_refl _) (.cells #[.int .i64 0, .int .i64 0, .int .i64 0] 26))); have HC := Lib.hid (HC.out.below ((Below.refl _ _).alloc (Nat.le_refl _) (.cells #[.int .i64 0, .int .i64 0, .int .i64 0] 26))); have HD := Lib.hid (HD.out.below ((Below.refl _ _).alloc (Nat.le_refl _) (.cells #[.int .i64 0, .int .i64 0, .int .i64 0] 26))); skip
                  have HW : Hid (Bk3 (ywr4x2.alloc (.cells #[.int .i64 0, .int .i64 0, .int .i64 0] 26)) GW 0 0 0) := by rw [← hGW]; exact bk3_new ywr4x2 0 0 0 _
                  refine hK.out _ _ (Below.alloc hHeld (Below.size hHeld) _) (fun hHeld2 => ?_); (clear hHeld; rename _ => hHeld; clear hK K; have hHeld : Below w4.heap.size w4 _ := hHeld); (try simp only [Act.put, List.getElem_toArray, List.getElem_cons_succ, List.getElem_cons_zero, List.setIfInBounds_toArray, List.set_cons_zero, List.set_cons_succ])
                  rw [hGW]; clear hGW; obtain ⟨ywr4x3, hwx⟩ : ∃ wx, ywr4x2.alloc (.cells #[.int .i64 0, .int .i64 0, .int .i64 0] 26) = wx := ⟨_, rfl⟩; rw [hwx] at HA HV HC HD HW hHeld ⊢; clear hwx
                  refine wpAnyH_ready (rs := [8]) (by kernel_rfl) (by simp) ?_; refine AllReadyH.cons rfl (fun K hK => ?_) AllReadyH.nil
                  obtain ⟨⟨a0, a1, a2⟩, ⟨f0, f1, f2⟩, az⟩ := HW.out; go_simp; clear a0 f0 a1 f1 a2 f2 az
                  have HA := Lib.hid (((HA.out.far ⟨GW, 0, none⟩ (.int .i64 X) (by show GA ≠ GW; exact ne_A_W)).far ⟨GW, 1, none⟩ (.int .i64 Y) (by show GA ≠ GW; exact ne_A_W)).far ⟨GW, 2, none⟩ (.int .i64 Z) (by show GA ≠ GW; exact ne_A_W))
                  have HV := Lib.hid (((HV.out.far ⟨GW, 0, none⟩ (.int .i64 X) (by show GV ≠ GW; exact ne_V_W)).far ⟨GW, 1, none⟩ (.int .i64 Y) (by show GV ≠ GW; exact ne_V_W)).far ⟨GW, 2, none⟩ (.int .i64 Z) (by show GV ≠ GW; exact ne_V_W))
                  have HC := Lib.hid (((HC.out.far ⟨GW, 0, none⟩ (.int .i64 X) (by show GC ≠ GW; exact ne_C_W)).far ⟨GW, 1, none⟩ (.int .i64 Y) (by show GC ≠ GW; exact ne_C_W)).far ⟨GW, 2, none⟩ (.int .i64 Z) (by show GC ≠ GW; exact ne_C_W))
                  have HD := Lib.hid (((HD.out.far ⟨GW, 0, none⟩ (.int .i64 X) (by show GD ≠ GW; exact ne_D_W)).far ⟨GW, 1, none⟩ (.int .i64 Y) (by show GD ≠ GW; exact ne_D_W)).far ⟨GW, 2, none⟩ (.int .i64 Z) (by show GD ≠ GW; exact ne_D_W))
                  have HW := Lib.hid (((HW.out.set0 X).set1 Y).set2 Z)
                  refine hK.out _ _ (Below.setCell (Below.setCell (Below.setCell hHeld (p := ⟨GW, 0, none⟩) le_W _) (p := ⟨GW, 1, none⟩) le_W _) (p := ⟨GW, 2, none⟩) le_W _) (fun hHeld2 => ?_); (clear hHeld; rename _ => hHeld; clear hK K; have hHeld : Below w4.heap.size w4 _ := hHeld); (try simp only [Act.put, List.getElem_toArray, List.getElem_cons_succ, List.getElem_cons_zero, List.setIfInBounds_toArray, List.set_cons_zero, List.set_cons_succ])
                  obtain ⟨ywr4x4, hwx⟩ : ∃ wx, ((ywr4x3.setCell ⟨GW, 0, none⟩ (.int .i64 X)).setCell ⟨GW, 1, none⟩ (.int .i64 Y)).setCell ⟨GW, 2, none⟩ (.int .i64 Z) = wx := ⟨_, rfl⟩; rw [hwx] at HA HV HC HD HW hHeld ⊢; clear hwx
                  refine wpAnyH_done (by kernel_rfl) ?_ _
                  have le_W : w.heap.size ≤ GW := Nat.le_trans HB.out.size le_W
                  have HB := Lib.hid (HB.out.trans (hHeld.mono HB.out.size))
                  clear hHeld HXX
                  obtain ⟨⟨qA0, qA1, qA2⟩, ⟨fA0, fA1, fA2⟩, zA⟩ := HA.out
                  obtain ⟨⟨qV0, qV1, qV2⟩, ⟨fV0, fV1, fV2⟩, zV⟩ := HV.out
                  obtain ⟨⟨qC0, qC1, qC2⟩, ⟨fC0, fC1, fC2⟩, zC⟩ := HC.out
                  obtain ⟨⟨qD0, qD1, qD2⟩, ⟨fD0, fD1, fD2⟩, zD⟩ := HD.out
                  obtain ⟨⟨qW0, qW1, qW2⟩, ⟨fW0, fW1, fW2⟩, zW⟩ := HW.out
                  go_upto_region 6 with fail
                  clear qA0 fA0 qA1 fA1 qA2 fA2 zA qV0 fV0 qV1 fV1 qV2 fV2 zV qC0 fC0 qC1 fC1 qC2 fC2 zC qD0 fD0 qD1 fD1 qD2 fD2 zD qW0 fW0 qW1 fW1 qW2 fW2 zW
                  have HXX : Hid (∀ W, Below ywr4x4.heap.size ywr4x4 W → Bk3 W GA a0 a1 a2 ∧ Bk3 W GV b0 b1 b2 ∧ Bk3 W GC c0 c1 c2 ∧ Bk3 W GD d0 d1 d2 ∧ Bk3 W GW X Y Z) := fun W hW => ⟨HA.out.below hW, HV.out.below hW, HC.out.below hW, HD.out.below hW, HW.out.below hW⟩
                  go_wp2_with fail
                  refine wp_region_held_drew (S := fun W => Below ywr4x4.heap.size ywr4x4 W) (by kernel_rfl) ?_ (fun hHeld => ?_); focus ((try dsimp only); exact (Below.refl _ _).drew)
                  have HA := Lib.hid (HA.out.below (Below.drew (Below.refl _ _)))
                  have HV := Lib.hid (HV.out.below (Below.drew (Below.refl _ _)))
                  have HC := Lib.hid (HC.out.below (Below.drew (Below.refl _ _)))
                  have HD := Lib.hid (HD.out.below (Below.drew (Below.refl _ _)))
                  have HW := Lib.hid (HW.out.below (Below.drew (Below.refl _ _)))
                  have hHeld : Below ywr4x4.heap.size ywr4x4 _ := hHeld
                  obtain ⟨wD54, hwD54⟩ : ∃ wD, ywr4x4.drew = wD := ⟨_, rfl⟩
                  rw [hwD54] at hHeld HA HV HC HD HW ⊢
                  clear hwD54
                  (refine wpAnyH_take (i := 0) (v := ?_) rfl (by kernel_rfl) (by kernel_rfl) (by kernel_rfl) (fun _ _ _ h => h) (Or.inl ⟨rfl, ?_⟩) (by assumption) ?_; rotate_left; focus (intro W hSw; (try dsimp only at hSw); have hxx := HXX.out _ hSw; obtain ⟨hxA, hxV, hxC, hxD, hxW⟩ := hxx; obtain ⟨⟨iA0, iA1, iA2⟩, _, _⟩ := hxA; obtain ⟨⟨iV0, iV1, iV2⟩, _, _⟩ := hxV; obtain ⟨⟨iC0, iC1, iC2⟩, _, _⟩ := hxC; obtain ⟨⟨iD0, iD1, iD2⟩, _, _⟩ := hxD; obtain ⟨⟨iW0, iW1, iW2⟩, _, _⟩ := hxW; go_simp; try (with_reducible rfl))); (try simp only [Act.put, List.getElem_toArray, List.getElem_cons_succ, List.getElem_cons_zero, List.setIfInBounds_toArray, List.set_cons_zero, List.set_cons_succ])
                  (refine wpAnyH_take (i := 1) (v := ?_) rfl (by kernel_rfl) (by kernel_rfl) (by kernel_rfl) (fun _ _ _ h => h) (Or.inl ⟨rfl, ?_⟩) (by assumption) ?_; rotate_left; focus (intro W hSw; (try dsimp only at hSw); have hxx := HXX.out _ hSw; obtain ⟨hxA, hxV, hxC, hxD, hxW⟩ := hxx; obtain ⟨⟨iA0, iA1, iA2⟩, _, _⟩ := hxA; obtain ⟨⟨iV0, iV1, iV2⟩, _, _⟩ := hxV; obtain ⟨⟨iC0, iC1, iC2⟩, _, _⟩ := hxC; obtain ⟨⟨iD0, iD1, iD2⟩, _, _⟩ := hxD; obtain ⟨⟨iW0, iW1, iW2⟩, _, _⟩ := hxW; go_simp; try (with_reducible rfl))); (try simp only [Act.put, List.getElem_toArray, List.getElem_cons_succ, List.getElem_cons_zero, List.setIfInBounds_toArray, List.set_cons_zero, List.set_cons_succ])
                  (refine wpAnyH_take (i := 2) (v := ?_) rfl (by kernel_rfl) (by kernel_rfl) (by kernel_rfl) (fun _ _ _ h => h) (Or.inl ⟨rfl, ?_⟩) (by assumption) ?_; rotate_left; focus (intro W hSw; (try dsimp only at hSw); have hxx := HXX.out _ hSw; obtain ⟨hxA, hxV, hxC, hxD, hxW⟩ := hxx; obtain ⟨⟨iA0, iA1, iA2⟩, _, _⟩ := hxA; obtain ⟨⟨iV0, iV1, iV2⟩, _, _⟩ := hxV; obtain ⟨⟨iC0, iC1, iC2⟩, _, _⟩ := hxC; obtain ⟨⟨iD0, iD1, iD2⟩, _, _⟩ := hxD; obtain ⟨⟨iW0, iW1, iW2⟩, _, _⟩ := hxW; go_simp; try (with_reducible rfl))); (try simp only [Act.put, List.getElem_toArray, List.getElem_cons_succ, List.getElem_cons_zero, List.setIfInBounds_toArray, List.set_cons_zero, List.set_cons_succ])
                  (refine wpAnyH_take (i := 5) (v := ?_) rfl (by kernel_rfl) (by kernel_rfl) (by kernel_rfl) (fun _ _ _ h => h) (Or.inl ⟨rfl, ?_⟩) (by assumption) ?_; rotate_left; focus (intro W hSw; (try dsimp only at hSw); have hxx := HXX.out _ hSw; obtain ⟨hxA, hxV, hxC, hxD, hxW⟩ := hxx; obtain ⟨⟨iA0, iA1, iA2⟩, _, _⟩ := hxA; obtain ⟨⟨iV0, iV1, iV2⟩, _, _⟩ := hxV; obtain ⟨⟨iC0, iC1, iC2⟩, _, _⟩ := hxC; obtain ⟨⟨iD0, iD1, iD2⟩, _, _⟩ := hxD; obtain ⟨⟨iW0, iW1, iW2⟩, _, _⟩ := hxW; go_simp; try (with_reducible rfl))); (try simp only [Act.put, List.getElem_toArray, List.getElem_cons_succ, List.getElem_cons_zero, List.setIfInBounds_toArray, List.set_cons_zero, List.set_cons_succ])
                  refine wpAnyH_ready (rs := [3]) (by kernel_rfl) (by simp) ?_; refine AllReadyH.cons rfl (fun K hK => ?_) AllReadyH.nil
                  go_simp; (go_at_call 85; refine (l08Plus_minus _ _ _ _ _ _ _ HUD.out HUA.out).mono ?_; rintro en ywr54x0 ⟨rfl, hb2⟩); have HA := Lib.hid (HA.out.below hb2); have HV := Lib.hid (HV.out.below hb2); have HC := Lib.hid (HC.out.below hb2); have HD := Lib.hid (HD.out.below hb2); have HW := Lib.hid (HW.out.below hb2); refine hK.out _ _ (below_after hb2 hHeld) (fun hHeld2 => ?_); clear hb2; (clear hHeld; rename _ => hHeld; clear hK K; have hHeld : Below ywr4x4.heap.size ywr4x4 _ := hHeld); (try simp only [Act.put, List.getElem_toArray, List.getElem_cons_succ, List.getElem_cons_zero, List.setIfInBounds_toArray, List.set_cons_zero, List.set_cons_succ])
                  refine wpAnyH_ready (rs := [4]) (by kernel_rfl) (by simp) ?_; refine AllReadyH.cons rfl (fun K hK => ?_) AllReadyH.nil
                  go_simp; (go_at_call 86; refine (HLD.out _).mono ?_; rintro en ywr54x1 ⟨rfl, hb2⟩); have HA := Lib.hid (HA.out.below hb2); have HV := Lib.hid (HV.out.below hb2); have HC := Lib.hid (HC.out.below hb2); have HD := Lib.hid (HD.out.below hb2); have HW := Lib.hid (HW.out.below hb2); refine hK.out _ _ (below_after hb2 hHeld) (fun hHeld2 => ?_); clear hb2; (clear hHeld; rename _ => hHeld; clear hK K; have hHeld : Below ywr4x4.heap.size ywr4x4 _ := hHeld); (try simp only [Act.put, List.getElem_toArray, List.getElem_cons_succ, List.getElem_cons_zero, List.setIfInBounds_toArray, List.set_cons_zero, List.set_cons_succ])
                  refine wpAnyH_ready (rs := [6]) (by kernel_rfl) (by simp) ?_; refine AllReadyH.cons rfl (fun K hK => ?_) AllReadyH.nil
                  go_simp; (go_at_call 55; refine (HLL.out _).mono ?_; rintro en ywr54x2 ⟨rfl, hb2⟩); have HA := Lib.hid (HA.out.below hb2); have HV := Lib.hid (HV.out.below hb2); have HC := Lib.hid (HC.out.below hb2); have HD := Lib.hid (HD.out.below hb2); have HW := Lib.hid (HW.out.below hb2); refine hK.out _ _ (below_after hb2 hHeld) (fun hHeld2 => ?_); clear hb2; (clear hHeld; rename _ => hHeld; clear hK K; have hHeld : Below ywr4x4.heap.size ywr4x4 _ := hHeld); (try simp only [Act.put, List.getElem_toArray, List.getElem_cons_succ, List.getElem_cons_zero, List.setIfInBounds_toArray, List.set_cons_zero, List.set_cons_succ])
                  (refine wpAnyH_take (i := 7) (v := ?_) rfl (by kernel_rfl) (by kernel_rfl) (by kernel_rfl) (fun _ _ _ h => h) (Or.inl ⟨rfl, ?_⟩) (by assumption) ?_; rotate_left; focus (intro W hSw; (try dsimp only at hSw); have hxx := HXX.out _ hSw; obtain ⟨hxA, hxV, hxC, hxD, hxW⟩ := hxx; obtain ⟨⟨iA0, iA1, iA2⟩, _, _⟩ := hxA; obtain ⟨⟨iV0, iV1, iV2⟩, _, _⟩ := hxV; obtain ⟨⟨iC0, iC1, iC2⟩, _, _⟩ := hxC; obtain ⟨⟨iD0, iD1, iD2⟩, _, _⟩ := hxD; obtain ⟨⟨iW0, iW1, iW2⟩, _, _⟩ := hxW; go_simp; try (with_reducible rfl))); (try simp only [Act.put, List.getElem_toArray, List.getElem_cons_succ, List.getElem_cons_zero, List.setIfInBounds_toArray, List.set_cons_zero, List.set_cons_succ])
                  (refine wpAnyH_take (i := 8) (v := ?_) rfl (by kernel_rfl) (by kernel_rfl) (by kernel_rfl) (fun _ _ _ h => h) (Or.inl ⟨rfl, ?_⟩) (by assumption) ?_; rotate_left; focus (intro W hSw; (try dsimp only at hSw); have hxx := HXX.out _ hSw; obtain ⟨hxA, hxV, hxC, hxD, hxW⟩ := hxx; obtain ⟨⟨iA0, iA1, iA2⟩, _, _⟩ := hxA; obtain ⟨⟨iV0, iV1, iV2⟩, _, _⟩ := hxV; obtain ⟨⟨iC0, iC1, iC2⟩, _, _⟩ := hxC; obtain ⟨⟨iD0, iD1, iD2⟩, _, _⟩ := hxD; obtain ⟨⟨iW0, iW1, iW2⟩, _, _⟩ := hxW; go_simp; try (with_reducible rfl))); (try simp only [Act.put, List.getElem_toArray, List.getElem_cons_succ, List.getElem_cons_zero, List.setIfInBounds_toArray, List.set_cons_zero, List.set_cons_succ])
                  refine wpAnyH_done (by kernel_rfl) ?_ _
                  have HB := Lib.hid (HB.out.trans (hHeld.mono HB.out.size))
                  clear hHeld HXX
                  obtain ⟨⟨qA0, qA1, qA2⟩, ⟨fA0, fA1, fA2⟩, zA⟩ := HA.out
                  obtain ⟨⟨qV0, qV1, qV2⟩, ⟨fV0, fV1, fV2⟩, zV⟩ := HV.out
                  obtain ⟨⟨qC0, qC1, qC2⟩, ⟨fC0, fC1, fC2⟩, zC⟩ := HC.out
                  obtain ⟨⟨qD0, qD1, qD2⟩, ⟨fD0, fD1, fD2⟩, zD⟩ := HD.out
                  obtain ⟨⟨qW0, qW1, qW2⟩, ⟨fW0, fW1, fW2⟩, zW⟩ := HW.out
                  go_wp2_with fail
                  all_goals
                    go_ret2
                    have hb := HB.out
                    have hb2 := HB.out
                    rw [hG] at hb2
                    refine ⟨?_, by (repeat' (first | (with_reducible exact Below.refl _ _) | (with_reducible refine Below.alloc ?_ ?_ _) | (with_reducible refine Below.setCell ?_ ?_ _) | (with_reducible refine Below.drew ?_) | (with_reducible refine below_drewN ?_ _) | (with_reducible assumption) | (with_reducible refine below_after (by with_reducible assumption) ?_) | go_size))⟩
                    rw [HVV.out, HVK.out, HZ.out, cond_false, cond_false, HDI.out]
                    refine ret_pair ?_ rfl
                    unfold absI; omega
                · skip
                  go_simp; obtain ⟨GW, hGW⟩ : ∃ G, ywr4x1.heap.size = G := ⟨_, rfl⟩; have le_W : w4.heap.size ≤ GW := by rw [← hGW]; exact Below.size hHeld
                  have ne_W_A : GW ≠ GA := by have := HA.out.2.2; omega
                  have ne_A_W : GA ≠ GW := Ne.symm ne_W_A
                  have ne_W_V : GW ≠ GV := by have := HV.out.2.2; omega
                  have ne_V_W : GV ≠ GW := Ne.symm ne_W_V
                  have ne_W_C : GW ≠ GC := by have := HC.out.2.2; omega
                  have ne_C_W : GC ≠ GW := Ne.symm ne_W_C
                  have ne_W_D : GW ≠ GD := by have := HD.out.2.2; omega
                  have ne_D_W : GD ≠ GW := Ne.symm ne_W_D
                  have HA := Lib.hid (HA.out.below ((Below.refl _ _).alloc (Nat.le_refl _) (.cells #[.int .i64 0, .int .i64 0, .int .i64 0] 26))); have HV := Lib.hid (HV.out.below ((Below.refl _ _).alloc (Nat.le_refl _) (.cells #[.int .i64 0, .int .i64 0, .int .i64 0] 26))); have HC := Lib.hid (HC.out.below ((Below.refl _ _).alloc (Nat.le_refl _) (.cells #[.int .i64 0, .int .i64 0, .int .i64 0] 26))); have HD := Lib.hid (HD.out.below ((Below.refl _ _).alloc (Nat.le_refl _) (.cells #[.int .i64 0, .int .i64 0, .int .i64 0] 26))); skip
                  have HW : Hid (Bk3 (ywr4x1.alloc (.cells #[.int .i64 0, .int .i64 0, .int .i64 0] 26)) GW 0 0 0) := by rw [← hGW]; exact bk3_new ywr4x1 0 0 0 _
                  refine hK.out _ _ (Below.alloc hHeld (Below.size hHeld) _) (fun hHeld2 => ?_); (clear hHeld; rename _ => hHeld; clear hK K; have hHeld : Below w4.heap.size w4 _ := hHeld); (try simp only [Act.put, List.getElem_toArray, List.getElem_cons_succ, List.getElem_cons_zero, List.setIfInBounds_toArray, List.set_cons_zero, List.set_cons_succ])
                  rw [hGW]; clear hGW; obtain ⟨ywr4x2, hwx⟩ : ∃ wx, ywr4x1.alloc (.cells #[.int .i64 0, .int .i64 0, .int .i64 0] 26) = wx := ⟨_, rfl⟩; rw [hwx] at HA HV HC HD HW hHeld ⊢; clear hwx
                  refine wpAnyH_ready (rs := [6]) (by kernel_rfl) (by simp) ?_; refine AllReadyH.cons rfl (fun K hK => ?_) AllReadyH.nil
                  go_simp; (go_at_call 46; refine (HLC.out _).mono ?_; rintro en ywr4x3 ⟨rfl, hb2⟩); have HA := Lib.hid (HA.out.below hb2); have HV := Lib.hid (HV.out.below hb2); have HC := Lib.hid (HC.out.below hb2); have HD := Lib.hid (HD.out.below hb2); have HW := Lib.hid (HW.out.below hb2); refine hK.out _ _ (below_after hb2 hHeld) (fun hHeld2 => ?_); clear hb2; (clear hHeld; rename _ => hHeld; clear hK K; have hHeld : Below w4.heap.size w4 _ := hHeld); (try simp only [Act.put, List.getElem_toArray, List.getElem_cons_succ, List.getElem_cons_zero, List.setIfInBounds_toArray, List.set_cons_zero, List.set_cons_succ])
                  refine wpAnyH_ready (rs := [8]) (by kernel_rfl) (by simp) ?_; refine AllReadyH.cons rfl (fun K hK => ?_) AllReadyH.nil
                  obtain ⟨⟨a0, a1, a2⟩, ⟨f0, f1, f2⟩, az⟩ := HW.out; go_simp; clear a0 f0 a1 f1 a2 f2 az
                  have HA := Lib.hid (((HA.out.far ⟨GW, 0, none⟩ (.int .i64 X) (by show GA ≠ GW; exact ne_A_W)).far ⟨GW, 1, none⟩ (.int .i64 Y) (by show GA ≠ GW; exact ne_A_W)).far ⟨GW, 2, none⟩ (.int .i64 Z) (by show GA ≠ GW; exact ne_A_W))
                  have HV := Lib.hid (((HV.out.far ⟨GW, 0, none⟩ (.int .i64 X) (by show GV ≠ GW; exact ne_V_W)).far ⟨GW, 1, none⟩ (.int .i64 Y) (by show GV ≠ GW; exact ne_V_W)).far ⟨GW, 2, none⟩ (.int .i64 Z) (by show GV ≠ GW; exact ne_V_W))
                  have HC := Lib.hid (((HC.out.far ⟨GW, 0, none⟩ (.int .i64 X) (by show GC ≠ GW; exact ne_C_W)).far ⟨GW, 1, none⟩ (.int .i64 Y) (by show GC ≠ GW; exact ne_C_W)).far ⟨GW, 2, none⟩ (.int .i64 Z) (by show GC ≠ GW; exact ne_C_W))
                  have HD := Lib.hid (((HD.out.far ⟨GW, 0, none⟩ (.int .i64 X) (by show GD ≠ GW; exact ne_D_W)).far ⟨GW, 1, none⟩ (.int .i64 Y) (by show GD ≠ GW; exact ne_D_W)).far ⟨GW, 2, none⟩ (.int .i64 Z) (by show GD ≠ GW; exact ne_D_W))
                  have HW := Lib.hid (((HW.out.set0 X).set1 Y).set2 Z)
                  refine hK.out _ _ (Below.setCell (Below.setCell (Below.setCell hHeld (p := ⟨GW, 0, none⟩) le_W _) (p := ⟨GW, 1, none⟩) le_W _) (p := ⟨GW, 2, none⟩) le_W _) (fun hHeld2 => ?_); (clear hHeld; rename _ => hHeld; clear hK K; have hHeld : Below w4.heap.size w4 _ := hHeld); (try simp only [Act.put, List.getElem_toArray, List.getElem_cons_succ, List.getElem_cons_zero, List.setIfInBounds_toArray, List.set_cons_zero, List.set_cons_succ])
                  obtain ⟨ywr4x4, hwx⟩ : ∃ wx, ((ywr4x3.setCell ⟨GW, 0, none⟩ (.int .i64 X)).setCell ⟨GW, 1, none⟩ (.int .i64 Y)).setCell ⟨GW, 2, none⟩ (.int .i64 Z) = wx := ⟨_, rfl⟩; rw [hwx] at HA HV HC HD HW hHeld ⊢; clear hwx
                  refine wpAnyH_done (by kernel_rfl) ?_ _
                  have le_W : w.heap.size ≤ GW := Nat.le_trans HB.out.size le_W
                  have HB := Lib.hid (HB.out.trans (hHeld.mono HB.out.size))
                  clear hHeld HXX
                  obtain ⟨⟨qA0, qA1, qA2⟩, ⟨fA0, fA1, fA2⟩, zA⟩ := HA.out
                  obtain ⟨⟨qV0, qV1, qV2⟩, ⟨fV0, fV1, fV2⟩, zV⟩ := HV.out
                  obtain ⟨⟨qC0, qC1, qC2⟩, ⟨fC0, fC1, fC2⟩, zC⟩ := HC.out
                  obtain ⟨⟨qD0, qD1, qD2⟩, ⟨fD0, fD1, fD2⟩, zD⟩ := HD.out
                  obtain ⟨⟨qW0, qW1, qW2⟩, ⟨fW0, fW1, fW2⟩, zW⟩ := HW.out
                  go_upto_region 6 with fail
                  clear qA0 fA0 qA1 fA1 qA2 fA2 zA qV0 fV0 qV1 fV1 qV2 fV2 zV qC0 fC0 qC1 fC1 qC2 fC2 zC qD0 fD0 qD1 fD1 qD2 fD2 zD qW0 fW0 qW1 fW1 qW2 fW2 zW
                  have HXX : Hid (∀ W, Below ywr4x4.heap.size ywr4x4 W → Bk3 W GA a0 a1 a2 ∧ Bk3 W GV b0 b1 b2 ∧ Bk3 W GC c0 c1 c2 ∧ Bk3 W GD d0 d1 d2 ∧ Bk3 W GW X Y Z) := fun W hW => ⟨HA.out.below hW, HV.out.below hW, HC.out.below hW, HD.out.below hW, HW.out.below hW⟩
                  go_wp2_with fail
                  refine wp_region_held_drew (S := fun W => Below ywr4x4.heap.size ywr4x4 W) (by kernel_rfl) ?_ (fun hHeld => ?_); focus ((try dsimp only); exact (Below.refl _ _).drew)
                  have HA := Lib.hid (HA.out.below (Below.drew (Below.refl _ _)))
                  have HV := Lib.hid (HV.out.below (Below.drew (Below.refl _ _)))
                  have HC := Lib.hid (HC.out.below (Below.drew (Below.refl _ _)))
                  have HD := Lib.hid (HD.out.below (Below.drew (Below.refl _ _)))
                  have HW := Lib.hid (HW.out.below (Below.drew (Below.refl _ _)))
                  have hHeld : Below ywr4x4.heap.size ywr4x4 _ := hHeld
                  obtain ⟨wD54, hwD54⟩ : ∃ wD, ywr4x4.drew = wD := ⟨_, rfl⟩
                  rw [hwD54] at hHeld HA HV HC HD HW ⊢
                  clear hwD54
                  (refine wpAnyH_take (i := 0) (v := ?_) rfl (by kernel_rfl) (by kernel_rfl) (by kernel_rfl) (fun _ _ _ h => h) (Or.inl ⟨rfl, ?_⟩) (by assumption) ?_; rotate_left; focus (intro W hSw; (try dsimp only at hSw); have hxx := HXX.out _ hSw; obtain ⟨hxA, hxV, hxC, hxD, hxW⟩ := hxx; obtain ⟨⟨iA0, iA1, iA2⟩, _, _⟩ := hxA; obtain ⟨⟨iV0, iV1, iV2⟩, _, _⟩ := hxV; obtain ⟨⟨iC0, iC1, iC2⟩, _, _⟩ := hxC; obtain ⟨⟨iD0, iD1, iD2⟩, _, _⟩ := hxD; obtain ⟨⟨iW0, iW1, iW2⟩, _, _⟩ := hxW; go_simp; try (with_reducible rfl))); (try simp only [Act.put, List.getElem_toArray, List.getElem_cons_succ, List.getElem_cons_zero, List.setIfInBounds_toArray, List.set_cons_zero, List.set_cons_succ])
                  (refine wpAnyH_take (i := 1) (v := ?_) rfl (by kernel_rfl) (by kernel_rfl) (by kernel_rfl) (fun _ _ _ h => h) (Or.inl ⟨rfl, ?_⟩) (by assumption) ?_; rotate_left; focus (intro W hSw; (try dsimp only at hSw); have hxx := HXX.out _ hSw; obtain ⟨hxA, hxV, hxC, hxD, hxW⟩ := hxx; obtain ⟨⟨iA0, iA1, iA2⟩, _, _⟩ := hxA; obtain ⟨⟨iV0, iV1, iV2⟩, _, _⟩ := hxV; obtain ⟨⟨iC0, iC1, iC2⟩, _, _⟩ := hxC; obtain ⟨⟨iD0, iD1, iD2⟩, _, _⟩ := hxD; obtain ⟨⟨iW0, iW1, iW2⟩, _, _⟩ := hxW; go_simp; try (with_reducible rfl))); (try simp only [Act.put, List.getElem_toArray, List.getElem_cons_succ, List.getElem_cons_zero, List.setIfInBounds_toArray, List.set_cons_zero, List.set_cons_succ])
                  (refine wpAnyH_take (i := 2) (v := ?_) rfl (by kernel_rfl) (by kernel_rfl) (by kernel_rfl) (fun _ _ _ h => h) (Or.inl ⟨rfl, ?_⟩) (by assumption) ?_; rotate_left; focus (intro W hSw; (try dsimp only at hSw); have hxx := HXX.out _ hSw; obtain ⟨hxA, hxV, hxC, hxD, hxW⟩ := hxx; obtain ⟨⟨iA0, iA1, iA2⟩, _, _⟩ := hxA; obtain ⟨⟨iV0, iV1, iV2⟩, _, _⟩ := hxV; obtain ⟨⟨iC0, iC1, iC2⟩, _, _⟩ := hxC; obtain ⟨⟨iD0, iD1, iD2⟩, _, _⟩ := hxD; obtain ⟨⟨iW0, iW1, iW2⟩, _, _⟩ := hxW; go_simp; try (with_reducible rfl))); (try simp only [Act.put, List.getElem_toArray, List.getElem_cons_succ, List.getElem_cons_zero, List.setIfInBounds_toArray, List.set_cons_zero, List.set_cons_succ])
                  (refine wpAnyH_take (i := 5) (v := ?_) rfl (by kernel_rfl) (by kernel_rfl) (by kernel_rfl) (fun _ _ _ h => h) (Or.inl ⟨rfl, ?_⟩) (by assumption) ?_; rotate_left; focus (intro W hSw; (try dsimp only at hSw); have hxx := HXX.out _ hSw; obtain ⟨hxA, hxV, hxC, hxD, hxW⟩ := hxx; obtain ⟨⟨iA0, iA1, iA2⟩, _, _⟩ := hxA; obtain ⟨⟨iV0, iV1, iV2⟩, _, _⟩ := hxV; obtain ⟨⟨iC0, iC1, iC2⟩, _, _⟩ := hxC; obtain ⟨⟨iD0, iD1, iD2⟩, _, _⟩ := hxD; obtain ⟨⟨iW0, iW1, iW2⟩, _, _⟩ := hxW; go_simp; try (with_reducible rfl))); (try simp only [Act.put, List.getElem_toArray, List.getElem_cons_succ, List.getElem_cons_zero, List.setIfInBounds_toArray, List.set_cons_zero, List.set_cons_succ])
                  refine wpAnyH_ready (rs := [3]) (by kernel_rfl) (by simp) ?_; refine AllReadyH.cons rfl (fun K hK => ?_) AllReadyH.nil
                  go_simp; (go_at_call 85; refine (l08Plus_minus _ _ _ _ _ _ _ HUD.out HUA.out).mono ?_; rintro en ywr54x0 ⟨rfl, hb2⟩); have HA := Lib.hid (HA.out.below hb2); have HV := Lib.hid (HV.out.below hb2); have HC := Lib.hid (HC.out.below hb2); have HD := Lib.hid (HD.out.below hb2); have HW := Lib.hid (HW.out.below hb2); refine hK.out _ _ (below_after hb2 hHeld) (fun hHeld2 => ?_); clear hb2; (clear hHeld; rename _ => hHeld; clear hK K; have hHeld : Below ywr4x4.heap.size ywr4x4 _ := hHeld); (try simp only [Act.put, List.getElem_toArray, List.getElem_cons_succ, List.getElem_cons_zero, List.setIfInBounds_toArray, List.set_cons_zero, List.set_cons_succ])
                  refine wpAnyH_ready (rs := [4]) (by kernel_rfl) (by simp) ?_; refine AllReadyH.cons rfl (fun K hK => ?_) AllReadyH.nil
                  go_simp; (go_at_call 86; refine (HLD.out _).mono ?_; rintro en ywr54x1 ⟨rfl, hb2⟩); have HA := Lib.hid (HA.out.below hb2); have HV := Lib.hid (HV.out.below hb2); have HC := Lib.hid (HC.out.below hb2); have HD := Lib.hid (HD.out.below hb2); have HW := Lib.hid (HW.out.below hb2); refine hK.out _ _ (below_after hb2 hHeld) (fun hHeld2 => ?_); clear hb2; (clear hHeld; rename _ => hHeld; clear hK K; have hHeld : Below ywr4x4.heap.size ywr4x4 _ := hHeld); (try simp only [Act.put, List.getElem_toArray, List.getElem_cons_succ, List.getElem_cons_zero, List.setIfInBounds_toArray, List.set_cons_zero, List.set_cons_succ])
                  refine wpAnyH_ready (rs := [6]) (by kernel_rfl) (by simp) ?_; refine AllReadyH.cons rfl (fun K hK => ?_) AllReadyH.nil
                  go_simp; (go_at_call 55; refine (HLL.out _).mono ?_; rintro en ywr54x2 ⟨rfl, hb2⟩); have HA := Lib.hid (HA.out.below hb2); have HV := Lib.hid (HV.out.below hb2); have HC := Lib.hid (HC.out.below hb2); have HD := Lib.hid (HD.out.below hb2); have HW := Lib.hid (HW.out.below hb2); refine hK.out _ _ (below_after hb2 hHeld) (fun hHeld2 => ?_); clear hb2; (clear hHeld; rename _ => hHeld; clear hK K; have hHeld : Below ywr4x4.heap.size ywr4x4 _ := hHeld); (try simp only [Act.put, List.getElem_toArray, List.getElem_cons_succ, List.getElem_cons_zero, List.setIfInBounds_toArray, List.set_cons_zero, List.set_cons_succ])
                  (refine wpAnyH_take (i := 7) (v := ?_) rfl (by kernel_rfl) (by kernel_rfl) (by kernel_rfl) (fun _ _ _ h => h) (Or.inl ⟨rfl, ?_⟩) (by assumption) ?_; rotate_left; focus (intro W hSw; (try dsimp only at hSw); have hxx := HXX.out _ hSw; obtain ⟨hxA, hxV, hxC, hxD, hxW⟩ := hxx; obtain ⟨⟨iA0, iA1, iA2⟩, _, _⟩ := hxA; obtain ⟨⟨iV0, iV1, iV2⟩, _, _⟩ := hxV; obtain ⟨⟨iC0, iC1, iC2⟩, _, _⟩ := hxC; obtain ⟨⟨iD0, iD1, iD2⟩, _, _⟩ := hxD; obtain ⟨⟨iW0, iW1, iW2⟩, _, _⟩ := hxW; go_simp; try (with_reducible rfl))); (try simp only [Act.put, List.getElem_toArray, List.getElem_cons_succ, List.getElem_cons_zero, List.setIfInBounds_toArray, List.set_cons_zero, List.set_cons_succ])
                  (refine wpAnyH_take (i := 8) (v := ?_) rfl (by kernel_rfl) (by kernel_rfl) (by kernel_rfl) (fun _ _ _ h => h) (Or.inl ⟨rfl, ?_⟩) (by assumption) ?_; rotate_left; focus (intro W hSw; (try dsimp only at hSw); have hxx := HXX.out _ hSw; obtain ⟨hxA, hxV, hxC, hxD, hxW⟩ := hxx; obtain ⟨⟨iA0, iA1, iA2⟩, _, _⟩ := hxA; obtain ⟨⟨iV0, iV1, iV2⟩, _, _⟩ := hxV; obtain ⟨⟨iC0, iC1, iC2⟩, _, _⟩ := hxC; obtain ⟨⟨iD0, iD1, iD2⟩, _, _⟩ := hxD; obtain ⟨⟨iW0, iW1, iW2⟩, _, _⟩ := hxW; go_simp; try (with_reducible rfl))); (try simp only [Act.put, List.getElem_toArray, List.getElem_cons_succ, List.getElem_cons_zero, List.setIfInBounds_toArray, List.set_cons_zero, List.set_cons_succ])
                  refine wpAnyH_done (by kernel_rfl) ?_ _
                  have HB := Lib.hid (HB.out.trans (hHeld.mono HB.out.size))
                  clear hHeld HXX
                  obtain ⟨⟨qA0, qA1, qA2⟩, ⟨fA0, fA1, fA2⟩, zA⟩ := HA.out
                  obtain ⟨⟨qV0, qV1, qV2⟩, ⟨fV0, fV1, fV2⟩, zV⟩ := HV.out
                  obtain ⟨⟨qC0, qC1, qC2⟩, ⟨fC0, fC1, fC2⟩, zC⟩ := HC.out
                  obtain ⟨⟨qD0, qD1, qD2⟩, ⟨fD0, fD1, fD2⟩, zD⟩ := HD.out
                  obtain ⟨⟨qW0, qW1, qW2⟩, ⟨fW0, fW1, fW2⟩, zW⟩ := HW.out
                  go_wp2_with fail
                  all_goals
                    go_ret2
                    have hb := HB.out
                    have hb2 := HB.out
                    rw [hG] at hb2
                    refine ⟨?_, by (repeat' (first | (with_reducible exact Below.refl _ _) | (with_reducible refine Below.alloc ?_ ?_ _) | (with_reducible refine Below.setCell ?_ ?_ _) | (with_reducible refine Below.drew ?_) | (with_reducible refine below_drewN ?_ _) | (with_reducible assumption) | (with_reducible refine below_after (by with_reducible assumption) ?_) | go_size))⟩
                    rw [HVV.out, HVK.out, HZ.out, cond_false, cond_false, HDI.out]
                    refine ret_pair ?_ rfl
                    unfold absI; omega
              · skip
                go_simp; obtain ⟨GW, hGW⟩ : ∃ G, ywr4x0.heap.size = G := ⟨_, rfl⟩; have le_W : w4.heap.size ≤ GW := by rw [← hGW]; exact Below.size hHeld
                have ne_W_A : GW ≠ GA := by have := HA.out.2.2; omega
                have ne_A_W : GA ≠ GW := Ne.symm ne_W_A
                have ne_W_V : GW ≠ GV := by have := HV.out.2.2; omega
                have ne_V_W : GV ≠ GW := Ne.symm ne_W_V
                have ne_W_C : GW ≠ GC := by have := HC.out.2.2; omega
                have ne_C_W : GC ≠ GW := Ne.symm ne_W_C
                have ne_W_D : GW ≠ GD := by have := HD.out.2.2; omega
                have ne_D_W : GD ≠ GW := Ne.symm ne_W_D
                have HA := Lib.hid (HA.out.below ((Below.refl _ _).alloc (Nat.le_refl _) (.cells #[.int .i64 0, .int .i64 0, .int .i64 0] 26))); have HV := Lib.hid (HV.out.below ((Below.refl _ _).alloc (Nat.le_refl _) (.cells #[.int .i64 0, .int .i64 0, .int .i64 0] 26))); have HC := Lib.hid (HC.out.below ((Below.refl _ _).alloc (Nat.le_refl _) (.cells #[.int .i64 0, .int .i64 0, .int .i64 0] 26))); have HD := Lib.hid (HD.out.below ((Below.refl _ _).alloc (Nat.le_refl _) (.cells #[.int .i64 0, .int .i64 0, .int .i64 0] 26))); skip
                have HW : Hid (Bk3 (ywr4x0.alloc (.cells #[.int .i64 0, .int .i64 0, .int .i64 0] 26)) GW 0 0 0) := by rw [← hGW]; exact bk3_new ywr4x0 0 0 0 _
                refine hK.out _ _ (Below.alloc hHeld (Below.size hHeld) _) (fun hHeld2 => ?_); (clear hHeld; rename _ => hHeld; clear hK K; have hHeld : Below w4.heap.size w4 _ := hHeld); (try simp only [Act.put, List.getElem_toArray, List.getElem_cons_succ, List.getElem_cons_zero, List.setIfInBounds_toArray, List.set_cons_zero, List.set_cons_succ])
                rw [hGW]; clear hGW; obtain ⟨ywr4x1, hwx⟩ : ∃ wx, ywr4x0.alloc (.cells #[.int .i64 0, .int .i64 0, .int .i64 0] 26) = wx := ⟨_, rfl⟩; rw [hwx] at HA HV HC HD HW hHeld ⊢; clear hwx
                refine wpAnyH_ready (rs := [5]) (by kernel_rfl) (by simp) ?_; refine AllReadyH.cons rfl (fun K hK => ?_) AllReadyH.nil
                go_simp; (go_at_call 85; refine (l08Plus_minus _ _ _ _ _ _ _ HUC.out HUA.out).mono ?_; rintro en ywr4x2 ⟨rfl, hb2⟩); have HA := Lib.hid (HA.out.below hb2); have HV := Lib.hid (HV.out.below hb2); have HC := Lib.hid (HC.out.below hb2); have HD := Lib.hid (HD.out.below hb2); have HW := Lib.hid (HW.out.below hb2); refine hK.out _ _ (below_after hb2 hHeld) (fun hHeld2 => ?_); clear hb2; (clear hHeld; rename _ => hHeld; clear hK K; have hHeld : Below w4.heap.size w4 _ := hHeld); (try simp only [Act.put, List.getElem_toArray, List.getElem_cons_succ, List.getElem_cons_zero, List.setIfInBounds_toArray, List.set_cons_zero, List.set_cons_succ])
                refine wpAnyH_ready (rs := [6]) (by kernel_rfl) (by simp) ?_; refine AllReadyH.cons rfl (fun K hK => ?_) AllReadyH.nil
                go_simp; (go_at_call 46; refine (HLC.out _).mono ?_; rintro en ywr4x3 ⟨rfl, hb2⟩); have HA := Lib.hid (HA.out.below hb2); have HV := Lib.hid (HV.out.below hb2); have HC := Lib.hid (HC.out.below hb2); have HD := Lib.hid (HD.out.below hb2); have HW := Lib.hid (HW.out.below hb2); refine hK.out _ _ (below_after hb2 hHeld) (fun hHeld2 => ?_); clear hb2; (clear hHeld; rename _ => hHeld; clear hK K; have hHeld : Below w4.heap.size w4 _ := hHeld); (try simp only [Act.put, List.getElem_toArray, List.getElem_cons_succ, List.getElem_cons_zero, List.setIfInBounds_toArray, List.set_cons_zero, List.set_cons_succ])
                refine wpAnyH_ready (rs := [8]) (by kernel_rfl) (by simp) ?_; refine AllReadyH.cons rfl (fun K hK => ?_) AllReadyH.nil
                obtain ⟨⟨a0, a1, a2⟩, ⟨f0, f1, f2⟩, az⟩ := HW.out; go_simp; clear a0 f0 a1 f1 a2 f2 az
                have HA := Lib.hid (((HA.out.far ⟨GW, 0, none⟩ (.int .i64 X) (by show GA ≠ GW; exact ne_A_W)).far ⟨GW, 1, none⟩ (.int .i64 Y) (by show GA ≠ GW; exact ne_A_W)).far ⟨GW, 2, none⟩ (.int .i64 Z) (by show GA ≠ GW; exact ne_A_W))
                have HV := Lib.hid (((HV.out.far ⟨GW, 0, none⟩ (.int .i64 X) (by show GV ≠ GW; exact ne_V_W)).far ⟨GW, 1, none⟩ (.int .i64 Y) (by show GV ≠ GW; exact ne_V_W)).far ⟨GW, 2, none⟩ (.int .i64 Z) (by show GV ≠ GW; exact ne_V_W))
                have HC := Lib.hid (((HC.out.far ⟨GW, 0, none⟩ (.int .i64 X) (by show GC ≠ GW; exact ne_C_W)).far ⟨GW, 1, none⟩ (.int .i64 Y) (by show GC ≠ GW; exact ne_C_W)).far ⟨GW, 2, none⟩ (.int .i64 Z) (by show GC ≠ GW; exact ne_C_W))
                have HD := Lib.hid (((HD.out.far ⟨GW, 0, none⟩ (.int .i64 X) (by show GD ≠ GW; exact ne_D_W)).far ⟨GW, 1, none⟩ (.int .i64 Y) (by show GD ≠ GW; exact ne_D_W)).far ⟨GW, 2, none⟩ (.int .i64 Z) (by show GD ≠ GW; exact ne_D_W))
                have HW := Lib.hid (((HW.out.set0 X).set1 Y).set2 Z)
                refine hK.out _ _ (Below.setCell (Below.setCell (Below.setCell hHeld (p := ⟨GW, 0, none⟩) le_W _) (p := ⟨GW, 1, none⟩) le_W _) (p := ⟨GW, 2, none⟩) le_W _) (fun hHeld2 => ?_); (clear hHeld; rename _ => hHeld; clear hK K; have hHeld : Below w4.heap.size w4 _ := hHeld); (try simp only [Act.put, List.getElem_toArray, List.getElem_cons_succ, List.getElem_cons_zero, List.setIfInBounds_toArray, List.set_cons_zero, List.set_cons_succ])
                obtain ⟨ywr4x4, hwx⟩ : ∃ wx, ((ywr4x3.setCell ⟨GW, 0, none⟩ (.int .i64 X)).setCell ⟨GW, 1, none⟩ (.int .i64 Y)).setCell ⟨GW, 2, none⟩ (.int .i64 Z) = wx := ⟨_, rfl⟩; rw [hwx] at HA HV HC HD HW hHeld ⊢; clear hwx
                refine wpAnyH_done (by kernel_rfl) ?_ _
                have le_W : w.heap.size ≤ GW := Nat.le_trans HB.out.size le_W
                have HB := Lib.hid (HB.out.trans (hHeld.mono HB.out.size))
                clear hHeld HXX
                obtain ⟨⟨qA0, qA1, qA2⟩, ⟨fA0, fA1, fA2⟩, zA⟩ := HA.out
                obtain ⟨⟨qV0, qV1, qV2⟩, ⟨fV0, fV1, fV2⟩, zV⟩ := HV.out
                obtain ⟨⟨qC0, qC1, qC2⟩, ⟨fC0, fC1, fC2⟩, zC⟩ := HC.out
                obtain ⟨⟨qD0, qD1, qD2⟩, ⟨fD0, fD1, fD2⟩, zD⟩ := HD.out
                obtain ⟨⟨qW0, qW1, qW2⟩, ⟨fW0, fW1, fW2⟩, zW⟩ := HW.out
                go_upto_region 6 with fail
                clear qA0 fA0 qA1 fA1 qA2 fA2 zA qV0 fV0 qV1 fV1 qV2 fV2 zV qC0 fC0 qC1 fC1 qC2 fC2 zC qD0 fD0 qD1 fD1 qD2 fD2 zD qW0 fW0 qW1 fW1 qW2 fW2 zW
                have HXX : Hid (∀ W, Below ywr4x4.heap.size ywr4x4 W → Bk3 W GA a0 a1 a2 ∧ Bk3 W GV b0 b1 b2 ∧ Bk3 W GC c0 c1 c2 ∧ Bk3 W GD d0 d1 d2 ∧ Bk3 W GW X Y Z) := fun W hW => ⟨HA.out.below hW, HV.out.below hW, HC.out.below hW, HD.out.below hW, HW.out.below hW⟩
                go_wp2_with fail
                refine wp_region_held_drew (S := fun W => Below ywr4x4.heap.size ywr4x4 W) (by kernel_rfl) ?_ (fun hHeld => ?_); focus ((try dsimp only); exact (Below.refl _ _).drew)
                have HA := Lib.hid (HA.out.below (Below.drew (Below.refl _ _)))
                have HV := Lib.hid (HV.out.below (Below.drew (Below.refl _ _)))
                have HC := Lib.hid (HC.out.below (Below.drew (Below.refl _ _)))
                have HD := Lib.hid (HD.out.below (Below.drew (Below.refl _ _)))
                have HW := Lib.hid (HW.out.below (Below.drew (Below.refl _ _)))
                have hHeld : Below ywr4x4.heap.size ywr4x4 _ := hHeld
                obtain ⟨wD54, hwD54⟩ : ∃ wD, ywr4x4.drew = wD := ⟨_, rfl⟩
                rw [hwD54] at hHeld HA HV HC HD HW ⊢
                clear hwD54
                (refine wpAnyH_take (i := 0) (v := ?_) rfl (by kernel_rfl) (by kernel_rfl) (by kernel_rfl) (fun _ _ _ h => h) (Or.inl ⟨rfl, ?_⟩) (by assumption) ?_; rotate_left; focus (intro W hSw; (try dsimp only at hSw); have hxx := HXX.out _ hSw; obtain ⟨hxA, hxV, hxC, hxD, hxW⟩ := hxx; obtain ⟨⟨iA0, iA1, iA2⟩, _, _⟩ := hxA; obtain ⟨⟨iV0, iV1, iV2⟩, _, _⟩ := hxV; obtain ⟨⟨iC0, iC1, iC2⟩, _, _⟩ := hxC; obtain ⟨⟨iD0, iD1, iD2⟩, _, _⟩ := hxD; obtain ⟨⟨iW0, iW1, iW2⟩, _, _⟩ := hxW; go_simp; try (with_reducible rfl))); (try simp only [Act.put, List.getElem_toArray, List.getElem_cons_succ, List.getElem_cons_zero, List.setIfInBounds_toArray, List.set_cons_zero, List.set_cons_succ])
                (refine wpAnyH_take (i := 1) (v := ?_) rfl (by kernel_rfl) (by kernel_rfl) (by kernel_rfl) (fun _ _ _ h => h) (Or.inl ⟨rfl, ?_⟩) (by assumption) ?_; rotate_left; focus (intro W hSw; (try dsimp only at hSw); have hxx := HXX.out _ hSw; obtain ⟨hxA, hxV, hxC, hxD, hxW⟩ := hxx; obtain ⟨⟨iA0, iA1, iA2⟩, _, _⟩ := hxA; obtain ⟨⟨iV0, iV1, iV2⟩, _, _⟩ := hxV; obtain ⟨⟨iC0, iC1, iC2⟩, _, _⟩ := hxC; obtain ⟨⟨iD0, iD1, iD2⟩, _, _⟩ := hxD; obtain ⟨⟨iW0, iW1, iW2⟩, _, _⟩ := hxW; go_simp; try (with_reducible rfl))); (try simp only [Act.put, List.getElem_toArray, List.getElem_cons_succ, List.getElem_cons_zero, List.setIfInBounds_toArray, List.set_cons_zero, List.set_cons_succ])
                (refine wpAnyH_take (i := 2) (v := ?_) rfl (by kernel_rfl) (by kernel_rfl) (by kernel_rfl) (fun _ _ _ h => h) (Or.inl ⟨rfl, ?_⟩) (by assumption) ?_; rotate_left; focus (intro W hSw; (try dsimp only at hSw); have hxx := HXX.out _ hSw; obtain ⟨hxA, hxV, hxC, hxD, hxW⟩ := hxx; obtain ⟨⟨iA0, iA1, iA2⟩, _, _⟩ := hxA; obtain ⟨⟨iV0, iV1, iV2⟩, _, _⟩ := hxV; obtain ⟨⟨iC0, iC1, iC2⟩, _, _⟩ := hxC; obtain ⟨⟨iD0, iD1, iD2⟩, _, _⟩ := hxD; obtain ⟨⟨iW0, iW1, iW2⟩, _, _⟩ := hxW; go_simp; try (with_reducible rfl))); (try simp only [Act.put, List.getElem_toArray, List.getElem_cons_succ, List.getElem_cons_zero, List.setIfInBounds_toArray, List.set_cons_zero, List.set_cons_succ])
                (refine wpAnyH_take (i := 5) (v := ?_) rfl (by kernel_rfl) (by kernel_rfl) (by kernel_rfl) (fun _ _ _ h => h) (Or.inl ⟨rfl, ?_⟩) (by assumption) ?_; rotate_left; focus (intro W hSw; (try dsimp only at hSw); have hxx := HXX.out _ hSw; obtain ⟨hxA, hxV, hxC, hxD, hxW⟩ := hxx; obtain ⟨⟨iA0, iA1, iA2⟩, _, _⟩ := hxA; obtain ⟨⟨iV0, iV1, iV2⟩, _, _⟩ := hxV; obtain ⟨⟨iC0, iC1, iC2⟩, _, _⟩ := hxC; obtain ⟨⟨iD0, iD1, iD2⟩, _, _⟩ := hxD; obtain ⟨⟨iW0, iW1, iW2⟩, _, _⟩ := hxW; go_simp; try (with_reducible rfl))); (try simp only [Act.put, List.getElem_toArray, List.getElem_cons_succ, List.getElem_cons_zero, List.setIfInBounds_toArray, List.set_cons_zero, List.set_cons_succ])
                refine wpAnyH_ready (rs := [3]) (by kernel_rfl) (by simp) ?_; refine AllReadyH.cons rfl (fun K hK => ?_) AllReadyH.nil
                go_simp; (go_at_call 85; refine (l08Plus_minus _ _ _ _ _ _ _ HUD.out HUA.out).mono ?_; rintro en ywr54x0 ⟨rfl, hb2⟩); have HA := Lib.hid (HA.out.below hb2); have HV := Lib.hid (HV.out.below hb2); have HC := Lib.hid (HC.out.below hb2); have HD := Lib.hid (HD.out.below hb2); have HW := Lib.hid (HW.out.below hb2); refine hK.out _ _ (below_after hb2 hHeld) (fun hHeld2 => ?_); clear hb2; (clear hHeld; rename _ => hHeld; clear hK K; have hHeld : Below ywr4x4.heap.size ywr4x4 _ := hHeld); (try simp only [Act.put, List.getElem_toArray, List.getElem_cons_succ, List.getElem_cons_zero, List.setIfInBounds_toArray, List.set_cons_zero, List.set_cons_succ])
                refine wpAnyH_ready (rs := [4]) (by kernel_rfl) (by simp) ?_; refine AllReadyH.cons rfl (fun K hK => ?_) AllReadyH.nil
                go_simp; (go_at_call 86; refine (HLD.out _).mono ?_; rintro en ywr54x1 ⟨rfl, hb2⟩); have HA := Lib.hid (HA.out.below hb2); have HV := Lib.hid (HV.out.below hb2); have HC := Lib.hid (HC.out.below hb2); have HD := Lib.hid (HD.out.below hb2); have HW := Lib.hid (HW.out.below hb2); refine hK.out _ _ (below_after hb2 hHeld) (fun hHeld2 => ?_); clear hb2; (clear hHeld; rename _ => hHeld; clear hK K; have hHeld : Below ywr4x4.heap.size ywr4x4 _ := hHeld); (try simp only [Act.put, List.getElem_toArray, List.getElem_cons_succ, List.getElem_cons_zero, List.setIfInBounds_toArray, List.set_cons_zero, List.set_cons_succ])
                refine wpAnyH_ready (rs := [6]) (by kernel_rfl) (by simp) ?_; refine AllReadyH.cons rfl (fun K hK => ?_) AllReadyH.nil
                go_simp; (go_at_call 55; refine (HLL.out _).mono ?_; rintro en ywr54x2 ⟨rfl, hb2⟩); have HA := Lib.hid (HA.out.below hb2); have HV := Lib.hid (HV.out.below hb2); have HC := Lib.hid (HC.out.below hb2); have HD := Lib.hid (HD.out.below hb2); have HW := Lib.hid (HW.out.below hb2); refine hK.out _ _ (below_after hb2 hHeld) (fun hHeld2 => ?_); clear hb2; (clear hHeld; rename _ => hHeld; clear hK K; have hHeld : Below ywr4x4.heap.size ywr4x4 _ := hHeld); (try simp only [Act.put, List.getElem_toArray, List.getElem_cons_succ, List.getElem_cons_zero, List.setIfInBounds_toArray, List.set_cons_zero, List.set_cons_succ])
                (refine wpAnyH_take (i := 7) (v := ?_) rfl (by kernel_rfl) (by kernel_rfl) (by kernel_rfl) (fun _ _ _ h => h) (Or.inl ⟨rfl, ?_⟩) (by assumption) ?_; rotate_left; focus (intro W hSw; (try dsimp only at hSw); have hxx := HXX.out _ hSw; obtain ⟨hxA, hxV, hxC, hxD, hxW⟩ := hxx; obtain ⟨⟨iA0, iA1, iA2⟩, _, _⟩ := hxA; obtain ⟨⟨iV0, iV1, iV2⟩, _, _⟩ := hxV; obtain ⟨⟨iC0, iC1, iC2⟩, _, _⟩ := hxC; obtain ⟨⟨iD0, iD1, iD2⟩, _, _⟩ := hxD; obtain ⟨⟨iW0, iW1, iW2⟩, _, _⟩ := hxW; go_simp; try (with_reducible rfl))); (try simp only [Act.put, List.getElem_toArray, List.getElem_cons_succ, List.getElem_cons_zero, List.setIfInBounds_toArray, List.set_cons_zero, List.set_cons_succ])
                (refine wpAnyH_take (i := 8) (v := ?_) rfl (by kernel_rfl) (by kernel_rfl) (by kernel_rfl) (fun _ _ _ h => h) (Or.inl ⟨rfl, ?_⟩) (by assumption) ?_; rotate_left; focus (intro W hSw; (try dsimp only at hSw); have hxx := HXX.out _ hSw; obtain ⟨hxA, hxV, hxC, hxD, hxW⟩ := hxx; obtain ⟨⟨iA0, iA1, iA2⟩, _, _⟩ := hxA; obtain ⟨⟨iV0, iV1, iV2⟩, _, _⟩ := hxV; obtain ⟨⟨iC0, iC1, iC2⟩, _, _⟩ := hxC; obtain ⟨⟨iD0, iD1, iD2⟩, _, _⟩ := hxD; obtain ⟨⟨iW0, iW1, iW2⟩, _, _⟩ := hxW; go_simp; try (with_reducible rfl))); (try simp only [Act.put, List.getElem_toArray, List.getElem_cons_succ, List.getElem_cons_zero, List.setIfInBounds_toArray, List.set_cons_zero, List.set_cons_succ])
                refine wpAnyH_done (by kernel_rfl) ?_ _
                have HB := Lib.hid (HB.out.trans (hHeld.mono HB.out.size))
                clear hHeld HXX
                obtain ⟨⟨qA0, qA1, qA2⟩, ⟨fA0, fA1, fA2⟩, zA⟩ := HA.out
                obtain ⟨⟨qV0, qV1, qV2⟩, ⟨fV0, fV1, fV2⟩, zV⟩ := HV.out
                obtain ⟨⟨qC0, qC1, qC2⟩, ⟨fC0, fC1, fC2⟩, zC⟩ := HC.out
                obtain ⟨⟨qD0, qD1, qD2⟩, ⟨fD0, fD1, fD2⟩, zD⟩ := HD.out
                obtain ⟨⟨qW0, qW1, qW2⟩, ⟨fW0, fW1, fW2⟩, zW⟩ := HW.out
                go_wp2_with fail
                all_goals
                  go_ret2
                  have hb := HB.out
                  have hb2 := HB.out
                  rw [hG] at hb2
                  refine ⟨?_, by (repeat' (first | (with_reducible exact Below.refl _ _) | (with_reducible refine Below.alloc ?_ ?_ _) | (with_reducible refine Below.setCell ?_ ?_ _) | (with_reducible refine Below.drew ?_) | (with_reducible refine below_drewN ?_ _) | (with_reducible assumption) | (with_reducible refine below_after (by with_reducible assumption) ?_) | go_size))⟩
                  rw [HVV.out, HVK.out, HZ.out, cond_false, cond_false, HDI.out]
                  refine ret_pair ?_ rfl
                  unfold absI; omega
            · skip
              go_simp; obtain ⟨GW, hGW⟩ : ∃ G, wD4.heap.size = G := ⟨_, rfl⟩; have le_W : w4.heap.size ≤ GW := by rw [← hGW]; exact Below.size hHeld
              have ne_W_A : GW ≠ GA := by have := HA.out.2.2; omega
              have ne_A_W : GA ≠ GW := Ne.symm ne_W_A
              have ne_W_V : GW ≠ GV := by have := HV.out.2.2; omega
              have ne_V_W : GV ≠ GW := Ne.symm ne_W_V
              have ne_W_C : GW ≠ GC := by have := HC.out.2.2; omega
              have ne_C_W : GC ≠ GW := Ne.symm ne_W_C
              have ne_W_D : GW ≠ GD := by have := HD.out.2.2; omega
              have ne_D_W : GD ≠ GW := Ne.symm ne_W_D
              have HA := Lib.hid (HA.out.below ((Below.refl _ _).alloc (Nat.le_refl _) (.cells #[.int .i64 0, .int .i64 0, .int .i64 0] 26))); have HV := Lib.hid (HV.out.below ((Below.refl _ _).alloc (Nat.le_refl _) (.cells #[.int .i64 0, .int .i64 0, .int .i64 0] 26))); have HC := Lib.hid (HC.out.below ((Below.refl _ _).alloc (Nat.le_refl _) (.cells #[.int .i64 0, .int .i64 0, .int .i64 0] 26))); have HD := Lib.hid (HD.out.below ((Below.refl _ _).alloc (Nat.le_refl _) (.cells #[.int .i64 0, .int .i64 0, .int .i64 0] 26))); skip
              have HW : Hid (Bk3 (wD4.alloc (.cells #[.int .i64 0, .int .i64 0, .int .i64 0] 26)) GW 0 0 0) := by rw [← hGW]; exact bk3_new wD4 0 0 0 _
              refine hK.out _ _ (Below.alloc hHeld (Below.size hHeld) _) (fun hHeld2 => ?_); (clear hHeld; rename _ => hHeld; clear hK K; have hHeld : Below w4.heap.size w4 _ := hHeld); (try simp only [Act.put, List.getElem_toArray, List.getElem_cons_succ, List.getElem_cons_zero, List.setIfInBounds_toArray, List.set_cons_zero, List.set_cons_succ])
              rw [hGW]; clear hGW; obtain ⟨ywr4x0, hwx⟩ : ∃ wx, wD4.alloc (.cells #[.int .i64 0, .int .i64 0, .int .i64 0] 26) = wx := ⟨_, rfl⟩; rw [hwx] at HA HV HC HD HW hHeld ⊢; clear hwx
              refine wpAnyH_ready (rs := [2]) (by kernel_rfl) (by simp) ?_; refine AllReadyH.cons rfl (fun K hK => ?_) AllReadyH.nil
              go_simp; (go_at_call 85; refine (l08Plus_minus _ _ _ _ _ _ _ HUB.out HUA.out).mono ?_; rintro en ywr4x1 ⟨rfl, hb2⟩); have HA := Lib.hid (HA.out.below hb2); have HV := Lib.hid (HV.out.below hb2); have HC := Lib.hid (HC.out.below hb2); have HD := Lib.hid (HD.out.below hb2); have HW := Lib.hid (HW.out.below hb2); refine hK.out _ _ (below_after hb2 hHeld) (fun hHeld2 => ?_); clear hb2; (clear hHeld; rename _ => hHeld; clear hK K; have hHeld : Below w4.heap.size w4 _ := hHeld); (try simp only [Act.put, List.getElem_toArray, List.getElem_cons_succ, List.getElem_cons_zero, List.setIfInBounds_toArray, List.set_cons_zero, List.set_cons_succ])
              refine wpAnyH_ready (rs := [5]) (by kernel_rfl) (by simp) ?_; refine AllReadyH.cons rfl (fun K hK => ?_) AllReadyH.nil
              go_simp; (go_at_call 85; refine (l08Plus_minus _ _ _ _ _ _ _ HUC.out HUA.out).mono ?_; rintro en ywr4x2 ⟨rfl, hb2⟩); have HA := Lib.hid (HA.out.below hb2); have HV := Lib.hid (HV.out.below hb2); have HC := Lib.hid (HC.out.below hb2); have HD := Lib.hid (HD.out.below hb2); have HW := Lib.hid (HW.out.below hb2); refine hK.out _ _ (below_after hb2 hHeld) (fun hHeld2 => ?_); clear hb2; (clear hHeld; rename _ => hHeld; clear hK K; have hHeld : Below w4.heap.size w4 _ := hHeld); (try simp only [Act.put, List.getElem_toArray, List.getElem_cons_succ, List.getElem_cons_zero, List.setIfInBounds_toArray, List.set_cons_zero, List.set_cons_succ])
              refine wpAnyH_ready (rs := [6]) (by kernel_rfl) (by simp) ?_; refine AllReadyH.cons rfl (fun K hK => ?_) AllReadyH.nil
              go_simp; (go_at_call 46; refine (HLC.out _).mono ?_; rintro en ywr4x3 ⟨rfl, hb2⟩); have HA := Lib.hid (HA.out.below hb2); have HV := Lib.hid (HV.out.below hb2); have HC := Lib.hid (HC.out.below hb2); have HD := Lib.hid (HD.out.below hb2); have HW := Lib.hid (HW.out.below hb2); refine hK.out _ _ (below_after hb2 hHeld) (fun hHeld2 => ?_); clear hb2; (clear hHeld; rename _ => hHeld; clear hK K; have hHeld : Below w4.heap.size w4 _ := hHeld); (try simp only [Act.put, List.getElem_toArray, List.getElem_cons_succ, List.getElem_cons_zero, List.setIfInBounds_toArray, List.set_cons_zero, List.set_cons_succ])
              refine wpAnyH_ready (rs := [8]) (by kernel_rfl) (by simp) ?_; refine AllReadyH.cons rfl (fun K hK => ?_) AllReadyH.nil
              obtain ⟨⟨a0, a1, a2⟩, ⟨f0, f1, f2⟩, az⟩ := HW.out; go_simp; clear a0 f0 a1 f1 a2 f2 az
              have HA := Lib.hid (((HA.out.far ⟨GW, 0, none⟩ (.int .i64 X) (by show GA ≠ GW; exact ne_A_W)).far ⟨GW, 1, none⟩ (.int .i64 Y) (by show GA ≠ GW; exact ne_A_W)).far ⟨GW, 2, none⟩ (.int .i64 Z) (by show GA ≠ GW; exact ne_A_W))
              have HV := Lib.hid (((HV.out.far ⟨GW, 0, none⟩ (.int .i64 X) (by show GV ≠ GW; exact ne_V_W)).far ⟨GW, 1, none⟩ (.int .i64 Y) (by show GV ≠ GW; exact ne_V_W)).far ⟨GW, 2, none⟩ (.int .i64 Z) (by show GV ≠ GW; exact ne_V_W))
              have HC := Lib.hid (((HC.out.far ⟨GW, 0, none⟩ (.int .i64 X) (by show GC ≠ GW; exact ne_C_W)).far ⟨GW, 1, none⟩ (.int .i64 Y) (by show GC ≠ GW; exact ne_C_W)).far ⟨GW, 2, none⟩ (.int .i64 Z) (by show GC ≠ GW; exact ne_C_W))
              have HD := Lib.hid (((HD.out.far ⟨GW, 0, none⟩ (.int .i64 X) (by show GD ≠ GW; exact ne_D_W)).far ⟨GW, 1, none⟩ (.int .i64 Y) (by show GD ≠ GW; exact ne_D_W)).far ⟨GW, 2, none⟩ (.int .i64 Z) (by show GD ≠ GW; exact ne_D_W))
              have HW := Lib.hid (((HW.out.set0 X).set1 Y).set2 Z)
              refine hK.out _ _ (Below.setCell (Below.setCell (Below.setCell hHeld (p := ⟨GW, 0, none⟩) le_W _) (p := ⟨GW, 1, none⟩) le_W _) (p := ⟨GW, 2, none⟩) le_W _) (fun hHeld2 => ?_); (clear hHeld; rename _ => hHeld; clear hK K; have hHeld : Below w4.heap.size w4 _ := hHeld); (try simp only [Act.put, List.getElem_toArray, List.getElem_cons_succ, List.getElem_cons_zero, List.setIfInBounds_toArray, List.set_cons_zero, List.set_cons_succ])
              obtain ⟨ywr4x4, hwx⟩ : ∃ wx, ((ywr4x3.setCell ⟨GW, 0, none⟩ (.int .i64 X)).setCell ⟨GW, 1, none⟩ (.int .i64 Y)).setCell ⟨GW, 2, none⟩ (.int .i64 Z) = wx := ⟨_, rfl⟩; rw [hwx] at HA HV HC HD HW hHeld ⊢; clear hwx
              refine wpAnyH_done (by kernel_rfl) ?_ _
              have le_W : w.heap.size ≤ GW := Nat.le_trans HB.out.size le_W
              have HB := Lib.hid (HB.out.trans (hHeld.mono HB.out.size))
              clear hHeld HXX
              obtain ⟨⟨qA0, qA1, qA2⟩, ⟨fA0, fA1, fA2⟩, zA⟩ := HA.out
              obtain ⟨⟨qV0, qV1, qV2⟩, ⟨fV0, fV1, fV2⟩, zV⟩ := HV.out
              obtain ⟨⟨qC0, qC1, qC2⟩, ⟨fC0, fC1, fC2⟩, zC⟩ := HC.out
              obtain ⟨⟨qD0, qD1, qD2⟩, ⟨fD0, fD1, fD2⟩, zD⟩ := HD.out
              obtain ⟨⟨qW0, qW1, qW2⟩, ⟨fW0, fW1, fW2⟩, zW⟩ := HW.out
              go_upto_region 6 with fail
              clear qA0 fA0 qA1 fA1 qA2 fA2 zA qV0 fV0 qV1 fV1 qV2 fV2 zV qC0 fC0 qC1 fC1 qC2 fC2 zC qD0 fD0 qD1 fD1 qD2 fD2 zD qW0 fW0 qW1 fW1 qW2 fW2 zW
              have HXX : Hid (∀ W, Below ywr4x4.heap.size ywr4x4 W → Bk3 W GA a0 a1 a2 ∧ Bk3 W GV b0 b1 b2 ∧ Bk3 W GC c0 c1 c2 ∧ Bk3 W GD d0 d1 d2 ∧ Bk3 W GW X Y Z) := fun W hW => ⟨HA.out.below hW, HV.out.below hW, HC.out.below hW, HD.out.below hW, HW.out.below hW⟩
              go_wp2_with fail
              refine wp_region_held_drew (S := fun W => Below ywr4x4.heap.size ywr4x4 W) (by kernel_rfl) ?_ (fun hHeld => ?_); focus ((try dsimp only); exact (Below.refl _ _).drew)
              have HA := Lib.hid (HA.out.below (Below.drew (Below.refl _ _)))
              have HV := Lib.hid (HV.out.below (Below.drew (Below.refl _ _)))
              have HC := Lib.hid (HC.out.below (Below.drew (Below.refl _ _)))
              have HD := Lib.hid (HD.out.below (Below.drew (Below.refl _ _)))
              have HW := Lib.hid (HW.out.below (Below.drew (Below.refl _ _)))
              have hHeld : Below ywr4x4.heap.size ywr4x4 _ := hHeld
              obtain ⟨wD54, hwD54⟩ : ∃ wD, ywr4x4.drew = wD := ⟨_, rfl⟩
              rw [hwD54] at hHeld HA HV HC HD HW ⊢
              clear hwD54
              (refine wpAnyH_take (i := 0) (v := ?_) rfl (by kernel_rfl) (by kernel_rfl) (by kernel_rfl) (fun _ _ _ h => h) (Or.inl ⟨rfl, ?_⟩) (by assumption) ?_; rotate_left; focus (intro W hSw; (try dsimp only at hSw); have hxx := HXX.out _ hSw; obtain ⟨hxA, hxV, hxC, hxD, hxW⟩ := hxx; obtain ⟨⟨iA0, iA1, iA2⟩, _, _⟩ := hxA; obtain ⟨⟨iV0, iV1, iV2⟩, _, _⟩ := hxV; obtain ⟨⟨iC0, iC1, iC2⟩, _, _⟩ := hxC; obtain ⟨⟨iD0, iD1, iD2⟩, _, _⟩ := hxD; obtain ⟨⟨iW0, iW1, iW2⟩, _, _⟩ := hxW; go_simp; try (with_reducible rfl))); (try simp only [Act.put, List.getElem_toArray, List.getElem_cons_succ, List.getElem_cons_zero, List.setIfInBounds_toArray, List.set_cons_zero, List.set_cons_succ])
              (refine wpAnyH_take (i := 1) (v := ?_) rfl (by kernel_rfl) (by kernel_rfl) (by kernel_rfl) (fun _ _ _ h => h) (Or.inl ⟨rfl, ?_⟩) (by assumption) ?_; rotate_left; focus (intro W hSw; (try dsimp only at hSw); have hxx := HXX.out _ hSw; obtain ⟨hxA, hxV, hxC, hxD, hxW⟩ := hxx; obtain ⟨⟨iA0, iA1, iA2⟩, _, _⟩ := hxA; obtain ⟨⟨iV0, iV1, iV2⟩, _, _⟩ := hxV; obtain ⟨⟨iC0, iC1, iC2⟩, _, _⟩ := hxC; obtain ⟨⟨iD0, iD1, iD2⟩, _, _⟩ := hxD; obtain ⟨⟨iW0, iW1, iW2⟩, _, _⟩ := hxW; go_simp; try (with_reducible rfl))); (try simp only [Act.put, List.getElem_toArray, List.getElem_cons_succ, List.getElem_cons_zero, List.setIfInBounds_toArray, List.set_cons_zero, List.set_cons_succ])
              (refine wpAnyH_take (i := 2) (v := ?_) rfl (by kernel_rfl) (by kernel_rfl) (by kernel_rfl) (fun _ _ _ h => h) (Or.inl ⟨rfl, ?_⟩) (by assumption) ?_; rotate_left; focus (intro W hSw; (try dsimp only at hSw); have hxx := HXX.out _ hSw; obtain ⟨hxA, hxV, hxC, hxD, hxW⟩ := hxx; obtain ⟨⟨iA0, iA1, iA2⟩, _, _⟩ := hxA; obtain ⟨⟨iV0, iV1, iV2⟩, _, _⟩ := hxV; obtain ⟨⟨iC0, iC1, iC2⟩, _, _⟩ := hxC; obtain ⟨⟨iD0, iD1, iD2⟩, _, _⟩ := hxD; obtain ⟨⟨iW0, iW1, iW2⟩, _, _⟩ := hxW; go_simp; try (with_reducible rfl))); (try simp only [Act.put, List.getElem_toArray, List.getElem_cons_succ, List.getElem_cons_zero, List.setIfInBounds_toArray, List.set_cons_zero, List.set_cons_succ])
              (refine wpAnyH_take (i := 5) (v := ?_) rfl (by kernel_rfl) (by kernel_rfl) (by kernel_rfl) (fun _ _ _ h => h) (Or.inl ⟨rfl, ?_⟩) (by assumption) ?_; rotate_left; focus (intro W hSw; (try dsimp only at hSw); have hxx := HXX.out _ hSw; obtain ⟨hxA, hxV, hxC, hxD, hxW⟩ := hxx; obtain ⟨⟨iA0, iA1, iA2⟩, _, _⟩ := hxA; obtain ⟨⟨iV0, iV1, iV2⟩, _, _⟩ := hxV; obtain ⟨⟨iC0, iC1, iC2⟩, _, _⟩ := hxC; obtain ⟨⟨iD0, iD1, iD2⟩, _, _⟩ := hxD; obtain ⟨⟨iW0, iW1, iW2⟩, _, _⟩ := hxW; go_simp; try (with_reducible rfl))); (try simp only [Act.put, List.getElem_toArray, List.getElem_cons_succ, List.getElem_cons_zero, List.setIfInBounds_toArray, List.set_cons_zero, List.set_cons_succ])
              refine wpAnyH_ready (rs := [3]) (by kernel_rfl) (by simp) ?_; refine AllReadyH.cons rfl (fun K hK => ?_) AllReadyH.nil
              go_simp; (go_at_call 85; refine (l08Plus_minus _ _ _ _ _ _ _ HUD.out HUA.out).mono ?_; rintro en ywr54x0 ⟨rfl, hb2⟩); have HA := Lib.hid (HA.out.below hb2); have HV := Lib.hid (HV.out.below hb2); have HC := Lib.hid (HC.out.below hb2); have HD := Lib.hid (HD.out.below hb2); have HW := Lib.hid (HW.out.below hb2); refine hK.out _ _ (below_after hb2 hHeld) (fun hHeld2 => ?_); clear hb2; (clear hHeld; rename _ => hHeld; clear hK K; have hHeld : Below ywr4x4.heap.size ywr4x4 _ := hHeld); (try simp only [Act.put, List.getElem_toArray, List.getElem_cons_succ, List.getElem_cons_zero, List.setIfInBounds_toArray, List.set_cons_zero, List.set_cons_succ])
              refine wpAnyH_ready (rs := [4]) (by kernel_rfl) (by simp) ?_; refine AllReadyH.cons rfl (fun K hK => ?_) AllReadyH.nil
              go_simp; (go_at_call 86; refine (HLD.out _).mono ?_; rintro en ywr54x1 ⟨rfl, hb2⟩); have HA := Lib.hid (HA.out.below hb2); have HV := Lib.hid (HV.out.below hb2); have HC := Lib.hid (HC.out.below hb2); have HD := Lib.hid (HD.out.below hb2); have HW := Lib.hid (HW.out.below hb2); refine hK.out _ _ (below_after hb2 hHeld) (fun hHeld2 => ?_); clear hb2; (clear hHeld; rename _ => hHeld; clear hK K; have hHeld : Below ywr4x4.heap.size ywr4x4 _ := hHeld); (try simp only [Act.put, List.getElem_toArray, List.getElem_cons_succ, List.getElem_cons_zero, List.setIfInBounds_toArray, List.set_cons_zero, List.set_cons_succ])
              refine wpAnyH_ready (rs := [6]) (by kernel_rfl) (by simp) ?_; refine AllReadyH.cons rfl (fun K hK => ?_) AllReadyH.nil
              go_simp; (go_at_call 55; refine (HLL.out _).mono ?_; rintro en ywr54x2 ⟨rfl, hb2⟩); have HA := Lib.hid (HA.out.below hb2); have HV := Lib.hid (HV.out.below hb2); have HC := Lib.hid (HC.out.below hb2); have HD := Lib.hid (HD.out.below hb2); have HW := Lib.hid (HW.out.below hb2); refine hK.out _ _ (below_after hb2 hHeld) (fun hHeld2 => ?_); clear hb2; (clear hHeld; rename _ => hHeld; clear hK K; have hHeld : Below ywr4x4.heap.size ywr4x4 _ := hHeld); (try simp only [Act.put, List.getElem_toArray, List.getElem_cons_succ, List.getElem_cons_zero, List.setIfInBounds_toArray, List.set_cons_zero, List.set_cons_succ])
              (refine wpAnyH_take (i := 7) (v := ?_) rfl (by kernel_rfl) (by kernel_rfl) (by kernel_rfl) (fun _ _ _ h => h) (Or.inl ⟨rfl, ?_⟩) (by assumption) ?_; rotate_left; focus (intro W hSw; (try dsimp only at hSw); have hxx := HXX.out _ hSw; obtain ⟨hxA, hxV, hxC, hxD, hxW⟩ := hxx; obtain ⟨⟨iA0, iA1, iA2⟩, _, _⟩ := hxA; obtain ⟨⟨iV0, iV1, iV2⟩, _, _⟩ := hxV; obtain ⟨⟨iC0, iC1, iC2⟩, _, _⟩ := hxC; obtain ⟨⟨iD0, iD1, iD2⟩, _, _⟩ := hxD; obtain ⟨⟨iW0, iW1, iW2⟩, _, _⟩ := hxW; go_simp; try (with_reducible rfl))); (try simp only [Act.put, List.getElem_toArray, List.getElem_cons_succ, List.getElem_cons_zero, List.setIfInBounds_toArray, List.set_cons_zero, List.set_cons_succ])
              (refine wpAnyH_take (i := 8) (v := ?_) rfl (by kernel_rfl) (by kernel_rfl) (by kernel_rfl) (fun _ _ _ h => h) (Or.inl ⟨rfl, ?_⟩) (by assumption) ?_; rotate_left; focus (intro W hSw; (try dsimp only at hSw); have hxx := HXX.out _ hSw; obtain ⟨hxA, hxV, hxC, hxD, hxW⟩ := hxx; obtain ⟨⟨iA0, iA1, iA2⟩, _, _⟩ := hxA; obtain ⟨⟨iV0, iV1, iV2⟩, _, _⟩ := hxV; obtain ⟨⟨iC0, iC1, iC2⟩, _, _⟩ := hxC; obtain ⟨⟨iD0, iD1, iD2⟩, _, _⟩ := hxD; obtain ⟨⟨iW0, iW1, iW2⟩, _, _⟩ := hxW; go_simp; try (with_reducible rfl))); (try simp only [Act.put, List.getElem_toArray, List.getElem_cons_succ, List.getElem_cons_zero, List.setIfInBounds_toArray, List.set_cons_zero, List.set_cons_succ])
              refine wpAnyH_done (by kernel_rfl) ?_ _
              have HB := Lib.hid (HB.out.trans (hHeld.mono HB.out.size))
              clear hHeld HXX
              obtain ⟨⟨qA0, qA1, qA2⟩, ⟨fA0, fA1, fA2⟩, zA⟩ := HA.out
              obtain ⟨⟨qV0, qV1, qV2⟩, ⟨fV0, fV1, fV2⟩, zV⟩ := HV.out
              obtain ⟨⟨qC0, qC1, qC2⟩, ⟨fC0, fC1, fC2⟩, zC⟩ := HC.out
              obtain ⟨⟨qD0, qD1, qD2⟩, ⟨fD0, fD1, fD2⟩, zD⟩ := HD.out
              obtain ⟨⟨qW0, qW1, qW2⟩, ⟨fW0, fW1, fW2⟩, zW⟩ := HW.out
              go_wp2_with fail
              all_goals
                go_ret2
                have hb := HB.out
                have hb2 := HB.out
                rw [hG] at hb2
                refine ⟨?_, by (repeat' (first | (with_reducible exact Below.refl _ _) | (with_reducible refine Below.alloc ?_ ?_ _) | (with_reducible refine Below.setCell ?_ ?_ _) | (with_reducible refine Below.drew ?_) | (with_reducible refine below_drewN ?_ _) | (with_reducible assumption) | (with_reducible refine below_after (by with_reducible assumption) ?_) | go_size))⟩
                rw [HVV.out, HVK.out, HZ.out, cond_false, cond_false, HDI.out]
                refine ret_pair ?_ rfl
                unfold absI; omega
          · rw [hz] at heq
            have HZ : Hid (z3 X Y Z = true) := hz
            clear hz
            obtain ⟨GA, hG⟩ : ∃ G, w.heap.size = G := ⟨_, rfl⟩
            have HG := Lib.hid hG
            go_enter Tryd.func43, Tryd.ntmps43
            go_upto_region 1 with fail
            obtain ⟨w0, hw0⟩ : ∃ w0, w0 = ((((w.alloc (.cells #[.int .i64 a0, .int .i64 a1, .int .i64 a2] 26)).alloc (.cells #[.int .i64 b0, .int .i64 b1, .int .i64 b2] 26)).alloc (.cells #[.int .i64 c0, .int .i64 c1, .int .i64 c2] 26)).alloc (.cells #[.int .i64 d0, .int .i64 d1, .int .i64 d2] 26)) := ⟨_, rfl⟩
            rw [← hw0]
            have HA : Hid (Bk3 w0 GA a0 a1 a2) := by
              have h := (bk3_new w a0 a1 a2 26).below (W' := ((((w.alloc (.cells #[.int .i64 a0, .int .i64 a1, .int .i64 a2] 26)).alloc (.cells #[.int .i64 b0, .int .i64 b1, .int .i64 b2] 26)).alloc (.cells #[.int .i64 c0, .int .i64 c1, .int .i64 c2] 26)).alloc (.cells #[.int .i64 d0, .int .i64 d1, .int .i64 d2] 26))) (by (repeat' (first | (with_reducible exact Below.refl _ _) | (with_reducible refine Below.alloc ?_ ?_ _) | (with_reducible refine Below.setCell ?_ ?_ _) | (with_reducible refine Below.drew ?_) | (with_reducible refine below_drewN ?_ _) | (with_reducible assumption) | (with_reducible refine below_after (by with_reducible assumption) ?_) | go_size)))
              (try simp only [World.size_alloc] at h)
              rw [hG] at h
              rw [hw0]; exact h
            have HV : Hid (Bk3 w0 (GA + 1) b0 b1 b2) := by
              have h := (bk3_new (w.alloc (.cells #[.int .i64 a0, .int .i64 a1, .int .i64 a2] 26)) b0 b1 b2 26).below (W' := ((((w.alloc (.cells #[.int .i64 a0, .int .i64 a1, .int .i64 a2] 26)).alloc (.cells #[.int .i64 b0, .int .i64 b1, .int .i64 b2] 26)).alloc (.cells #[.int .i64 c0, .int .i64 c1, .int .i64 c2] 26)).alloc (.cells #[.int .i64 d0, .int .i64 d1, .int .i64 d2] 26))) (by (repeat' (first | (with_reducible exact Below.refl _ _) | (with_reducible refine Below.alloc ?_ ?_ _) | (with_reducible refine Below.setCell ?_ ?_ _) | (with_reducible refine Below.drew ?_) | (with_reducible refine below_drewN ?_ _) | (with_reducible assumption) | (with_reducible refine below_after (by with_reducible assumption) ?_) | go_size)))
              (try simp only [World.size_alloc] at h)
              rw [hG] at h
              rw [hw0]; exact h
            have HC : Hid (Bk3 w0 (GA + 1 + 1) c0 c1 c2) := by
              have h := (bk3_new ((w.alloc (.cells #[.int .i64 a0, .int .i64 a1, .int .i64 a2] 26)).alloc (.cells #[.int .i64 b0, .int .i64 b1, .int .i64 b2] 26)) c0 c1 c2 26).below (W' := ((((w.alloc (.cells #[.int .i64 a0, .int .i64 a1, .int .i64 a2] 26)).alloc (.cells #[.int .i64 b0, .int .i64 b1, .int .i64 b2] 26)).alloc (.cells #[.int .i64 c0, .int .i64 c1, .int .i64 c2] 26)).alloc (.cells #[.int .i64 d0, .int .i64 d1, .int .i64 d2] 26))) (by (repeat' (first | (with_reducible exact Below.refl _ _) | (with_reducible refine Below.alloc ?_ ?_ _) | (with_reducible refine Below.setCell ?_ ?_ _) | (with_reducible refine Below.drew ?_) | (with_reducible refine below_drewN ?_ _) | (with_reducible assumption) | (with_reducible refine below_after (by with_reducible assumption) ?_) | go_size)))
              (try simp only [World.size_alloc] at h)
              rw [hG] at h
              rw [hw0]; exact h
            have HD : Hid (Bk3 w0 (GA + 1 + 1 + 1) d0 d1 d2) := by
              have h := (bk3_new (((w.alloc (.cells #[.int .i64 a0, .int .i64 a1, .int .i64 a2] 26)).alloc (.cells #[.int .i64 b0, .int .i64 b1, .int .i64 b2] 26)).alloc (.cells #[.int .i64 c0, .int .i64 c1, .int .i64 c2] 26)) d0 d1 d2 26).below (W' := ((((w.alloc (.cells #[.int .i64 a0, .int .i64 a1, .int .i64 a2] 26)).alloc (.cells #[.int .i64 b0, .int .i64 b1, .int .i64 b2] 26)).alloc (.cells #[.int .i64 c0, .int .i64 c1, .int .i64 c2] 26)).alloc (.cells #[.int .i64 d0, .int .i64 d1, .int .i64 d2] 26))) (by (repeat' (first | (with_reducible exact Below.refl _ _) | (with_reducible refine Below.alloc ?_ ?_ _) | (with_reducible refine Below.setCell ?_ ?_ _) | (with_reducible refine Below.drew ?_) | (with_reducible refine below_drewN ?_ _) | (with_reducible assumption) | (with_reducible refine below_after (by with_reducible assumption) ?_) | go_size)))
              (try simp only [World.size_alloc] at h)
              rw [hG] at h
              rw [hw0]; exact h
            have HB : Hid (Below w.heap.size w w0) := by show Below w.heap.size w w0; rw [hw0]; (repeat' (first | (with_reducible exact Below.refl _ _) | (with_reducible refine Below.alloc ?_ ?_ _) | (with_reducible refine Below.setCell ?_ ?_ _) | (with_reducible refine Below.drew ?_) | (with_reducible refine below_drewN ?_ _) | (with_reducible assumption) | (with_reducible refine below_after (by with_reducible assumption) ?_) | go_size))
            clear hw0
            obtain ⟨GD, hGD⟩ : ∃ g, GA + 1 + 1 + 1 = g := ⟨_, rfl⟩
            rw [hGD] at HD ⊢
            obtain ⟨GC, hGC⟩ : ∃ g, GA + 1 + 1 = g := ⟨_, rfl⟩
            rw [hGC] at HC ⊢
            obtain ⟨GV, hGV⟩ : ∃ g, GA + 1 = g := ⟨_, rfl⟩
            rw [hGV] at HV ⊢
            have le_A : w.heap.size ≤ GA := by omega
            have le_V : w.heap.size ≤ GV := by omega
            have ne_V_A : GV ≠ GA := by omega
            have ne_A_V : GA ≠ GV := by omega
            have le_C : w.heap.size ≤ GC := by omega
            have ne_C_A : GC ≠ GA := by omega
            have ne_A_C : GA ≠ GC := by omega
            have ne_C_V : GC ≠ GV := by omega
            have ne_V_C : GV ≠ GC := by omega
            have le_D : w.heap.size ≤ GD := by omega
            have ne_D_A : GD ≠ GA := by omega
            have ne_A_D : GA ≠ GD := by omega
            have ne_D_V : GD ≠ GV := by omega
            have ne_V_D : GV ≠ GD := by omega
            have ne_D_C : GD ≠ GC := by omega
            have ne_C_D : GC ≠ GD := by omega
            clear hGV hGC hGD
            obtain ⟨⟨qA0, qA1, qA2⟩, ⟨fA0, fA1, fA2⟩, zA⟩ := HA.out
            obtain ⟨⟨qV0, qV1, qV2⟩, ⟨fV0, fV1, fV2⟩, zV⟩ := HV.out
            obtain ⟨⟨qC0, qC1, qC2⟩, ⟨fC0, fC1, fC2⟩, zC⟩ := HC.out
            obtain ⟨⟨qD0, qD1, qD2⟩, ⟨fD0, fD1, fD2⟩, zD⟩ := HD.out
            go_wp2_with fail
            go_at_call 45
            refine (HS0.out _).mono ?_
            rintro e w1 ⟨rfl, hb⟩
            clear qA0 fA0 qA1 fA1 qA2 fA2 zA qV0 fV0 qV1 fV1 qV2 fV2 zV qC0 fC0 qC1 fC1 qC2 fC2 zC qD0 fD0 qD1 fD1 qD2 fD2 zD
            have HA := Lib.hid (HA.out.below hb)
            have HV := Lib.hid (HV.out.below hb)
            have HC := Lib.hid (HC.out.below hb)
            have HD := Lib.hid (HD.out.below hb)
            have HB := Lib.hid (below_after hb HB.out)
            clear hb
            obtain ⟨⟨qA0, qA1, qA2⟩, ⟨fA0, fA1, fA2⟩, zA⟩ := HA.out
            obtain ⟨⟨qV0, qV1, qV2⟩, ⟨fV0, fV1, fV2⟩, zV⟩ := HV.out
            obtain ⟨⟨qC0, qC1, qC2⟩, ⟨fC0, fC1, fC2⟩, zC⟩ := HC.out
            obtain ⟨⟨qD0, qD1, qD2⟩, ⟨fD0, fD1, fD2⟩, zD⟩ := HD.out
            go_wp2_with fail
            go_at_call 45
            refine (HS1.out _).mono ?_
            rintro e w2 ⟨rfl, hb⟩
            clear qA0 fA0 qA1 fA1 qA2 fA2 zA qV0 fV0 qV1 fV1 qV2 fV2 zV qC0 fC0 qC1 fC1 qC2 fC2 zC qD0 fD0 qD1 fD1 qD2 fD2 zD
            have HA := Lib.hid (HA.out.below hb)
            have HV := Lib.hid (HV.out.below hb)
            have HC := Lib.hid (HC.out.below hb)
            have HD := Lib.hid (HD.out.below hb)
            have HB := Lib.hid (below_after hb HB.out)
            clear hb
            obtain ⟨⟨qA0, qA1, qA2⟩, ⟨fA0, fA1, fA2⟩, zA⟩ := HA.out
            obtain ⟨⟨qV0, qV1, qV2⟩, ⟨fV0, fV1, fV2⟩, zV⟩ := HV.out
            obtain ⟨⟨qC0, qC1, qC2⟩, ⟨fC0, fC1, fC2⟩, zC⟩ := HC.out
            obtain ⟨⟨qD0, qD1, qD2⟩, ⟨fD0, fD1, fD2⟩, zD⟩ := HD.out
            go_wp2_with fail
            go_at_call 45
            refine (HS2.out _).mono ?_
            rintro e w3 ⟨rfl, hb⟩
            clear qA0 fA0 qA1 fA1 qA2 fA2 zA qV0 fV0 qV1 fV1 qV2 fV2 zV qC0 fC0 qC1 fC1 qC2 fC2 zC qD0 fD0 qD1 fD1 qD2 fD2 zD
            have HA := Lib.hid (HA.out.below hb)
            have HV := Lib.hid (HV.out.below hb)
            have HC := Lib.hid (HC.out.below hb)
            have HD := Lib.hid (HD.out.below hb)
            have HB := Lib.hid (below_after hb HB.out)
            clear hb
            obtain ⟨⟨qA0, qA1, qA2⟩, ⟨fA0, fA1, fA2⟩, zA⟩ := HA.out
            obtain ⟨⟨qV0, qV1, qV2⟩, ⟨fV0, fV1, fV2⟩, zV⟩ := HV.out
            obtain ⟨⟨qC0, qC1, qC2⟩, ⟨fC0, fC1, fC2⟩, zC⟩ := HC.out
            obtain ⟨⟨qD0, qD1, qD2⟩, ⟨fD0, fD1, fD2⟩, zD⟩ := HD.out
            go_wp2_with fail
            go_at_call 45
            refine (HS3.out _).mono ?_
            rintro e w4 ⟨rfl, hb⟩
            clear qA0 fA0 qA1 fA1 qA2 fA2 zA qV0 fV0 qV1 fV1 qV2 fV2 zV qC0 fC0 qC1 fC1 qC2 fC2 zC qD0 fD0 qD1 fD1 qD2 fD2 zD
            have HA := Lib.hid (HA.out.below hb)
            have HV := Lib.hid (HV.out.below hb)
            have HC := Lib.hid (HC.out.below hb)
            have HD := Lib.hid (HD.out.below hb)
            have HB := Lib.hid (below_after hb HB.out)
            clear hb
            have HXX : Hid (∀ W, Below w4.heap.size w4 W → Bk3 W GA a0 a1 a2 ∧ Bk3 W GV b0 b1 b2 ∧ Bk3 W GC c0 c1 c2 ∧ Bk3 W GD d0 d1 d2) := fun W hW => ⟨HA.out.below hW, HV.out.below hW, HC.out.below hW, HD.out.below hW⟩
            go_wp2_with fail
            refine wp_region_held_drew (S := fun W => Below w4.heap.size w4 W) (by kernel_rfl) ?_ (fun hHeld => ?_); focus ((try dsimp only); exact (Below.refl _ _).drew)
            have HA := Lib.hid (HA.out.below (Below.drew (Below.refl _ _)))
            have HV := Lib.hid (HV.out.below (Below.drew (Below.refl _ _)))
            have HC := Lib.hid (HC.out.below (Below.drew (Below.refl _ _)))
            have HD := Lib.hid (HD.out.below (Below.drew (Below.refl _ _)))
            have hHeld : Below w4.heap.size w4 _ := hHeld
            obtain ⟨wD4, hwD4⟩ : ∃ wD, w4.drew = wD := ⟨_, rfl⟩
            rw [hwD4] at hHeld HA HV HC HD ⊢
            clear hwD4
            (refine wpAnyH_take (i := 0) (v := ?_) rfl (by kernel_rfl) (by kernel_rfl) (by kernel_rfl) (fun _ _ _ h => h) (Or.inl ⟨rfl, ?_⟩) (by assumption) ?_; rotate_left; focus (intro W hSw; (try dsimp only at hSw); have hxx := HXX.out _ hSw; obtain ⟨hxA, hxV, hxC, hxD⟩ := hxx; obtain ⟨⟨iA0, iA1, iA2⟩, _, _⟩ := hxA; obtain ⟨⟨iV0, iV1, iV2⟩, _, _⟩ := hxV; obtain ⟨⟨iC0, iC1, iC2⟩, _, _⟩ := hxC; obtain ⟨⟨iD0, iD1, iD2⟩, _, _⟩ := hxD; go_simp; try (with_reducible rfl))); (try simp only [Act.put, List.getElem_toArray, List.getElem_cons_succ, List.getElem_cons_zero, List.setIfInBounds_toArray, List.set_cons_zero, List.set_cons_succ])
            (refine wpAnyH_take (i := 1) (v := ?_) rfl (by kernel_rfl) (by kernel_rfl) (by kernel_rfl) (fun _ _ _ h => h) (Or.inl ⟨rfl, ?_⟩) (by assumption) ?_; rotate_left; focus (intro W hSw; (try dsimp only at hSw); have hxx := HXX.out _ hSw; obtain ⟨hxA, hxV, hxC, hxD⟩ := hxx; obtain ⟨⟨iA0, iA1, iA2⟩, _, _⟩ := hxA; obtain ⟨⟨iV0, iV1, iV2⟩, _, _⟩ := hxV; obtain ⟨⟨iC0, iC1, iC2⟩, _, _⟩ := hxC; obtain ⟨⟨iD0, iD1, iD2⟩, _, _⟩ := hxD; go_simp; try (with_reducible rfl))); (try simp only [Act.put, List.getElem_toArray, List.getElem_cons_succ, List.getElem_cons_zero, List.setIfInBounds_toArray, List.set_cons_zero, List.set_cons_succ])
            (refine wpAnyH_take (i := 3) (v := ?_) rfl (by kernel_rfl) (by kernel_rfl) (by kernel_rfl) (fun _ _ _ h => h) (Or.inl ⟨rfl, ?_⟩) (by assumption) ?_; rotate_left; focus (intro W hSw; (try dsimp only at hSw); have hxx := HXX.out _ hSw; obtain ⟨hxA, hxV, hxC, hxD⟩ := hxx; obtain ⟨⟨iA0, iA1, iA2⟩, _, _⟩ := hxA; obtain ⟨⟨iV0, iV1, iV2⟩, _, _⟩ := hxV; obtain ⟨⟨iC0, iC1, iC2⟩, _, _⟩ := hxC; obtain ⟨⟨iD0, iD1, iD2⟩, _, _⟩ := hxD; go_simp; try (with_reducible rfl))); (try simp only [Act.put, List.getElem_toArray, List.getElem_cons_succ, List.getElem_cons_zero, List.setIfInBounds_toArray, List.set_cons_zero, List.set_cons_succ])
            (refine wpAnyH_take (i := 4) (v := ?_) rfl (by kernel_rfl) (by kernel_rfl) (by kernel_rfl) (fun _ _ _ h => h) (Or.inl ⟨rfl, ?_⟩) (by assumption) ?_; rotate_left; focus (intro W hSw; (try dsimp only at hSw); have hxx := HXX.out _ hSw; obtain ⟨hxA, hxV, hxC, hxD⟩ := hxx; obtain ⟨⟨iA0, iA1, iA2⟩, _, _⟩ := hxA; obtain ⟨⟨iV0, iV1, iV2⟩, _, _⟩ := hxV; obtain ⟨⟨iC0, iC1, iC2⟩, _, _⟩ := hxC; obtain ⟨⟨iD0, iD1, iD2⟩, _, _⟩ := hxD; go_simp; try (with_reducible rfl))); (try simp only [Act.put, List.getElem_toArray, List.getElem_cons_succ, List.getElem_cons_zero, List.setIfInBounds_toArray, List.set_cons_zero, List.set_cons_succ])
            refine wpAnyH_ready (rs := [2, 7]) (by kernel_rfl) (by simp) ?_; refine AllReadyH.cons rfl (fun K hK => ?_) (AllReadyH.cons rfl (fun K hK => ?_) AllReadyH.nil)
            · skip
              go_simp; (go_at_call 85; refine (l08Plus_minus _ _ _ _ _ _ _ HUB.out HUA.out).mono ?_; rintro en ywr4x0 ⟨rfl, hb2⟩); have HA := Lib.hid (HA.out.below hb2); have HV := Lib.hid (HV.out.below hb2); have HC := Lib.hid (HC.out.below hb2); have HD := Lib.hid (HD.out.below hb2); refine hK.out _ _ (below_after hb2 hHeld) (fun hHeld2 => ?_); clear hb2; (clear hHeld; rename _ => hHeld; clear hK K; have hHeld : Below w4.heap.size w4 _ := hHeld); (try simp only [Act.put, List.getElem_toArray, List.getElem_cons_succ, List.getElem_cons_zero, List.setIfInBounds_toArray, List.set_cons_zero, List.set_cons_succ])
              refine wpAnyH_ready (rs := [5, 7]) (by kernel_rfl) (by simp) ?_; refine AllReadyH.cons rfl (fun K hK => ?_) (AllReadyH.cons rfl (fun K hK => ?_) AllReadyH.nil)
              · skip
                go_simp; (go_at_call 85; refine (l08Plus_minus _ _ _ _ _ _ _ HUC.out HUA.out).mono ?_; rintro en ywr4x1 ⟨rfl, hb2⟩); have HA := Lib.hid (HA.out.below hb2); have HV := Lib.hid (HV.out.below hb2); have HC := Lib.hid (HC.out.below hb2); have HD := Lib.hid (HD.out.below hb2); refine hK.out _ _ (below_after hb2 hHeld) (fun hHeld2 => ?_); clear hb2; (clear hHeld; rename _ => hHeld; clear hK K; have hHeld : Below w4.heap.size w4 _ := hHeld); (try simp only [Act.put, List.getElem_toArray, List.getElem_cons_succ, List.getElem_cons_zero, List.setIfInBounds_toArray, List.set_cons_zero, List.set_cons_succ])
                refine wpAnyH_ready (rs := [6, 7]) (by kernel_rfl) (by simp) ?_; refine AllReadyH.cons rfl (fun K hK => ?_) (AllReadyH.cons rfl (fun K hK => ?_) AllReadyH.nil)
                · skip
                  go_simp; (go_at_call 46; refine (HLC.out _).mono ?_; rintro en ywr4x2 ⟨rfl, hb2⟩); have HA := Lib.hid (HA.out.below hb2); have HV := Lib.hid (HV.out.below hb2); have HC := Lib.hid (HC.out.below hb2); have HD := Lib.hid (HD.out.below hb2); refine hK.out _ _ (below_after hb2 hHeld) (fun hHeld2 => ?_); clear hb2; (clear hHeld; rename _ => hHeld; clear hK K; have hHeld : Below w4.heap.size w4 _ := hHeld); (try simp only [Act.put, List.getElem_toArray, List.getElem_cons_succ, List.getElem_cons_zero, List.setIfInBounds_toArray, List.set_cons_zero, List.set_cons_succ])
                  refine wpAnyH_ready (rs := [7]) (by kernel_rfl) (by simp) ?_; refine AllReadyH.cons rfl (fun K hK => ?_) AllReadyH.nil
                  go_simp; obtain ⟨GW, hGW⟩ : ∃ G, ywr4x2.heap.size = G := ⟨_, rfl⟩; have le_W : w4.heap.size ≤ GW := by rw [← hGW]; exact Below.size hHeld
                  have ne_W_A : GW ≠ GA := by have := HA.out.2.2; omega
                  have ne_A_W : GA ≠ GW := Ne.symm ne_W_A
                  have ne_W_V : GW ≠ GV := by have := HV.out.2.2; omega
                  have ne_V_W : GV ≠ GW := Ne.symm ne_W_V
                  have ne_W_C : GW ≠ GC := by have := HC.out.2.2; omega
                  have ne_C_W : GC ≠ GW := Ne.symm ne_W_C
                  have ne_W_D : GW ≠ GD := by have := HD.out.2.2; omega
                  have ne_D_W : GD ≠ GW := Ne.symm ne_W_D
                  have HA := Lib.hid (HA.out.below ((Below.refl _ _).alloc (Nat.le_refl _) (.cells #[.int .i64 0, .int .i64 0, .int .i64 0] 26))); have HV := Lib.hid (HV.out.below ((Below.refl _ _).alloc (Nat.le_refl _) (.cells #[.int .i64 0, .int .i64 0, .int .i64 0] 26))); have HC := Lib.hid (HC.out.below ((Below.refl _ _).alloc (Nat.le_refl _) (.cells #[.int .i64 0, .int .i64 0, .int .i64 0] 26))); have HD := Lib.hid (HD.out.below ((Below.refl _ _).alloc (Nat.le_refl _) (.cells #[.int .i64 0, .int .i64 0, .int .i64 0] 26))); skip
                  have HW : Hid (Bk3 (ywr4x2.alloc (.cells #[.int .i64 0, .int .i64 0, .int .i64 0] 26)) GW 0 0 0) := by rw [← hGW]; exact bk3_new ywr4x2 0 0 0 _
                  refine hK.out _ _ (Below.alloc hHeld (Below.size hHeld) _) (fun hHeld2 => ?_); (clear hHeld; rename _ => hHeld; clear hK K; have hHeld : Below w4.heap.size w4 _ := hHeld); (try simp only [Act.put, List.getElem_toArray, List.getElem_cons_succ, List.getElem_cons_zero, List.setIfInBounds_toArray, List.set_cons_zero, List.set_cons_succ])
                  rw [hGW]; clear hGW; obtain ⟨ywr4x3, hwx⟩ : ∃ wx, ywr4x2.alloc (.cells #[.int .i64 0, .int .i64 0, .int .i64 0] 26) = wx := ⟨_, rfl⟩; rw [hwx] at HA HV HC HD HW hHeld ⊢; clear hwx
                  refine wpAnyH_ready (rs := [8]) (by kernel_rfl) (by simp) ?_; refine AllReadyH.cons rfl (fun K hK => ?_) AllReadyH.nil
                  obtain ⟨⟨a0, a1, a2⟩, ⟨f0, f1, f2⟩, az⟩ := HW.out; go_simp; clear a0 f0 a1 f1 a2 f2 az
                  have HA := Lib.hid (((HA.out.far ⟨GW, 0, none⟩ (.int .i64 X) (by show GA ≠ GW; exact ne_A_W)).far ⟨GW, 1, none⟩ (.int .i64 Y) (by show GA ≠ GW; exact ne_A_W)).far ⟨GW, 2, none⟩ (.int .i64 Z) (by show GA ≠ GW; exact ne_A_W))
                  have HV := Lib.hid (((HV.out.far ⟨GW, 0, none⟩ (.int .i64 X) (by show GV ≠ GW; exact ne_V_W)).far ⟨GW, 1, none⟩ (.int .i64 Y) (by show GV ≠ GW; exact ne_V_W)).far ⟨GW, 2, none⟩ (.int .i64 Z) (by show GV ≠ GW; exact ne_V_W))
                  have HC := Lib.hid (((HC.out.far ⟨GW, 0, none⟩ (.int .i64 X) (by show GC ≠ GW; exact ne_C_W)).far ⟨GW, 1, none⟩ (.int .i64 Y) (by show GC ≠ GW; exact ne_C_W)).far ⟨GW, 2, none⟩ (.int .i64 Z) (by show GC ≠ GW; exact ne_C_W))
                  have HD := Lib.hid (((HD.out.far ⟨GW, 0, none⟩ (.int .i64 X) (by show GD ≠ GW; exact ne_D_W)).far ⟨GW, 1, none⟩ (.int .i64 Y) (by show GD ≠ GW; exact ne_D_W)).far ⟨GW, 2, none⟩ (.int .i64 Z) (by show GD ≠ GW; exact ne_D_W))
                  have HW := Lib.hid (((HW.out.set0 X).set1 Y).set2 Z)
                  refine hK.out _ _ (Below.setCell (Below.setCell (Below.setCell hHeld (p := ⟨GW, 0, none⟩) le_W _) (p := ⟨GW, 1, none⟩) le_W _) (p := ⟨GW, 2, none⟩) le_W _) (fun hHeld2 => ?_); (clear hHeld; rename _ => hHeld; clear hK K; have hHeld : Below w4.heap.size w4 _ := hHeld); (try simp only [Act.put, List.getElem_toArray, List.getElem_cons_succ, List.getElem_cons_zero, List.setIfInBounds_toArray, List.set_cons_zero, List.set_cons_succ])
                  obtain ⟨ywr4x4, hwx⟩ : ∃ wx, ((ywr4x3.setCell ⟨GW, 0, none⟩ (.int .i64 X)).setCell ⟨GW, 1, none⟩ (.int .i64 Y)).setCell ⟨GW, 2, none⟩ (.int .i64 Z) = wx := ⟨_, rfl⟩; rw [hwx] at HA HV HC HD HW hHeld ⊢; clear hwx
                  refine wpAnyH_done (by kernel_rfl) ?_ _
                  have le_W : w.heap.size ≤ GW := Nat.le_trans HB.out.size le_W
                  have HB := Lib.hid (HB.out.trans (hHeld.mono HB.out.size))
                  clear hHeld HXX
                  obtain ⟨⟨qA0, qA1, qA2⟩, ⟨fA0, fA1, fA2⟩, zA⟩ := HA.out
                  obtain ⟨⟨qV0, qV1, qV2⟩, ⟨fV0, fV1, fV2⟩, zV⟩ := HV.out
                  obtain ⟨⟨qC0, qC1, qC2⟩, ⟨fC0, fC1, fC2⟩, zC⟩ := HC.out
                  obtain ⟨⟨qD0, qD1, qD2⟩, ⟨fD0, fD1, fD2⟩, zD⟩ := HD.out
                  obtain ⟨⟨qW0, qW1, qW2⟩, ⟨fW0, fW1, fW2⟩, zW⟩ := HW.out
                  go_wp2_with fail
                  refine bodyPost_ret (v := .tuple #[.int .i64 0, .int .i64 5]) (by simp (maxDischargeDepth := 8) [results, Tryd.results43, go_sem, *]) rfl ?_
                  have hb := HB.out
                  exact ⟨by rw [HVV.out, HVK.out, HZ.out]; rfl, by (repeat' (first | (with_reducible exact Below.refl _ _) | (with_reducible refine Below.alloc ?_ ?_ _) | (with_reducible refine Below.setCell ?_ ?_ _) | (with_reducible refine Below.drew ?_) | (with_reducible refine below_drewN ?_ _) | (with_reducible assumption) | (with_reducible refine below_after (by with_reducible assumption) ?_) | go_size))⟩
                · skip
                  go_simp; obtain ⟨GW, hGW⟩ : ∃ G, ywr4x1.heap.size = G := ⟨_, rfl⟩; have le_W : w4.heap.size ≤ GW := by rw [← hGW]; exact Below.size hHeld
                  have ne_W_A : GW ≠ GA := by have := HA.out.2.2; omega
                  have ne_A_W : GA ≠ GW := Ne.symm ne_W_A
                  have ne_W_V : GW ≠ GV := by have := HV.out.2.2; omega
                  have ne_V_W : GV ≠ GW := Ne.symm ne_W_V
                  have ne_W_C : GW ≠ GC := by have := HC.out.2.2; omega
                  have ne_C_W : GC ≠ GW := Ne.symm ne_W_C
                  have ne_W_D : GW ≠ GD := by have := HD.out.2.2; omega
                  have ne_D_W : GD ≠ GW := Ne.symm ne_W_D
                  have HA := Lib.hid (HA.out.below ((Below.refl _ _).alloc (Nat.le_refl _) (.cells #[.int .i64 0, .int .i64 0, .int .i64 0] 26))); have HV := Lib.hid (HV.out.below ((Below.refl _ _).alloc (Nat.le_refl _) (.cells #[.int .i64 0, .int .i64 0, .int .i64 0] 26))); have HC := Lib.hid (HC.out.below ((Below.refl _ _).alloc (Nat.le_refl _) (.cells #[.int .i64 0, .int .i64 0, .int .i64 0] 26))); have HD := Lib.hid (HD.out.below ((Below.refl _ _).alloc (Nat.le_refl _) (.cells #[.int .i64 0, .int .i64 0, .int .i64 0] 26))); skip
                  have HW : Hid (Bk3 (ywr4x1.alloc (.cells #[.int .i64 0, .int .i64 0, .int .i64 0] 26)) GW 0 0 0) := by rw [← hGW]; exact bk3_new ywr4x1 0 0 0 _
                  refine hK.out _ _ (Below.alloc hHeld (Below.size hHeld) _) (fun hHeld2 => ?_); (clear hHeld; rename _ => hHeld; clear hK K; have hHeld : Below w4.heap.size w4 _ := hHeld); (try simp only [Act.put, List.getElem_toArray, List.getElem_cons_succ, List.getElem_cons_zero, List.setIfInBounds_toArray, List.set_cons_zero, List.set_cons_succ])
                  rw [hGW]; clear hGW; obtain ⟨ywr4x2, hwx⟩ : ∃ wx, ywr4x1.alloc (.cells #[.int .i64 0, .int .i64 0, .int .i64 0] 26) = wx := ⟨_, rfl⟩; rw [hwx] at HA HV HC HD HW hHeld ⊢; clear hwx
                  refine wpAnyH_ready (rs := [6]) (by kernel_rfl) (by simp) ?_; refine AllReadyH.cons rfl (fun K hK => ?_) AllReadyH.nil
                  go_simp; (go_at_call 46; refine (HLC.out _).mono ?_; rintro en ywr4x3 ⟨rfl, hb2⟩); have HA := Lib.hid (HA.out.below hb2); have HV := Lib.hid (HV.out.below hb2); have HC := Lib.hid (HC.out.below hb2); have HD := Lib.hid (HD.out.below hb2); have HW := Lib.hid (HW.out.below hb2); refine hK.out _ _ (below_after hb2 hHeld) (fun hHeld2 => ?_); clear hb2; (clear hHeld; rename _ => hHeld; clear hK K; have hHeld : Below w4.heap.size w4 _ := hHeld); (try simp only [Act.put, List.getElem_toArray, List.getElem_cons_succ, List.getElem_cons_zero, List.setIfInBounds_toArray, List.set_cons_zero, List.set_cons_succ])
                  refine wpAnyH_ready (rs := [8]) (by kernel_rfl) (by simp) ?_; refine AllReadyH.cons rfl (fun K hK => ?_) AllReadyH.nil
                  obtain ⟨⟨a0, a1, a2⟩, ⟨f0, f1, f2⟩, az⟩ := HW.out; go_simp; clear a0 f0 a1 f1 a2 f2 az
                  have HA := Lib.hid (((HA.out.far ⟨GW, 0, none⟩ (.int .i64 X) (by show GA ≠ GW; exact ne_A_W)).far ⟨GW, 1, none⟩ (.int .i64 Y) (by show GA ≠ GW; exact ne_A_W)).far ⟨GW, 2, none⟩ (.int .i64 Z) (by show GA ≠ GW; exact ne_A_W))
                  have HV := Lib.hid (((HV.out.far ⟨GW, 0, none⟩ (.int .i64 X) (by show GV ≠ GW; exact ne_V_W)).far ⟨GW, 1, none⟩ (.int .i64 Y) (by show GV ≠ GW; exact ne_V_W)).far ⟨GW, 2, none⟩ (.int .i64 Z) (by show GV ≠ GW; exact ne_V_W))
                  have HC := Lib.hid (((HC.out.far ⟨GW, 0, none⟩ (.int .i64 X) (by show GC ≠ GW; exact ne_C_W)).far ⟨GW, 1, none⟩ (.int .i64 Y) (by show GC ≠ GW; exact ne_C_W)).far ⟨GW, 2, none⟩ (.int .i64 Z) (by show GC ≠ GW; exact ne_C_W))
                  have HD := Lib.hid (((HD.out.far ⟨GW, 0, none⟩ (.int .i64 X) (by show GD ≠ GW; exact ne_D_W)).far ⟨GW, 1, none⟩ (.int .i64 Y) (by show GD ≠ GW; exact ne_D_W)).far ⟨GW, 2, none⟩ (.int .i64 Z) (by show GD ≠ GW; exact ne_D_W))
                  have HW := Lib.hid (((HW.out.set0 X).set1 Y).set2 Z)
                  refine hK.out _ _ (Below.setCell (Below.setCell (Below.setCell hHeld (p := ⟨GW, 0, none⟩) le_W _) (p := ⟨GW, 1, none⟩) le_W _) (p := ⟨GW, 2, none⟩) le_W _) (fun hHeld2 => ?_); (clear hHeld; rename _ => hHeld; clear hK K; have hHeld : Below w4.heap.size w4 _ := hHeld); (try simp only [Act.put, List.getElem_toArray, List.getElem_cons_succ, List.getElem_cons_zero, List.setIfInBounds_toArray, List.set_cons_zero, List.set_cons_succ])
                  obtain ⟨ywr4x4, hwx⟩ : ∃ wx, ((ywr4x3.setCell ⟨GW, 0, none⟩ (.int .i64 X)).setCell ⟨GW, 1, none⟩ (.int .i64 Y)).setCell ⟨GW, 2, none⟩ (.int .i64 Z) = wx := ⟨_, rfl⟩; rw [hwx] at HA HV HC HD HW hHeld ⊢; clear hwx
                  refine wpAnyH_done (by kernel_rfl) ?_ _
                  have le_W : w.heap.size ≤ GW := Nat.le_trans HB.out.size le_W
                  have HB := Lib.hid (HB.out.trans (hHeld.mono HB.out.size))
                  clear hHeld HXX
                  obtain ⟨⟨qA0, qA1, qA2⟩, ⟨fA0, fA1, fA2⟩, zA⟩ := HA.out
                  obtain ⟨⟨qV0, qV1, qV2⟩, ⟨fV0, fV1, fV2⟩, zV⟩ := HV.out
                  obtain ⟨⟨qC0, qC1, qC2⟩, ⟨fC0, fC1, fC2⟩, zC⟩ := HC.out
                  obtain ⟨⟨qD0, qD1, qD2⟩, ⟨fD0, fD1, fD2⟩, zD⟩ := HD.out
                  obtain ⟨⟨qW0, qW1, qW2⟩, ⟨fW0, fW1, fW2⟩, zW⟩ := HW.out
                  go_wp2_with fail
                  refine bodyPost_ret (v := .tuple #[.int .i64 0, .int .i64 5]) (by simp (maxDischargeDepth := 8) [results, Tryd.results43, go_sem, *]) rfl ?_
                  have hb := HB.out
                  exact ⟨by rw [HVV.out, HVK.out, HZ.out]; rfl, by (repeat' (first | (with_reducible exact Below.refl _ _) | (with_reducible refine Below.alloc ?_ ?_ _) | (with_reducible refine Below.setCell ?_ ?_ _) | (with_reducible refine Below.drew ?_) | (with_reducible refine below_drewN ?_ _) | (with_reducible assumption) | (with_reducible refine below_after (by with_reducible assumption) ?_) | go_size))⟩
              · skip
                go_simp; obtain ⟨GW, hGW⟩ : ∃ G, ywr4x0.heap.size = G := ⟨_, rfl⟩; have le_W : w4.heap.size ≤ GW := by rw [← hGW]; exact Below.size hHeld
                have ne_W_A : GW ≠ GA := by have := HA.out.2.2; omega
                have ne_A_W : GA ≠ GW := Ne.symm ne_W_A
                have ne_W_V : GW ≠ GV := by have := HV.out.2.2; omega
                have ne_V_W : GV ≠ GW := Ne.symm ne_W_V
                have ne_W_C : GW ≠ GC := by have := HC.out.2.2; omega
                have ne_C_W : GC ≠ GW := Ne.symm ne_W_C
                have ne_W_D : GW ≠ GD := by have := HD.out.2.2; omega
                have ne_D_W : GD ≠ GW := Ne.symm ne_W_D
                have HA := Lib.hid (HA.out.below ((Below.refl _ _).alloc (Nat.le_refl _) (.cells #[.int .i64 0, .int .i64 0, .int .i64 0] 26))); have HV := Lib.hid (HV.out.below ((Below.refl _ _).alloc (Nat.le_refl _) (.cells #[.int .i64 0, .int .i64 0, .int .i64 0] 26))); have HC := Lib.hid (HC.out.below ((Below.refl _ _).alloc (Nat.le_refl _) (.cells #[.int .i64 0, .int .i64 0, .int .i64 0] 26))); have HD := Lib.hid (HD.out.below ((Below.refl _ _).alloc (Nat.le_refl _) (.cells #[.int .i64 0, .int .i64 0, .int .i64 0] 26))); skip
                have HW : Hid (Bk3 (ywr4x0.alloc (.cells #[.int .i64 0, .int .i64 0, .int .i64 0] 26)) GW 0 0 0) := by rw [← hGW]; exact bk3_new ywr4x0 0 0 0 _
                refine hK.out _ _ (Below.alloc hHeld (Below.size hHeld) _) (fun hHeld2 => ?_); (clear hHeld; rename _ => hHeld; clear hK K; have hHeld : Below w4.heap.size w4 _ := hHeld); (try simp only [Act.put, List.getElem_toArray, List.getElem_cons_succ, List.getElem_cons_zero, List.setIfInBounds_toArray, List.set_cons_zero, List.set_cons_succ])
                rw [hGW]; clear hGW; obtain ⟨ywr4x1, hwx⟩ : ∃ wx, ywr4x0.alloc (.cells #[.int .i64 0, .int .i64 0, .int .i64 0] 26) = wx := ⟨_, rfl⟩; rw [hwx] at HA HV HC HD HW hHeld ⊢; clear hwx
                refine wpAnyH_ready (rs := [5]) (by kernel_rfl) (by simp) ?_; refine AllReadyH.cons rfl (fun K hK => ?_) AllReadyH.nil
                go_simp; (go_at_call 85; refine (l08Plus_minus _ _ _ _ _ _ _ HUC.out HUA.out).mono ?_; rintro en ywr4x2 ⟨rfl, hb2⟩); have HA := Lib.hid (HA.out.below hb2); have HV := Lib.hid (HV.out.below hb2); have HC := Lib.hid (HC.out.below hb2); have HD := Lib.hid (HD.out.below hb2); have HW := Lib.hid (HW.out.below hb2); refine hK.out _ _ (below_after hb2 hHeld) (fun hHeld2 => ?_); clear hb2; (clear hHeld; rename _ => hHeld; clear hK K; have hHeld : Below w4.heap.size w4 _ := hHeld); (try simp only [Act.put, List.getElem_toArray, List.getElem_cons_succ, List.getElem_cons_zero, List.setIfInBounds_toArray, List.set_cons_zero, List.set_cons_succ])
                refine wpAnyH_ready (rs := [6]) (by kernel_rfl) (by simp) ?_; refine AllReadyH.cons rfl (fun K hK => ?_) AllReadyH.nil
                go_simp; (go_at_call 46; refine (HLC.out _).mono ?_; rintro en ywr4x3 ⟨rfl, hb2⟩); have HA := Lib.hid (HA.out.below hb2); have HV := Lib.hid (HV.out.below hb2); have HC := Lib.hid (HC.out.below hb2); have HD := Lib.hid (HD.out.below hb2); have HW := Lib.hid (HW.out.below hb2); refine hK.out _ _ (below_after hb2 hHeld) (fun hHeld2 => ?_); clear hb2; (clear hHeld; rename _ => hHeld; clear hK K; have hHeld : Below w4.heap.size w4 _ := hHeld); (try simp only [Act.put, List.getElem_toArray, List.getElem_cons_succ, List.getElem_cons_zero, List.setIfInBounds_toArray, List.set_cons_zero, List.set_cons_succ])
                refine wpAnyH_ready (rs := [8]) (by kernel_rfl) (by simp) ?_; refine AllReadyH.cons rfl (fun K hK => ?_) AllReadyH.nil
                obtain ⟨⟨a0, a1, a2⟩, ⟨f0, f1, f2⟩, az⟩ := HW.out; go_simp; clear a0 f0 a1 f1 a2 f2 az
                have HA := Lib.hid (((HA.out.far ⟨GW, 0, none⟩ (.int .i64 X) (by show GA ≠ GW; exact ne_A_W)).far ⟨GW, 1, none⟩ (.int .i64 Y) (by show GA ≠ GW; exact ne_A_W)).far ⟨GW, 2, none⟩ (.int .i64 Z) (by show GA ≠ GW; exact ne_A_W))
                have HV := Lib.hid (((HV.out.far ⟨GW, 0, none⟩ (.int .i64 X) (by show GV ≠ GW; exact ne_V_W)).far ⟨GW, 1, none⟩ (.int .i64 Y) (by show GV ≠ GW; exact ne_V_W)).far ⟨GW, 2, none⟩ (.int .i64 Z) (by show GV ≠ GW; exact ne_V_W))
                have HC := Lib.hid (((HC.out.far ⟨GW, 0, none⟩ (.int .i64 X) (by show GC ≠ GW; exact ne_C_W)).far ⟨GW, 1, none⟩ (.int .i64 Y) (by show GC ≠ GW; exact ne_C_W)).far ⟨GW, 2, none⟩ (.int .i64 Z) (by show GC ≠ GW; exact ne_C_W))
                have HD := Lib.hid (((HD.out.far ⟨GW, 0, none⟩ (.int .i64 X) (by show GD ≠ GW; exact ne_D_W)).far ⟨GW, 1, none⟩ (.int .i64 Y) (by show GD ≠ GW; exact ne_D_W)).far ⟨GW, 2, none⟩ (.int .i64 Z) (by show GD ≠ GW; exact ne_D_W))
                have HW := Lib.hid (((HW.out.set0 X).set1 Y).set2 Z)
                refine hK.out _ _ (Below.setCell (Below.setCell (Below.setCell hHeld (p := ⟨GW, 0, none⟩) le_W _) (p := ⟨GW, 1, none⟩) le_W _) (p := ⟨GW, 2, none⟩) le_W _) (fun hHeld2 => ?_); (clear hHeld; rename _ => hHeld; clear hK K; have hHeld : Below w4.heap.size w4 _ := hHeld); (try simp only [Act.put, List.getElem_toArray, List.getElem_cons_succ, List.getElem_cons_zero, List.setIfInBounds_toArray, List.set_cons_zero, List.set_cons_succ])
                obtain ⟨ywr4x4, hwx⟩ : ∃ wx, ((ywr4x3.setCell ⟨GW, 0, none⟩ (.int .i64 X)).setCell ⟨GW, 1, none⟩ (.int .i64 Y)).setCell ⟨GW, 2, none⟩ (.int .i64 Z) = wx := ⟨_, rfl⟩; rw [hwx] at HA HV HC HD HW hHeld ⊢; clear hwx
                refine wpAnyH_done (by kernel_rfl) ?_ _
                have le_W : w.heap.size ≤ GW := Nat.le_trans HB.out.size le_W
                have HB := Lib.hid (HB.out.trans (hHeld.mono HB.out.size))
                clear hHeld HXX
                obtain ⟨⟨qA0, qA1, qA2⟩, ⟨fA0, fA1, fA2⟩, zA⟩ := HA.out
                obtain ⟨⟨qV0, qV1, qV2⟩, ⟨fV0, fV1, fV2⟩, zV⟩ := HV.out
                obtain ⟨⟨qC0, qC1, qC2⟩, ⟨fC0, fC1, fC2⟩, zC⟩ := HC.out
                obtain ⟨⟨qD0, qD1, qD2⟩, ⟨fD0, fD1, fD2⟩, zD⟩ := HD.out
                obtain ⟨⟨qW0, qW1, qW2⟩, ⟨fW0, fW1, fW2⟩, zW⟩ := HW.out
                go_wp2_with fail
                refine bodyPost_ret (v := .tuple #[.int .i64 0, .int .i64 5]) (by simp (maxDischargeDepth := 8) [results, Tryd.results43, go_sem, *]) rfl ?_
                have hb := HB.out
                exact ⟨by rw [HVV.out, HVK.out, HZ.out]; rfl, by (repeat' (first | (with_reducible exact Below.refl _ _) | (with_reducible refine Below.alloc ?_ ?_ _) | (with_reducible refine Below.setCell ?_ ?_ _) | (with_reducible refine Below.drew ?_) | (with_reducible refine below_drewN ?_ _) | (with_reducible assumption) | (with_reducible refine below_after (by with_reducible assumption) ?_) | go_size))⟩
            · skip
              go_simp; obtain ⟨GW, hGW⟩ : ∃ G, wD4.heap.size = G := ⟨_, rfl⟩; have le_W : w4.heap.size ≤ GW := by rw [← hGW]; exact Below.size hHeld
              have ne_W_A : GW ≠ GA := by have := HA.out.2.2; omega
              have ne_A_W : GA ≠ GW := Ne.symm ne_W_A
              have ne_W_V : GW ≠ GV := by have := HV.out.2.2; omega
              have ne_V_W : GV ≠ GW := Ne.symm ne_W_V
              have ne_W_C : GW ≠ GC := by have := HC.out.2.2; omega
              have ne_C_W : GC ≠ GW := Ne.symm ne_W_C
              have ne_W_D : GW ≠ GD := by have := HD.out.2.2; omega
              have ne_D_W : GD ≠ GW := Ne.symm ne_W_D
              have HA := Lib.hid (HA.out.below ((Below.refl _ _).alloc (Nat.le_refl _) (.cells #[.int .i64 0, .int .i64 0, .int .i64 0] 26))); have HV := Lib.hid (HV.out.below ((Below.refl _ _).alloc (Nat.le_refl _) (.cells #[.int .i64 0, .int .i64 0, .int .i64 0] 26))); have HC := Lib.hid (HC.out.below ((Below.refl _ _).alloc (Nat.le_refl _) (.cells #[.int .i64 0, .int .i64 0, .int .i64 0] 26))); have HD := Lib.hid (HD.out.below ((Below.refl _ _).alloc (Nat.le_refl _) (.cells #[.int .i64 0, .int .i64 0, .int .i64 0] 26))); skip
              have HW : Hid (Bk3 (wD4.alloc (.cells #[.int .i64 0, .int .i64 0, .int .i64 0] 26)) GW 0 0 0) := by rw [← hGW]; exact bk3_new wD4 0 0 0 _
              refine hK.out _ _ (Below.alloc hHeld (Below.size hHeld) _) (fun hHeld2 => ?_); (clear hHeld; rename _ => hHeld; clear hK K; have hHeld : Below w4.heap.size w4 _ := hHeld); (try simp only [Act.put, List.getElem_toArray, List.getElem_cons_succ, List.getElem_cons_zero, List.setIfInBounds_toArray, List.set_cons_zero, List.set_cons_succ])
              rw [hGW]; clear hGW; obtain ⟨ywr4x0, hwx⟩ : ∃ wx, wD4.alloc (.cells #[.int .i64 0, .int .i64 0, .int .i64 0] 26) = wx := ⟨_, rfl⟩; rw [hwx] at HA HV HC HD HW hHeld ⊢; clear hwx
              refine wpAnyH_ready (rs := [2]) (by kernel_rfl) (by simp) ?_; refine AllReadyH.cons rfl (fun K hK => ?_) AllReadyH.nil
              go_simp; (go_at_call 85; refine (l08Plus_minus _ _ _ _ _ _ _ HUB.out HUA.out).mono ?_; rintro en ywr4x1 ⟨rfl, hb2⟩); have HA := Lib.hid (HA.out.below hb2); have HV := Lib.hid (HV.out.below hb2); have HC := Lib.hid (HC.out.below hb2); have HD := Lib.hid (HD.out.below hb2); have HW := Lib.hid (HW.out.below hb2); refine hK.out _ _ (below_after hb2 hHeld) (fun hHeld2 => ?_); clear hb2; (clear hHeld; rename _ => hHeld; clear hK K; have hHeld : Below w4.heap.size w4 _ := hHeld); (try simp only [Act.put, List.getElem_toArray, List.getElem_cons_succ, List.getElem_cons_zero, List.setIfInBounds_toArray, List.set_cons_zero, List.set_cons_succ])
              refine wpAnyH_ready (rs := [5]) (by kernel_rfl) (by simp) ?_; refine AllReadyH.cons rfl (fun K hK => ?_) AllReadyH.nil
              go_simp; (go_at_call 85; refine (l08Plus_minus _ _ _ _ _ _ _ HUC.out HUA.out).mono ?_; rintro en ywr4x2 ⟨rfl, hb2⟩); have HA := Lib.hid (HA.out.below hb2); have HV := Lib.hid (HV.out.below hb2); have HC := Lib.hid (HC.out.below hb2); have HD := Lib.hid (HD.out.below hb2); have HW := Lib.hid (HW.out.below hb2); refine hK.out _ _ (below_after hb2 hHeld) (fun hHeld2 => ?_); clear hb2; (clear hHeld; rename _ => hHeld; clear hK K; have hHeld : Below w4.heap.size w4 _ := hHeld); (try simp only [Act.put, List.getElem_toArray, List.getElem_cons_succ, List.getElem_cons_zero, List.setIfInBounds_toArray, List.set_cons_zero, List.set_cons_succ])
              refine wpAnyH_ready (rs := [6]) (by kernel_rfl) (by simp) ?_; refine AllReadyH.cons rfl (fun K hK => ?_) AllReadyH.nil
              go_simp; (go_at_call 46; refine (HLC.out _).mono ?_; rintro en ywr4x3 ⟨rfl, hb2⟩); have HA := Lib.hid (HA.out.below hb2); have HV := Lib.hid (HV.out.below hb2); have HC := Lib.hid (HC.out.below hb2); have HD := Lib.hid (HD.out.below hb2); have HW := Lib.hid (HW.out.below hb2); refine hK.out _ _ (below_after hb2 hHeld) (fun hHeld2 => ?_); clear hb2; (clear hHeld; rename _ => hHeld; clear hK K; have hHeld : Below w4.heap.size w4 _ := hHeld); (try simp only [Act.put, List.getElem_toArray, List.getElem_cons_succ, List.getElem_cons_zero, List.setIfInBounds_toArray, List.set_cons_zero, List.set_cons_succ])
              refine wpAnyH_ready (rs := [8]) (by kernel_rfl) (by simp) ?_; refine AllReadyH.cons rfl (fun K hK => ?_) AllReadyH.nil
              obtain ⟨⟨a0, a1, a2⟩, ⟨f0, f1, f2⟩, az⟩ := HW.out; go_simp; clear a0 f0 a1 f1 a2 f2 az
              have HA := Lib.hid (((HA.out.far ⟨GW, 0, none⟩ (.int .i64 X) (by show GA ≠ GW; exact ne_A_W)).far ⟨GW, 1, none⟩ (.int .i64 Y) (by show GA ≠ GW; exact ne_A_W)).far ⟨GW, 2, none⟩ (.int .i64 Z) (by show GA ≠ GW; exact ne_A_W))
              have HV := Lib.hid (((HV.out.far ⟨GW, 0, none⟩ (.int .i64 X) (by show GV ≠ GW; exact ne_V_W)).far ⟨GW, 1, none⟩ (.int .i64 Y) (by show GV ≠ GW; exact ne_V_W)).far ⟨GW, 2, none⟩ (.int .i64 Z) (by show GV ≠ GW; exact ne_V_W))
              have HC := Lib.hid (((HC.out.far ⟨GW, 0, none⟩ (.int .i64 X) (by show GC ≠ GW; exact ne_C_W)).far ⟨GW, 1, none⟩ (.int .i64 Y) (by show GC ≠ GW; exact ne_C_W)).far ⟨GW, 2, none⟩ (.int .i64 Z) (by show GC ≠ GW; exact ne_C_W))
              have HD := Lib.hid (((HD.out.far ⟨GW, 0, none⟩ (.int .i64 X) (by show GD ≠ GW; exact ne_D_W)).far ⟨GW, 1, none⟩ (.int .i64 Y) (by show GD ≠ GW; exact ne_D_W)).far ⟨GW, 2, none⟩ (.int .i64 Z) (by show GD ≠ GW; exact ne_D_W))
              have HW := Lib.hid (((HW.out.set0 X).set1 Y).set2 Z)
              refine hK.out _ _ (Below.setCell (Below.setCell (Below.setCell hHeld (p := ⟨GW, 0, none⟩) le_W _) (p := ⟨GW, 1, none⟩) le_W _) (p := ⟨GW, 2, none⟩) le_W _) (fun hHeld2 => ?_); (clear hHeld; rename _ => hHeld; clear hK K; have hHeld : Below w4.heap.size w4 _ := hHeld); (try simp only [Act.put, List.getElem_toArray, List.getElem_cons_succ, List.getElem_cons_zero, List.setIfInBounds_toArray, List.set_cons_zero, List.set_cons_succ])
              obtain ⟨ywr4x4, hwx⟩ : ∃ wx, ((ywr4x3.setCell ⟨GW, 0, none⟩ (.int .i64 X)).setCell ⟨GW, 1, none⟩ (.int .i64 Y)).setCell ⟨GW, 2, none⟩ (.int .i64 Z) = wx := ⟨_, rfl⟩; rw [hwx] at HA HV HC HD HW hHeld ⊢; clear hwx
              refine wpAnyH_done (by kernel_rfl) ?_ _
              have le_W : w.heap.size ≤ GW := Nat.le_trans HB.out.size le_W
              have HB := Lib.hid (HB.out.trans (hHeld.mono HB.out.size))
              clear hHeld HXX
              obtain ⟨⟨qA0, qA1, qA2⟩, ⟨fA0, fA1, fA2⟩, zA⟩ := HA.out
              obtain ⟨⟨qV0, qV1, qV2⟩, ⟨fV0, fV1, fV2⟩, zV⟩ := HV.out
              obtain ⟨⟨qC0, qC1, qC2⟩, ⟨fC0, fC1, fC2⟩, zC⟩ := HC.out
              obtain ⟨⟨qD0, qD1, qD2⟩, ⟨fD0, fD1, fD2⟩, zD⟩ := HD.out
              obtain ⟨⟨qW0, qW1, qW2⟩, ⟨fW0, fW1, fW2⟩, zW⟩ := HW.out
              go_wp2_with fail
              refine bodyPost_ret (v := .tuple #[.int .i64 0, .int .i64 5]) (by simp (maxDischargeDepth := 8) [results, Tryd.results43, go_sem, *]) rfl ?_
              have hb := HB.out
              exact ⟨by rw [HVV.out, HVK.out, HZ.out]; rfl, by (repeat' (first | (with_reducible exact Below.refl _ _) | (with_reducible refine Below.alloc ?_ ?_ _) | (with_reducible refine Below.setCell ?_ ?_ _) | (with_reducible refine Below.drew ?_) | (with_reducible refine below_drewN ?_ _) | (with_reducible assumption) | (with_reducible refine below_after (by with_reducible assumption) ?_) | go_size))⟩
end Go.Proofs.YtjjblgmokmalaaaDoor
