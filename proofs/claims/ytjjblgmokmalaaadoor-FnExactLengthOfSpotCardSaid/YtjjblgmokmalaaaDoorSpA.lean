/-
  Sums and products of spots (own work).
-/
import Derived.Test.YtjjblgmokmalaaaDoorSpM
namespace Go.Proofs.YtjjblgmokmalaaaDoor
open Go.ChangeShapes Go.WideShapes Go.ChangeAt Go.RowKit
set_option linter.unusedVariables false
set_option maxRecDepth 100000
set_option linter.unusedSimpArgs false
set_option maxRecDepth 100000

def W3 (k a b c : Int) : Prop := Wi k a ∧ Wi k b ∧ Wi k c
theorem W3.up {j k a b c : Int} (h : W3 j a b c) (hk : j ≤ k) : W3 k a b c := ⟨h.1.up hk, h.2.1.up hk, h.2.2.up hk⟩
theorem isSp_W3 {a b c : Int} (h : isSp a b c = true) : W3 20 a b c := isSp_parts h
theorem W3.zero (k : Int) (hk : 0 ≤ k) : W3 k 0 0 0 := by unfold W3 Wi; omega
theorem W3.sub {j k a b c x y z : Int} (h : W3 j a b c) (g : W3 k x y z) : W3 (j + k) (a - x) (b - y) (c - z) := ⟨h.1.sub g.1, h.2.1.sub g.2.1, h.2.2.sub g.2.2⟩
theorem W3.cr {k a0 a1 a2 b0 b1 b2 : Int} (h : W3 k a0 a1 a2) (g : W3 k b0 b1 b2) : W3 (k * k + k * k) (crX a0 a1 a2 b0 b1 b2) (crY a0 a1 a2 b0 b1 b2) (crZ a0 a1 a2 b0 b1 b2) := cr_wi h.1 h.2.1 h.2.2 g.1 g.2.1 g.2.2
theorem W3.dot {j k a b c x y z : Int} (h : W3 j a b c) (g : W3 k x y z) : Wi (j * k + j * k + j * k) (dotV a b c x y z) := dot_wi h.1 h.2.1 h.2.2 g.1 g.2.1 g.2.2
theorem W3.det {k a0 a1 a2 b0 b1 b2 c0 c1 c2 : Int} (h : W3 k a0 a1 a2) (g : W3 k b0 b1 b2) (f : W3 k c0 c1 c2) : Wi (k * (k * k + k * k) + k * (k * k + k * k) + k * (k * k + k * k)) (detV a0 a1 a2 b0 b1 b2 c0 c1 c2) := h.dot (g.cr f)
/-- The side of a determinant. -/
def sgV (d : Int) : Int := if d < 0 then -1 else 1
theorem sg_cases (d : Int) : (sgV d = -1 ∧ d < 0) ∨ (sgV d = 1 ∧ ¬ d < 0) := by
  unfold sgV; by_cases h : d < 0 <;> simp [h]
theorem crossOf_any (a0 a1 a2 b0 b1 b2 : Int) (w : World) (h : W3 1000000 a0 a1 a2) (g : W3 1000000 b0 b1 b2) :
    Calls Tryd.prog 50 #[.agg #[.int .i64 a0, .int .i64 a1, .int .i64 a2], .agg #[.int .i64 b0, .int .i64 b1, .int .i64 b2]] w fun e w' => e = .returned (.agg #[.int .i64 (crX a0 a1 a2 b0 b1 b2), .int .i64 (crY a0 a1 a2 b0 b1 b2), .int .i64 (crZ a0 a1 a2 b0 b1 b2)]) ∧ Below w.heap.size w w' := by
  obtain ⟨p0, q0⟩ := h.2.1.mul g.2.2
  obtain ⟨p1, q1⟩ := h.2.2.mul g.2.1
  obtain ⟨p2, q2⟩ := h.2.2.mul g.1
  obtain ⟨p3, q3⟩ := h.1.mul g.2.2
  obtain ⟨p4, q4⟩ := h.1.mul g.2.1
  obtain ⟨p5, q5⟩ := h.2.1.mul g.1
  clear h g
  have hs20 : w.heap.size < w.heap.size + 1 + 1 := (by omega); have hs30 : w.heap.size < w.heap.size + 1 + 1 + 1 := (by omega); have hs31 : w.heap.size + 1 < w.heap.size + 1 + 1 + 1 := (by omega); have hs40 : w.heap.size < w.heap.size + 1 + 1 + 1 + 1 := (by omega); have hs41 : w.heap.size + 1 < w.heap.size + 1 + 1 + 1 + 1 := (by omega); have hs42 : w.heap.size + 1 + 1 < w.heap.size + 1 + 1 + 1 + 1 := (by omega)
  go_enter Tryd.func50, Tryd.ntmps50
  go_wp2
  refine bodyPost_ret (v := .agg #[.int .i64 (a1 * b2 - a2 * b1), .int .i64 (a2 * b0 - a0 * b2), .int .i64 (a0 * b1 - a1 * b0)]) (by simp (maxDischargeDepth := 8) [results, Tryd.results50, go_sem, *]) rfl ?_
  exact ⟨rfl, by (repeat' (first | (with_reducible exact Below.refl _ _) | (with_reducible refine Below.alloc ?_ ?_ _) | (with_reducible refine Below.setCell ?_ ?_ _) | (with_reducible refine Below.drew ?_) | (with_reducible refine below_drewN ?_ _) | (with_reducible assumption) | (with_reducible refine below_after (by with_reducible assumption) ?_) | go_size))⟩
theorem productOf_any (a0 a1 a2 b0 b1 b2 : Int) (w : World) (h : W3 1000000 a0 a1 a2) (g : W3 100000000000 b0 b1 b2) :
    Calls Tryd.prog 63 #[.agg #[.int .i64 a0, .int .i64 a1, .int .i64 a2], .agg #[.int .i64 b0, .int .i64 b1, .int .i64 b2]] w fun e w' => e = .returned (.int .i64 (dotV a0 a1 a2 b0 b1 b2)) ∧ Below w.heap.size w w' := by
  obtain ⟨p0, q0⟩ := h.1.mul g.1
  obtain ⟨p1, q1⟩ := h.2.1.mul g.2.1
  obtain ⟨p2, q2⟩ := h.2.2.mul g.2.2
  clear h g
  have hs20 : w.heap.size < w.heap.size + 1 + 1 := (by omega); have hs30 : w.heap.size < w.heap.size + 1 + 1 + 1 := (by omega); have hs31 : w.heap.size + 1 < w.heap.size + 1 + 1 + 1 := (by omega)
  go_enter Tryd.func63, Tryd.ntmps63
  go_wp2
  go_ret
  exact ⟨rfl, by (repeat' (first | (with_reducible exact Below.refl _ _) | (with_reducible refine Below.alloc ?_ ?_ _) | (with_reducible refine Below.setCell ?_ ?_ _) | (with_reducible refine Below.drew ?_) | (with_reducible refine below_drewN ?_ _) | (with_reducible assumption) | (with_reducible refine below_after (by with_reducible assumption) ?_) | go_size))⟩
theorem l08Dot_any (a0 a1 a2 b0 b1 b2 : Int) (w : World) (h : W3 1000000 a0 a1 a2) (g : W3 100000000000 b0 b1 b2) :
    Calls Tryd.prog 86 #[.agg #[.int .i64 a0, .int .i64 a1, .int .i64 a2], .agg #[.int .i64 b0, .int .i64 b1, .int .i64 b2]] w fun e w' => e = .returned (.int .i64 (dotV a0 a1 a2 b0 b1 b2)) ∧ Below w.heap.size w w' := by
  obtain ⟨p0, q0⟩ := h.1.mul g.1
  obtain ⟨p1, q1⟩ := h.2.1.mul g.2.1
  obtain ⟨p2, q2⟩ := h.2.2.mul g.2.2
  clear h g
  have hs20 : w.heap.size < w.heap.size + 1 + 1 := (by omega); have hs30 : w.heap.size < w.heap.size + 1 + 1 + 1 := (by omega); have hs31 : w.heap.size + 1 < w.heap.size + 1 + 1 + 1 := (by omega)
  go_enter Tryd.func86, Tryd.ntmps86
  go_wp2
  go_ret
  exact ⟨rfl, by (repeat' (first | (with_reducible exact Below.refl _ _) | (with_reducible refine Below.alloc ?_ ?_ _) | (with_reducible refine Below.setCell ?_ ?_ _) | (with_reducible refine Below.drew ?_) | (with_reducible refine below_drewN ?_ _) | (with_reducible assumption) | (with_reducible refine below_after (by with_reducible assumption) ?_) | go_size))⟩
theorem spotPlusTimes_any (a0 a1 a2 b0 b1 b2 k : Int) (w : World) (h : W3 100000000000 a0 a1 a2) (g : W3 100000000000 b0 b1 b2) (hk : Wi 100000 k) :
    Calls Tryd.prog 96 #[.agg #[.int .i64 a0, .int .i64 a1, .int .i64 a2], .agg #[.int .i64 b0, .int .i64 b1, .int .i64 b2], .int .i64 k] w fun e w' => e = .returned (.agg #[.int .i64 (a0 + k * b0), .int .i64 (a1 + k * b1), .int .i64 (a2 + k * b2)]) ∧ Below w.heap.size w w' := by
  obtain ⟨p0, q0⟩ := hk.mul g.1
  obtain ⟨r0, s0⟩ := h.1
  obtain ⟨p1, q1⟩ := hk.mul g.2.1
  obtain ⟨r1, s1⟩ := h.2.1
  obtain ⟨p2, q2⟩ := hk.mul g.2.2
  obtain ⟨r2, s2⟩ := h.2.2
  clear h g hk
  have hs20 : w.heap.size < w.heap.size + 1 + 1 := (by omega); have hs30 : w.heap.size < w.heap.size + 1 + 1 + 1 := (by omega); have hs31 : w.heap.size + 1 < w.heap.size + 1 + 1 + 1 := (by omega); have hs40 : w.heap.size < w.heap.size + 1 + 1 + 1 + 1 := (by omega); have hs41 : w.heap.size + 1 < w.heap.size + 1 + 1 + 1 + 1 := (by omega); have hs42 : w.heap.size + 1 + 1 < w.heap.size + 1 + 1 + 1 + 1 := (by omega)
  go_enter Tryd.func96, Tryd.ntmps96
  go_wp2
  refine bodyPost_ret (v := .agg #[.int .i64 (a0 + k * b0), .int .i64 (a1 + k * b1), .int .i64 (a2 + k * b2)]) (by simp (maxDischargeDepth := 8) [results, Tryd.results96, go_sem, *]) rfl ?_
  exact ⟨rfl, by (repeat' (first | (with_reducible exact Below.refl _ _) | (with_reducible refine Below.alloc ?_ ?_ _) | (with_reducible refine Below.setCell ?_ ?_ _) | (with_reducible refine Below.drew ?_) | (with_reducible refine below_drewN ?_ _) | (with_reducible assumption) | (with_reducible refine below_after (by with_reducible assumption) ?_) | go_size))⟩
theorem spotPlusTimes_minus (a0 a1 a2 b0 b1 b2 : Int) (w : World) (h : W3 100000000000 a0 a1 a2) (g : W3 100000000000 b0 b1 b2) :
    Calls Tryd.prog 96 #[.agg #[.int .i64 a0, .int .i64 a1, .int .i64 a2], .agg #[.int .i64 b0, .int .i64 b1, .int .i64 b2], .int .i64 (-1)] w fun e w' => e = .returned (.agg #[.int .i64 (a0 - b0), .int .i64 (a1 - b1), .int .i64 (a2 - b2)]) ∧ Below w.heap.size w w' := by
  have := spotPlusTimes_any a0 a1 a2 b0 b1 b2 (-1) w h g (by unfold Wi; omega)
  rwa [show a0 + -1 * b0 = a0 - b0 by omega, show a1 + -1 * b1 = a1 - b1 by omega, show a2 + -1 * b2 = a2 - b2 by omega] at this
theorem l08Plus_any (a0 a1 a2 b0 b1 b2 k : Int) (w : World) (h : W3 100000000000 a0 a1 a2) (g : W3 100000000000 b0 b1 b2) (hk : Wi 100000 k) :
    Calls Tryd.prog 85 #[.agg #[.int .i64 a0, .int .i64 a1, .int .i64 a2], .agg #[.int .i64 b0, .int .i64 b1, .int .i64 b2], .int .i64 k] w fun e w' => e = .returned (.agg #[.int .i64 (a0 + k * b0), .int .i64 (a1 + k * b1), .int .i64 (a2 + k * b2)]) ∧ Below w.heap.size w w' := by
  obtain ⟨p0, q0⟩ := hk.mul g.1
  obtain ⟨r0, s0⟩ := h.1
  obtain ⟨p1, q1⟩ := hk.mul g.2.1
  obtain ⟨r1, s1⟩ := h.2.1
  obtain ⟨p2, q2⟩ := hk.mul g.2.2
  obtain ⟨r2, s2⟩ := h.2.2
  clear h g hk
  have hs20 : w.heap.size < w.heap.size + 1 + 1 := (by omega); have hs30 : w.heap.size < w.heap.size + 1 + 1 + 1 := (by omega); have hs31 : w.heap.size + 1 < w.heap.size + 1 + 1 + 1 := (by omega); have hs40 : w.heap.size < w.heap.size + 1 + 1 + 1 + 1 := (by omega); have hs41 : w.heap.size + 1 < w.heap.size + 1 + 1 + 1 + 1 := (by omega); have hs42 : w.heap.size + 1 + 1 < w.heap.size + 1 + 1 + 1 + 1 := (by omega)
  go_enter Tryd.func85, Tryd.ntmps85
  go_wp2
  refine bodyPost_ret (v := .agg #[.int .i64 (a0 + k * b0), .int .i64 (a1 + k * b1), .int .i64 (a2 + k * b2)]) (by simp (maxDischargeDepth := 8) [results, Tryd.results85, go_sem, *]) rfl ?_
  exact ⟨rfl, by (repeat' (first | (with_reducible exact Below.refl _ _) | (with_reducible refine Below.alloc ?_ ?_ _) | (with_reducible refine Below.setCell ?_ ?_ _) | (with_reducible refine Below.drew ?_) | (with_reducible refine below_drewN ?_ _) | (with_reducible assumption) | (with_reducible refine below_after (by with_reducible assumption) ?_) | go_size))⟩
theorem l08Plus_minus (a0 a1 a2 b0 b1 b2 : Int) (w : World) (h : W3 100000000000 a0 a1 a2) (g : W3 100000000000 b0 b1 b2) :
    Calls Tryd.prog 85 #[.agg #[.int .i64 a0, .int .i64 a1, .int .i64 a2], .agg #[.int .i64 b0, .int .i64 b1, .int .i64 b2], .int .i64 (-1)] w fun e w' => e = .returned (.agg #[.int .i64 (a0 - b0), .int .i64 (a1 - b1), .int .i64 (a2 - b2)]) ∧ Below w.heap.size w w' := by
  have := l08Plus_any a0 a1 a2 b0 b1 b2 (-1) w h g (by unfold Wi; omega)
  rwa [show a0 + -1 * b0 = a0 - b0 by omega, show a1 + -1 * b1 = a1 - b1 by omega, show a2 + -1 * b2 = a2 - b2 by omega] at this
theorem lengthOfSpot_any (a0 a1 a2 : Int) (w : World) (h : W3 1000000 a0 a1 a2) :
    Calls Tryd.prog 57 #[.agg #[.int .i64 a0, .int .i64 a1, .int .i64 a2]] w fun e w' => e = .returned (.int .i64 (lenV a0 a1 a2)) ∧ Below w.heap.size w w' := by
  have H0 : Hid (Tn a0) := h.1.tn (by omega)
  have H1 : Hid (Tn a1) := h.2.1.tn (by omega)
  have H2 : Hid (Tn a2) := h.2.2.tn (by omega)
  have H01 : Hid (Tn (gcdI a0 a1)) := gcd_tn H0.out H1.out
  clear h
  unfold lenV
  obtain ⟨GA, hG⟩ : ∃ G, w.heap.size = G := ⟨_, rfl⟩
  have HG := Lib.hid hG
  go_enter Tryd.func57, Tryd.ntmps57
  go_upto_region 1 with fail
  obtain ⟨w0, hw0⟩ : ∃ w0, w0 = (w.alloc (.cells #[.int .i64 a0, .int .i64 a1, .int .i64 a2] 26)) := ⟨_, rfl⟩
  rw [← hw0]
  have HA : Hid (Bk3 w0 GA a0 a1 a2) := by
    have h := (bk3_new w a0 a1 a2 26).below (W' := (w.alloc (.cells #[.int .i64 a0, .int .i64 a1, .int .i64 a2] 26))) (by (repeat' (first | (with_reducible exact Below.refl _ _) | (with_reducible refine Below.alloc ?_ ?_ _) | (with_reducible refine Below.setCell ?_ ?_ _) | (with_reducible refine Below.drew ?_) | (with_reducible refine below_drewN ?_ _) | (with_reducible assumption) | (with_reducible refine below_after (by with_reducible assumption) ?_) | go_size)))
    (try simp only [World.size_alloc] at h)
    rw [hG] at h
    rw [hw0]; exact h
  have HB : Hid (Below w.heap.size w w0) := by show Below w.heap.size w w0; rw [hw0]; (repeat' (first | (with_reducible exact Below.refl _ _) | (with_reducible refine Below.alloc ?_ ?_ _) | (with_reducible refine Below.setCell ?_ ?_ _) | (with_reducible refine Below.drew ?_) | (with_reducible refine below_drewN ?_ _) | (with_reducible assumption) | (with_reducible refine below_after (by with_reducible assumption) ?_) | go_size))
  clear hw0
  have le_A : w.heap.size ≤ GA := by omega
  have HXX : Hid (∀ W, Below w0.heap.size w0 W → Bk3 W GA a0 a1 a2) := fun W hW => HA.out.below hW
  go_wp2_with fail
  refine wp_region_held_drew (S := fun W => Below w0.heap.size w0 W) (by kernel_rfl) ?_ (fun hHeld => ?_); focus ((try dsimp only); exact (Below.refl _ _).drew)
  have HA := Lib.hid (HA.out.below (Below.drew (Below.refl _ _)))
  have hHeld : Below w0.heap.size w0 _ := hHeld
  obtain ⟨wD0, hwD0⟩ : ∃ wD, w0.drew = wD := ⟨_, rfl⟩
  rw [hwD0] at hHeld HA ⊢
  clear hwD0
  (refine wpAnyH_take (i := 0) (v := ?_) rfl (by kernel_rfl) (by kernel_rfl) (by kernel_rfl) (fun _ _ _ h => h) (Or.inl ⟨rfl, ?_⟩) (by assumption) ?_; rotate_left; focus (intro W hSw; (try dsimp only at hSw); have hxx := HXX.out _ hSw; have hxA := hxx; obtain ⟨⟨iA0, iA1, iA2⟩, _, _⟩ := hxA; go_simp; try (with_reducible rfl))); (try simp only [Act.put, List.getElem_toArray, List.getElem_cons_succ, List.getElem_cons_zero, List.setIfInBounds_toArray, List.set_cons_zero, List.set_cons_succ])
  (refine wpAnyH_take (i := 1) (v := ?_) rfl (by kernel_rfl) (by kernel_rfl) (by kernel_rfl) (fun _ _ _ h => h) (Or.inl ⟨rfl, ?_⟩) (by assumption) ?_; rotate_left; focus (intro W hSw; (try dsimp only at hSw); have hxx := HXX.out _ hSw; have hxA := hxx; obtain ⟨⟨iA0, iA1, iA2⟩, _, _⟩ := hxA; go_simp; try (with_reducible rfl))); (try simp only [Act.put, List.getElem_toArray, List.getElem_cons_succ, List.getElem_cons_zero, List.setIfInBounds_toArray, List.set_cons_zero, List.set_cons_succ])
  (refine wpAnyH_take (i := 2) (v := ?_) rfl (by kernel_rfl) (by kernel_rfl) (by kernel_rfl) (fun _ _ _ h => h) (Or.inl ⟨rfl, ?_⟩) (by assumption) ?_; rotate_left; focus (intro W hSw; (try dsimp only at hSw); have hxx := HXX.out _ hSw; have hxA := hxx; obtain ⟨⟨iA0, iA1, iA2⟩, _, _⟩ := hxA; go_simp; try (with_reducible rfl))); (try simp only [Act.put, List.getElem_toArray, List.getElem_cons_succ, List.getElem_cons_zero, List.setIfInBounds_toArray, List.set_cons_zero, List.set_cons_succ])
  (refine wpAnyH_take (i := 3) (v := ?_) rfl (by kernel_rfl) (by kernel_rfl) (by kernel_rfl) (fun _ _ _ h => h) (Or.inl ⟨rfl, ?_⟩) (by assumption) ?_; rotate_left; focus (intro W hSw; (try dsimp only at hSw); have hxx := HXX.out _ hSw; have hxA := hxx; obtain ⟨⟨iA0, iA1, iA2⟩, _, _⟩ := hxA; go_simp; try (with_reducible rfl))); (try simp only [Act.put, List.getElem_toArray, List.getElem_cons_succ, List.getElem_cons_zero, List.setIfInBounds_toArray, List.set_cons_zero, List.set_cons_succ])
  (refine wpAnyH_take (i := 5) (v := ?_) rfl (by kernel_rfl) (by kernel_rfl) (by kernel_rfl) (fun _ _ _ h => h) (Or.inl ⟨rfl, ?_⟩) (by assumption) ?_; rotate_left; focus (intro W hSw; (try dsimp only at hSw); have hxx := HXX.out _ hSw; have hxA := hxx; obtain ⟨⟨iA0, iA1, iA2⟩, _, _⟩ := hxA; go_simp; try (with_reducible rfl))); (try simp only [Act.put, List.getElem_toArray, List.getElem_cons_succ, List.getElem_cons_zero, List.setIfInBounds_toArray, List.set_cons_zero, List.set_cons_succ])
  (refine wpAnyH_take (i := 6) (v := ?_) rfl (by kernel_rfl) (by kernel_rfl) (by kernel_rfl) (fun _ _ _ h => h) (Or.inl ⟨rfl, ?_⟩) (by assumption) ?_; rotate_left; focus (intro W hSw; (try dsimp only at hSw); have hxx := HXX.out _ hSw; have hxA := hxx; obtain ⟨⟨iA0, iA1, iA2⟩, _, _⟩ := hxA; go_simp; try (with_reducible rfl))); (try simp only [Act.put, List.getElem_toArray, List.getElem_cons_succ, List.getElem_cons_zero, List.setIfInBounds_toArray, List.set_cons_zero, List.set_cons_succ])
  refine wpAnyH_ready (rs := [4]) (by kernel_rfl) (by simp) ?_; refine AllReadyH.cons rfl (fun K hK => ?_) AllReadyH.nil
  go_simp; (go_at_call 94; refine (greatestDivisor_any _ _ _ H0.out H1.out).mono ?_; rintro en ywr0x0 ⟨rfl, hb2⟩); have HA := Lib.hid (HA.out.below hb2); refine hK.out _ _ (below_after hb2 hHeld) (fun hHeld2 => ?_); clear hb2; (clear hHeld; rename _ => hHeld; clear hK K; have hHeld : Below w0.heap.size w0 _ := hHeld); (try simp only [Act.put, List.getElem_toArray, List.getElem_cons_succ, List.getElem_cons_zero, List.setIfInBounds_toArray, List.set_cons_zero, List.set_cons_succ])
  refine wpAnyH_ready (rs := [7]) (by kernel_rfl) (by simp) ?_; refine AllReadyH.cons rfl (fun K hK => ?_) AllReadyH.nil
  go_simp; (go_at_call 94; refine (greatestDivisor_any _ _ _ H01.out H2.out).mono ?_; rintro en ywr0x1 ⟨rfl, hb2⟩); have HA := Lib.hid (HA.out.below hb2); refine hK.out _ _ (below_after hb2 hHeld) (fun hHeld2 => ?_); clear hb2; (clear hHeld; rename _ => hHeld; clear hK K; have hHeld : Below w0.heap.size w0 _ := hHeld); (try simp only [Act.put, List.getElem_toArray, List.getElem_cons_succ, List.getElem_cons_zero, List.setIfInBounds_toArray, List.set_cons_zero, List.set_cons_succ])
  (refine wpAnyH_take (i := 8) (v := ?_) rfl (by kernel_rfl) (by kernel_rfl) (by kernel_rfl) (fun _ _ _ h => h) (Or.inl ⟨rfl, ?_⟩) (by assumption) ?_; rotate_left; focus (intro W hSw; (try dsimp only at hSw); have hxx := HXX.out _ hSw; have hxA := hxx; obtain ⟨⟨iA0, iA1, iA2⟩, _, _⟩ := hxA; go_simp; try (with_reducible rfl))); (try simp only [Act.put, List.getElem_toArray, List.getElem_cons_succ, List.getElem_cons_zero, List.setIfInBounds_toArray, List.set_cons_zero, List.set_cons_succ])
  refine wpAnyH_done (by kernel_rfl) ?_ _
  have HB := Lib.hid (HB.out.trans (hHeld.mono HB.out.size))
  clear hHeld HXX
  obtain ⟨⟨qA0, qA1, qA2⟩, ⟨fA0, fA1, fA2⟩, zA⟩ := HA.out
  go_wp2_with fail
  refine bodyPost_ret (v := .int .i64 (gcdI (gcdI a0 a1) a2)) (by simp (maxDischargeDepth := 8) [results, Tryd.results57, go_sem, *]) rfl ?_
  have hb := HB.out
  exact ⟨rfl, by (repeat' (first | (with_reducible exact Below.refl _ _) | (with_reducible refine Below.alloc ?_ ?_ _) | (with_reducible refine Below.setCell ?_ ?_ _) | (with_reducible refine Below.drew ?_) | (with_reducible refine below_drewN ?_ _) | (with_reducible assumption) | (with_reducible refine below_after (by with_reducible assumption) ?_) | go_size))⟩
theorem l01Gcd_below (a b : Int) (w : World) (ha : Tn a) (hb : Tn b) : Calls Tryd.prog 93 #[.int .i64 a, .int .i64 b] w fun e w' => e = .returned (.int .i64 (gcdI a b)) ∧ Below w.heap.size w w' :=
  (l01Gcd_any a b w ha hb).mono fun _ _ h => ⟨h.1, by rw [← h.2]; exact Below.refl _ _⟩
theorem l08Length_any (a0 a1 a2 : Int) (w : World) (h : W3 1000000 a0 a1 a2) :
    Calls Tryd.prog 55 #[.agg #[.int .i64 a0, .int .i64 a1, .int .i64 a2]] w fun e w' => e = .returned (.int .i64 (lenV a0 a1 a2)) ∧ Below w.heap.size w w' := by
  have H0 : Hid (Tn a0) := h.1.tn (by omega)
  have H1 : Hid (Tn a1) := h.2.1.tn (by omega)
  have H2 : Hid (Tn a2) := h.2.2.tn (by omega)
  have H01 : Hid (Tn (gcdI a0 a1)) := gcd_tn H0.out H1.out
  clear h
  unfold lenV
  obtain ⟨GA, hG⟩ : ∃ G, w.heap.size = G := ⟨_, rfl⟩
  have HG := Lib.hid hG
  go_enter Tryd.func55, Tryd.ntmps55
  go_upto_region 1 with fail
  obtain ⟨w0, hw0⟩ : ∃ w0, w0 = (w.alloc (.cells #[.int .i64 a0, .int .i64 a1, .int .i64 a2] 26)) := ⟨_, rfl⟩
  rw [← hw0]
  have HA : Hid (Bk3 w0 GA a0 a1 a2) := by
    have h := (bk3_new w a0 a1 a2 26).below (W' := (w.alloc (.cells #[.int .i64 a0, .int .i64 a1, .int .i64 a2] 26))) (by (repeat' (first | (with_reducible exact Below.refl _ _) | (with_reducible refine Below.alloc ?_ ?_ _) | (with_reducible refine Below.setCell ?_ ?_ _) | (with_reducible refine Below.drew ?_) | (with_reducible refine below_drewN ?_ _) | (with_reducible assumption) | (with_reducible refine below_after (by with_reducible assumption) ?_) | go_size)))
    (try simp only [World.size_alloc] at h)
    rw [hG] at h
    rw [hw0]; exact h
  have HB : Hid (Below w.heap.size w w0) := by show Below w.heap.size w w0; rw [hw0]; (repeat' (first | (with_reducible exact Below.refl _ _) | (with_reducible refine Below.alloc ?_ ?_ _) | (with_reducible refine Below.setCell ?_ ?_ _) | (with_reducible refine Below.drew ?_) | (with_reducible refine below_drewN ?_ _) | (with_reducible assumption) | (with_reducible refine below_after (by with_reducible assumption) ?_) | go_size))
  clear hw0
  have le_A : w.heap.size ≤ GA := by omega
  have HXX : Hid (∀ W, Below w0.heap.size w0 W → Bk3 W GA a0 a1 a2) := fun W hW => HA.out.below hW
  go_wp2_with fail
  refine wp_region_held_drew (S := fun W => Below w0.heap.size w0 W) (by kernel_rfl) ?_ (fun hHeld => ?_); focus ((try dsimp only); exact (Below.refl _ _).drew)
  have HA := Lib.hid (HA.out.below (Below.drew (Below.refl _ _)))
  have hHeld : Below w0.heap.size w0 _ := hHeld
  obtain ⟨wD0, hwD0⟩ : ∃ wD, w0.drew = wD := ⟨_, rfl⟩
  rw [hwD0] at hHeld HA ⊢
  clear hwD0
  (refine wpAnyH_take (i := 0) (v := ?_) rfl (by kernel_rfl) (by kernel_rfl) (by kernel_rfl) (fun _ _ _ h => h) (Or.inl ⟨rfl, ?_⟩) (by assumption) ?_; rotate_left; focus (intro W hSw; (try dsimp only at hSw); have hxx := HXX.out _ hSw; have hxA := hxx; obtain ⟨⟨iA0, iA1, iA2⟩, _, _⟩ := hxA; go_simp; try (with_reducible rfl))); (try simp only [Act.put, List.getElem_toArray, List.getElem_cons_succ, List.getElem_cons_zero, List.setIfInBounds_toArray, List.set_cons_zero, List.set_cons_succ])
  (refine wpAnyH_take (i := 1) (v := ?_) rfl (by kernel_rfl) (by kernel_rfl) (by kernel_rfl) (fun _ _ _ h => h) (Or.inl ⟨rfl, ?_⟩) (by assumption) ?_; rotate_left; focus (intro W hSw; (try dsimp only at hSw); have hxx := HXX.out _ hSw; have hxA := hxx; obtain ⟨⟨iA0, iA1, iA2⟩, _, _⟩ := hxA; go_simp; try (with_reducible rfl))); (try simp only [Act.put, List.getElem_toArray, List.getElem_cons_succ, List.getElem_cons_zero, List.setIfInBounds_toArray, List.set_cons_zero, List.set_cons_succ])
  (refine wpAnyH_take (i := 2) (v := ?_) rfl (by kernel_rfl) (by kernel_rfl) (by kernel_rfl) (fun _ _ _ h => h) (Or.inl ⟨rfl, ?_⟩) (by assumption) ?_; rotate_left; focus (intro W hSw; (try dsimp only at hSw); have hxx := HXX.out _ hSw; have hxA := hxx; obtain ⟨⟨iA0, iA1, iA2⟩, _, _⟩ := hxA; go_simp; try (with_reducible rfl))); (try simp only [Act.put, List.getElem_toArray, List.getElem_cons_succ, List.getElem_cons_zero, List.setIfInBounds_toArray, List.set_cons_zero, List.set_cons_succ])
  (refine wpAnyH_take (i := 3) (v := ?_) rfl (by kernel_rfl) (by kernel_rfl) (by kernel_rfl) (fun _ _ _ h => h) (Or.inl ⟨rfl, ?_⟩) (by assumption) ?_; rotate_left; focus (intro W hSw; (try dsimp only at hSw); have hxx := HXX.out _ hSw; have hxA := hxx; obtain ⟨⟨iA0, iA1, iA2⟩, _, _⟩ := hxA; go_simp; try (with_reducible rfl))); (try simp only [Act.put, List.getElem_toArray, List.getElem_cons_succ, List.getElem_cons_zero, List.setIfInBounds_toArray, List.set_cons_zero, List.set_cons_succ])
  (refine wpAnyH_take (i := 5) (v := ?_) rfl (by kernel_rfl) (by kernel_rfl) (by kernel_rfl) (fun _ _ _ h => h) (Or.inl ⟨rfl, ?_⟩) (by assumption) ?_; rotate_left; focus (intro W hSw; (try dsimp only at hSw); have hxx := HXX.out _ hSw; have hxA := hxx; obtain ⟨⟨iA0, iA1, iA2⟩, _, _⟩ := hxA; go_simp; try (with_reducible rfl))); (try simp only [Act.put, List.getElem_toArray, List.getElem_cons_succ, List.getElem_cons_zero, List.setIfInBounds_toArray, List.set_cons_zero, List.set_cons_succ])
  (refine wpAnyH_take (i := 6) (v := ?_) rfl (by kernel_rfl) (by kernel_rfl) (by kernel_rfl) (fun _ _ _ h => h) (Or.inl ⟨rfl, ?_⟩) (by assumption) ?_; rotate_left; focus (intro W hSw; (try dsimp only at hSw); have hxx := HXX.out _ hSw; have hxA := hxx; obtain ⟨⟨iA0, iA1, iA2⟩, _, _⟩ := hxA; go_simp; try (with_reducible rfl))); (try simp only [Act.put, List.getElem_toArray, List.getElem_cons_succ, List.getElem_cons_zero, List.setIfInBounds_toArray, List.set_cons_zero, List.set_cons_succ])
  refine wpAnyH_ready (rs := [4]) (by kernel_rfl) (by simp) ?_; refine AllReadyH.cons rfl (fun K hK => ?_) AllReadyH.nil
  go_simp; (go_at_call 93; refine (l01Gcd_below _ _ _ H0.out H1.out).mono ?_; rintro en ywr0x0 ⟨rfl, hb2⟩); have HA := Lib.hid (HA.out.below hb2); refine hK.out _ _ (below_after hb2 hHeld) (fun hHeld2 => ?_); clear hb2; (clear hHeld; rename _ => hHeld; clear hK K; have hHeld : Below w0.heap.size w0 _ := hHeld); (try simp only [Act.put, List.getElem_toArray, List.getElem_cons_succ, List.getElem_cons_zero, List.setIfInBounds_toArray, List.set_cons_zero, List.set_cons_succ])
  refine wpAnyH_ready (rs := [7]) (by kernel_rfl) (by simp) ?_; refine AllReadyH.cons rfl (fun K hK => ?_) AllReadyH.nil
  go_simp; (go_at_call 93; refine (l01Gcd_below _ _ _ H01.out H2.out).mono ?_; rintro en ywr0x1 ⟨rfl, hb2⟩); have HA := Lib.hid (HA.out.below hb2); refine hK.out _ _ (below_after hb2 hHeld) (fun hHeld2 => ?_); clear hb2; (clear hHeld; rename _ => hHeld; clear hK K; have hHeld : Below w0.heap.size w0 _ := hHeld); (try simp only [Act.put, List.getElem_toArray, List.getElem_cons_succ, List.getElem_cons_zero, List.setIfInBounds_toArray, List.set_cons_zero, List.set_cons_succ])
  (refine wpAnyH_take (i := 8) (v := ?_) rfl (by kernel_rfl) (by kernel_rfl) (by kernel_rfl) (fun _ _ _ h => h) (Or.inl ⟨rfl, ?_⟩) (by assumption) ?_; rotate_left; focus (intro W hSw; (try dsimp only at hSw); have hxx := HXX.out _ hSw; have hxA := hxx; obtain ⟨⟨iA0, iA1, iA2⟩, _, _⟩ := hxA; go_simp; try (with_reducible rfl))); (try simp only [Act.put, List.getElem_toArray, List.getElem_cons_succ, List.getElem_cons_zero, List.setIfInBounds_toArray, List.set_cons_zero, List.set_cons_succ])
  refine wpAnyH_done (by kernel_rfl) ?_ _
  have HB := Lib.hid (HB.out.trans (hHeld.mono HB.out.size))
  clear hHeld HXX
  obtain ⟨⟨qA0, qA1, qA2⟩, ⟨fA0, fA1, fA2⟩, zA⟩ := HA.out
  go_wp2_with fail
  refine bodyPost_ret (v := .int .i64 (gcdI (gcdI a0 a1) a2)) (by simp (maxDischargeDepth := 8) [results, Tryd.results55, go_sem, *]) rfl ?_
  have hb := HB.out
  exact ⟨rfl, by (repeat' (first | (with_reducible exact Below.refl _ _) | (with_reducible refine Below.alloc ?_ ?_ _) | (with_reducible refine Below.setCell ?_ ?_ _) | (with_reducible refine Below.drew ?_) | (with_reducible refine below_drewN ?_ _) | (with_reducible assumption) | (with_reducible refine below_after (by with_reducible assumption) ?_) | go_size))⟩
end Go.Proofs.YtjjblgmokmalaaaDoor
