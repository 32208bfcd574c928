/-
  The walk of laws.FnExactDistanceOfSpot: for all arguments it returns true and leaves memory as it was (own work).
-/
import Derived.Test.YtjjblgmokmalaaaDoorSpW
import Derived.Test.YtjjblgmokmalaaaDoorEr8
import Derived.Deep.DeepCutAuto
namespace Go.Proofs.YtjjblgmokmalaaaDoor
open Go.ChangeShapes Go.WideShapes Go.ChangeAt Go.RowKit
set_option linter.unusedVariables false
set_option maxRecDepth 100000
set_option linter.unusedSimpArgs false
set_option maxRecDepth 100000

set_option maxHeartbeats 3200000 in
theorem walkFnExactDistanceOfSpot_any (x0 x1 x2 x3 x4 x5 x6 x7 x8 x9 x10 x11 : Int) (V : Int) (c : Int) (eF : Addr) (eS : Addr) (w : World) (hF : EA w 3 eF) (hS : EA w 0 eS)
    (hS : ∀ w, Calls Tryd.prog 43 #[.agg #[.int .i64 x0, .int .i64 x1, .int .i64 x2], .agg #[.int .i64 x3, .int .i64 x4, .int .i64 x5], .agg #[.int .i64 x6, .int .i64 x7, .int .i64 x8], .agg #[.int .i64 x9, .int .i64 x10, .int .i64 x11]] w fun e w' => e = .returned (.tuple #[.int .i64 V, .int .i64 c]) ∧ Below w.heap.size w w')
    (hI : ∀ w, EA w 3 eF → EA w 0 eS → Calls Tryd.prog 44 #[.agg #[.int .i64 x0, .int .i64 x1, .int .i64 x2], .agg #[.int .i64 x3, .int .i64 x4, .int .i64 x5], .agg #[.int .i64 x6, .int .i64 x7, .int .i64 x8], .agg #[.int .i64 x9, .int .i64 x10, .int .i64 x11]] w fun e w' => e = .returned (.tuple #[.int .i64 V, .int .i64 c]) ∧ Below w.heap.size w w') :
    Calls Tryd.prog 13 #[.agg #[.int .i64 x0, .int .i64 x1, .int .i64 x2], .agg #[.int .i64 x3, .int .i64 x4, .int .i64 x5], .agg #[.int .i64 x6, .int .i64 x7, .int .i64 x8], .agg #[.int .i64 x9, .int .i64 x10, .int .i64 x11]] w fun e w' => e = .returned (.bool true) ∧ Below w.heap.size w w' := by
  have HS := Lib.hid hS
  have HI := Lib.hid hI
  clear hS hI
  obtain ⟨GA0, hG⟩ : ∃ G, w.heap.size = G := ⟨_, rfl⟩
  have HG := Lib.hid hG
  go_enter Tryd.func13, Tryd.ntmps13
  go_upto_region 1 with fail
  obtain ⟨w0, hw0⟩ : ∃ w0, w0 = ((((w.alloc (.cells #[.int .i64 x0, .int .i64 x1, .int .i64 x2] 22)).alloc (.cells #[.int .i64 x3, .int .i64 x4, .int .i64 x5] 22)).alloc (.cells #[.int .i64 x6, .int .i64 x7, .int .i64 x8] 22)).alloc (.cells #[.int .i64 x9, .int .i64 x10, .int .i64 x11] 22)) := ⟨_, rfl⟩
  rw [← hw0]
  have HA0 : Hid (Bk3 w0 GA0 x0 x1 x2) := by
    have h := (bk3_new w x0 x1 x2 22).below (W' := ((((w.alloc (.cells #[.int .i64 x0, .int .i64 x1, .int .i64 x2] 22)).alloc (.cells #[.int .i64 x3, .int .i64 x4, .int .i64 x5] 22)).alloc (.cells #[.int .i64 x6, .int .i64 x7, .int .i64 x8] 22)).alloc (.cells #[.int .i64 x9, .int .i64 x10, .int .i64 x11] 22))) (by (repeat' (first | (with_reducible exact Below.refl _ _) | (with_reducible refine Below.alloc ?_ ?_ _) | (with_reducible refine Below.setCell ?_ ?_ _) | (with_reducible refine Below.drew ?_) | (with_reducible refine below_drewN ?_ _) | (with_reducible assumption) | (with_reducible refine below_after (by with_reducible assumption) ?_) | go_size)))
    (try simp only [World.size_alloc] at h)
    rw [hG] at h
    rw [hw0]; exact h
  have HA1 : Hid (Bk3 w0 (GA0 + 1) x3 x4 x5) := by
    have h := (bk3_new (w.alloc (.cells #[.int .i64 x0, .int .i64 x1, .int .i64 x2] 22)) x3 x4 x5 22).below (W' := ((((w.alloc (.cells #[.int .i64 x0, .int .i64 x1, .int .i64 x2] 22)).alloc (.cells #[.int .i64 x3, .int .i64 x4, .int .i64 x5] 22)).alloc (.cells #[.int .i64 x6, .int .i64 x7, .int .i64 x8] 22)).alloc (.cells #[.int .i64 x9, .int .i64 x10, .int .i64 x11] 22))) (by (repeat' (first | (with_reducible exact Below.refl _ _) | (with_reducible refine Below.alloc ?_ ?_ _) | (with_reducible refine Below.setCell ?_ ?_ _) | (with_reducible refine Below.drew ?_) | (with_reducible refine below_drewN ?_ _) | (with_reducible assumption) | (with_reducible refine below_after (by with_reducible assumption) ?_) | go_size)))
    (try simp only [World.size_alloc] at h)
    rw [hG] at h
    rw [hw0]; exact h
  have HA2 : Hid (Bk3 w0 (GA0 + 1 + 1) x6 x7 x8) := by
    have h := (bk3_new ((w.alloc (.cells #[.int .i64 x0, .int .i64 x1, .int .i64 x2] 22)).alloc (.cells #[.int .i64 x3, .int .i64 x4, .int .i64 x5] 22)) x6 x7 x8 22).below (W' := ((((w.alloc (.cells #[.int .i64 x0, .int .i64 x1, .int .i64 x2] 22)).alloc (.cells #[.int .i64 x3, .int .i64 x4, .int .i64 x5] 22)).alloc (.cells #[.int .i64 x6, .int .i64 x7, .int .i64 x8] 22)).alloc (.cells #[.int .i64 x9, .int .i64 x10, .int .i64 x11] 22))) (by (repeat' (first | (with_reducible exact Below.refl _ _) | (with_reducible refine Below.alloc ?_ ?_ _) | (with_reducible refine Below.setCell ?_ ?_ _) | (with_reducible refine Below.drew ?_) | (with_reducible refine below_drewN ?_ _) | (with_reducible assumption) | (with_reducible refine below_after (by with_reducible assumption) ?_) | go_size)))
    (try simp only [World.size_alloc] at h)
    rw [hG] at h
    rw [hw0]; exact h
  have HA3 : Hid (Bk3 w0 (GA0 + 1 + 1 + 1) x9 x10 x11) := by
    have h := (bk3_new (((w.alloc (.cells #[.int .i64 x0, .int .i64 x1, .int .i64 x2] 22)).alloc (.cells #[.int .i64 x3, .int .i64 x4, .int .i64 x5] 22)).alloc (.cells #[.int .i64 x6, .int .i64 x7, .int .i64 x8] 22)) x9 x10 x11 22).below (W' := ((((w.alloc (.cells #[.int .i64 x0, .int .i64 x1, .int .i64 x2] 22)).alloc (.cells #[.int .i64 x3, .int .i64 x4, .int .i64 x5] 22)).alloc (.cells #[.int .i64 x6, .int .i64 x7, .int .i64 x8] 22)).alloc (.cells #[.int .i64 x9, .int .i64 x10, .int .i64 x11] 22))) (by (repeat' (first | (with_reducible exact Below.refl _ _) | (with_reducible refine Below.alloc ?_ ?_ _) | (with_reducible refine Below.setCell ?_ ?_ _) | (with_reducible refine Below.drew ?_) | (with_reducible refine below_drewN ?_ _) | (with_reducible assumption) | (with_reducible refine below_after (by with_reducible assumption) ?_) | go_size)))
    (try simp only [World.size_alloc] at h)
    rw [hG] at h
    rw [hw0]; exact h
  have HB : Hid (Below w.heap.size w w0) := by show Below w.heap.size w w0; rw [hw0]; (repeat' (first | (with_reducible exact Below.refl _ _) | (with_reducible refine Below.alloc ?_ ?_ _) | (with_reducible refine Below.setCell ?_ ?_ _) | (with_reducible refine Below.drew ?_) | (with_reducible refine below_drewN ?_ _) | (with_reducible assumption) | (with_reducible refine below_after (by with_reducible assumption) ?_) | go_size))
  clear hw0
  obtain ⟨GA3, hGA3⟩ : ∃ g, GA0 + 1 + 1 + 1 = g := ⟨_, rfl⟩
  rw [hGA3] at HA3 ⊢
  obtain ⟨GA2, hGA2⟩ : ∃ g, GA0 + 1 + 1 = g := ⟨_, rfl⟩
  rw [hGA2] at HA2 ⊢
  obtain ⟨GA1, hGA1⟩ : ∃ g, GA0 + 1 = g := ⟨_, rfl⟩
  rw [hGA1] at HA1 ⊢
  have le_A0 : w.heap.size ≤ GA0 := by omega
  have le_A1 : w.heap.size ≤ GA1 := by omega
  have ne_A1_A0 : GA1 ≠ GA0 := by omega
  have ne_A0_A1 : GA0 ≠ GA1 := by omega
  have le_A2 : w.heap.size ≤ GA2 := by omega
  have ne_A2_A0 : GA2 ≠ GA0 := by omega
  have ne_A0_A2 : GA0 ≠ GA2 := by omega
  have ne_A2_A1 : GA2 ≠ GA1 := by omega
  have ne_A1_A2 : GA1 ≠ GA2 := by omega
  have le_A3 : w.heap.size ≤ GA3 := by omega
  have ne_A3_A0 : GA3 ≠ GA0 := by omega
  have ne_A0_A3 : GA0 ≠ GA3 := by omega
  have ne_A3_A1 : GA3 ≠ GA1 := by omega
  have ne_A1_A3 : GA1 ≠ GA3 := by omega
  have ne_A3_A2 : GA3 ≠ GA2 := by omega
  have ne_A2_A3 : GA2 ≠ GA3 := by omega
  clear hGA1 hGA2 hGA3
  have HEF := Lib.hid hF
  have HES := Lib.hid hS
  clear hF hS
  obtain ⟨⟨qA00, qA01, qA02⟩, ⟨fA00, fA01, fA02⟩, zA0⟩ := HA0.out
  obtain ⟨⟨qA10, qA11, qA12⟩, ⟨fA10, fA11, fA12⟩, zA1⟩ := HA1.out
  obtain ⟨⟨qA20, qA21, qA22⟩, ⟨fA20, fA21, fA22⟩, zA2⟩ := HA2.out
  obtain ⟨⟨qA30, qA31, qA32⟩, ⟨fA30, fA31, fA32⟩, zA3⟩ := HA3.out
  go_upto_region 1 with fail
  clear qA00 fA00 qA01 fA01 qA02 fA02 zA0 qA10 fA10 qA11 fA11 qA12 fA12 zA1 qA20 fA20 qA21 fA21 qA22 fA22 zA2 qA30 fA30 qA31 fA31 qA32 fA32 zA3
  have HXX : Hid (∀ W, Below w0.heap.size w0 W → Bk3 W GA0 x0 x1 x2 ∧ Bk3 W GA1 x3 x4 x5 ∧ Bk3 W GA2 x6 x7 x8 ∧ Bk3 W GA3 x9 x10 x11) := fun W hW => ⟨HA0.out.below hW, HA1.out.below hW, HA2.out.below hW, HA3.out.below hW⟩
  go_wp2_with fail
  refine wp_region_held_drew (S := fun W => Below w0.heap.size w0 W) (by kernel_rfl) ?_ (fun hHeld => ?_); focus ((try dsimp only); exact (Below.refl _ _).drew)
  have HA0 := Lib.hid (HA0.out.below (Below.drew (Below.refl _ _)))
  have HA1 := Lib.hid (HA1.out.below (Below.drew (Below.refl _ _)))
  have HA2 := Lib.hid (HA2.out.below (Below.drew (Below.refl _ _)))
  have HA3 := Lib.hid (HA3.out.below (Below.drew (Below.refl _ _)))
  have hHeld : Below w0.heap.size w0 _ := hHeld
  obtain ⟨wD0, hwD0⟩ : ∃ wD, w0.drew = wD := ⟨_, rfl⟩
  rw [hwD0] at hHeld HA0 HA1 HA2 HA3 ⊢
  clear hwD0
  (refine wpAnyH_take (i := 0) (v := ?_) rfl (by kernel_rfl) (by kernel_rfl) (by kernel_rfl) (fun _ _ _ h => h) (Or.inl ⟨rfl, ?_⟩) (by assumption) ?_; rotate_left; focus (intro W hSw; (try dsimp only at hSw); have hxx := HXX.out _ hSw; obtain ⟨hxA0, hxA1, hxA2, hxA3⟩ := hxx; obtain ⟨⟨iA00, iA01, iA02⟩, _, _⟩ := hxA0; obtain ⟨⟨iA10, iA11, iA12⟩, _, _⟩ := hxA1; obtain ⟨⟨iA20, iA21, iA22⟩, _, _⟩ := hxA2; obtain ⟨⟨iA30, iA31, iA32⟩, _, _⟩ := hxA3; go_simp; try (with_reducible rfl))); (try simp only [Act.put, List.getElem_toArray, List.getElem_cons_succ, List.getElem_cons_zero, List.setIfInBounds_toArray, List.set_cons_zero, List.set_cons_succ])
  (refine wpAnyH_take (i := 2) (v := ?_) rfl (by kernel_rfl) (by kernel_rfl) (by kernel_rfl) (fun _ _ _ h => h) (Or.inl ⟨rfl, ?_⟩) (by assumption) ?_; rotate_left; focus (intro W hSw; (try dsimp only at hSw); have hxx := HXX.out _ hSw; obtain ⟨hxA0, hxA1, hxA2, hxA3⟩ := hxx; obtain ⟨⟨iA00, iA01, iA02⟩, _, _⟩ := hxA0; obtain ⟨⟨iA10, iA11, iA12⟩, _, _⟩ := hxA1; obtain ⟨⟨iA20, iA21, iA22⟩, _, _⟩ := hxA2; obtain ⟨⟨iA30, iA31, iA32⟩, _, _⟩ := hxA3; go_simp; try (with_reducible rfl))); (try simp only [Act.put, List.getElem_toArray, List.getElem_cons_succ, List.getElem_cons_zero, List.setIfInBounds_toArray, List.set_cons_zero, List.set_cons_succ])
  (refine wpAnyH_take (i := 4) (v := ?_) rfl (by kernel_rfl) (by kernel_rfl) (by kernel_rfl) (fun _ _ _ h => h) (Or.inl ⟨rfl, ?_⟩) (by assumption) ?_; rotate_left; focus (intro W hSw; (try dsimp only at hSw); have hxx := HXX.out _ hSw; obtain ⟨hxA0, hxA1, hxA2, hxA3⟩ := hxx; obtain ⟨⟨iA00, iA01, iA02⟩, _, _⟩ := hxA0; obtain ⟨⟨iA10, iA11, iA12⟩, _, _⟩ := hxA1; obtain ⟨⟨iA20, iA21, iA22⟩, _, _⟩ := hxA2; obtain ⟨⟨iA30, iA31, iA32⟩, _, _⟩ := hxA3; go_simp; try (with_reducible rfl))); (try simp only [Act.put, List.getElem_toArray, List.getElem_cons_succ, List.getElem_cons_zero, List.setIfInBounds_toArray, List.set_cons_zero, List.set_cons_succ])
  (refine wpAnyH_take (i := 6) (v := ?_) rfl (by kernel_rfl) (by kernel_rfl) (by kernel_rfl) (fun _ _ _ h => h) (Or.inl ⟨rfl, ?_⟩) (by assumption) ?_; rotate_left; focus (intro W hSw; (try dsimp only at hSw); have hxx := HXX.out _ hSw; obtain ⟨hxA0, hxA1, hxA2, hxA3⟩ := hxx; obtain ⟨⟨iA00, iA01, iA02⟩, _, _⟩ := hxA0; obtain ⟨⟨iA10, iA11, iA12⟩, _, _⟩ := hxA1; obtain ⟨⟨iA20, iA21, iA22⟩, _, _⟩ := hxA2; obtain ⟨⟨iA30, iA31, iA32⟩, _, _⟩ := hxA3; go_simp; try (with_reducible rfl))); (try simp only [Act.put, List.getElem_toArray, List.getElem_cons_succ, List.getElem_cons_zero, List.setIfInBounds_toArray, List.set_cons_zero, List.set_cons_succ])
  refine wpAnyH_ready (rs := [1]) (by kernel_rfl) (by simp) ?_; refine AllReadyH.cons rfl (fun K hK => ?_) AllReadyH.nil
  go_simp; (go_at_call 15; refine (toSpot_any _ _ _ _).mono ?_; rintro en ywr0x0 ⟨rfl, hb2⟩); have HA0 := Lib.hid (HA0.out.below hb2); have HA1 := Lib.hid (HA1.out.below hb2); have HA2 := Lib.hid (HA2.out.below hb2); have HA3 := Lib.hid (HA3.out.below hb2); refine hK.out _ _ (below_after hb2 hHeld) (fun hHeld2 => ?_); clear hb2; (clear hHeld; rename _ => hHeld; clear hK K; have hHeld : Below w0.heap.size w0 _ := hHeld); (try simp only [Act.put, List.getElem_toArray, List.getElem_cons_succ, List.getElem_cons_zero, List.setIfInBounds_toArray, List.set_cons_zero, List.set_cons_succ])
  refine wpAnyH_ready (rs := [3]) (by kernel_rfl) (by simp) ?_; refine AllReadyH.cons rfl (fun K hK => ?_) AllReadyH.nil
  go_simp; (go_at_call 15; refine (toSpot_any _ _ _ _).mono ?_; rintro en ywr0x1 ⟨rfl, hb2⟩); have HA0 := Lib.hid (HA0.out.below hb2); have HA1 := Lib.hid (HA1.out.below hb2); have HA2 := Lib.hid (HA2.out.below hb2); have HA3 := Lib.hid (HA3.out.below hb2); refine hK.out _ _ (below_after hb2 hHeld) (fun hHeld2 => ?_); clear hb2; (clear hHeld; rename _ => hHeld; clear hK K; have hHeld : Below w0.heap.size w0 _ := hHeld); (try simp only [Act.put, List.getElem_toArray, List.getElem_cons_succ, List.getElem_cons_zero, List.setIfInBounds_toArray, List.set_cons_zero, List.set_cons_succ])
  refine wpAnyH_ready (rs := [5]) (by kernel_rfl) (by simp) ?_; refine AllReadyH.cons rfl (fun K hK => ?_) AllReadyH.nil
  go_simp; (go_at_call 15; refine (toSpot_any _ _ _ _).mono ?_; rintro en ywr0x2 ⟨rfl, hb2⟩); have HA0 := Lib.hid (HA0.out.below hb2); have HA1 := Lib.hid (HA1.out.below hb2); have HA2 := Lib.hid (HA2.out.below hb2); have HA3 := Lib.hid (HA3.out.below hb2); refine hK.out _ _ (below_after hb2 hHeld) (fun hHeld2 => ?_); clear hb2; (clear hHeld; rename _ => hHeld; clear hK K; have hHeld : Below w0.heap.size w0 _ := hHeld); (try simp only [Act.put, List.getElem_toArray, List.getElem_cons_succ, List.getElem_cons_zero, List.setIfInBounds_toArray, List.set_cons_zero, List.set_cons_succ])
  refine wpAnyH_ready (rs := [7]) (by kernel_rfl) (by simp) ?_; refine AllReadyH.cons rfl (fun K hK => ?_) AllReadyH.nil
  go_simp; (go_at_call 15; refine (toSpot_any _ _ _ _).mono ?_; rintro en ywr0x3 ⟨rfl, hb2⟩); have HA0 := Lib.hid (HA0.out.below hb2); have HA1 := Lib.hid (HA1.out.below hb2); have HA2 := Lib.hid (HA2.out.below hb2); have HA3 := Lib.hid (HA3.out.below hb2); refine hK.out _ _ (below_after hb2 hHeld) (fun hHeld2 => ?_); clear hb2; (clear hHeld; rename _ => hHeld; clear hK K; have hHeld : Below w0.heap.size w0 _ := hHeld); (try simp only [Act.put, List.getElem_toArray, List.getElem_cons_succ, List.getElem_cons_zero, List.setIfInBounds_toArray, List.set_cons_zero, List.set_cons_succ])
  refine wpAnyH_ready (rs := [8]) (by kernel_rfl) (by simp) ?_; refine AllReadyH.cons rfl (fun K hK => ?_) AllReadyH.nil
  go_simp; (go_at_call 43; refine (HS.out _).mono ?_; rintro en ywr0x4 ⟨rfl, hb2⟩); have HA0 := Lib.hid (HA0.out.below hb2); have HA1 := Lib.hid (HA1.out.below hb2); have HA2 := Lib.hid (HA2.out.below hb2); have HA3 := Lib.hid (HA3.out.below hb2); refine hK.out _ _ (below_after hb2 hHeld) (fun hHeld2 => ?_); clear hb2; (clear hHeld; rename _ => hHeld; clear hK K; have hHeld : Below w0.heap.size w0 _ := hHeld); (try simp only [Act.put, List.getElem_toArray, List.getElem_cons_succ, List.getElem_cons_zero, List.setIfInBounds_toArray, List.set_cons_zero, List.set_cons_succ])
  (refine wpAnyH_take (i := 9) (v := ?_) rfl (by kernel_rfl) (by kernel_rfl) (by kernel_rfl) (fun _ _ _ h => h) (Or.inl ⟨rfl, ?_⟩) (by assumption) ?_; rotate_left; focus (intro W hSw; (try dsimp only at hSw); have hxx := HXX.out _ hSw; obtain ⟨hxA0, hxA1, hxA2, hxA3⟩ := hxx; obtain ⟨⟨iA00, iA01, iA02⟩, _, _⟩ := hxA0; obtain ⟨⟨iA10, iA11, iA12⟩, _, _⟩ := hxA1; obtain ⟨⟨iA20, iA21, iA22⟩, _, _⟩ := hxA2; obtain ⟨⟨iA30, iA31, iA32⟩, _, _⟩ := hxA3; go_simp; try (with_reducible rfl))); (try simp only [Act.put, List.getElem_toArray, List.getElem_cons_succ, List.getElem_cons_zero, List.setIfInBounds_toArray, List.set_cons_zero, List.set_cons_succ])
  (refine wpAnyH_take (i := 10) (v := ?_) rfl (by kernel_rfl) (by kernel_rfl) (by kernel_rfl) (fun _ _ _ h => h) (Or.inl ⟨rfl, ?_⟩) (by assumption) ?_; rotate_left; focus (intro W hSw; (try dsimp only at hSw); have hxx := HXX.out _ hSw; obtain ⟨hxA0, hxA1, hxA2, hxA3⟩ := hxx; obtain ⟨⟨iA00, iA01, iA02⟩, _, _⟩ := hxA0; obtain ⟨⟨iA10, iA11, iA12⟩, _, _⟩ := hxA1; obtain ⟨⟨iA20, iA21, iA22⟩, _, _⟩ := hxA2; obtain ⟨⟨iA30, iA31, iA32⟩, _, _⟩ := hxA3; go_simp; try (with_reducible rfl))); (try simp only [Act.put, List.getElem_toArray, List.getElem_cons_succ, List.getElem_cons_zero, List.setIfInBounds_toArray, List.set_cons_zero, List.set_cons_succ])
  (refine wpAnyH_take (i := 11) (v := ?_) rfl (by kernel_rfl) (by kernel_rfl) (by kernel_rfl) (fun _ _ _ h => h) (Or.inl ⟨rfl, ?_⟩) (by assumption) ?_; rotate_left; focus (intro W hSw; (try dsimp only at hSw); have hxx := HXX.out _ hSw; obtain ⟨hxA0, hxA1, hxA2, hxA3⟩ := hxx; obtain ⟨⟨iA00, iA01, iA02⟩, _, _⟩ := hxA0; obtain ⟨⟨iA10, iA11, iA12⟩, _, _⟩ := hxA1; obtain ⟨⟨iA20, iA21, iA22⟩, _, _⟩ := hxA2; obtain ⟨⟨iA30, iA31, iA32⟩, _, _⟩ := hxA3; go_simp; try (with_reducible rfl))); (try simp only [Act.put, List.getElem_toArray, List.getElem_cons_succ, List.getElem_cons_zero, List.setIfInBounds_toArray, List.set_cons_zero, List.set_cons_succ])
  (refine wpAnyH_take (i := 12) (v := ?_) rfl (by kernel_rfl) (by kernel_rfl) (by kernel_rfl) (fun _ _ _ h => h) (Or.inl ⟨rfl, ?_⟩) (by assumption) ?_; rotate_left; focus (intro W hSw; (try dsimp only at hSw); have hxx := HXX.out _ hSw; obtain ⟨hxA0, hxA1, hxA2, hxA3⟩ := hxx; obtain ⟨⟨iA00, iA01, iA02⟩, _, _⟩ := hxA0; obtain ⟨⟨iA10, iA11, iA12⟩, _, _⟩ := hxA1; obtain ⟨⟨iA20, iA21, iA22⟩, _, _⟩ := hxA2; obtain ⟨⟨iA30, iA31, iA32⟩, _, _⟩ := hxA3; go_simp; try (with_reducible rfl))); (try simp only [Act.put, List.getElem_toArray, List.getElem_cons_succ, List.getElem_cons_zero, List.setIfInBounds_toArray, List.set_cons_zero, List.set_cons_succ])
  (refine wpAnyH_take (i := 13) (v := ?_) rfl (by kernel_rfl) (by kernel_rfl) (by kernel_rfl) (fun _ _ _ h => h) (Or.inl ⟨rfl, ?_⟩) (by assumption) ?_; rotate_left; focus (intro W hSw; (try dsimp only at hSw); have hxx := HXX.out _ hSw; obtain ⟨hxA0, hxA1, hxA2, hxA3⟩ := hxx; obtain ⟨⟨iA00, iA01, iA02⟩, _, _⟩ := hxA0; obtain ⟨⟨iA10, iA11, iA12⟩, _, _⟩ := hxA1; obtain ⟨⟨iA20, iA21, iA22⟩, _, _⟩ := hxA2; obtain ⟨⟨iA30, iA31, iA32⟩, _, _⟩ := hxA3; go_simp; try (with_reducible rfl))); (try simp only [Act.put, List.getElem_toArray, List.getElem_cons_succ, List.getElem_cons_zero, List.setIfInBounds_toArray, List.set_cons_zero, List.set_cons_succ])
  refine wpAnyH_done (by kernel_rfl) ?_ _
  have HB := Lib.hid (HB.out.trans (hHeld.mono HB.out.size))
  clear hHeld HXX
  obtain ⟨⟨qA00, qA01, qA02⟩, ⟨fA00, fA01, fA02⟩, zA0⟩ := HA0.out
  obtain ⟨⟨qA10, qA11, qA12⟩, ⟨fA10, fA11, fA12⟩, zA1⟩ := HA1.out
  obtain ⟨⟨qA20, qA21, qA22⟩, ⟨fA20, fA21, fA22⟩, zA2⟩ := HA2.out
  obtain ⟨⟨qA30, qA31, qA32⟩, ⟨fA30, fA31, fA32⟩, zA3⟩ := HA3.out
  go_upto_region 2 with fail
  clear qA00 fA00 qA01 fA01 qA02 fA02 zA0 qA10 fA10 qA11 fA11 qA12 fA12 zA1 qA20 fA20 qA21 fA21 qA22 fA22 zA2 qA30 fA30 qA31 fA31 qA32 fA32 zA3
  have HXX : Hid (∀ W, Below ywr0x4.heap.size ywr0x4 W → Bk3 W GA0 x0 x1 x2 ∧ Bk3 W GA1 x3 x4 x5 ∧ Bk3 W GA2 x6 x7 x8 ∧ Bk3 W GA3 x9 x10 x11) := fun W hW => ⟨HA0.out.below hW, HA1.out.below hW, HA2.out.below hW, HA3.out.below hW⟩
  go_wp2_with fail
  refine wp_region_held_drew (S := fun W => Below ywr0x4.heap.size ywr0x4 W) (by kernel_rfl) ?_ (fun hHeld => ?_); focus ((try dsimp only); exact (Below.refl _ _).drew)
  have HA0 := Lib.hid (HA0.out.below (Below.drew (Below.refl _ _)))
  have HA1 := Lib.hid (HA1.out.below (Below.drew (Below.refl _ _)))
  have HA2 := Lib.hid (HA2.out.below (Below.drew (Below.refl _ _)))
  have HA3 := Lib.hid (HA3.out.below (Below.drew (Below.refl _ _)))
  have hHeld : Below ywr0x4.heap.size ywr0x4 _ := hHeld
  obtain ⟨wD50, hwD50⟩ : ∃ wD, ywr0x4.drew = wD := ⟨_, rfl⟩
  rw [hwD50] at hHeld HA0 HA1 HA2 HA3 ⊢
  clear hwD50
  (refine wpAnyH_take (i := 0) (v := ?_) rfl (by kernel_rfl) (by kernel_rfl) (by kernel_rfl) (fun _ _ _ h => h) (Or.inl ⟨rfl, ?_⟩) (by assumption) ?_; rotate_left; focus (intro W hSw; (try dsimp only at hSw); have hxx := HXX.out _ hSw; obtain ⟨hxA0, hxA1, hxA2, hxA3⟩ := hxx; obtain ⟨⟨iA00, iA01, iA02⟩, _, _⟩ := hxA0; obtain ⟨⟨iA10, iA11, iA12⟩, _, _⟩ := hxA1; obtain ⟨⟨iA20, iA21, iA22⟩, _, _⟩ := hxA2; obtain ⟨⟨iA30, iA31, iA32⟩, _, _⟩ := hxA3; go_simp; try (with_reducible rfl))); (try simp only [Act.put, List.getElem_toArray, List.getElem_cons_succ, List.getElem_cons_zero, List.setIfInBounds_toArray, List.set_cons_zero, List.set_cons_succ])
  (refine wpAnyH_take (i := 2) (v := ?_) rfl (by kernel_rfl) (by kernel_rfl) (by kernel_rfl) (fun _ _ _ h => h) (Or.inl ⟨rfl, ?_⟩) (by assumption) ?_; rotate_left; focus (intro W hSw; (try dsimp only at hSw); have hxx := HXX.out _ hSw; obtain ⟨hxA0, hxA1, hxA2, hxA3⟩ := hxx; obtain ⟨⟨iA00, iA01, iA02⟩, _, _⟩ := hxA0; obtain ⟨⟨iA10, iA11, iA12⟩, _, _⟩ := hxA1; obtain ⟨⟨iA20, iA21, iA22⟩, _, _⟩ := hxA2; obtain ⟨⟨iA30, iA31, iA32⟩, _, _⟩ := hxA3; go_simp; try (with_reducible rfl))); (try simp only [Act.put, List.getElem_toArray, List.getElem_cons_succ, List.getElem_cons_zero, List.setIfInBounds_toArray, List.set_cons_zero, List.set_cons_succ])
  (refine wpAnyH_take (i := 4) (v := ?_) rfl (by kernel_rfl) (by kernel_rfl) (by kernel_rfl) (fun _ _ _ h => h) (Or.inl ⟨rfl, ?_⟩) (by assumption) ?_; rotate_left; focus (intro W hSw; (try dsimp only at hSw); have hxx := HXX.out _ hSw; obtain ⟨hxA0, hxA1, hxA2, hxA3⟩ := hxx; obtain ⟨⟨iA00, iA01, iA02⟩, _, _⟩ := hxA0; obtain ⟨⟨iA10, iA11, iA12⟩, _, _⟩ := hxA1; obtain ⟨⟨iA20, iA21, iA22⟩, _, _⟩ := hxA2; obtain ⟨⟨iA30, iA31, iA32⟩, _, _⟩ := hxA3; go_simp; try (with_reducible rfl))); (try simp only [Act.put, List.getElem_toArray, List.getElem_cons_succ, List.getElem_cons_zero, List.setIfInBounds_toArray, List.set_cons_zero, List.set_cons_succ])
  (refine wpAnyH_take (i := 6) (v := ?_) rfl (by kernel_rfl) (by kernel_rfl) (by kernel_rfl) (fun _ _ _ h => h) (Or.inl ⟨rfl, ?_⟩) (by assumption) ?_; rotate_left; focus (intro W hSw; (try dsimp only at hSw); have hxx := HXX.out _ hSw; obtain ⟨hxA0, hxA1, hxA2, hxA3⟩ := hxx; obtain ⟨⟨iA00, iA01, iA02⟩, _, _⟩ := hxA0; obtain ⟨⟨iA10, iA11, iA12⟩, _, _⟩ := hxA1; obtain ⟨⟨iA20, iA21, iA22⟩, _, _⟩ := hxA2; obtain ⟨⟨iA30, iA31, iA32⟩, _, _⟩ := hxA3; go_simp; try (with_reducible rfl))); (try simp only [Act.put, List.getElem_toArray, List.getElem_cons_succ, List.getElem_cons_zero, List.setIfInBounds_toArray, List.set_cons_zero, List.set_cons_succ])
  refine wpAnyH_ready (rs := [1]) (by kernel_rfl) (by simp) ?_; refine AllReadyH.cons rfl (fun K hK => ?_) AllReadyH.nil
  go_simp; (go_at_call 15; refine (toSpot_any _ _ _ _).mono ?_; rintro en ywr50x0 ⟨rfl, hb2⟩); have HA0 := Lib.hid (HA0.out.below hb2); have HA1 := Lib.hid (HA1.out.below hb2); have HA2 := Lib.hid (HA2.out.below hb2); have HA3 := Lib.hid (HA3.out.below hb2); refine hK.out _ _ (below_after hb2 hHeld) (fun hHeld2 => ?_); clear hb2; (clear hHeld; rename _ => hHeld; clear hK K; have hHeld : Below ywr0x4.heap.size ywr0x4 _ := hHeld); (try simp only [Act.put, List.getElem_toArray, List.getElem_cons_succ, List.getElem_cons_zero, List.setIfInBounds_toArray, List.set_cons_zero, List.set_cons_succ])
  refine wpAnyH_ready (rs := [3]) (by kernel_rfl) (by simp) ?_; refine AllReadyH.cons rfl (fun K hK => ?_) AllReadyH.nil
  go_simp; (go_at_call 15; refine (toSpot_any _ _ _ _).mono ?_; rintro en ywr50x1 ⟨rfl, hb2⟩); have HA0 := Lib.hid (HA0.out.below hb2); have HA1 := Lib.hid (HA1.out.below hb2); have HA2 := Lib.hid (HA2.out.below hb2); have HA3 := Lib.hid (HA3.out.below hb2); refine hK.out _ _ (below_after hb2 hHeld) (fun hHeld2 => ?_); clear hb2; (clear hHeld; rename _ => hHeld; clear hK K; have hHeld : Below ywr0x4.heap.size ywr0x4 _ := hHeld); (try simp only [Act.put, List.getElem_toArray, List.getElem_cons_succ, List.getElem_cons_zero, List.setIfInBounds_toArray, List.set_cons_zero, List.set_cons_succ])
  refine wpAnyH_ready (rs := [5]) (by kernel_rfl) (by simp) ?_; refine AllReadyH.cons rfl (fun K hK => ?_) AllReadyH.nil
  go_simp; (go_at_call 15; refine (toSpot_any _ _ _ _).mono ?_; rintro en ywr50x2 ⟨rfl, hb2⟩); have HA0 := Lib.hid (HA0.out.below hb2); have HA1 := Lib.hid (HA1.out.below hb2); have HA2 := Lib.hid (HA2.out.below hb2); have HA3 := Lib.hid (HA3.out.below hb2); refine hK.out _ _ (below_after hb2 hHeld) (fun hHeld2 => ?_); clear hb2; (clear hHeld; rename _ => hHeld; clear hK K; have hHeld : Below ywr0x4.heap.size ywr0x4 _ := hHeld); (try simp only [Act.put, List.getElem_toArray, List.getElem_cons_succ, List.getElem_cons_zero, List.setIfInBounds_toArray, List.set_cons_zero, List.set_cons_succ])
  refine wpAnyH_ready (rs := [7]) (by kernel_rfl) (by simp) ?_; refine AllReadyH.cons rfl (fun K hK => ?_) AllReadyH.nil
  go_simp; (go_at_call 15; refine (toSpot_any _ _ _ _).mono ?_; rintro en ywr50x3 ⟨rfl, hb2⟩); have HA0 := Lib.hid (HA0.out.below hb2); have HA1 := Lib.hid (HA1.out.below hb2); have HA2 := Lib.hid (HA2.out.below hb2); have HA3 := Lib.hid (HA3.out.below hb2); refine hK.out _ _ (below_after hb2 hHeld) (fun hHeld2 => ?_); clear hb2; (clear hHeld; rename _ => hHeld; clear hK K; have hHeld : Below ywr0x4.heap.size ywr0x4 _ := hHeld); (try simp only [Act.put, List.getElem_toArray, List.getElem_cons_succ, List.getElem_cons_zero, List.setIfInBounds_toArray, List.set_cons_zero, List.set_cons_succ])
  refine wpAnyH_ready (rs := [8]) (by kernel_rfl) (by simp) ?_; refine AllReadyH.cons rfl (fun K hK => ?_) AllReadyH.nil
  go_simp; (go_at_call 44; refine (HI.out _ (HEF.out.below (below_after hHeld HB.out)) (HES.out.below (below_after hHeld HB.out))).mono ?_; rintro en ywr50x4 ⟨rfl, hb2⟩); have HA0 := Lib.hid (HA0.out.below hb2); have HA1 := Lib.hid (HA1.out.below hb2); have HA2 := Lib.hid (HA2.out.below hb2); have HA3 := Lib.hid (HA3.out.below hb2); refine hK.out _ _ (below_after hb2 hHeld) (fun hHeld2 => ?_); clear hb2; (clear hHeld; rename _ => hHeld; clear hK K; have hHeld : Below ywr0x4.heap.size ywr0x4 _ := hHeld); (try simp only [Act.put, List.getElem_toArray, List.getElem_cons_succ, List.getElem_cons_zero, List.setIfInBounds_toArray, List.set_cons_zero, List.set_cons_succ])
  (refine wpAnyH_take (i := 9) (v := ?_) rfl (by kernel_rfl) (by kernel_rfl) (by kernel_rfl) (fun _ _ _ h => h) (Or.inl ⟨rfl, ?_⟩) (by assumption) ?_; rotate_left; focus (intro W hSw; (try dsimp only at hSw); have hxx := HXX.out _ hSw; obtain ⟨hxA0, hxA1, hxA2, hxA3⟩ := hxx; obtain ⟨⟨iA00, iA01, iA02⟩, _, _⟩ := hxA0; obtain ⟨⟨iA10, iA11, iA12⟩, _, _⟩ := hxA1; obtain ⟨⟨iA20, iA21, iA22⟩, _, _⟩ := hxA2; obtain ⟨⟨iA30, iA31, iA32⟩, _, _⟩ := hxA3; go_simp; try (with_reducible rfl))); (try simp only [Act.put, List.getElem_toArray, List.getElem_cons_succ, List.getElem_cons_zero, List.setIfInBounds_toArray, List.set_cons_zero, List.set_cons_succ])
  (refine wpAnyH_take (i := 10) (v := ?_) rfl (by kernel_rfl) (by kernel_rfl) (by kernel_rfl) (fun _ _ _ h => h) (Or.inl ⟨rfl, ?_⟩) (by assumption) ?_; rotate_left; focus (intro W hSw; (try dsimp only at hSw); have hxx := HXX.out _ hSw; obtain ⟨hxA0, hxA1, hxA2, hxA3⟩ := hxx; obtain ⟨⟨iA00, iA01, iA02⟩, _, _⟩ := hxA0; obtain ⟨⟨iA10, iA11, iA12⟩, _, _⟩ := hxA1; obtain ⟨⟨iA20, iA21, iA22⟩, _, _⟩ := hxA2; obtain ⟨⟨iA30, iA31, iA32⟩, _, _⟩ := hxA3; go_simp; try (with_reducible rfl))); (try simp only [Act.put, List.getElem_toArray, List.getElem_cons_succ, List.getElem_cons_zero, List.setIfInBounds_toArray, List.set_cons_zero, List.set_cons_succ])
  (refine wpAnyH_take (i := 11) (v := ?_) rfl (by kernel_rfl) (by kernel_rfl) (by kernel_rfl) (fun _ _ _ h => h) (Or.inl ⟨rfl, ?_⟩) (by assumption) ?_; rotate_left; focus (intro W hSw; (try dsimp only at hSw); have hxx := HXX.out _ hSw; obtain ⟨hxA0, hxA1, hxA2, hxA3⟩ := hxx; obtain ⟨⟨iA00, iA01, iA02⟩, _, _⟩ := hxA0; obtain ⟨⟨iA10, iA11, iA12⟩, _, _⟩ := hxA1; obtain ⟨⟨iA20, iA21, iA22⟩, _, _⟩ := hxA2; obtain ⟨⟨iA30, iA31, iA32⟩, _, _⟩ := hxA3; go_simp; try (with_reducible rfl))); (try simp only [Act.put, List.getElem_toArray, List.getElem_cons_succ, List.getElem_cons_zero, List.setIfInBounds_toArray, List.set_cons_zero, List.set_cons_succ])
  (refine wpAnyH_take (i := 12) (v := ?_) rfl (by kernel_rfl) (by kernel_rfl) (by kernel_rfl) (fun _ _ _ h => h) (Or.inl ⟨rfl, ?_⟩) (by assumption) ?_; rotate_left; focus (intro W hSw; (try dsimp only at hSw); have hxx := HXX.out _ hSw; obtain ⟨hxA0, hxA1, hxA2, hxA3⟩ := hxx; obtain ⟨⟨iA00, iA01, iA02⟩, _, _⟩ := hxA0; obtain ⟨⟨iA10, iA11, iA12⟩, _, _⟩ := hxA1; obtain ⟨⟨iA20, iA21, iA22⟩, _, _⟩ := hxA2; obtain ⟨⟨iA30, iA31, iA32⟩, _, _⟩ := hxA3; go_simp; try (with_reducible rfl))); (try simp only [Act.put, List.getElem_toArray, List.getElem_cons_succ, List.getElem_cons_zero, List.setIfInBounds_toArray, List.set_cons_zero, List.set_cons_succ])
  (refine wpAnyH_take (i := 13) (v := ?_) rfl (by kernel_rfl) (by kernel_rfl) (by kernel_rfl) (fun _ _ _ h => h) (Or.inl ⟨rfl, ?_⟩) (by assumption) ?_; rotate_left; focus (intro W hSw; (try dsimp only at hSw); have hxx := HXX.out _ hSw; obtain ⟨hxA0, hxA1, hxA2, hxA3⟩ := hxx; obtain ⟨⟨iA00, iA01, iA02⟩, _, _⟩ := hxA0; obtain ⟨⟨iA10, iA11, iA12⟩, _, _⟩ := hxA1; obtain ⟨⟨iA20, iA21, iA22⟩, _, _⟩ := hxA2; obtain ⟨⟨iA30, iA31, iA32⟩, _, _⟩ := hxA3; go_simp; try (with_reducible rfl))); (try simp only [Act.put, List.getElem_toArray, List.getElem_cons_succ, List.getElem_cons_zero, List.setIfInBounds_toArray, List.set_cons_zero, List.set_cons_succ])
  refine wpAnyH_done (by kernel_rfl) ?_ _
  have HB := Lib.hid (HB.out.trans (hHeld.mono HB.out.size))
  clear hHeld HXX
  obtain ⟨⟨qA00, qA01, qA02⟩, ⟨fA00, fA01, fA02⟩, zA0⟩ := HA0.out
  obtain ⟨⟨qA10, qA11, qA12⟩, ⟨fA10, fA11, fA12⟩, zA1⟩ := HA1.out
  obtain ⟨⟨qA20, qA21, qA22⟩, ⟨fA20, fA21, fA22⟩, zA2⟩ := HA2.out
  obtain ⟨⟨qA30, qA31, qA32⟩, ⟨fA30, fA31, fA32⟩, zA3⟩ := HA3.out
  go_wp2_with fail
  go_ret
  have hb := HB.out
  have hb2 := HB.out
  rw [hG] at hb2
  exact ⟨rfl, by (repeat' (first | (with_reducible exact Below.refl _ _) | (with_reducible refine Below.alloc ?_ ?_ _) | (with_reducible refine Below.setCell ?_ ?_ _) | (with_reducible refine Below.drew ?_) | (with_reducible refine below_drewN ?_ _) | (with_reducible assumption) | (with_reducible refine below_after (by with_reducible assumption) ?_) | go_size))⟩
end Go.Proofs.YtjjblgmokmalaaaDoor
