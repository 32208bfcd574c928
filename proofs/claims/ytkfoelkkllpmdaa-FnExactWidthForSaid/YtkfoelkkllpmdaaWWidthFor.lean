/-
  The walk of laws.FnExactWidthFor: for all arguments it returns true and leaves memory as it was. No conditions.
-/
import Derived.Test.YtkfoelkkllpmdaaPgH
import Derived.Test.YtkfoelkkllpmdaaPtM
import Derived.BigRegion
import Derived.Deep.DeepCutAuto
import Derived.Test.YtkfoelkkllpmdaaBlk
namespace Go.Proofs.Ytkfoelkkllpmdaa
open Go.ChangeShapes Go.WideShapes Go.ChangeAt Go.RowKit
set_option linter.unusedVariables false
set_option maxRecDepth 100000
set_option linter.unusedSimpArgs false
set_option maxRecDepth 100000

set_option maxHeartbeats 1600000 in
theorem walkFnExactWidthFor (a : Option Addr) (n cap : Nat) (ps : List (Int × Int)) (x0 x1 : Int) (wx : (Lit.int .i64 x0).wf = true) (wy : (Lit.int .i64 x1).wf = true) (w : World) (hR : RowP w a n ps ∧ n ≤ maxLen) : Calls Try.prog 16 #[.slice a n cap, .agg #[.int .i64 x0, .int .i64 x1]] w fun e w' => e = .returned (.bool true) ∧ Below w.heap.size w w' := by
  have hm : n ≤ 9223372036854775807 := by have := hR.2; unfold maxLen at this; omega
  have hz := fun w => szPointS_any a n cap w hm
  by_cases hbig : (1048576 : Int) < (n : Int)
  · have HZ : Hid (∀ w, Calls Try.prog 17 #[.slice a n cap, .int .i64 1048576] w fun e w' => e = .returned (.int .i64 (-1)) ∧ w = w') := fun w => by have := hz w; rw [if_pos hbig] at this; exact this
    clear hz hR
    go_enter Try.func16, Try.ntmps16
    go_wp2_with (go_at_call 17; refine (HZ.out _).mono ?_; rintro e wn ⟨rfl, rfl⟩)
    go_ret
    exact ⟨rfl, by (repeat' (first | (with_reducible exact Below.refl _ _) | (with_reducible refine Below.alloc ?_ ?_ _) | (with_reducible refine Below.setCell ?_ ?_ _) | (with_reducible refine Below.drew ?_) | (with_reducible refine below_drewN ?_ _) | (with_reducible assumption) | (with_reducible refine below_after (by with_reducible assumption) ?_) | go_size))⟩
  · have hl : n ≤ 1048576 := by omega
    have HZ : Hid (∀ w, Calls Try.prog 17 #[.slice a n cap, .int .i64 1048576] w fun e w' => e = .returned (.int .i64 (1048576 - n)) ∧ w = w') := fun w => by have := hz w; rw [if_neg hbig] at this; exact this
    have HR := Lib.hid hR.1
    have HL := Lib.hid hl
    have hN := hR.1.1
    have HN := Lib.hid hN
    have i1 : ¬ (1048576 : Int) - (n : Int) < 0 := by omega
    have HT : Hid (∀ w1, Below w.heap.size w w1 → Calls Try.prog 19 #[.slice a n cap] w1 (RetP w1 n (flat ps))) := fun w1 hb => toPointS_any a n cap ps w1 (RowP.below HR.out hb) hl
    have HS : Hid (∀ a n cap w, LV w a n ps → Calls Try.prog 50 #[.slice a n cap, .agg #[.int .i64 x0, .int .i64 x1]] w fun e w' => e = .returned (.tuple #[.int .i64 (wdV ps x0 x1), .int .i64 (wdC ps x0 x1)]) ∧ Below w.heap.size w w') := fun a n cap w h => spec_WidthFor_any a n cap ps x0 x1 w h
    have HI : Hid (∀ a n cap w, LV w a n ps → Calls Try.prog 51 #[.slice a n cap, .agg #[.int .i64 x0, .int .i64 x1]] w fun e w' => e = .returned (.tuple #[.int .i64 (wdV ps x0 x1), .int .i64 (wdC ps x0 x1)]) ∧ Below w.heap.size w w') := fun a n cap w h => impl_WidthFor_any a n cap ps x0 x1 w h
    obtain ⟨V, hV⟩ : ∃ V, wdV ps x0 x1 = V := ⟨_, rfl⟩
    rw [hV] at HS HI
    clear hV
    obtain ⟨C, hC⟩ : ∃ V, wdC ps x0 x1 = V := ⟨_, rfl⟩
    rw [hC] at HS HI
    clear hC
    clear hz hR hN
    go_enter Try.func16, Try.ntmps16
    go_upto_region 1 with fail
    obtain ⟨wB, hwB⟩ : ∃ wB, wB = w.alloc (.cells #[.int .i64 x0, .int .i64 x1] 36) := ⟨_, rfl⟩
    rw [← hwB]
    have HBW : Hid (Below w.heap.size w wB) := by
      show Below w.heap.size w wB
      rw [hwB]; (repeat' (first | (with_reducible exact Below.refl _ _) | (with_reducible refine Below.alloc ?_ ?_ _) | (with_reducible refine Below.setCell ?_ ?_ _) | (with_reducible refine Below.drew ?_) | (with_reducible refine below_drewN ?_ _) | (with_reducible assumption) | (with_reducible refine below_after (by with_reducible assumption) ?_) | go_size))
    have HQ0 : Hid (Bk2 wB w.heap.size x0 x1) := by show Bk2 wB w.heap.size x0 x1; rw [hwB]; exact bk2_new w x0 x1 _
    have HQ := HQ0
    clear hwB
    go_wp2_with (go_at_call 17; refine (HZ.out _).mono ?_; rintro e wn ⟨rfl, rfl⟩)
    refine wp_region_held_drew (S := fun W => Below wB.heap.size wB W) (by kernel_rfl) ?_ (fun hHeld => ?_); focus ((try dsimp only); exact (Below.refl _ _).drew)
    have HQ := Lib.hid (HQ.out.below (Below.drew (Below.refl _ _)))
    have hHeld : Below wB.heap.size wB _ := hHeld
    obtain ⟨wD, hwD⟩ : ∃ wD, wB.drew = wD := ⟨_, rfl⟩
    rw [hwD] at hHeld HQ ⊢
    clear hwD
    (refine wpAnyH_take (i := 0) (v := ?_) rfl (by kernel_rfl) (by kernel_rfl) (by kernel_rfl) (fun _ _ _ h => h) (Or.inl ⟨rfl, ?_⟩) (by assumption) ?_; rotate_left; focus (intro W hSw; (try dsimp only at hSw); obtain ⟨⟨i0, i1⟩, _, _⟩ := HQ0.out.below hSw; go_simp; try (with_reducible rfl))); (try simp only [Act.put, List.getElem_toArray, List.getElem_cons_succ, List.getElem_cons_zero, List.setIfInBounds_toArray, List.set_cons_zero, List.set_cons_succ])
    (refine wpAnyH_take (i := 2) (v := ?_) rfl (by kernel_rfl) (by kernel_rfl) (by kernel_rfl) (fun _ _ _ h => h) (Or.inl ⟨rfl, ?_⟩) (by assumption) ?_; rotate_left; focus (intro W hSw; (try dsimp only at hSw); obtain ⟨⟨i0, i1⟩, _, _⟩ := HQ0.out.below hSw; go_simp; try (with_reducible rfl))); (try simp only [Act.put, List.getElem_toArray, List.getElem_cons_succ, List.getElem_cons_zero, List.setIfInBounds_toArray, List.set_cons_zero, List.set_cons_succ])
    refine wpAnyH_ready (rs := [1]) (by kernel_rfl) (by simp) ?_; refine AllReadyH.cons rfl (fun K hK => ?_) AllReadyH.nil
    go_simp; (go_at_call 19; refine (HT.out _ (below_after hHeld HBW.out)).mono ?_; rintro en yw0 ⟨v1, rfl, o1, hb2⟩); obtain ⟨a1, c1, rfl, _⟩ := own_viewF o1; have HO1 := Lib.hid (LV.of_own o1 HN.out (by have := HL.out; omega)); clear o1; have HQ := Lib.hid (HQ.out.below hb2); refine hK.out _ _ (below_after hb2 hHeld) (fun hHeld2 => ?_); clear hb2; (clear hHeld; rename _ => hHeld; clear hK K; have hHeld : Below wB.heap.size wB _ := hHeld); (try simp only [Act.put, List.getElem_toArray, List.getElem_cons_succ, List.getElem_cons_zero, List.setIfInBounds_toArray, List.set_cons_zero, List.set_cons_succ])
    refine wpAnyH_ready (rs := [3]) (by kernel_rfl) (by simp) ?_; refine AllReadyH.cons rfl (fun K hK => ?_) AllReadyH.nil
    go_simp; (go_at_call 37; refine (toPoint_any _ _ _).mono ?_; rintro en yw1 ⟨rfl, hb2⟩); have HQ := Lib.hid (HQ.out.below hb2); have HO1 := Lib.hid (HO1.out.below hb2); refine hK.out _ _ (below_after hb2 hHeld) (fun hHeld2 => ?_); clear hb2; (clear hHeld; rename _ => hHeld; clear hK K; have hHeld : Below wB.heap.size wB _ := hHeld); (try simp only [Act.put, List.getElem_toArray, List.getElem_cons_succ, List.getElem_cons_zero, List.setIfInBounds_toArray, List.set_cons_zero, List.set_cons_succ])
    refine wpAnyH_ready (rs := [4]) (by kernel_rfl) (by simp) ?_; refine AllReadyH.cons rfl (fun K hK => ?_) AllReadyH.nil
    go_simp; (go_at_call 50; refine (HS.out _ _ _ _ HO1.out).mono ?_; rintro en yw2 ⟨rfl, hb2⟩); have HQ := Lib.hid (HQ.out.below hb2); have HO1 := Lib.hid (HO1.out.below hb2); refine hK.out _ _ (below_after hb2 hHeld) (fun hHeld2 => ?_); clear hb2; (clear hHeld; rename _ => hHeld; clear hK K; have hHeld : Below wB.heap.size wB _ := hHeld); (try simp only [Act.put, List.getElem_toArray, List.getElem_cons_succ, List.getElem_cons_zero, List.setIfInBounds_toArray, List.set_cons_zero, List.set_cons_succ])
    (refine wpAnyH_take (i := 5) (v := ?_) rfl (by kernel_rfl) (by kernel_rfl) (by kernel_rfl) (fun _ _ _ h => h) (Or.inl ⟨rfl, ?_⟩) (by assumption) ?_; rotate_left; focus (intro W hSw; (try dsimp only at hSw); obtain ⟨⟨i0, i1⟩, _, _⟩ := HQ0.out.below hSw; go_simp; try (with_reducible rfl))); (try simp only [Act.put, List.getElem_toArray, List.getElem_cons_succ, List.getElem_cons_zero, List.setIfInBounds_toArray, List.set_cons_zero, List.set_cons_succ])
    (refine wpAnyH_take (i := 6) (v := ?_) rfl (by kernel_rfl) (by kernel_rfl) (by kernel_rfl) (fun _ _ _ h => h) (Or.inl ⟨rfl, ?_⟩) (by assumption) ?_; rotate_left; focus (intro W hSw; (try dsimp only at hSw); obtain ⟨⟨i0, i1⟩, _, _⟩ := HQ0.out.below hSw; go_simp; try (with_reducible rfl))); (try simp only [Act.put, List.getElem_toArray, List.getElem_cons_succ, List.getElem_cons_zero, List.setIfInBounds_toArray, List.set_cons_zero, List.set_cons_succ])
    (refine wpAnyH_take (i := 7) (v := ?_) rfl (by kernel_rfl) (by kernel_rfl) (by kernel_rfl) (fun _ _ _ h => h) (Or.inl ⟨rfl, ?_⟩) (by assumption) ?_; rotate_left; focus (intro W hSw; (try dsimp only at hSw); obtain ⟨⟨i0, i1⟩, _, _⟩ := HQ0.out.below hSw; go_simp; try (with_reducible rfl))); (try simp only [Act.put, List.getElem_toArray, List.getElem_cons_succ, List.getElem_cons_zero, List.setIfInBounds_toArray, List.set_cons_zero, List.set_cons_succ])
    (refine wpAnyH_take (i := 8) (v := ?_) rfl (by kernel_rfl) (by kernel_rfl) (by kernel_rfl) (fun _ _ _ h => h) (Or.inl ⟨rfl, ?_⟩) (by assumption) ?_; rotate_left; focus (intro W hSw; (try dsimp only at hSw); obtain ⟨⟨i0, i1⟩, _, _⟩ := HQ0.out.below hSw; go_simp; try (with_reducible rfl))); (try simp only [Act.put, List.getElem_toArray, List.getElem_cons_succ, List.getElem_cons_zero, List.setIfInBounds_toArray, List.set_cons_zero, List.set_cons_succ])
    (refine wpAnyH_take (i := 9) (v := ?_) rfl (by kernel_rfl) (by kernel_rfl) (by kernel_rfl) (fun _ _ _ h => h) (Or.inl ⟨rfl, ?_⟩) (by assumption) ?_; rotate_left; focus (intro W hSw; (try dsimp only at hSw); obtain ⟨⟨i0, i1⟩, _, _⟩ := HQ0.out.below hSw; go_simp; try (with_reducible rfl))); (try simp only [Act.put, List.getElem_toArray, List.getElem_cons_succ, List.getElem_cons_zero, List.setIfInBounds_toArray, List.set_cons_zero, List.set_cons_succ])
    refine wpAnyH_done (by kernel_rfl) ?_ _
    have HB2 : Hid (Below w.heap.size w yw2) := below_after hHeld HBW.out
    clear hHeld
    obtain ⟨⟨i0, i1⟩, ⟨i2, i3⟩, i4⟩ := HQ.out
    go_wp2_with fail
    clear i0 i1 i2 i3 i4
    go_at_call 19
    refine (HT.out _ HB2.out).mono ?_
    rintro e w3 ⟨v3, rfl, o3, b3⟩
    obtain ⟨a3, c3, rfl, _⟩ := own_viewF o3
    have O3 := Lib.hid o3
    have HQ3 := Lib.hid (HQ.out.below b3)
    have B3 : Hid (Below w.heap.size w w3) := below_after b3 HB2.out
    clear o3 b3
    obtain ⟨⟨i0, i1⟩, ⟨i2, i3⟩, i4⟩ := HQ3.out
    go_wp2_with fail
    clear i0 i1 i2 i3 i4
    go_at_call 37
    refine (toPoint_any _ _ _).mono ?_
    rintro e wq ⟨rfl, bp⟩
    have O3 := Lib.hid (OwnF.below O3.out bp)
    have B3 := Lib.hid (below_after bp B3.out)
    clear bp
    go_wp2_with fail
    go_at_call 51
    refine (HI.out _ _ _ _ (LV.of_own O3.out HN.out (by have := HL.out; omega))).mono ?_
    rintro e w4 ⟨rfl, b4⟩
    have O4 := Lib.hid (OwnF.below O3.out b4)
    have B4 : Hid (Below w.heap.size w w4) := below_after b4 B3.out
    clear b4
    go_wp2_with fail
    go_at_call 19
    refine (HT.out w4 B4.out).mono ?_
    rintro e w5 ⟨v5, rfl, o5, b5⟩
    obtain ⟨a5, c5, rfl, _⟩ := own_viewF o5
    have O5 := Lib.hid o5
    have O6 := Lib.hid (OwnF.below O4.out b5)
    have B5 : Hid (Below w.heap.size w w5) := below_after b5 B4.out
    clear o5
    go_wp2_with fail
    go_at_call 21
    refine (eqPointS_same _ _ _ _ _ _ _ O6.out O5.out (by have := HL.out; omega)).mono ?_
    rintro e w6 ⟨rfl, b6⟩
    go_wp2
    go_ret
    exact ⟨rfl, below_after b6 B5.out⟩
end Go.Proofs.Ytkfoelkkllpmdaa
