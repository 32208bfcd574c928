/-
  The walk of laws.FnExactMapPolygon: for all arguments it returns true and leaves memory as it was. No conditions.
-/
import Derived.Test.YtmjhejmkmdgikaaMpS
import Derived.Test.YtmjhejmkmdgikaaPtM
import Derived.Test.YtmjhejmkmdgikaaMat
namespace Go.Proofs.Ytmjhejmkmdgikaa
open Go.ChangeShapes Go.WideShapes Go.ChangeAt Go.RowKit
set_option linter.unusedVariables false
set_option maxRecDepth 100000
set_option linter.unusedSimpArgs false
set_option maxRecDepth 100000

set_option maxHeartbeats 6400000 in
theorem walkFnExactMapPolygon (m0 m1 m2 m3 : Int) (a : Option Addr) (n cap : Nat) (ps : List (Int × Int)) (b0 b1 : Int) (wm0 : (Lit.int .i64 m0).wf = true) (wm1 : (Lit.int .i64 m1).wf = true) (wm2 : (Lit.int .i64 m2).wf = true) (wm3 : (Lit.int .i64 m3).wf = true) (wb0 : (Lit.int .i64 b0).wf = true) (wb1 : (Lit.int .i64 b1).wf = true) (w : World) (hR : RowP w a n ps ∧ n ≤ maxLen) : Calls Try.prog 16 #[.agg #[.int .i64 m0, .int .i64 m1, .int .i64 m2, .int .i64 m3], .slice a n cap, .agg #[.int .i64 b0, .int .i64 b1]] w fun e w' => e = .returned (.bool true) ∧ Below w.heap.size w w' := by
  clear wm0 wm1 wm2 wm3 wb0 wb1
  have hm : n ≤ 9223372036854775807 := by have := hR.2; unfold maxLen at this; omega
  have hz := fun w => szPointS_any a n cap w hm
  by_cases hbig : (1048576 : Int) < (n : Int)
  · have HZ : Hid (∀ w, Calls Try.prog 54 #[.slice a n cap, .int .i64 1048576] w fun e w' => e = .returned (.int .i64 (-1)) ∧ w = w') := fun w => by have := hz w; rw [if_pos hbig] at this; exact this
    clear hz hR
    have hs20 : w.heap.size < w.heap.size + 1 + 1 := (by omega)
    go_enter Try.func16, Try.ntmps16
    go_wp2_with (go_at_call 54; refine (HZ.out _).mono ?_; rintro e wn ⟨rfl, rfl⟩)
    go_ret
    exact ⟨rfl, by (repeat' (first | (with_reducible exact Below.refl _ _) | (with_reducible refine Below.alloc ?_ ?_ _) | (with_reducible refine Below.setCell ?_ ?_ _) | (with_reducible refine Below.drew ?_) | (with_reducible refine below_drewN ?_ _) | (with_reducible assumption) | (with_reducible refine below_after (by with_reducible assumption) ?_) | go_size))⟩
  · have hl : n ≤ 1048576 := by omega
    have HZ : Hid (∀ w, Calls Try.prog 54 #[.slice a n cap, .int .i64 1048576] w fun e w' => e = .returned (.int .i64 (1048576 - n)) ∧ w = w') := fun w => by have := hz w; rw [if_neg hbig] at this; exact this
    have HR := Lib.hid hR.1
    have HL := Lib.hid hl
    have hN := hR.1.1
    have HN := Lib.hid hN
    have i1 : ¬ (1048576 : Int) - (n : Int) < 0 := by omega
    have HT : Hid (∀ w1, Below w.heap.size w w1 → Calls Try.prog 57 #[.slice a n cap] w1 (RetP w1 n (flat ps))) := fun w1 hb => toPointS_any a n cap ps w1 (RowP.below HR.out hb) hl
    have HX : Hid ((mpL m0 m1 m2 m3 b0 b1 ps).length ≤ 4194304) := by show (mpL m0 m1 m2 m3 b0 b1 ps).length ≤ 4194304; have := mpL_len m0 m1 m2 m3 b0 b1 ps; omega
    have HS : Hid (∀ a n cap w, LV w a n ps → Calls Try.prog 55 #[.agg #[.int .i64 m0, .int .i64 m1, .int .i64 m2, .int .i64 m3], .slice a n cap, .agg #[.int .i64 b0, .int .i64 b1]] w fun e w' => ∃ v, e = .returned (.tuple #[v, .int .i64 (mpC m0 m1 m2 m3 b0 b1 ps)]) ∧ OwnF w.heap.size w' v (mpL m0 m1 m2 m3 b0 b1 ps).length (flat (mpL m0 m1 m2 m3 b0 b1 ps)) ∧ Below w.heap.size w w') := fun a n cap w h => spec_MapPolygon_any m0 m1 m2 m3 b0 b1 a n cap ps w h
    have HI : Hid (∀ a n cap w, LV w a n ps → Calls Try.prog 58 #[.agg #[.int .i64 m0, .int .i64 m1, .int .i64 m2, .int .i64 m3], .slice a n cap, .agg #[.int .i64 b0, .int .i64 b1]] w fun e w' => ∃ v, e = .returned (.tuple #[v, .int .i64 (mpC m0 m1 m2 m3 b0 b1 ps)]) ∧ OwnF w.heap.size w' v (mpL m0 m1 m2 m3 b0 b1 ps).length (flat (mpL m0 m1 m2 m3 b0 b1 ps)) ∧ Below w.heap.size w w') := fun a n cap w h => impl_MapPolygon_any m0 m1 m2 m3 b0 b1 a n cap ps w h
    obtain ⟨C, hC⟩ : ∃ V, mpC m0 m1 m2 m3 b0 b1 ps = V := ⟨_, rfl⟩
    obtain ⟨zs, hzs⟩ : ∃ V, flat (mpL m0 m1 m2 m3 b0 b1 ps) = V := ⟨_, rfl⟩
    obtain ⟨N, hNN⟩ : ∃ V, (mpL m0 m1 m2 m3 b0 b1 ps).length = V := ⟨_, rfl⟩
    rw [hC, hzs, hNN] at HS HI
    rw [hNN] at HX
    clear hC hzs hNN hz hR hN
    go_enter Try.func16, Try.ntmps16
    go_upto_region 1 with fail
    obtain ⟨wB, hwB⟩ : ∃ wB, wB = (w.alloc (.cells #[.int .i64 m0, .int .i64 m1, .int .i64 m2, .int .i64 m3] 57)).alloc (.cells #[.int .i64 b0, .int .i64 b1] 31) := ⟨_, rfl⟩
    rw [← hwB]
    have HBW : Hid (Below w.heap.size w wB) := by
      show Below w.heap.size w wB
      rw [hwB]; (repeat' (first | (with_reducible exact Below.refl _ _) | (with_reducible refine Below.alloc ?_ ?_ _) | (with_reducible refine Below.setCell ?_ ?_ _) | (with_reducible refine Below.drew ?_) | (with_reducible refine below_drewN ?_ _) | (with_reducible assumption) | (with_reducible refine below_after (by with_reducible assumption) ?_) | go_size))
    have HM0 : Bk4 wB w.heap.size m0 m1 m2 m3 := by
      have h := (bk4_new w m0 m1 m2 m3 57).below (W' := wB) (by rw [hwB]; (repeat' (first | (with_reducible exact Below.refl _ _) | (with_reducible refine Below.alloc ?_ ?_ _) | (with_reducible refine Below.setCell ?_ ?_ _) | (with_reducible refine Below.drew ?_) | (with_reducible refine below_drewN ?_ _) | (with_reducible assumption) | (with_reducible refine below_after (by with_reducible assumption) ?_) | go_size)))
      exact h
    have HE0 : Bk2 wB (w.heap.size + 1) b0 b1 := by
      have h := bk2_new (w.alloc (.cells #[.int .i64 m0, .int .i64 m1, .int .i64 m2, .int .i64 m3] 57)) b0 b1 31
      rw [hwB]
      (try simp only [World.size_alloc] at h)
      exact h
    have HK : Hid (∀ W', Below wB.heap.size wB W' → Bk4 W' w.heap.size m0 m1 m2 m3 ∧ Bk2 W' (w.heap.size + 1) b0 b1) := fun W' hW => ⟨HM0.below hW, HE0.below hW⟩
    have HTB : Hid (∀ w1, Below wB.heap.size wB w1 → Calls Try.prog 57 #[.slice a n cap] w1 (RetP w1 n (flat ps))) := fun w1 hb => HT.out w1 (below_after hb HBW.out)
    clear hwB HM0 HE0
    have HB : Hid (Below wB.heap.size wB wB) := Below.refl _ _
    go_wp2_with (go_at_call 54; refine (HZ.out _).mono ?_; rintro e wn ⟨rfl, rfl⟩)
    skip
    refine wp_region_held_drew (S := fun W => Below wB.heap.size wB W) (by kernel_rfl) ?_ (fun hHeld => ?_); focus ((try dsimp only); exact (Below.refl _ _).drew)
    have hHeld : Below wB.heap.size wB _ := hHeld
    obtain ⟨wDa, hwDa⟩ : ∃ wD, wB.drew = wD := ⟨_, rfl⟩
    rw [hwDa] at hHeld ⊢
    clear hwDa
    have zda : wB.heap.size ≤ wDa.heap.size := Below.size hHeld
    (refine wpAnyH_take (i := 0) (v := ?_) rfl (by kernel_rfl) (by kernel_rfl) (by kernel_rfl) (fun _ _ _ h => h) (Or.inl ⟨rfl, ?_⟩) (by assumption) ?_; rotate_left; focus (intro W hSw; (try dsimp only at hSw); obtain ⟨⟨⟨i0, i1, i2, i3⟩, _, _⟩, ⟨i4, i5⟩, _, _⟩ := HK.out _ (below_after hSw HB.out); go_simp; try (with_reducible rfl))); (try simp only [Act.put, List.getElem_toArray, List.getElem_cons_succ, List.getElem_cons_zero, List.setIfInBounds_toArray, List.set_cons_zero, List.set_cons_succ])
    (refine wpAnyH_take (i := 2) (v := ?_) rfl (by kernel_rfl) (by kernel_rfl) (by kernel_rfl) (fun _ _ _ h => h) (Or.inl ⟨rfl, ?_⟩) (by assumption) ?_; rotate_left; focus (intro W hSw; (try dsimp only at hSw); obtain ⟨⟨⟨i0, i1, i2, i3⟩, _, _⟩, ⟨i4, i5⟩, _, _⟩ := HK.out _ (below_after hSw HB.out); go_simp; try (with_reducible rfl))); (try simp only [Act.put, List.getElem_toArray, List.getElem_cons_succ, List.getElem_cons_zero, List.setIfInBounds_toArray, List.set_cons_zero, List.set_cons_succ])
    (refine wpAnyH_take (i := 4) (v := ?_) rfl (by kernel_rfl) (by kernel_rfl) (by kernel_rfl) (fun _ _ _ h => h) (Or.inl ⟨rfl, ?_⟩) (by assumption) ?_; rotate_left; focus (intro W hSw; (try dsimp only at hSw); obtain ⟨⟨⟨i0, i1, i2, i3⟩, _, _⟩, ⟨i4, i5⟩, _, _⟩ := HK.out _ (below_after hSw HB.out); go_simp; try (with_reducible rfl))); (try simp only [Act.put, List.getElem_toArray, List.getElem_cons_succ, List.getElem_cons_zero, List.setIfInBounds_toArray, List.set_cons_zero, List.set_cons_succ])
    refine wpAnyH_ready (rs := [1]) (by kernel_rfl) (by simp) ?_; refine AllReadyH.cons rfl (fun K hK => ?_) AllReadyH.nil
    go_simp; (go_at_call 56; refine (toMatrix_any _ _ _ _ _).mono ?_; rintro en ywa0 ⟨rfl, hb2⟩); have zywa0 := hb2.size; refine hK.out _ _ (below_after hb2 hHeld) (fun hHeld2 => ?_); clear hb2; (clear hHeld; rename _ => hHeld; clear hK K; have hHeld : Below wB.heap.size wB _ := hHeld); (try simp only [Act.put, List.getElem_toArray, List.getElem_cons_succ, List.getElem_cons_zero, List.setIfInBounds_toArray, List.set_cons_zero, List.set_cons_succ])
    refine wpAnyH_ready (rs := [3]) (by kernel_rfl) (by simp) ?_; refine AllReadyH.cons rfl (fun K hK => ?_) AllReadyH.nil
    go_simp; (go_at_call 57; refine (HTB.out _ (below_after hHeld HB.out)).mono ?_; rintro en ywa1 ⟨v, rfl, o, hb2⟩); obtain ⟨aO1, cO1, rfl, _⟩ := own_viewF o; have HO1 : Hid (OwnF _ _ (.slice aO1 n cO1) n (flat ps)) := o; have LO1 := Lib.hid (World.ownsRow.lt o); have zywa1 := hb2.size; clear o; refine hK.out _ _ (below_after hb2 hHeld) (fun hHeld2 => ?_); clear hb2; (clear hHeld; rename _ => hHeld; clear hK K; have hHeld : Below wB.heap.size wB _ := hHeld); (try simp only [Act.put, List.getElem_toArray, List.getElem_cons_succ, List.getElem_cons_zero, List.setIfInBounds_toArray, List.set_cons_zero, List.set_cons_succ])
    refine wpAnyH_ready (rs := [5]) (by kernel_rfl) (by simp) ?_; refine AllReadyH.cons rfl (fun K hK => ?_) AllReadyH.nil
    go_simp; (go_at_call 44; refine (toPoint_any _ _ _).mono ?_; rintro en ywa2 ⟨rfl, hb2⟩); have zywa2 := hb2.size; have HO1 := Lib.hid (HO1.out.below hb2); refine hK.out _ _ (below_after hb2 hHeld) (fun hHeld2 => ?_); clear hb2; (clear hHeld; rename _ => hHeld; clear hK K; have hHeld : Below wB.heap.size wB _ := hHeld); (try simp only [Act.put, List.getElem_toArray, List.getElem_cons_succ, List.getElem_cons_zero, List.setIfInBounds_toArray, List.set_cons_zero, List.set_cons_succ])
    refine wpAnyH_ready (rs := [6]) (by kernel_rfl) (by simp) ?_; refine AllReadyH.cons rfl (fun K hK => ?_) AllReadyH.nil
    go_simp; (go_at_call 55; refine (HS.out _ _ _ _ (LV.of_own HO1.out HN.out (by have := HL.out; omega))).mono ?_; rintro en ywa3 ⟨v, rfl, o, hb2⟩); obtain ⟨aV0, cV0, rfl, _⟩ := own_viewF o; have HV0 : Hid (OwnF _ _ (.slice aV0 N cV0) N zs) := o; have LV0 : Hid (∀ k, (Value.slice aV0 N cV0).ownBlock = some k → _ ≤ k ∧ k < ywa3.heap.size) := World.ownsRow.lt o; have zywa3 := hb2.size; clear o; have HO1 := Lib.hid (HO1.out.below hb2); refine hK.out _ _ (below_after hb2 hHeld) (fun hHeld2 => ?_); clear hb2; (clear hHeld; rename _ => hHeld; clear hK K; have hHeld : Below wB.heap.size wB _ := hHeld); (try simp only [Act.put, List.getElem_toArray, List.getElem_cons_succ, List.getElem_cons_zero, List.setIfInBounds_toArray, List.set_cons_zero, List.set_cons_succ])
    (refine wpAnyH_take (i := 7) (v := ?_) rfl (by kernel_rfl) (by kernel_rfl) (by kernel_rfl) (fun _ _ _ h => h) (Or.inl ⟨rfl, ?_⟩) (by assumption) ?_; rotate_left; focus (intro W hSw; (try dsimp only at hSw); obtain ⟨⟨⟨i0, i1, i2, i3⟩, _, _⟩, ⟨i4, i5⟩, _, _⟩ := HK.out _ (below_after hSw HB.out); go_simp; try (with_reducible rfl))); (try simp only [Act.put, List.getElem_toArray, List.getElem_cons_succ, List.getElem_cons_zero, List.setIfInBounds_toArray, List.set_cons_zero, List.set_cons_succ])
    (refine wpAnyH_take (i := 8) (v := ?_) rfl (by kernel_rfl) (by kernel_rfl) (by kernel_rfl) (fun _ _ _ h => h) (Or.inl ⟨rfl, ?_⟩) (by assumption) ?_; rotate_left; focus (intro W hSw; (try dsimp only at hSw); obtain ⟨⟨⟨i0, i1, i2, i3⟩, _, _⟩, ⟨i4, i5⟩, _, _⟩ := HK.out _ (below_after hSw HB.out); go_simp; try (with_reducible rfl))); (try simp only [Act.put, List.getElem_toArray, List.getElem_cons_succ, List.getElem_cons_zero, List.setIfInBounds_toArray, List.set_cons_zero, List.set_cons_succ])
    (refine wpAnyH_take (i := 9) (v := ?_) rfl (by kernel_rfl) (by kernel_rfl) (by kernel_rfl) (fun _ _ _ h => h) (Or.inl ⟨rfl, ?_⟩) (by assumption) ?_; rotate_left; focus (intro W hSw; (try dsimp only at hSw); obtain ⟨⟨⟨i0, i1, i2, i3⟩, _, _⟩, ⟨i4, i5⟩, _, _⟩ := HK.out _ (below_after hSw HB.out); go_simp; try (with_reducible rfl))); (try simp only [Act.put, List.getElem_toArray, List.getElem_cons_succ, List.getElem_cons_zero, List.setIfInBounds_toArray, List.set_cons_zero, List.set_cons_succ])
    (refine wpAnyH_take (i := 10) (v := ?_) rfl (by kernel_rfl) (by kernel_rfl) (by kernel_rfl) (fun _ _ _ h => h) (Or.inl ⟨rfl, ?_⟩) (by assumption) ?_; rotate_left; focus (intro W hSw; (try dsimp only at hSw); obtain ⟨⟨⟨i0, i1, i2, i3⟩, _, _⟩, ⟨i4, i5⟩, _, _⟩ := HK.out _ (below_after hSw HB.out); go_simp; try (with_reducible rfl))); (try simp only [Act.put, List.getElem_toArray, List.getElem_cons_succ, List.getElem_cons_zero, List.setIfInBounds_toArray, List.set_cons_zero, List.set_cons_succ])
    (refine wpAnyH_take (i := 11) (v := ?_) rfl (by kernel_rfl) (by kernel_rfl) (by kernel_rfl) (fun _ _ _ h => h) (Or.inl ⟨rfl, ?_⟩) (by assumption) ?_; rotate_left; focus (intro W hSw; (try dsimp only at hSw); obtain ⟨⟨⟨i0, i1, i2, i3⟩, _, _⟩, ⟨i4, i5⟩, _, _⟩ := HK.out _ (below_after hSw HB.out); go_simp; try (with_reducible rfl))); (try simp only [Act.put, List.getElem_toArray, List.getElem_cons_succ, List.getElem_cons_zero, List.setIfInBounds_toArray, List.set_cons_zero, List.set_cons_succ])
    refine wpAnyH_done (by kernel_rfl) ?_ _
    have zra := hHeld.size
    have HB := Lib.hid (below_after hHeld HB.out)
    clear hHeld
    clear HO1 LO1
    go_wp2_with fail
    go_at_call 57
    refine (HTB.out _ HB.out).mono ?_
    rintro e w1 ⟨v, rfl, o, b⟩
    obtain ⟨aO3, cO3, rfl, _⟩ := own_viewF o
    have HV0 := Lib.hid (HV0.out.below b)
    have HO3 : Hid (OwnF ywa3.heap.size w1 (.slice aO3 n cO3) n (flat ps)) := o
    have LO3 : Hid (∀ k, (Value.slice aO3 n cO3).ownBlock = some k → ywa3.heap.size ≤ k ∧ k < w1.heap.size) := World.ownsRow.lt o
    have HB := Lib.hid (below_after b HB.out)
    have zw1 := b.size
    clear o b
    go_wp2_with fail
    refine wp_region_held_drew (S := fun W => Below w1.heap.size w1 W) (by kernel_rfl) ?_ (fun hHeld => ?_); focus ((try dsimp only); exact (Below.refl _ _).drew)
    have HV0 := Lib.hid (HV0.out.below (Below.drew (Below.refl _ _)))
    have HO3 := Lib.hid (HO3.out.below (Below.drew (Below.refl _ _)))
    have hHeld : Below w1.heap.size w1 _ := hHeld
    obtain ⟨wDb, hwDb⟩ : ∃ wD, w1.drew = wD := ⟨_, rfl⟩
    rw [hwDb] at hHeld HV0 HO3 ⊢
    clear hwDb
    have zdb : w1.heap.size ≤ wDb.heap.size := Below.size hHeld
    (refine wpAnyH_take (i := 0) (v := ?_) rfl (by kernel_rfl) (by kernel_rfl) (by kernel_rfl) (fun _ _ _ h => h) (Or.inl ⟨rfl, ?_⟩) (by assumption) ?_; rotate_left; focus (intro W hSw; (try dsimp only at hSw); obtain ⟨⟨⟨i0, i1, i2, i3⟩, _, _⟩, ⟨i4, i5⟩, _, _⟩ := HK.out _ (below_after hSw HB.out); go_simp; try (with_reducible rfl))); (try simp only [Act.put, List.getElem_toArray, List.getElem_cons_succ, List.getElem_cons_zero, List.setIfInBounds_toArray, List.set_cons_zero, List.set_cons_succ])
    (refine wpAnyH_take (i := 2) (v := ?_) rfl (by kernel_rfl) (by kernel_rfl) (by kernel_rfl) (fun _ _ _ h => h) (Or.inl ⟨rfl, ?_⟩) (by assumption) ?_; rotate_left; focus (intro W hSw; (try dsimp only at hSw); obtain ⟨⟨⟨i0, i1, i2, i3⟩, _, _⟩, ⟨i4, i5⟩, _, _⟩ := HK.out _ (below_after hSw HB.out); go_simp; try (with_reducible rfl))); (try simp only [Act.put, List.getElem_toArray, List.getElem_cons_succ, List.getElem_cons_zero, List.setIfInBounds_toArray, List.set_cons_zero, List.set_cons_succ])
    (refine wpAnyH_take (i := 3) (v := ?_) rfl (by kernel_rfl) (by kernel_rfl) (by kernel_rfl) (fun _ _ _ h => h) (Or.inl ⟨rfl, ?_⟩) (by assumption) ?_; rotate_left; focus (intro W hSw; (try dsimp only at hSw); obtain ⟨⟨⟨i0, i1, i2, i3⟩, _, _⟩, ⟨i4, i5⟩, _, _⟩ := HK.out _ (below_after hSw HB.out); go_simp; try (with_reducible rfl))); (try simp only [Act.put, List.getElem_toArray, List.getElem_cons_succ, List.getElem_cons_zero, List.setIfInBounds_toArray, List.set_cons_zero, List.set_cons_succ])
    refine wpAnyH_ready (rs := [1]) (by kernel_rfl) (by simp) ?_; refine AllReadyH.cons rfl (fun K hK => ?_) AllReadyH.nil
    go_simp; (go_at_call 56; refine (toMatrix_any _ _ _ _ _).mono ?_; rintro en ywb0 ⟨rfl, hb2⟩); have zywb0 := hb2.size; have HV0 := Lib.hid (HV0.out.below hb2); have HO3 := Lib.hid (HO3.out.below hb2); refine hK.out _ _ (below_after hb2 hHeld) (fun hHeld2 => ?_); clear hb2; (clear hHeld; rename _ => hHeld; clear hK K; have hHeld : Below w1.heap.size w1 _ := hHeld); (try simp only [Act.put, List.getElem_toArray, List.getElem_cons_succ, List.getElem_cons_zero, List.setIfInBounds_toArray, List.set_cons_zero, List.set_cons_succ])
    refine wpAnyH_ready (rs := [4]) (by kernel_rfl) (by simp) ?_; refine AllReadyH.cons rfl (fun K hK => ?_) AllReadyH.nil
    go_simp; (go_at_call 44; refine (toPoint_any _ _ _).mono ?_; rintro en ywb1 ⟨rfl, hb2⟩); have zywb1 := hb2.size; have HV0 := Lib.hid (HV0.out.below hb2); have HO3 := Lib.hid (HO3.out.below hb2); refine hK.out _ _ (below_after hb2 hHeld) (fun hHeld2 => ?_); clear hb2; (clear hHeld; rename _ => hHeld; clear hK K; have hHeld : Below w1.heap.size w1 _ := hHeld); (try simp only [Act.put, List.getElem_toArray, List.getElem_cons_succ, List.getElem_cons_zero, List.setIfInBounds_toArray, List.set_cons_zero, List.set_cons_succ])
    refine wpAnyH_ready (rs := [5]) (by kernel_rfl) (by simp) ?_; refine AllReadyH.cons rfl (fun K hK => ?_) AllReadyH.nil
    go_simp; (go_at_call 58; refine (HI.out _ _ _ _ (LV.of_own HO3.out HN.out (by have := HL.out; omega))).mono ?_; rintro en ywb2 ⟨v, rfl, o, hb2⟩); obtain ⟨aV1, cV1, rfl, _⟩ := own_viewF o; have HV1 : Hid (OwnF _ _ (.slice aV1 N cV1) N zs) := o; have LV1 : Hid (∀ k, (Value.slice aV1 N cV1).ownBlock = some k → _ ≤ k ∧ k < ywb2.heap.size) := World.ownsRow.lt o; have zywb2 := hb2.size; clear o; have HV0 := Lib.hid (HV0.out.below hb2); have HO3 := Lib.hid (HO3.out.below hb2); refine hK.out _ _ (below_after hb2 hHeld) (fun hHeld2 => ?_); clear hb2; (clear hHeld; rename _ => hHeld; clear hK K; have hHeld : Below w1.heap.size w1 _ := hHeld); (try simp only [Act.put, List.getElem_toArray, List.getElem_cons_succ, List.getElem_cons_zero, List.setIfInBounds_toArray, List.set_cons_zero, List.set_cons_succ])
    (refine wpAnyH_take (i := 6) (v := ?_) rfl (by kernel_rfl) (by kernel_rfl) (by kernel_rfl) (fun _ _ _ h => h) (Or.inl ⟨rfl, ?_⟩) (by assumption) ?_; rotate_left; focus (intro W hSw; (try dsimp only at hSw); obtain ⟨⟨⟨i0, i1, i2, i3⟩, _, _⟩, ⟨i4, i5⟩, _, _⟩ := HK.out _ (below_after hSw HB.out); go_simp; try (with_reducible rfl))); (try simp only [Act.put, List.getElem_toArray, List.getElem_cons_succ, List.getElem_cons_zero, List.setIfInBounds_toArray, List.set_cons_zero, List.set_cons_succ])
    (refine wpAnyH_take (i := 7) (v := ?_) rfl (by kernel_rfl) (by kernel_rfl) (by kernel_rfl) (fun _ _ _ h => h) (Or.inl ⟨rfl, ?_⟩) (by assumption) ?_; rotate_left; focus (intro W hSw; (try dsimp only at hSw); obtain ⟨⟨⟨i0, i1, i2, i3⟩, _, _⟩, ⟨i4, i5⟩, _, _⟩ := HK.out _ (below_after hSw HB.out); go_simp; try (with_reducible rfl))); (try simp only [Act.put, List.getElem_toArray, List.getElem_cons_succ, List.getElem_cons_zero, List.setIfInBounds_toArray, List.set_cons_zero, List.set_cons_succ])
    (refine wpAnyH_take (i := 8) (v := ?_) rfl (by kernel_rfl) (by kernel_rfl) (by kernel_rfl) (fun _ _ _ h => h) (Or.inl ⟨rfl, ?_⟩) (by assumption) ?_; rotate_left; focus (intro W hSw; (try dsimp only at hSw); obtain ⟨⟨⟨i0, i1, i2, i3⟩, _, _⟩, ⟨i4, i5⟩, _, _⟩ := HK.out _ (below_after hSw HB.out); go_simp; try (with_reducible rfl))); (try simp only [Act.put, List.getElem_toArray, List.getElem_cons_succ, List.getElem_cons_zero, List.setIfInBounds_toArray, List.set_cons_zero, List.set_cons_succ])
    (refine wpAnyH_take (i := 9) (v := ?_) rfl (by kernel_rfl) (by kernel_rfl) (by kernel_rfl) (fun _ _ _ h => h) (Or.inl ⟨rfl, ?_⟩) (by assumption) ?_; rotate_left; focus (intro W hSw; (try dsimp only at hSw); obtain ⟨⟨⟨i0, i1, i2, i3⟩, _, _⟩, ⟨i4, i5⟩, _, _⟩ := HK.out _ (below_after hSw HB.out); go_simp; try (with_reducible rfl))); (try simp only [Act.put, List.getElem_toArray, List.getElem_cons_succ, List.getElem_cons_zero, List.setIfInBounds_toArray, List.set_cons_zero, List.set_cons_succ])
    (refine wpAnyH_take (i := 10) (v := ?_) rfl (by kernel_rfl) (by kernel_rfl) (by kernel_rfl) (fun _ _ _ h => h) (Or.inl ⟨rfl, ?_⟩) (by assumption) ?_; rotate_left; focus (intro W hSw; (try dsimp only at hSw); obtain ⟨⟨⟨i0, i1, i2, i3⟩, _, _⟩, ⟨i4, i5⟩, _, _⟩ := HK.out _ (below_after hSw HB.out); go_simp; try (with_reducible rfl))); (try simp only [Act.put, List.getElem_toArray, List.getElem_cons_succ, List.getElem_cons_zero, List.setIfInBounds_toArray, List.set_cons_zero, List.set_cons_succ])
    refine wpAnyH_done (by kernel_rfl) ?_ _
    have zrb := hHeld.size
    have HB := Lib.hid (below_after hHeld HB.out)
    clear hHeld
    go_wp2_with fail
    go_at_call 21
    refine (eqPointS_same _ _ _ _ _ _ _ HV1.out HV0.out (by have := HX.out; omega)).mono ?_
    rintro e w2 ⟨rfl, b⟩
    have HV0 := Lib.hid (HV0.out.below b)
    have HO3 := Lib.hid (HO3.out.below b)
    have HV1 := Lib.hid (HV1.out.below b)
    have HB := Lib.hid (below_after b HB.out)
    have zw2 := b.size
    clear b
    go_wp2_with fail
    go_at_call 57
    refine (HTB.out _ HB.out).mono ?_
    rintro e w3 ⟨v, rfl, o, b⟩
    obtain ⟨aO6, cO6, rfl, _⟩ := own_viewF o
    have HV0 := Lib.hid (HV0.out.below b)
    have HO3 := Lib.hid (HO3.out.below b)
    have HV1 := Lib.hid (HV1.out.below b)
    have HO6 : Hid (OwnF w2.heap.size w3 (.slice aO6 n cO6) n (flat ps)) := o
    have LO6 : Hid (∀ k, (Value.slice aO6 n cO6).ownBlock = some k → w2.heap.size ≤ k ∧ k < w3.heap.size) := World.ownsRow.lt o
    have HB := Lib.hid (below_after b HB.out)
    have zw3 := b.size
    clear o b
    go_wp2_with fail
    go_at_call 21
    refine (eqPointS_same _ _ _ _ _ _ _ HO3.out HO6.out (by have := HL.out; omega)).mono ?_
    rintro e w4 ⟨rfl, b⟩
    have HV0 := Lib.hid (HV0.out.below b)
    have HO3 := Lib.hid (HO3.out.below b)
    have HV1 := Lib.hid (HV1.out.below b)
    have HO6 := Lib.hid (HO6.out.below b)
    have HB := Lib.hid (below_after b HB.out)
    have zw4 := b.size
    clear b
    clear HO6 LO6
    go_wp2_with fail
    go_at_call 22
    refine (markPointS_any _ _ _ _ _ _ HO3.out (by omega) (by omega) (by have := HL.out; omega)).mono ?_
    rintro e w5 ⟨rfl, om, gm⟩
    have HV0 : Hid (OwnF _ _ _ _ _) := (World.ownsRow.kept HV0.out gm (by
      cases h0 : (Value.slice aV0 N cV0).ownBlock with
      | none => exact .inl rfl
      | some k =>
        right
        cases h1 : (Value.slice aO3 n cO3).ownBlock with
        | none => simp
        | some k' =>
          have p := LV0.out k h0
          have q := LO3.out k' h1
          simp; omega) : OwnF _ _ _ _ _)
    have HV1 : Hid (OwnF _ _ _ _ _) := (World.ownsRow.kept HV1.out gm (by
      cases h0 : (Value.slice aV1 N cV1).ownBlock with
      | none => exact .inl rfl
      | some k =>
        right
        cases h1 : (Value.slice aO3 n cO3).ownBlock with
        | none => simp
        | some k' =>
          have p := LV1.out k h0
          have q := LO3.out k' h1
          simp; omega) : OwnF _ _ _ _ _)
    have zz := HB.out.size
    have HB := Lib.hid (Below.grown HB.out gm HB.out.size (fun k hk => by have := LO3.out k hk; omega))
    have zw5 := gm.size
    have HO3 := Lib.hid om
    clear om gm zz
    clear HO3 LO3
    go_wp2_with fail
    go_at_call 21
    refine (eqPointS_same _ _ _ _ _ _ _ HV1.out HV0.out (by have := HX.out; omega)).mono ?_
    rintro e w6 ⟨rfl, b⟩
    have HV0 := Lib.hid (HV0.out.below b)
    have HV1 := Lib.hid (HV1.out.below b)
    have HB := Lib.hid (below_after b HB.out)
    have zw6 := b.size
    clear b
    go_wp2_with fail
    go_at_call 22
    refine (markPointS_any _ _ _ _ _ _ HV1.out (by omega) (by omega) (by have := HX.out; omega)).mono ?_
    rintro e w7 ⟨rfl, om, gm⟩
    have HV0 : Hid (OwnF _ _ _ _ _) := (World.ownsRow.kept HV0.out gm (by
      cases h0 : (Value.slice aV0 N cV0).ownBlock with
      | none => exact .inl rfl
      | some k =>
        right
        cases h1 : (Value.slice aV1 N cV1).ownBlock with
        | none => simp
        | some k' =>
          have p := LV0.out k h0
          have q := LV1.out k' h1
          simp; omega) : OwnF _ _ _ _ _)
    have zz := HB.out.size
    have HB := Lib.hid (Below.grown HB.out gm HB.out.size (fun k hk => by have := LV1.out k hk; omega))
    have zw7 := gm.size
    have HV1 := Lib.hid om
    clear om gm zz
    go_wp2_with fail
    go_at_call 23
    refine (heldPointS_marks _ _ _ _ _ HV1.out (by omega) (by omega) (by have := HX.out; omega)).mono ?_
    rintro e wq ⟨rfl, rfl⟩
    go_wp2_with fail
    refine wp_region_held_drew (S := fun W => Below w7.heap.size w7 W) (by kernel_rfl) ?_ (fun hHeld => ?_); focus ((try dsimp only); exact (Below.refl _ _).drew)
    have HV0 := Lib.hid (HV0.out.below (Below.drew (Below.refl _ _)))
    have HV1 := Lib.hid (HV1.out.below (Below.drew (Below.refl _ _)))
    have hHeld : Below w7.heap.size w7 _ := hHeld
    obtain ⟨wDc, hwDc⟩ : ∃ wD, w7.drew = wD := ⟨_, rfl⟩
    rw [hwDc] at hHeld HV0 HV1 ⊢
    clear hwDc
    have zdc : w7.heap.size ≤ wDc.heap.size := Below.size hHeld
    (refine wpAnyH_take (i := 0) (v := ?_) rfl (by kernel_rfl) (by kernel_rfl) (by kernel_rfl) (fun _ _ _ h => h) (Or.inl ⟨rfl, ?_⟩) (by assumption) ?_; rotate_left; focus (intro W hSw; (try dsimp only at hSw); obtain ⟨⟨⟨i0, i1, i2, i3⟩, _, _⟩, ⟨i4, i5⟩, _, _⟩ := HK.out _ (below_after hSw HB.out); go_simp; try (with_reducible rfl))); (try simp only [Act.put, List.getElem_toArray, List.getElem_cons_succ, List.getElem_cons_zero, List.setIfInBounds_toArray, List.set_cons_zero, List.set_cons_succ])
    (refine wpAnyH_take (i := 2) (v := ?_) rfl (by kernel_rfl) (by kernel_rfl) (by kernel_rfl) (fun _ _ _ h => h) (Or.inl ⟨rfl, ?_⟩) (by assumption) ?_; rotate_left; focus (intro W hSw; (try dsimp only at hSw); obtain ⟨⟨⟨i0, i1, i2, i3⟩, _, _⟩, ⟨i4, i5⟩, _, _⟩ := HK.out _ (below_after hSw HB.out); go_simp; try (with_reducible rfl))); (try simp only [Act.put, List.getElem_toArray, List.getElem_cons_succ, List.getElem_cons_zero, List.setIfInBounds_toArray, List.set_cons_zero, List.set_cons_succ])
    (refine wpAnyH_take (i := 4) (v := ?_) rfl (by kernel_rfl) (by kernel_rfl) (by kernel_rfl) (fun _ _ _ h => h) (Or.inl ⟨rfl, ?_⟩) (by assumption) ?_; rotate_left; focus (intro W hSw; (try dsimp only at hSw); obtain ⟨⟨⟨i0, i1, i2, i3⟩, _, _⟩, ⟨i4, i5⟩, _, _⟩ := HK.out _ (below_after hSw HB.out); go_simp; try (with_reducible rfl))); (try simp only [Act.put, List.getElem_toArray, List.getElem_cons_succ, List.getElem_cons_zero, List.setIfInBounds_toArray, List.set_cons_zero, List.set_cons_succ])
    refine wpAnyH_ready (rs := [1]) (by kernel_rfl) (by simp) ?_; refine AllReadyH.cons rfl (fun K hK => ?_) AllReadyH.nil
    go_simp; (go_at_call 56; refine (toMatrix_any _ _ _ _ _).mono ?_; rintro en ywc0 ⟨rfl, hb2⟩); have zywc0 := hb2.size; have HV0 := Lib.hid (HV0.out.below hb2); have HV1 := Lib.hid (HV1.out.below hb2); refine hK.out _ _ (below_after hb2 hHeld) (fun hHeld2 => ?_); clear hb2; (clear hHeld; rename _ => hHeld; clear hK K; have hHeld : Below w7.heap.size w7 _ := hHeld); (try simp only [Act.put, List.getElem_toArray, List.getElem_cons_succ, List.getElem_cons_zero, List.setIfInBounds_toArray, List.set_cons_zero, List.set_cons_succ])
    refine wpAnyH_ready (rs := [3]) (by kernel_rfl) (by simp) ?_; refine AllReadyH.cons rfl (fun K hK => ?_) AllReadyH.nil
    go_simp; (go_at_call 57; refine (HTB.out _ (below_after hHeld HB.out)).mono ?_; rintro en ywc1 ⟨v, rfl, o, hb2⟩); obtain ⟨aO8, cO8, rfl, _⟩ := own_viewF o; have HO8 : Hid (OwnF _ _ (.slice aO8 n cO8) n (flat ps)) := o; have LO8 := Lib.hid (World.ownsRow.lt o); have zywc1 := hb2.size; clear o; have HV0 := Lib.hid (HV0.out.below hb2); have HV1 := Lib.hid (HV1.out.below hb2); refine hK.out _ _ (below_after hb2 hHeld) (fun hHeld2 => ?_); clear hb2; (clear hHeld; rename _ => hHeld; clear hK K; have hHeld : Below w7.heap.size w7 _ := hHeld); (try simp only [Act.put, List.getElem_toArray, List.getElem_cons_succ, List.getElem_cons_zero, List.setIfInBounds_toArray, List.set_cons_zero, List.set_cons_succ])
    refine wpAnyH_ready (rs := [5]) (by kernel_rfl) (by simp) ?_; refine AllReadyH.cons rfl (fun K hK => ?_) AllReadyH.nil
    go_simp; (go_at_call 44; refine (toPoint_any _ _ _).mono ?_; rintro en ywc2 ⟨rfl, hb2⟩); have zywc2 := hb2.size; have HV0 := Lib.hid (HV0.out.below hb2); have HV1 := Lib.hid (HV1.out.below hb2); have HO8 := Lib.hid (HO8.out.below hb2); refine hK.out _ _ (below_after hb2 hHeld) (fun hHeld2 => ?_); clear hb2; (clear hHeld; rename _ => hHeld; clear hK K; have hHeld : Below w7.heap.size w7 _ := hHeld); (try simp only [Act.put, List.getElem_toArray, List.getElem_cons_succ, List.getElem_cons_zero, List.setIfInBounds_toArray, List.set_cons_zero, List.set_cons_succ])
    refine wpAnyH_ready (rs := [6]) (by kernel_rfl) (by simp) ?_; refine AllReadyH.cons rfl (fun K hK => ?_) AllReadyH.nil
    go_simp; (go_at_call 58; refine (HI.out _ _ _ _ (LV.of_own HO8.out HN.out (by have := HL.out; omega))).mono ?_; rintro en ywc3 ⟨v, rfl, o, hb2⟩); obtain ⟨aV2, cV2, rfl, _⟩ := own_viewF o; have HV2 : Hid (OwnF _ _ (.slice aV2 N cV2) N zs) := o; have LV2 : Hid (∀ k, (Value.slice aV2 N cV2).ownBlock = some k → _ ≤ k ∧ k < ywc3.heap.size) := World.ownsRow.lt o; have zywc3 := hb2.size; clear o; have HV0 := Lib.hid (HV0.out.below hb2); have HV1 := Lib.hid (HV1.out.below hb2); have HO8 := Lib.hid (HO8.out.below hb2); refine hK.out _ _ (below_after hb2 hHeld) (fun hHeld2 => ?_); clear hb2; (clear hHeld; rename _ => hHeld; clear hK K; have hHeld : Below w7.heap.size w7 _ := hHeld); (try simp only [Act.put, List.getElem_toArray, List.getElem_cons_succ, List.getElem_cons_zero, List.setIfInBounds_toArray, List.set_cons_zero, List.set_cons_succ])
    (refine wpAnyH_take (i := 7) (v := ?_) rfl (by kernel_rfl) (by kernel_rfl) (by kernel_rfl) (fun _ _ _ h => h) (Or.inl ⟨rfl, ?_⟩) (by assumption) ?_; rotate_left; focus (intro W hSw; (try dsimp only at hSw); obtain ⟨⟨⟨i0, i1, i2, i3⟩, _, _⟩, ⟨i4, i5⟩, _, _⟩ := HK.out _ (below_after hSw HB.out); go_simp; try (with_reducible rfl))); (try simp only [Act.put, List.getElem_toArray, List.getElem_cons_succ, List.getElem_cons_zero, List.setIfInBounds_toArray, List.set_cons_zero, List.set_cons_succ])
    (refine wpAnyH_take (i := 8) (v := ?_) rfl (by kernel_rfl) (by kernel_rfl) (by kernel_rfl) (fun _ _ _ h => h) (Or.inl ⟨rfl, ?_⟩) (by assumption) ?_; rotate_left; focus (intro W hSw; (try dsimp only at hSw); obtain ⟨⟨⟨i0, i1, i2, i3⟩, _, _⟩, ⟨i4, i5⟩, _, _⟩ := HK.out _ (below_after hSw HB.out); go_simp; try (with_reducible rfl))); (try simp only [Act.put, List.getElem_toArray, List.getElem_cons_succ, List.getElem_cons_zero, List.setIfInBounds_toArray, List.set_cons_zero, List.set_cons_succ])
    (refine wpAnyH_take (i := 9) (v := ?_) rfl (by kernel_rfl) (by kernel_rfl) (by kernel_rfl) (fun _ _ _ h => h) (Or.inl ⟨rfl, ?_⟩) (by assumption) ?_; rotate_left; focus (intro W hSw; (try dsimp only at hSw); obtain ⟨⟨⟨i0, i1, i2, i3⟩, _, _⟩, ⟨i4, i5⟩, _, _⟩ := HK.out _ (below_after hSw HB.out); go_simp; try (with_reducible rfl))); (try simp only [Act.put, List.getElem_toArray, List.getElem_cons_succ, List.getElem_cons_zero, List.setIfInBounds_toArray, List.set_cons_zero, List.set_cons_succ])
    (refine wpAnyH_take (i := 10) (v := ?_) rfl (by kernel_rfl) (by kernel_rfl) (by kernel_rfl) (fun _ _ _ h => h) (Or.inl ⟨rfl, ?_⟩) (by assumption) ?_; rotate_left; focus (intro W hSw; (try dsimp only at hSw); obtain ⟨⟨⟨i0, i1, i2, i3⟩, _, _⟩, ⟨i4, i5⟩, _, _⟩ := HK.out _ (below_after hSw HB.out); go_simp; try (with_reducible rfl))); (try simp only [Act.put, List.getElem_toArray, List.getElem_cons_succ, List.getElem_cons_zero, List.setIfInBounds_toArray, List.set_cons_zero, List.set_cons_succ])
    (refine wpAnyH_take (i := 11) (v := ?_) rfl (by kernel_rfl) (by kernel_rfl) (by kernel_rfl) (fun _ _ _ h => h) (Or.inl ⟨rfl, ?_⟩) (by assumption) ?_; rotate_left; focus (intro W hSw; (try dsimp only at hSw); obtain ⟨⟨⟨i0, i1, i2, i3⟩, _, _⟩, ⟨i4, i5⟩, _, _⟩ := HK.out _ (below_after hSw HB.out); go_simp; try (with_reducible rfl))); (try simp only [Act.put, List.getElem_toArray, List.getElem_cons_succ, List.getElem_cons_zero, List.setIfInBounds_toArray, List.set_cons_zero, List.set_cons_succ])
    refine wpAnyH_done (by kernel_rfl) ?_ _
    have zrc := hHeld.size
    have HB := Lib.hid (below_after hHeld HB.out)
    clear hHeld
    clear HO8 LO8
    go_wp2_with fail
    go_at_call 21
    refine (eqPointS_same _ _ _ _ _ _ _ HV2.out HV0.out (by have := HX.out; omega)).mono ?_
    rintro e w8 ⟨rfl, b⟩
    have HV0 := Lib.hid (HV0.out.below b)
    have HV1 := Lib.hid (HV1.out.below b)
    have HV2 := Lib.hid (HV2.out.below b)
    have HB := Lib.hid (below_after b HB.out)
    have zw8 := b.size
    clear b
    go_wp2_with fail
    go_at_call 23
    refine (heldPointS_marks _ _ _ _ _ HV1.out (by omega) (by omega) (by have := HX.out; omega)).mono ?_
    rintro e wq ⟨rfl, rfl⟩
    go_wp2
    go_ret
    exact ⟨rfl, below_after HB.out HBW.out⟩
end Go.Proofs.Ytmjhejmkmdgikaa
