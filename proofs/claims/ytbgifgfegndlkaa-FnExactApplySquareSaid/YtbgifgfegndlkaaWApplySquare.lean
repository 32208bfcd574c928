/-
  The walk of laws.FnExactApplySquare: for all arguments it returns true and leaves memory as it was. No conditions (own work).
-/
import Derived.Test.YtbgifgfegndlkaaTrA
import Derived.Test.YtbgifgfegndlkaaTrTo
namespace Go.Proofs.Ytbgifgfegndlkaa
open Go.ChangeShapes Go.WideShapes Go.ChangeAt Go.RowKit
set_option linter.unusedVariables false
set_option linter.unusedSimpArgs false
set_option maxRecDepth 100000

set_option maxHeartbeats 3200000 in
theorem walkFnExactApplySquare (x0 x1 x2 x3 x4 x5 x6 x7 x8 x9 x10 x11 : Int) (wx0 : (Lit.int .i64 x0).wf = true) (wx1 : (Lit.int .i64 x1).wf = true) (wx2 : (Lit.int .i64 x2).wf = true) (wx3 : (Lit.int .i64 x3).wf = true) (wx4 : (Lit.int .i64 x4).wf = true) (wx5 : (Lit.int .i64 x5).wf = true) (wx6 : (Lit.int .i64 x6).wf = true) (wx7 : (Lit.int .i64 x7).wf = true) (wx8 : (Lit.int .i64 x8).wf = true) (wx9 : (Lit.int .i64 x9).wf = true) (wx10 : (Lit.int .i64 x10).wf = true) (wx11 : (Lit.int .i64 x11).wf = true) (w : World) :
    Calls Try.prog 11 #[.agg #[.int .i64 x0, .int .i64 x1, .int .i64 x2, .int .i64 x3, .int .i64 x4, .int .i64 x5, .int .i64 x6, .int .i64 x7, .int .i64 x8], .agg #[.int .i64 x9, .int .i64 x10, .int .i64 x11]] w fun e w' => e = .returned (.bool true) ∧ Below w.heap.size w w' := by
  clear wx0 wx1 wx2 wx3 wx4 wx5 wx6 wx7 wx8 wx9 wx10 wx11
  have HS := Lib.hid (fun w => spec_ApplySquare_any x0 x1 x2 x3 x4 x5 x6 x7 x8 x9 x10 x11 w)
  have HI := Lib.hid (fun w => impl_ApplySquare_any x0 x1 x2 x3 x4 x5 x6 x7 x8 x9 x10 x11 w)
  generalize apV x0 x1 x2 x3 x4 x5 x6 x7 x8 x9 x10 x11 (asS x0 x1 x2 x9 x10 x11) = A at *
  generalize apV x0 x1 x2 x3 x4 x5 x6 x7 x8 x9 x10 x11 (asS x3 x4 x5 x9 x10 x11) = B at *
  generalize apV x0 x1 x2 x3 x4 x5 x6 x7 x8 x9 x10 x11 (asS x6 x7 x8 x9 x10 x11) = C at *
  generalize apK x0 x1 x2 x3 x4 x5 x6 x7 x8 x9 x10 x11 = K at *
  obtain ⟨GM, hG⟩ : ∃ G, w.heap.size = G := ⟨_, rfl⟩
  have HG := Lib.hid hG
  go_enter Try.func11, Try.ntmps11
  go_upto_region 1 with fail
  obtain ⟨w0, hw0⟩ : ∃ w0, w0 = ((w.alloc (.cells #[.int .i64 x0, .int .i64 x1, .int .i64 x2, .int .i64 x3, .int .i64 x4, .int .i64 x5, .int .i64 x6, .int .i64 x7, .int .i64 x8] 42)).alloc (.cells #[.int .i64 x9, .int .i64 x10, .int .i64 x11] 22)) := ⟨_, rfl⟩
  rw [← hw0]
  have HM : Hid (Bk9 w0 GM x0 x1 x2 x3 x4 x5 x6 x7 x8) := by
    have h := (bk9_new w x0 x1 x2 x3 x4 x5 x6 x7 x8 42).below (W' := ((w.alloc (.cells #[.int .i64 x0, .int .i64 x1, .int .i64 x2, .int .i64 x3, .int .i64 x4, .int .i64 x5, .int .i64 x6, .int .i64 x7, .int .i64 x8] 42)).alloc (.cells #[.int .i64 x9, .int .i64 x10, .int .i64 x11] 22))) (by (repeat' (first | (with_reducible exact Below.refl _ _) | (with_reducible refine Below.alloc ?_ ?_ _) | (with_reducible refine Below.setCell ?_ ?_ _) | (with_reducible refine Below.drew ?_) | (with_reducible refine below_drewN ?_ _) | (with_reducible assumption) | (with_reducible refine below_after (by with_reducible assumption) ?_) | go_size)))
    (try simp only [World.size_alloc] at h)
    rw [hG] at h
    rw [hw0]; exact h
  have HT : Hid (Bk3 w0 (GM + 1) x9 x10 x11) := by
    have h := (bk3_new (w.alloc (.cells #[.int .i64 x0, .int .i64 x1, .int .i64 x2, .int .i64 x3, .int .i64 x4, .int .i64 x5, .int .i64 x6, .int .i64 x7, .int .i64 x8] 42)) x9 x10 x11 22).below (W' := ((w.alloc (.cells #[.int .i64 x0, .int .i64 x1, .int .i64 x2, .int .i64 x3, .int .i64 x4, .int .i64 x5, .int .i64 x6, .int .i64 x7, .int .i64 x8] 42)).alloc (.cells #[.int .i64 x9, .int .i64 x10, .int .i64 x11] 22))) (by (repeat' (first | (with_reducible exact Below.refl _ _) | (with_reducible refine Below.alloc ?_ ?_ _) | (with_reducible refine Below.setCell ?_ ?_ _) | (with_reducible refine Below.drew ?_) | (with_reducible refine below_drewN ?_ _) | (with_reducible assumption) | (with_reducible refine below_after (by with_reducible assumption) ?_) | go_size)))
    (try simp only [World.size_alloc] at h)
    rw [hG] at h
    rw [hw0]; exact h
  have HB : Hid (Below w.heap.size w w0) := by show Below w.heap.size w w0; rw [hw0]; (repeat' (first | (with_reducible exact Below.refl _ _) | (with_reducible refine Below.alloc ?_ ?_ _) | (with_reducible refine Below.setCell ?_ ?_ _) | (with_reducible refine Below.drew ?_) | (with_reducible refine below_drewN ?_ _) | (with_reducible assumption) | (with_reducible refine below_after (by with_reducible assumption) ?_) | go_size))
  clear hw0
  obtain ⟨GT, hGT⟩ : ∃ g, GM + 1 = g := ⟨_, rfl⟩
  rw [hGT] at HT ⊢
  have le_M : w.heap.size ≤ GM := by omega
  have le_T : w.heap.size ≤ GT := by omega
  have ne_T_M : GT ≠ GM := by omega
  have ne_M_T : GM ≠ GT := by omega
  clear hGT
  go_wp2_with fail
  refine wp_region_held_drew (S := fun W => Below w.heap.size w W ∧ Bk9 W GM x0 x1 x2 x3 x4 x5 x6 x7 x8 ∧ Bk3 W GT x9 x10 x11) (by kernel_rfl) ?_ (fun hHeld => ?_); focus ((try dsimp only); exact ⟨Below.drew HB.out, HM.out.below (Below.drew (Below.refl _ _)), HT.out.below (Below.drew (Below.refl _ _))⟩)
  have HM := Lib.hid (HM.out.below (Below.drew (Below.refl _ _)))
  have HT := Lib.hid (HT.out.below (Below.drew (Below.refl _ _)))
  have hHeld : (fun W => Below w.heap.size w W ∧ Bk9 W GM x0 x1 x2 x3 x4 x5 x6 x7 x8 ∧ Bk3 W GT x9 x10 x11) _ := hHeld
  obtain ⟨wD0, hwD0⟩ : ∃ wD, w0.drew = wD := ⟨_, rfl⟩
  rw [hwD0] at hHeld HM HT ⊢
  clear hwD0
  (refine wpAnyH_take (i := 0) (v := ?_) rfl (by kernel_rfl) (by kernel_rfl) (by kernel_rfl) (fun _ _ _ h => h) (Or.inl ⟨rfl, ?_⟩) (by assumption) ?_; rotate_left; focus (intro W hSw; (try dsimp only at hSw); obtain ⟨hSb, hxM, hxT⟩ := hSw; obtain ⟨⟨iM0, iM1, iM2, iM3, iM4, iM5, iM6, iM7, iM8⟩, _, _⟩ := hxM; obtain ⟨⟨iT0, iT1, iT2⟩, _, _⟩ := hxT; go_simp; try (with_reducible rfl))); (try simp only [Act.put, List.getElem_toArray, List.getElem_cons_succ, List.getElem_cons_zero, List.setIfInBounds_toArray, List.set_cons_zero, List.set_cons_succ])
  (refine wpAnyH_take (i := 2) (v := ?_) rfl (by kernel_rfl) (by kernel_rfl) (by kernel_rfl) (fun _ _ _ h => h) (Or.inl ⟨rfl, ?_⟩) (by assumption) ?_; rotate_left; focus (intro W hSw; (try dsimp only at hSw); obtain ⟨hSb, hxM, hxT⟩ := hSw; obtain ⟨⟨iM0, iM1, iM2, iM3, iM4, iM5, iM6, iM7, iM8⟩, _, _⟩ := hxM; obtain ⟨⟨iT0, iT1, iT2⟩, _, _⟩ := hxT; go_simp; try (with_reducible rfl))); (try simp only [Act.put, List.getElem_toArray, List.getElem_cons_succ, List.getElem_cons_zero, List.setIfInBounds_toArray, List.set_cons_zero, List.set_cons_succ])
  refine wpAnyH_ready (rs := [1, 8]) (by kernel_rfl) (by simp) ?_; refine AllReadyH.cons rfl (fun K hK => ?_) (AllReadyH.cons rfl (fun K hK => ?_) AllReadyH.nil)
  · skip
    go_simp; (go_at_call 39; refine (toSquare_any _ _ _ _ _ _ _ _ _ _).mono ?_; rintro en ywr0x0 ⟨rfl, hb2⟩); have HM := Lib.hid (HM.out.below hb2); have HT := Lib.hid (HT.out.below hb2); refine hK.out _ _ ⟨below_after hb2 hHeld.1, HM.out, HT.out⟩ (fun hHeld2 => ?_); clear hb2; (clear hHeld; rename _ => hHeld; clear hK K; have hHeld : (fun W => Below w.heap.size w W ∧ Bk9 W GM x0 x1 x2 x3 x4 x5 x6 x7 x8 ∧ Bk3 W GT x9 x10 x11) _ := hHeld); (try simp only [Act.put, List.getElem_toArray, List.getElem_cons_succ, List.getElem_cons_zero, List.setIfInBounds_toArray, List.set_cons_zero, List.set_cons_succ])
    refine wpAnyH_ready (rs := [3, 8]) (by kernel_rfl) (by simp) ?_; refine AllReadyH.cons rfl (fun K hK => ?_) (AllReadyH.cons rfl (fun K hK => ?_) AllReadyH.nil)
    · skip
      go_simp; (go_at_call 17; refine (toTriple_any _ _ _ _).mono ?_; rintro en ywr0x1 ⟨rfl, hb2⟩); have HM := Lib.hid (HM.out.below hb2); have HT := Lib.hid (HT.out.below hb2); refine hK.out _ _ ⟨below_after hb2 hHeld.1, HM.out, HT.out⟩ (fun hHeld2 => ?_); clear hb2; (clear hHeld; rename _ => hHeld; clear hK K; have hHeld : (fun W => Below w.heap.size w W ∧ Bk9 W GM x0 x1 x2 x3 x4 x5 x6 x7 x8 ∧ Bk3 W GT x9 x10 x11) _ := hHeld); (try simp only [Act.put, List.getElem_toArray, List.getElem_cons_succ, List.getElem_cons_zero, List.setIfInBounds_toArray, List.set_cons_zero, List.set_cons_succ])
      refine wpAnyH_ready (rs := [4, 8]) (by kernel_rfl) (by simp) ?_; refine AllReadyH.cons rfl (fun K hK => ?_) (AllReadyH.cons rfl (fun K hK => ?_) AllReadyH.nil)
      · skip
        go_simp; (go_at_call 38; refine (HS.out _).mono ?_; rintro en ywr0x2 ⟨rfl, hb2⟩); have HM := Lib.hid (HM.out.below hb2); have HT := Lib.hid (HT.out.below hb2); refine hK.out _ _ ⟨below_after hb2 hHeld.1, HM.out, HT.out⟩ (fun hHeld2 => ?_); clear hb2; (clear hHeld; rename _ => hHeld; clear hK K; have hHeld : (fun W => Below w.heap.size w W ∧ Bk9 W GM x0 x1 x2 x3 x4 x5 x6 x7 x8 ∧ Bk3 W GT x9 x10 x11) _ := hHeld); (try simp only [Act.put, List.getElem_toArray, List.getElem_cons_succ, List.getElem_cons_zero, List.setIfInBounds_toArray, List.set_cons_zero, List.set_cons_succ])
        (refine wpAnyH_take (i := 5) (v := ?_) rfl (by kernel_rfl) (by kernel_rfl) (by kernel_rfl) (fun _ _ _ h => h) (Or.inl ⟨rfl, ?_⟩) (by assumption) ?_; rotate_left; focus (intro W hSw; (try dsimp only at hSw); obtain ⟨hSb, hxM, hxT⟩ := hSw; obtain ⟨⟨iM0, iM1, iM2, iM3, iM4, iM5, iM6, iM7, iM8⟩, _, _⟩ := hxM; obtain ⟨⟨iT0, iT1, iT2⟩, _, _⟩ := hxT; go_simp; try (with_reducible rfl))); (try simp only [Act.put, List.getElem_toArray, List.getElem_cons_succ, List.getElem_cons_zero, List.setIfInBounds_toArray, List.set_cons_zero, List.set_cons_succ])
        (refine wpAnyH_take (i := 6) (v := ?_) rfl (by kernel_rfl) (by kernel_rfl) (by kernel_rfl) (fun _ _ _ h => h) (Or.inl ⟨rfl, ?_⟩) (by assumption) ?_; rotate_left; focus (intro W hSw; (try dsimp only at hSw); obtain ⟨hSb, hxM, hxT⟩ := hSw; obtain ⟨⟨iM0, iM1, iM2, iM3, iM4, iM5, iM6, iM7, iM8⟩, _, _⟩ := hxM; obtain ⟨⟨iT0, iT1, iT2⟩, _, _⟩ := hxT; go_simp; try (with_reducible rfl))); (try simp only [Act.put, List.getElem_toArray, List.getElem_cons_succ, List.getElem_cons_zero, List.setIfInBounds_toArray, List.set_cons_zero, List.set_cons_succ])
        (refine wpAnyH_take (i := 7) (v := ?_) rfl (by kernel_rfl) (by kernel_rfl) (by kernel_rfl) (fun _ _ _ h => h) (Or.inl ⟨rfl, ?_⟩) (by assumption) ?_; rotate_left; focus (intro W hSw; (try dsimp only at hSw); obtain ⟨hSb, hxM, hxT⟩ := hSw; obtain ⟨⟨iM0, iM1, iM2, iM3, iM4, iM5, iM6, iM7, iM8⟩, _, _⟩ := hxM; obtain ⟨⟨iT0, iT1, iT2⟩, _, _⟩ := hxT; go_simp; try (with_reducible rfl))); (try simp only [Act.put, List.getElem_toArray, List.getElem_cons_succ, List.getElem_cons_zero, List.setIfInBounds_toArray, List.set_cons_zero, List.set_cons_succ])
        refine wpAnyH_ready (rs := [8]) (by kernel_rfl) (by simp) ?_; refine AllReadyH.cons rfl (fun K hK => ?_) AllReadyH.nil
        go_simp; obtain ⟨GV, hGV⟩ : ∃ G, ywr0x2.heap.size = G := ⟨_, rfl⟩; have le_V : w.heap.size ≤ GV := by rw [← hGV]; exact Below.size hHeld.1
        have ne_V_M : GV ≠ GM := by have := HM.out.2.2; omega
        have ne_M_V : GM ≠ GV := Ne.symm ne_V_M
        have ne_V_T : GV ≠ GT := by have := HT.out.2.2; omega
        have ne_T_V : GT ≠ GV := Ne.symm ne_V_T
        have HM := Lib.hid (HM.out.below ((Below.refl _ _).alloc (Nat.le_refl _) (.cells #[.int .i64 0, .int .i64 0, .int .i64 0] 24))); have HT := Lib.hid (HT.out.below ((Below.refl _ _).alloc (Nat.le_refl _) (.cells #[.int .i64 0, .int .i64 0, .int .i64 0] 24))); skip
        have HV : Hid (Bk3 (ywr0x2.alloc (.cells #[.int .i64 0, .int .i64 0, .int .i64 0] 24)) GV 0 0 0) := by rw [← hGV]; exact bk3_new ywr0x2 0 0 0 _
        refine hK.out _ _ ⟨Below.alloc hHeld.1 (Below.size hHeld.1) _, HM.out, HT.out⟩ (fun hHeld2 => ?_); (clear hHeld; rename _ => hHeld; clear hK K; have hHeld : (fun W => Below w.heap.size w W ∧ Bk9 W GM x0 x1 x2 x3 x4 x5 x6 x7 x8 ∧ Bk3 W GT x9 x10 x11) _ := hHeld); (try simp only [Act.put, List.getElem_toArray, List.getElem_cons_succ, List.getElem_cons_zero, List.setIfInBounds_toArray, List.set_cons_zero, List.set_cons_succ])
        rw [hGV]; clear hGV; obtain ⟨ywr0x3, hwx⟩ : ∃ wx, ywr0x2.alloc (.cells #[.int .i64 0, .int .i64 0, .int .i64 0] 24) = wx := ⟨_, rfl⟩; rw [hwx] at HM HT HV hHeld ⊢; clear hwx
        refine wpAnyH_ready (rs := [9]) (by kernel_rfl) (by simp) ?_; refine AllReadyH.cons rfl (fun K hK => ?_) AllReadyH.nil
        obtain ⟨⟨a0, a1, a2⟩, ⟨f0, f1, f2⟩, az⟩ := HV.out; go_simp; clear a0 f0 a1 f1 a2 f2 az
        have HM := Lib.hid (((HM.out.far ⟨GV, 0, none⟩ (.int .i64 A) (by show GM ≠ GV; exact ne_M_V)).far ⟨GV, 1, none⟩ (.int .i64 B) (by show GM ≠ GV; exact ne_M_V)).far ⟨GV, 2, none⟩ (.int .i64 C) (by show GM ≠ GV; exact ne_M_V))
        have HT := Lib.hid (((HT.out.far ⟨GV, 0, none⟩ (.int .i64 A) (by show GT ≠ GV; exact ne_T_V)).far ⟨GV, 1, none⟩ (.int .i64 B) (by show GT ≠ GV; exact ne_T_V)).far ⟨GV, 2, none⟩ (.int .i64 C) (by show GT ≠ GV; exact ne_T_V))
        have HV := Lib.hid (((HV.out.set0 A).set1 B).set2 C)
        refine hK.out _ _ ⟨(Below.setCell (Below.setCell (Below.setCell hHeld.1 (p := ⟨GV, 0, none⟩) le_V _) (p := ⟨GV, 1, none⟩) le_V _) (p := ⟨GV, 2, none⟩) le_V _), HM.out, HT.out⟩ (fun hHeld2 => ?_); (clear hHeld; rename _ => hHeld; clear hK K; have hHeld : (fun W => Below w.heap.size w W ∧ Bk9 W GM x0 x1 x2 x3 x4 x5 x6 x7 x8 ∧ Bk3 W GT x9 x10 x11) _ := hHeld); (try simp only [Act.put, List.getElem_toArray, List.getElem_cons_succ, List.getElem_cons_zero, List.setIfInBounds_toArray, List.set_cons_zero, List.set_cons_succ])
        obtain ⟨ywr0x4, hwx⟩ : ∃ wx, ((ywr0x3.setCell ⟨GV, 0, none⟩ (.int .i64 A)).setCell ⟨GV, 1, none⟩ (.int .i64 B)).setCell ⟨GV, 2, none⟩ (.int .i64 C) = wx := ⟨_, rfl⟩; rw [hwx] at HM HT HV hHeld ⊢; clear hwx
        (refine wpAnyH_take (i := 10) (v := ?_) rfl (by kernel_rfl) (by kernel_rfl) (by kernel_rfl) (fun _ _ _ h => h) (Or.inl ⟨rfl, ?_⟩) (by assumption) ?_; rotate_left; focus (intro W hSw; (try dsimp only at hSw); obtain ⟨hSb, hxM, hxT⟩ := hSw; obtain ⟨⟨iM0, iM1, iM2, iM3, iM4, iM5, iM6, iM7, iM8⟩, _, _⟩ := hxM; obtain ⟨⟨iT0, iT1, iT2⟩, _, _⟩ := hxT; go_simp; try (with_reducible rfl))); (try simp only [Act.put, List.getElem_toArray, List.getElem_cons_succ, List.getElem_cons_zero, List.setIfInBounds_toArray, List.set_cons_zero, List.set_cons_succ])
        refine wpAnyH_done (by kernel_rfl) ?_ _
        have HB := Lib.hid (hHeld.1)
        clear hHeld
        go_wp2_with fail
        refine wp_region_held_drew (S := fun W => Below w.heap.size w W ∧ Bk9 W GM x0 x1 x2 x3 x4 x5 x6 x7 x8 ∧ Bk3 W GT x9 x10 x11 ∧ Bk3 W GV A B C) (by kernel_rfl) ?_ (fun hHeld => ?_); focus ((try dsimp only); exact ⟨Below.drew HB.out, HM.out.below (Below.drew (Below.refl _ _)), HT.out.below (Below.drew (Below.refl _ _)), HV.out.below (Below.drew (Below.refl _ _))⟩)
        have HM := Lib.hid (HM.out.below (Below.drew (Below.refl _ _)))
        have HT := Lib.hid (HT.out.below (Below.drew (Below.refl _ _)))
        have HV := Lib.hid (HV.out.below (Below.drew (Below.refl _ _)))
        have hHeld : (fun W => Below w.heap.size w W ∧ Bk9 W GM x0 x1 x2 x3 x4 x5 x6 x7 x8 ∧ Bk3 W GT x9 x10 x11 ∧ Bk3 W GV A B C) _ := hHeld
        obtain ⟨wD50, hwD50⟩ : ∃ wD, ywr0x4.drew = wD := ⟨_, rfl⟩
        rw [hwD50] at hHeld HM HT HV ⊢
        clear hwD50
        (refine wpAnyH_take (i := 0) (v := ?_) rfl (by kernel_rfl) (by kernel_rfl) (by kernel_rfl) (fun _ _ _ h => h) (Or.inl ⟨rfl, ?_⟩) (by assumption) ?_; rotate_left; focus (intro W hSw; (try dsimp only at hSw); obtain ⟨hSb, hxM, hxT, hxV⟩ := hSw; obtain ⟨⟨iM0, iM1, iM2, iM3, iM4, iM5, iM6, iM7, iM8⟩, _, _⟩ := hxM; obtain ⟨⟨iT0, iT1, iT2⟩, _, _⟩ := hxT; obtain ⟨⟨iV0, iV1, iV2⟩, _, _⟩ := hxV; go_simp; try (with_reducible rfl))); (try simp only [Act.put, List.getElem_toArray, List.getElem_cons_succ, List.getElem_cons_zero, List.setIfInBounds_toArray, List.set_cons_zero, List.set_cons_succ])
        (refine wpAnyH_take (i := 2) (v := ?_) rfl (by kernel_rfl) (by kernel_rfl) (by kernel_rfl) (fun _ _ _ h => h) (Or.inl ⟨rfl, ?_⟩) (by assumption) ?_; rotate_left; focus (intro W hSw; (try dsimp only at hSw); obtain ⟨hSb, hxM, hxT, hxV⟩ := hSw; obtain ⟨⟨iM0, iM1, iM2, iM3, iM4, iM5, iM6, iM7, iM8⟩, _, _⟩ := hxM; obtain ⟨⟨iT0, iT1, iT2⟩, _, _⟩ := hxT; obtain ⟨⟨iV0, iV1, iV2⟩, _, _⟩ := hxV; go_simp; try (with_reducible rfl))); (try simp only [Act.put, List.getElem_toArray, List.getElem_cons_succ, List.getElem_cons_zero, List.setIfInBounds_toArray, List.set_cons_zero, List.set_cons_succ])
        refine wpAnyH_ready (rs := [1, 8]) (by kernel_rfl) (by simp) ?_; refine AllReadyH.cons rfl (fun K hK => ?_) (AllReadyH.cons rfl (fun K hK => ?_) AllReadyH.nil)
        · skip
          go_simp; (go_at_call 39; refine (toSquare_any _ _ _ _ _ _ _ _ _ _).mono ?_; rintro en ywr50x0 ⟨rfl, hb2⟩); have HM := Lib.hid (HM.out.below hb2); have HT := Lib.hid (HT.out.below hb2); have HV := Lib.hid (HV.out.below hb2); refine hK.out _ _ ⟨below_after hb2 hHeld.1, HM.out, HT.out, HV.out⟩ (fun hHeld2 => ?_); clear hb2; (clear hHeld; rename _ => hHeld; clear hK K; have hHeld : (fun W => Below w.heap.size w W ∧ Bk9 W GM x0 x1 x2 x3 x4 x5 x6 x7 x8 ∧ Bk3 W GT x9 x10 x11 ∧ Bk3 W GV A B C) _ := hHeld); (try simp only [Act.put, List.getElem_toArray, List.getElem_cons_succ, List.getElem_cons_zero, List.setIfInBounds_toArray, List.set_cons_zero, List.set_cons_succ])
          refine wpAnyH_ready (rs := [3, 8]) (by kernel_rfl) (by simp) ?_; refine AllReadyH.cons rfl (fun K hK => ?_) (AllReadyH.cons rfl (fun K hK => ?_) AllReadyH.nil)
          · skip
            go_simp; (go_at_call 17; refine (toTriple_any _ _ _ _).mono ?_; rintro en ywr50x1 ⟨rfl, hb2⟩); have HM := Lib.hid (HM.out.below hb2); have HT := Lib.hid (HT.out.below hb2); have HV := Lib.hid (HV.out.below hb2); refine hK.out _ _ ⟨below_after hb2 hHeld.1, HM.out, HT.out, HV.out⟩ (fun hHeld2 => ?_); clear hb2; (clear hHeld; rename _ => hHeld; clear hK K; have hHeld : (fun W => Below w.heap.size w W ∧ Bk9 W GM x0 x1 x2 x3 x4 x5 x6 x7 x8 ∧ Bk3 W GT x9 x10 x11 ∧ Bk3 W GV A B C) _ := hHeld); (try simp only [Act.put, List.getElem_toArray, List.getElem_cons_succ, List.getElem_cons_zero, List.setIfInBounds_toArray, List.set_cons_zero, List.set_cons_succ])
            refine wpAnyH_ready (rs := [4, 8]) (by kernel_rfl) (by simp) ?_; refine AllReadyH.cons rfl (fun K hK => ?_) (AllReadyH.cons rfl (fun K hK => ?_) AllReadyH.nil)
            · skip
              go_simp; (go_at_call 40; refine (HI.out _).mono ?_; rintro en ywr50x2 ⟨rfl, hb2⟩); have HM := Lib.hid (HM.out.below hb2); have HT := Lib.hid (HT.out.below hb2); have HV := Lib.hid (HV.out.below hb2); refine hK.out _ _ ⟨below_after hb2 hHeld.1, HM.out, HT.out, HV.out⟩ (fun hHeld2 => ?_); clear hb2; (clear hHeld; rename _ => hHeld; clear hK K; have hHeld : (fun W => Below w.heap.size w W ∧ Bk9 W GM x0 x1 x2 x3 x4 x5 x6 x7 x8 ∧ Bk3 W GT x9 x10 x11 ∧ Bk3 W GV A B C) _ := hHeld); (try simp only [Act.put, List.getElem_toArray, List.getElem_cons_succ, List.getElem_cons_zero, List.setIfInBounds_toArray, List.set_cons_zero, List.set_cons_succ])
              (refine wpAnyH_take (i := 5) (v := ?_) rfl (by kernel_rfl) (by kernel_rfl) (by kernel_rfl) (fun _ _ _ h => h) (Or.inl ⟨rfl, ?_⟩) (by assumption) ?_; rotate_left; focus (intro W hSw; (try dsimp only at hSw); obtain ⟨hSb, hxM, hxT, hxV⟩ := hSw; obtain ⟨⟨iM0, iM1, iM2, iM3, iM4, iM5, iM6, iM7, iM8⟩, _, _⟩ := hxM; obtain ⟨⟨iT0, iT1, iT2⟩, _, _⟩ := hxT; obtain ⟨⟨iV0, iV1, iV2⟩, _, _⟩ := hxV; go_simp; try (with_reducible rfl))); (try simp only [Act.put, List.getElem_toArray, List.getElem_cons_succ, List.getElem_cons_zero, List.setIfInBounds_toArray, List.set_cons_zero, List.set_cons_succ])
              (refine wpAnyH_take (i := 6) (v := ?_) rfl (by kernel_rfl) (by kernel_rfl) (by kernel_rfl) (fun _ _ _ h => h) (Or.inl ⟨rfl, ?_⟩) (by assumption) ?_; rotate_left; focus (intro W hSw; (try dsimp only at hSw); obtain ⟨hSb, hxM, hxT, hxV⟩ := hSw; obtain ⟨⟨iM0, iM1, iM2, iM3, iM4, iM5, iM6, iM7, iM8⟩, _, _⟩ := hxM; obtain ⟨⟨iT0, iT1, iT2⟩, _, _⟩ := hxT; obtain ⟨⟨iV0, iV1, iV2⟩, _, _⟩ := hxV; go_simp; try (with_reducible rfl))); (try simp only [Act.put, List.getElem_toArray, List.getElem_cons_succ, List.getElem_cons_zero, List.setIfInBounds_toArray, List.set_cons_zero, List.set_cons_succ])
              (refine wpAnyH_take (i := 7) (v := ?_) rfl (by kernel_rfl) (by kernel_rfl) (by kernel_rfl) (fun _ _ _ h => h) (Or.inl ⟨rfl, ?_⟩) (by assumption) ?_; rotate_left; focus (intro W hSw; (try dsimp only at hSw); obtain ⟨hSb, hxM, hxT, hxV⟩ := hSw; obtain ⟨⟨iM0, iM1, iM2, iM3, iM4, iM5, iM6, iM7, iM8⟩, _, _⟩ := hxM; obtain ⟨⟨iT0, iT1, iT2⟩, _, _⟩ := hxT; obtain ⟨⟨iV0, iV1, iV2⟩, _, _⟩ := hxV; go_simp; try (with_reducible rfl))); (try simp only [Act.put, List.getElem_toArray, List.getElem_cons_succ, List.getElem_cons_zero, List.setIfInBounds_toArray, List.set_cons_zero, List.set_cons_succ])
              refine wpAnyH_ready (rs := [8]) (by kernel_rfl) (by simp) ?_; refine AllReadyH.cons rfl (fun K hK => ?_) AllReadyH.nil
              go_simp; obtain ⟨GU, hGU⟩ : ∃ G, ywr50x2.heap.size = G := ⟨_, rfl⟩; have le_U : w.heap.size ≤ GU := by rw [← hGU]; exact Below.size hHeld.1
              have ne_U_M : GU ≠ GM := by have := HM.out.2.2; omega
              have ne_M_U : GM ≠ GU := Ne.symm ne_U_M
              have ne_U_T : GU ≠ GT := by have := HT.out.2.2; omega
              have ne_T_U : GT ≠ GU := Ne.symm ne_U_T
              have ne_U_V : GU ≠ GV := by have := HV.out.2.2; omega
              have ne_V_U : GV ≠ GU := Ne.symm ne_U_V
              have HM := Lib.hid (HM.out.below ((Below.refl _ _).alloc (Nat.le_refl _) (.cells #[.int .i64 0, .int .i64 0, .int .i64 0] 24))); have HT := Lib.hid (HT.out.below ((Below.refl _ _).alloc (Nat.le_refl _) (.cells #[.int .i64 0, .int .i64 0, .int .i64 0] 24))); have HV := Lib.hid (HV.out.below ((Below.refl _ _).alloc (Nat.le_refl _) (.cells #[.int .i64 0, .int .i64 0, .int .i64 0] 24))); skip
              have HU : Hid (Bk3 (ywr50x2.alloc (.cells #[.int .i64 0, .int .i64 0, .int .i64 0] 24)) GU 0 0 0) := by rw [← hGU]; exact bk3_new ywr50x2 0 0 0 _
              refine hK.out _ _ ⟨Below.alloc hHeld.1 (Below.size hHeld.1) _, HM.out, HT.out, HV.out⟩ (fun hHeld2 => ?_); (clear hHeld; rename _ => hHeld; clear hK K; have hHeld : (fun W => Below w.heap.size w W ∧ Bk9 W GM x0 x1 x2 x3 x4 x5 x6 x7 x8 ∧ Bk3 W GT x9 x10 x11 ∧ Bk3 W GV A B C) _ := hHeld); (try simp only [Act.put, List.getElem_toArray, List.getElem_cons_succ, List.getElem_cons_zero, List.setIfInBounds_toArray, List.set_cons_zero, List.set_cons_succ])
              rw [hGU]; clear hGU; obtain ⟨ywr50x3, hwx⟩ : ∃ wx, ywr50x2.alloc (.cells #[.int .i64 0, .int .i64 0, .int .i64 0] 24) = wx := ⟨_, rfl⟩; rw [hwx] at HM HT HV HU hHeld ⊢; clear hwx
              refine wpAnyH_ready (rs := [9]) (by kernel_rfl) (by simp) ?_; refine AllReadyH.cons rfl (fun K hK => ?_) AllReadyH.nil
              obtain ⟨⟨a0, a1, a2⟩, ⟨f0, f1, f2⟩, az⟩ := HU.out; go_simp; clear a0 f0 a1 f1 a2 f2 az
              have HM := Lib.hid (((HM.out.far ⟨GU, 0, none⟩ (.int .i64 A) (by show GM ≠ GU; exact ne_M_U)).far ⟨GU, 1, none⟩ (.int .i64 B) (by show GM ≠ GU; exact ne_M_U)).far ⟨GU, 2, none⟩ (.int .i64 C) (by show GM ≠ GU; exact ne_M_U))
              have HT := Lib.hid (((HT.out.far ⟨GU, 0, none⟩ (.int .i64 A) (by show GT ≠ GU; exact ne_T_U)).far ⟨GU, 1, none⟩ (.int .i64 B) (by show GT ≠ GU; exact ne_T_U)).far ⟨GU, 2, none⟩ (.int .i64 C) (by show GT ≠ GU; exact ne_T_U))
              have HV := Lib.hid (((HV.out.far ⟨GU, 0, none⟩ (.int .i64 A) (by show GV ≠ GU; exact ne_V_U)).far ⟨GU, 1, none⟩ (.int .i64 B) (by show GV ≠ GU; exact ne_V_U)).far ⟨GU, 2, none⟩ (.int .i64 C) (by show GV ≠ GU; exact ne_V_U))
              have HU := Lib.hid (((HU.out.set0 A).set1 B).set2 C)
              refine hK.out _ _ ⟨(Below.setCell (Below.setCell (Below.setCell hHeld.1 (p := ⟨GU, 0, none⟩) le_U _) (p := ⟨GU, 1, none⟩) le_U _) (p := ⟨GU, 2, none⟩) le_U _), HM.out, HT.out, HV.out⟩ (fun hHeld2 => ?_); (clear hHeld; rename _ => hHeld; clear hK K; have hHeld : (fun W => Below w.heap.size w W ∧ Bk9 W GM x0 x1 x2 x3 x4 x5 x6 x7 x8 ∧ Bk3 W GT x9 x10 x11 ∧ Bk3 W GV A B C) _ := hHeld); (try simp only [Act.put, List.getElem_toArray, List.getElem_cons_succ, List.getElem_cons_zero, List.setIfInBounds_toArray, List.set_cons_zero, List.set_cons_succ])
              obtain ⟨ywr50x4, hwx⟩ : ∃ wx, ((ywr50x3.setCell ⟨GU, 0, none⟩ (.int .i64 A)).setCell ⟨GU, 1, none⟩ (.int .i64 B)).setCell ⟨GU, 2, none⟩ (.int .i64 C) = wx := ⟨_, rfl⟩; rw [hwx] at HM HT HV HU hHeld ⊢; clear hwx
              (refine wpAnyH_take (i := 10) (v := ?_) rfl (by kernel_rfl) (by kernel_rfl) (by kernel_rfl) (fun _ _ _ h => h) (Or.inl ⟨rfl, ?_⟩) (by assumption) ?_; rotate_left; focus (intro W hSw; (try dsimp only at hSw); obtain ⟨hSb, hxM, hxT, hxV⟩ := hSw; obtain ⟨⟨iM0, iM1, iM2, iM3, iM4, iM5, iM6, iM7, iM8⟩, _, _⟩ := hxM; obtain ⟨⟨iT0, iT1, iT2⟩, _, _⟩ := hxT; obtain ⟨⟨iV0, iV1, iV2⟩, _, _⟩ := hxV; go_simp; try (with_reducible rfl))); (try simp only [Act.put, List.getElem_toArray, List.getElem_cons_succ, List.getElem_cons_zero, List.setIfInBounds_toArray, List.set_cons_zero, List.set_cons_succ])
              refine wpAnyH_done (by kernel_rfl) ?_ _
              have HB := Lib.hid (hHeld.1)
              clear hHeld
              obtain ⟨⟨qM0, qM1, qM2, qM3, qM4, qM5, qM6, qM7, qM8⟩, ⟨fM0, fM1, fM2, fM3, fM4, fM5, fM6, fM7, fM8⟩, zM⟩ := HM.out
              obtain ⟨⟨qT0, qT1, qT2⟩, ⟨fT0, fT1, fT2⟩, zT⟩ := HT.out
              obtain ⟨⟨qV0, qV1, qV2⟩, ⟨fV0, fV1, fV2⟩, zV⟩ := HV.out
              obtain ⟨⟨qU0, qU1, qU2⟩, ⟨fU0, fU1, fU2⟩, zU⟩ := HU.out
              go_wp2_with fail
              go_at_call 21
              refine (eqTriple_same _ _ _ _).mono ?_
              rintro e w101 ⟨rfl, hb⟩
              clear qM0 fM0 qM1 fM1 qM2 fM2 qM3 fM3 qM4 fM4 qM5 fM5 qM6 fM6 qM7 fM7 qM8 fM8 zM qT0 fT0 qT1 fT1 qT2 fT2 zT qV0 fV0 qV1 fV1 qV2 fV2 zV qU0 fU0 qU1 fU1 qU2 fU2 zU
              have HM := Lib.hid (HM.out.below hb)
              have HT := Lib.hid (HT.out.below hb)
              have HV := Lib.hid (HV.out.below hb)
              have HU := Lib.hid (HU.out.below hb)
              have HB := Lib.hid (below_after hb HB.out)
              clear hb
              obtain ⟨⟨qM0, qM1, qM2, qM3, qM4, qM5, qM6, qM7, qM8⟩, ⟨fM0, fM1, fM2, fM3, fM4, fM5, fM6, fM7, fM8⟩, zM⟩ := HM.out
              obtain ⟨⟨qT0, qT1, qT2⟩, ⟨fT0, fT1, fT2⟩, zT⟩ := HT.out
              obtain ⟨⟨qV0, qV1, qV2⟩, ⟨fV0, fV1, fV2⟩, zV⟩ := HV.out
              obtain ⟨⟨qU0, qU1, qU2⟩, ⟨fU0, fU1, fU2⟩, zU⟩ := HU.out
              go_wp2_with fail
              go_ret
              have hb := HB.out
              exact ⟨rfl, by (repeat' (first | (with_reducible exact Below.refl _ _) | (with_reducible refine Below.alloc ?_ ?_ _) | (with_reducible refine Below.setCell ?_ ?_ _) | (with_reducible refine Below.drew ?_) | (with_reducible refine below_drewN ?_ _) | (with_reducible assumption) | (with_reducible refine below_after (by with_reducible assumption) ?_) | go_size))⟩
            · skip
              go_simp; obtain ⟨GU, hGU⟩ : ∃ G, ywr50x1.heap.size = G := ⟨_, rfl⟩; have le_U : w.heap.size ≤ GU := by rw [← hGU]; exact Below.size hHeld.1
              have ne_U_M : GU ≠ GM := by have := HM.out.2.2; omega
              have ne_M_U : GM ≠ GU := Ne.symm ne_U_M
              have ne_U_T : GU ≠ GT := by have := HT.out.2.2; omega
              have ne_T_U : GT ≠ GU := Ne.symm ne_U_T
              have ne_U_V : GU ≠ GV := by have := HV.out.2.2; omega
              have ne_V_U : GV ≠ GU := Ne.symm ne_U_V
              have HM := Lib.hid (HM.out.below ((Below.refl _ _).alloc (Nat.le_refl _) (.cells #[.int .i64 0, .int .i64 0, .int .i64 0] 24))); have HT := Lib.hid (HT.out.below ((Below.refl _ _).alloc (Nat.le_refl _) (.cells #[.int .i64 0, .int .i64 0, .int .i64 0] 24))); have HV := Lib.hid (HV.out.below ((Below.refl _ _).alloc (Nat.le_refl _) (.cells #[.int .i64 0, .int .i64 0, .int .i64 0] 24))); skip
              have HU : Hid (Bk3 (ywr50x1.alloc (.cells #[.int .i64 0, .int .i64 0, .int .i64 0] 24)) GU 0 0 0) := by rw [← hGU]; exact bk3_new ywr50x1 0 0 0 _
              refine hK.out _ _ ⟨Below.alloc hHeld.1 (Below.size hHeld.1) _, HM.out, HT.out, HV.out⟩ (fun hHeld2 => ?_); (clear hHeld; rename _ => hHeld; clear hK K; have hHeld : (fun W => Below w.heap.size w W ∧ Bk9 W GM x0 x1 x2 x3 x4 x5 x6 x7 x8 ∧ Bk3 W GT x9 x10 x11 ∧ Bk3 W GV A B C) _ := hHeld); (try simp only [Act.put, List.getElem_toArray, List.getElem_cons_succ, List.getElem_cons_zero, List.setIfInBounds_toArray, List.set_cons_zero, List.set_cons_succ])
              rw [hGU]; clear hGU; obtain ⟨ywr50x2, hwx⟩ : ∃ wx, ywr50x1.alloc (.cells #[.int .i64 0, .int .i64 0, .int .i64 0] 24) = wx := ⟨_, rfl⟩; rw [hwx] at HM HT HV HU hHeld ⊢; clear hwx
              refine wpAnyH_ready (rs := [4]) (by kernel_rfl) (by simp) ?_; refine AllReadyH.cons rfl (fun K hK => ?_) AllReadyH.nil
              go_simp; (go_at_call 40; refine (HI.out _).mono ?_; rintro en ywr50x3 ⟨rfl, hb2⟩); have HM := Lib.hid (HM.out.below hb2); have HT := Lib.hid (HT.out.below hb2); have HV := Lib.hid (HV.out.below hb2); have HU := Lib.hid (HU.out.below hb2); refine hK.out _ _ ⟨below_after hb2 hHeld.1, HM.out, HT.out, HV.out⟩ (fun hHeld2 => ?_); clear hb2; (clear hHeld; rename _ => hHeld; clear hK K; have hHeld : (fun W => Below w.heap.size w W ∧ Bk9 W GM x0 x1 x2 x3 x4 x5 x6 x7 x8 ∧ Bk3 W GT x9 x10 x11 ∧ Bk3 W GV A B C) _ := hHeld); (try simp only [Act.put, List.getElem_toArray, List.getElem_cons_succ, List.getElem_cons_zero, List.setIfInBounds_toArray, List.set_cons_zero, List.set_cons_succ])
              (refine wpAnyH_take (i := 5) (v := ?_) rfl (by kernel_rfl) (by kernel_rfl) (by kernel_rfl) (fun _ _ _ h => h) (Or.inl ⟨rfl, ?_⟩) (by assumption) ?_; rotate_left; focus (intro W hSw; (try dsimp only at hSw); obtain ⟨hSb, hxM, hxT, hxV⟩ := hSw; obtain ⟨⟨iM0, iM1, iM2, iM3, iM4, iM5, iM6, iM7, iM8⟩, _, _⟩ := hxM; obtain ⟨⟨iT0, iT1, iT2⟩, _, _⟩ := hxT; obtain ⟨⟨iV0, iV1, iV2⟩, _, _⟩ := hxV; go_simp; try (with_reducible rfl))); (try simp only [Act.put, List.getElem_toArray, List.getElem_cons_succ, List.getElem_cons_zero, List.setIfInBounds_toArray, List.set_cons_zero, List.set_cons_succ])
              (refine wpAnyH_take (i := 6) (v := ?_) rfl (by kernel_rfl) (by kernel_rfl) (by kernel_rfl) (fun _ _ _ h => h) (Or.inl ⟨rfl, ?_⟩) (by assumption) ?_; rotate_left; focus (intro W hSw; (try dsimp only at hSw); obtain ⟨hSb, hxM, hxT, hxV⟩ := hSw; obtain ⟨⟨iM0, iM1, iM2, iM3, iM4, iM5, iM6, iM7, iM8⟩, _, _⟩ := hxM; obtain ⟨⟨iT0, iT1, iT2⟩, _, _⟩ := hxT; obtain ⟨⟨iV0, iV1, iV2⟩, _, _⟩ := hxV; go_simp; try (with_reducible rfl))); (try simp only [Act.put, List.getElem_toArray, List.getElem_cons_succ, List.getElem_cons_zero, List.setIfInBounds_toArray, List.set_cons_zero, List.set_cons_succ])
              (refine wpAnyH_take (i := 7) (v := ?_) rfl (by kernel_rfl) (by kernel_rfl) (by kernel_rfl) (fun _ _ _ h => h) (Or.inl ⟨rfl, ?_⟩) (by assumption) ?_; rotate_left; focus (intro W hSw; (try dsimp only at hSw); obtain ⟨hSb, hxM, hxT, hxV⟩ := hSw; obtain ⟨⟨iM0, iM1, iM2, iM3, iM4, iM5, iM6, iM7, iM8⟩, _, _⟩ := hxM; obtain ⟨⟨iT0, iT1, iT2⟩, _, _⟩ := hxT; obtain ⟨⟨iV0, iV1, iV2⟩, _, _⟩ := hxV; go_simp; try (with_reducible rfl))); (try simp only [Act.put, List.getElem_toArray, List.getElem_cons_succ, List.getElem_cons_zero, List.setIfInBounds_toArray, List.set_cons_zero, List.set_cons_succ])
              refine wpAnyH_ready (rs := [9]) (by kernel_rfl) (by simp) ?_; refine AllReadyH.cons rfl (fun K hK => ?_) AllReadyH.nil
              obtain ⟨⟨a0, a1, a2⟩, ⟨f0, f1, f2⟩, az⟩ := HU.out; go_simp; clear a0 f0 a1 f1 a2 f2 az
              have HM := Lib.hid (((HM.out.far ⟨GU, 0, none⟩ (.int .i64 A) (by show GM ≠ GU; exact ne_M_U)).far ⟨GU, 1, none⟩ (.int .i64 B) (by show GM ≠ GU; exact ne_M_U)).far ⟨GU, 2, none⟩ (.int .i64 C) (by show GM ≠ GU; exact ne_M_U))
              have HT := Lib.hid (((HT.out.far ⟨GU, 0, none⟩ (.int .i64 A) (by show GT ≠ GU; exact ne_T_U)).far ⟨GU, 1, none⟩ (.int .i64 B) (by show GT ≠ GU; exact ne_T_U)).far ⟨GU, 2, none⟩ (.int .i64 C) (by show GT ≠ GU; exact ne_T_U))
              have HV := Lib.hid (((HV.out.far ⟨GU, 0, none⟩ (.int .i64 A) (by show GV ≠ GU; exact ne_V_U)).far ⟨GU, 1, none⟩ (.int .i64 B) (by show GV ≠ GU; exact ne_V_U)).far ⟨GU, 2, none⟩ (.int .i64 C) (by show GV ≠ GU; exact ne_V_U))
              have HU := Lib.hid (((HU.out.set0 A).set1 B).set2 C)
              refine hK.out _ _ ⟨(Below.setCell (Below.setCell (Below.setCell hHeld.1 (p := ⟨GU, 0, none⟩) le_U _) (p := ⟨GU, 1, none⟩) le_U _) (p := ⟨GU, 2, none⟩) le_U _), HM.out, HT.out, HV.out⟩ (fun hHeld2 => ?_); (clear hHeld; rename _ => hHeld; clear hK K; have hHeld : (fun W => Below w.heap.size w W ∧ Bk9 W GM x0 x1 x2 x3 x4 x5 x6 x7 x8 ∧ Bk3 W GT x9 x10 x11 ∧ Bk3 W GV A B C) _ := hHeld); (try simp only [Act.put, List.getElem_toArray, List.getElem_cons_succ, List.getElem_cons_zero, List.setIfInBounds_toArray, List.set_cons_zero, List.set_cons_succ])
              obtain ⟨ywr50x4, hwx⟩ : ∃ wx, ((ywr50x3.setCell ⟨GU, 0, none⟩ (.int .i64 A)).setCell ⟨GU, 1, none⟩ (.int .i64 B)).setCell ⟨GU, 2, none⟩ (.int .i64 C) = wx := ⟨_, rfl⟩; rw [hwx] at HM HT HV HU hHeld ⊢; clear hwx
              (refine wpAnyH_take (i := 10) (v := ?_) rfl (by kernel_rfl) (by kernel_rfl) (by kernel_rfl) (fun _ _ _ h => h) (Or.inl ⟨rfl, ?_⟩) (by assumption) ?_; rotate_left; focus (intro W hSw; (try dsimp only at hSw); obtain ⟨hSb, hxM, hxT, hxV⟩ := hSw; obtain ⟨⟨iM0, iM1, iM2, iM3, iM4, iM5, iM6, iM7, iM8⟩, _, _⟩ := hxM; obtain ⟨⟨iT0, iT1, iT2⟩, _, _⟩ := hxT; obtain ⟨⟨iV0, iV1, iV2⟩, _, _⟩ := hxV; go_simp; try (with_reducible rfl))); (try simp only [Act.put, List.getElem_toArray, List.getElem_cons_succ, List.getElem_cons_zero, List.setIfInBounds_toArray, List.set_cons_zero, List.set_cons_succ])
              refine wpAnyH_done (by kernel_rfl) ?_ _
              have HB := Lib.hid (hHeld.1)
              clear hHeld
              obtain ⟨⟨qM0, qM1, qM2, qM3, qM4, qM5, qM6, qM7, qM8⟩, ⟨fM0, fM1, fM2, fM3, fM4, fM5, fM6, fM7, fM8⟩, zM⟩ := HM.out
              obtain ⟨⟨qT0, qT1, qT2⟩, ⟨fT0, fT1, fT2⟩, zT⟩ := HT.out
              obtain ⟨⟨qV0, qV1, qV2⟩, ⟨fV0, fV1, fV2⟩, zV⟩ := HV.out
              obtain ⟨⟨qU0, qU1, qU2⟩, ⟨fU0, fU1, fU2⟩, zU⟩ := HU.out
              go_wp2_with fail
              go_at_call 21
              refine (eqTriple_same _ _ _ _).mono ?_
              rintro e w101 ⟨rfl, hb⟩
              clear qM0 fM0 qM1 fM1 qM2 fM2 qM3 fM3 qM4 fM4 qM5 fM5 qM6 fM6 qM7 fM7 qM8 fM8 zM qT0 fT0 qT1 fT1 qT2 fT2 zT qV0 fV0 qV1 fV1 qV2 fV2 zV qU0 fU0 qU1 fU1 qU2 fU2 zU
              have HM := Lib.hid (HM.out.below hb)
              have HT := Lib.hid (HT.out.below hb)
              have HV := Lib.hid (HV.out.below hb)
              have HU := Lib.hid (HU.out.below hb)
              have HB := Lib.hid (below_after hb HB.out)
              clear hb
              obtain ⟨⟨qM0, qM1, qM2, qM3, qM4, qM5, qM6, qM7, qM8⟩, ⟨fM0, fM1, fM2, fM3, fM4, fM5, fM6, fM7, fM8⟩, zM⟩ := HM.out
              obtain ⟨⟨qT0, qT1, qT2⟩, ⟨fT0, fT1, fT2⟩, zT⟩ := HT.out
              obtain ⟨⟨qV0, qV1, qV2⟩, ⟨fV0, fV1, fV2⟩, zV⟩ := HV.out
              obtain ⟨⟨qU0, qU1, qU2⟩, ⟨fU0, fU1, fU2⟩, zU⟩ := HU.out
              go_wp2_with fail
              go_ret
              have hb := HB.out
              exact ⟨rfl, by (repeat' (first | (with_reducible exact Below.refl _ _) | (with_reducible refine Below.alloc ?_ ?_ _) | (with_reducible refine Below.setCell ?_ ?_ _) | (with_reducible refine Below.drew ?_) | (with_reducible refine below_drewN ?_ _) | (with_reducible assumption) | (with_reducible refine below_after (by with_reducible assumption) ?_) | go_size))⟩
          · skip
            go_simp; obtain ⟨GU, hGU⟩ : ∃ G, ywr50x0.heap.size = G := ⟨_, rfl⟩; have le_U : w.heap.size ≤ GU := by rw [← hGU]; exact Below.size hHeld.1
            have ne_U_M : GU ≠ GM := by have := HM.out.2.2; omega
            have ne_M_U : GM ≠ GU := Ne.symm ne_U_M
            have ne_U_T : GU ≠ GT := by have := HT.out.2.2; omega
            have ne_T_U : GT ≠ GU := Ne.symm ne_U_T
            have ne_U_V : GU ≠ GV := by have := HV.out.2.2; omega
            have ne_V_U : GV ≠ GU := Ne.symm ne_U_V
            have HM := Lib.hid (HM.out.below ((Below.refl _ _).alloc (Nat.le_refl _) (.cells #[.int .i64 0, .int .i64 0, .int .i64 0] 24))); have HT := Lib.hid (HT.out.below ((Below.refl _ _).alloc (Nat.le_refl _) (.cells #[.int .i64 0, .int .i64 0, .int .i64 0] 24))); have HV := Lib.hid (HV.out.below ((Below.refl _ _).alloc (Nat.le_refl _) (.cells #[.int .i64 0, .int .i64 0, .int .i64 0] 24))); skip
            have HU : Hid (Bk3 (ywr50x0.alloc (.cells #[.int .i64 0, .int .i64 0, .int .i64 0] 24)) GU 0 0 0) := by rw [← hGU]; exact bk3_new ywr50x0 0 0 0 _
            refine hK.out _ _ ⟨Below.alloc hHeld.1 (Below.size hHeld.1) _, HM.out, HT.out, HV.out⟩ (fun hHeld2 => ?_); (clear hHeld; rename _ => hHeld; clear hK K; have hHeld : (fun W => Below w.heap.size w W ∧ Bk9 W GM x0 x1 x2 x3 x4 x5 x6 x7 x8 ∧ Bk3 W GT x9 x10 x11 ∧ Bk3 W GV A B C) _ := hHeld); (try simp only [Act.put, List.getElem_toArray, List.getElem_cons_succ, List.getElem_cons_zero, List.setIfInBounds_toArray, List.set_cons_zero, List.set_cons_succ])
            rw [hGU]; clear hGU; obtain ⟨ywr50x1, hwx⟩ : ∃ wx, ywr50x0.alloc (.cells #[.int .i64 0, .int .i64 0, .int .i64 0] 24) = wx := ⟨_, rfl⟩; rw [hwx] at HM HT HV HU hHeld ⊢; clear hwx
            refine wpAnyH_ready (rs := [3]) (by kernel_rfl) (by simp) ?_; refine AllReadyH.cons rfl (fun K hK => ?_) AllReadyH.nil
            go_simp; (go_at_call 17; refine (toTriple_any _ _ _ _).mono ?_; rintro en ywr50x2 ⟨rfl, hb2⟩); have HM := Lib.hid (HM.out.below hb2); have HT := Lib.hid (HT.out.below hb2); have HV := Lib.hid (HV.out.below hb2); have HU := Lib.hid (HU.out.below hb2); refine hK.out _ _ ⟨below_after hb2 hHeld.1, HM.out, HT.out, HV.out⟩ (fun hHeld2 => ?_); clear hb2; (clear hHeld; rename _ => hHeld; clear hK K; have hHeld : (fun W => Below w.heap.size w W ∧ Bk9 W GM x0 x1 x2 x3 x4 x5 x6 x7 x8 ∧ Bk3 W GT x9 x10 x11 ∧ Bk3 W GV A B C) _ := hHeld); (try simp only [Act.put, List.getElem_toArray, List.getElem_cons_succ, List.getElem_cons_zero, List.setIfInBounds_toArray, List.set_cons_zero, List.set_cons_succ])
            refine wpAnyH_ready (rs := [4]) (by kernel_rfl) (by simp) ?_; refine AllReadyH.cons rfl (fun K hK => ?_) AllReadyH.nil
            go_simp; (go_at_call 40; refine (HI.out _).mono ?_; rintro en ywr50x3 ⟨rfl, hb2⟩); have HM := Lib.hid (HM.out.below hb2); have HT := Lib.hid (HT.out.below hb2); have HV := Lib.hid (HV.out.below hb2); have HU := Lib.hid (HU.out.below hb2); refine hK.out _ _ ⟨below_after hb2 hHeld.1, HM.out, HT.out, HV.out⟩ (fun hHeld2 => ?_); clear hb2; (clear hHeld; rename _ => hHeld; clear hK K; have hHeld : (fun W => Below w.heap.size w W ∧ Bk9 W GM x0 x1 x2 x3 x4 x5 x6 x7 x8 ∧ Bk3 W GT x9 x10 x11 ∧ Bk3 W GV A B C) _ := hHeld); (try simp only [Act.put, List.getElem_toArray, List.getElem_cons_succ, List.getElem_cons_zero, List.setIfInBounds_toArray, List.set_cons_zero, List.set_cons_succ])
            (refine wpAnyH_take (i := 5) (v := ?_) rfl (by kernel_rfl) (by kernel_rfl) (by kernel_rfl) (fun _ _ _ h => h) (Or.inl ⟨rfl, ?_⟩) (by assumption) ?_; rotate_left; focus (intro W hSw; (try dsimp only at hSw); obtain ⟨hSb, hxM, hxT, hxV⟩ := hSw; obtain ⟨⟨iM0, iM1, iM2, iM3, iM4, iM5, iM6, iM7, iM8⟩, _, _⟩ := hxM; obtain ⟨⟨iT0, iT1, iT2⟩, _, _⟩ := hxT; obtain ⟨⟨iV0, iV1, iV2⟩, _, _⟩ := hxV; go_simp; try (with_reducible rfl))); (try simp only [Act.put, List.getElem_toArray, List.getElem_cons_succ, List.getElem_cons_zero, List.setIfInBounds_toArray, List.set_cons_zero, List.set_cons_succ])
            (refine wpAnyH_take (i := 6) (v := ?_) rfl (by kernel_rfl) (by kernel_rfl) (by kernel_rfl) (fun _ _ _ h => h) (Or.inl ⟨rfl, ?_⟩) (by assumption) ?_; rotate_left; focus (intro W hSw; (try dsimp only at hSw); obtain ⟨hSb, hxM, hxT, hxV⟩ := hSw; obtain ⟨⟨iM0, iM1, iM2, iM3, iM4, iM5, iM6, iM7, iM8⟩, _, _⟩ := hxM; obtain ⟨⟨iT0, iT1, iT2⟩, _, _⟩ := hxT; obtain ⟨⟨iV0, iV1, iV2⟩, _, _⟩ := hxV; go_simp; try (with_reducible rfl))); (try simp only [Act.put, List.getElem_toArray, List.getElem_cons_succ, List.getElem_cons_zero, List.setIfInBounds_toArray, List.set_cons_zero, List.set_cons_succ])
            (refine wpAnyH_take (i := 7) (v := ?_) rfl (by kernel_rfl) (by kernel_rfl) (by kernel_rfl) (fun _ _ _ h => h) (Or.inl ⟨rfl, ?_⟩) (by assumption) ?_; rotate_left; focus (intro W hSw; (try dsimp only at hSw); obtain ⟨hSb, hxM, hxT, hxV⟩ := hSw; obtain ⟨⟨iM0, iM1, iM2, iM3, iM4, iM5, iM6, iM7, iM8⟩, _, _⟩ := hxM; obtain ⟨⟨iT0, iT1, iT2⟩, _, _⟩ := hxT; obtain ⟨⟨iV0, iV1, iV2⟩, _, _⟩ := hxV; go_simp; try (with_reducible rfl))); (try simp only [Act.put, List.getElem_toArray, List.getElem_cons_succ, List.getElem_cons_zero, List.setIfInBounds_toArray, List.set_cons_zero, List.set_cons_succ])
            refine wpAnyH_ready (rs := [9]) (by kernel_rfl) (by simp) ?_; refine AllReadyH.cons rfl (fun K hK => ?_) AllReadyH.nil
            obtain ⟨⟨a0, a1, a2⟩, ⟨f0, f1, f2⟩, az⟩ := HU.out; go_simp; clear a0 f0 a1 f1 a2 f2 az
            have HM := Lib.hid (((HM.out.far ⟨GU, 0, none⟩ (.int .i64 A) (by show GM ≠ GU; exact ne_M_U)).far ⟨GU, 1, none⟩ (.int .i64 B) (by show GM ≠ GU; exact ne_M_U)).far ⟨GU, 2, none⟩ (.int .i64 C) (by show GM ≠ GU; exact ne_M_U))
            have HT := Lib.hid (((HT.out.far ⟨GU, 0, none⟩ (.int .i64 A) (by show GT ≠ GU; exact ne_T_U)).far ⟨GU, 1, none⟩ (.int .i64 B) (by show GT ≠ GU; exact ne_T_U)).far ⟨GU, 2, none⟩ (.int .i64 C) (by show GT ≠ GU; exact ne_T_U))
            have HV := Lib.hid (((HV.out.far ⟨GU, 0, none⟩ (.int .i64 A) (by show GV ≠ GU; exact ne_V_U)).far ⟨GU, 1, none⟩ (.int .i64 B) (by show GV ≠ GU; exact ne_V_U)).far ⟨GU, 2, none⟩ (.int .i64 C) (by show GV ≠ GU; exact ne_V_U))
            have HU := Lib.hid (((HU.out.set0 A).set1 B).set2 C)
            refine hK.out _ _ ⟨(Below.setCell (Below.setCell (Below.setCell hHeld.1 (p := ⟨GU, 0, none⟩) le_U _) (p := ⟨GU, 1, none⟩) le_U _) (p := ⟨GU, 2, none⟩) le_U _), HM.out, HT.out, HV.out⟩ (fun hHeld2 => ?_); (clear hHeld; rename _ => hHeld; clear hK K; have hHeld : (fun W => Below w.heap.size w W ∧ Bk9 W GM x0 x1 x2 x3 x4 x5 x6 x7 x8 ∧ Bk3 W GT x9 x10 x11 ∧ Bk3 W GV A B C) _ := hHeld); (try simp only [Act.put, List.getElem_toArray, List.getElem_cons_succ, List.getElem_cons_zero, List.setIfInBounds_toArray, List.set_cons_zero, List.set_cons_succ])
            obtain ⟨ywr50x4, hwx⟩ : ∃ wx, ((ywr50x3.setCell ⟨GU, 0, none⟩ (.int .i64 A)).setCell ⟨GU, 1, none⟩ (.int .i64 B)).setCell ⟨GU, 2, none⟩ (.int .i64 C) = wx := ⟨_, rfl⟩; rw [hwx] at HM HT HV HU hHeld ⊢; clear hwx
            (refine wpAnyH_take (i := 10) (v := ?_) rfl (by kernel_rfl) (by kernel_rfl) (by kernel_rfl) (fun _ _ _ h => h) (Or.inl ⟨rfl, ?_⟩) (by assumption) ?_; rotate_left; focus (intro W hSw; (try dsimp only at hSw); obtain ⟨hSb, hxM, hxT, hxV⟩ := hSw; obtain ⟨⟨iM0, iM1, iM2, iM3, iM4, iM5, iM6, iM7, iM8⟩, _, _⟩ := hxM; obtain ⟨⟨iT0, iT1, iT2⟩, _, _⟩ := hxT; obtain ⟨⟨iV0, iV1, iV2⟩, _, _⟩ := hxV; go_simp; try (with_reducible rfl))); (try simp only [Act.put, List.getElem_toArray, List.getElem_cons_succ, List.getElem_cons_zero, List.setIfInBounds_toArray, List.set_cons_zero, List.set_cons_succ])
            refine wpAnyH_done (by kernel_rfl) ?_ _
            have HB := Lib.hid (hHeld.1)
            clear hHeld
            obtain ⟨⟨qM0, qM1, qM2, qM3, qM4, qM5, qM6, qM7, qM8⟩, ⟨fM0, fM1, fM2, fM3, fM4, fM5, fM6, fM7, fM8⟩, zM⟩ := HM.out
            obtain ⟨⟨qT0, qT1, qT2⟩, ⟨fT0, fT1, fT2⟩, zT⟩ := HT.out
            obtain ⟨⟨qV0, qV1, qV2⟩, ⟨fV0, fV1, fV2⟩, zV⟩ := HV.out
            obtain ⟨⟨qU0, qU1, qU2⟩, ⟨fU0, fU1, fU2⟩, zU⟩ := HU.out
            go_wp2_with fail
            go_at_call 21
            refine (eqTriple_same _ _ _ _).mono ?_
            rintro e w101 ⟨rfl, hb⟩
            clear qM0 fM0 qM1 fM1 qM2 fM2 qM3 fM3 qM4 fM4 qM5 fM5 qM6 fM6 qM7 fM7 qM8 fM8 zM qT0 fT0 qT1 fT1 qT2 fT2 zT qV0 fV0 qV1 fV1 qV2 fV2 zV qU0 fU0 qU1 fU1 qU2 fU2 zU
            have HM := Lib.hid (HM.out.below hb)
            have HT := Lib.hid (HT.out.below hb)
            have HV := Lib.hid (HV.out.below hb)
            have HU := Lib.hid (HU.out.below hb)
            have HB := Lib.hid (below_after hb HB.out)
            clear hb
            obtain ⟨⟨qM0, qM1, qM2, qM3, qM4, qM5, qM6, qM7, qM8⟩, ⟨fM0, fM1, fM2, fM3, fM4, fM5, fM6, fM7, fM8⟩, zM⟩ := HM.out
            obtain ⟨⟨qT0, qT1, qT2⟩, ⟨fT0, fT1, fT2⟩, zT⟩ := HT.out
            obtain ⟨⟨qV0, qV1, qV2⟩, ⟨fV0, fV1, fV2⟩, zV⟩ := HV.out
            obtain ⟨⟨qU0, qU1, qU2⟩, ⟨fU0, fU1, fU2⟩, zU⟩ := HU.out
            go_wp2_with fail
            go_ret
            have hb := HB.out
            exact ⟨rfl, by (repeat' (first | (with_reducible exact Below.refl _ _) | (with_reducible refine Below.alloc ?_ ?_ _) | (with_reducible refine Below.setCell ?_ ?_ _) | (with_reducible refine Below.drew ?_) | (with_reducible refine below_drewN ?_ _) | (with_reducible assumption) | (with_reducible refine below_after (by with_reducible assumption) ?_) | go_size))⟩
        · skip
          go_simp; obtain ⟨GU, hGU⟩ : ∃ G, wD50.heap.size = G := ⟨_, rfl⟩; have le_U : w.heap.size ≤ GU := by rw [← hGU]; exact Below.size hHeld.1
          have ne_U_M : GU ≠ GM := by have := HM.out.2.2; omega
          have ne_M_U : GM ≠ GU := Ne.symm ne_U_M
          have ne_U_T : GU ≠ GT := by have := HT.out.2.2; omega
          have ne_T_U : GT ≠ GU := Ne.symm ne_U_T
          have ne_U_V : GU ≠ GV := by have := HV.out.2.2; omega
          have ne_V_U : GV ≠ GU := Ne.symm ne_U_V
          have HM := Lib.hid (HM.out.below ((Below.refl _ _).alloc (Nat.le_refl _) (.cells #[.int .i64 0, .int .i64 0, .int .i64 0] 24))); have HT := Lib.hid (HT.out.below ((Below.refl _ _).alloc (Nat.le_refl _) (.cells #[.int .i64 0, .int .i64 0, .int .i64 0] 24))); have HV := Lib.hid (HV.out.below ((Below.refl _ _).alloc (Nat.le_refl _) (.cells #[.int .i64 0, .int .i64 0, .int .i64 0] 24))); skip
          have HU : Hid (Bk3 (wD50.alloc (.cells #[.int .i64 0, .int .i64 0, .int .i64 0] 24)) GU 0 0 0) := by rw [← hGU]; exact bk3_new wD50 0 0 0 _
          refine hK.out _ _ ⟨Below.alloc hHeld.1 (Below.size hHeld.1) _, HM.out, HT.out, HV.out⟩ (fun hHeld2 => ?_); (clear hHeld; rename _ => hHeld; clear hK K; have hHeld : (fun W => Below w.heap.size w W ∧ Bk9 W GM x0 x1 x2 x3 x4 x5 x6 x7 x8 ∧ Bk3 W GT x9 x10 x11 ∧ Bk3 W GV A B C) _ := hHeld); (try simp only [Act.put, List.getElem_toArray, List.getElem_cons_succ, List.getElem_cons_zero, List.setIfInBounds_toArray, List.set_cons_zero, List.set_cons_succ])
          rw [hGU]; clear hGU; obtain ⟨ywr50x0, hwx⟩ : ∃ wx, wD50.alloc (.cells #[.int .i64 0, .int .i64 0, .int .i64 0] 24) = wx := ⟨_, rfl⟩; rw [hwx] at HM HT HV HU hHeld ⊢; clear hwx
          refine wpAnyH_ready (rs := [1]) (by kernel_rfl) (by simp) ?_; refine AllReadyH.cons rfl (fun K hK => ?_) AllReadyH.nil
          go_simp; (go_at_call 39; refine (toSquare_any _ _ _ _ _ _ _ _ _ _).mono ?_; rintro en ywr50x1 ⟨rfl, hb2⟩); have HM := Lib.hid (HM.out.below hb2); have HT := Lib.hid (HT.out.below hb2); have HV := Lib.hid (HV.out.below hb2); have HU := Lib.hid (HU.out.below hb2); refine hK.out _ _ ⟨below_after hb2 hHeld.1, HM.out, HT.out, HV.out⟩ (fun hHeld2 => ?_); clear hb2; (clear hHeld; rename _ => hHeld; clear hK K; have hHeld : (fun W => Below w.heap.size w W ∧ Bk9 W GM x0 x1 x2 x3 x4 x5 x6 x7 x8 ∧ Bk3 W GT x9 x10 x11 ∧ Bk3 W GV A B C) _ := hHeld); (try simp only [Act.put, List.getElem_toArray, List.getElem_cons_succ, List.getElem_cons_zero, List.setIfInBounds_toArray, List.set_cons_zero, List.set_cons_succ])
          refine wpAnyH_ready (rs := [3]) (by kernel_rfl) (by simp) ?_; refine AllReadyH.cons rfl (fun K hK => ?_) AllReadyH.nil
          go_simp; (go_at_call 17; refine (toTriple_any _ _ _ _).mono ?_; rintro en ywr50x2 ⟨rfl, hb2⟩); have HM := Lib.hid (HM.out.below hb2); have HT := Lib.hid (HT.out.below hb2); have HV := Lib.hid (HV.out.below hb2); have HU := Lib.hid (HU.out.below hb2); refine hK.out _ _ ⟨below_after hb2 hHeld.1, HM.out, HT.out, HV.out⟩ (fun hHeld2 => ?_); clear hb2; (clear hHeld; rename _ => hHeld; clear hK K; have hHeld : (fun W => Below w.heap.size w W ∧ Bk9 W GM x0 x1 x2 x3 x4 x5 x6 x7 x8 ∧ Bk3 W GT x9 x10 x11 ∧ Bk3 W GV A B C) _ := hHeld); (try simp only [Act.put, List.getElem_toArray, List.getElem_cons_succ, List.getElem_cons_zero, List.setIfInBounds_toArray, List.set_cons_zero, List.set_cons_succ])
          refine wpAnyH_ready (rs := [4]) (by kernel_rfl) (by simp) ?_; refine AllReadyH.cons rfl (fun K hK => ?_) AllReadyH.nil
          go_simp; (go_at_call 40; refine (HI.out _).mono ?_; rintro en ywr50x3 ⟨rfl, hb2⟩); have HM := Lib.hid (HM.out.below hb2); have HT := Lib.hid (HT.out.below hb2); have HV := Lib.hid (HV.out.below hb2); have HU := Lib.hid (HU.out.below hb2); refine hK.out _ _ ⟨below_after hb2 hHeld.1, HM.out, HT.out, HV.out⟩ (fun hHeld2 => ?_); clear hb2; (clear hHeld; rename _ => hHeld; clear hK K; have hHeld : (fun W => Below w.heap.size w W ∧ Bk9 W GM x0 x1 x2 x3 x4 x5 x6 x7 x8 ∧ Bk3 W GT x9 x10 x11 ∧ Bk3 W GV A B C) _ := hHeld); (try simp only [Act.put, List.getElem_toArray, List.getElem_cons_succ, List.getElem_cons_zero, List.setIfInBounds_toArray, List.set_cons_zero, List.set_cons_succ])
          (refine wpAnyH_take (i := 5) (v := ?_) rfl (by kernel_rfl) (by kernel_rfl) (by kernel_rfl) (fun _ _ _ h => h) (Or.inl ⟨rfl, ?_⟩) (by assumption) ?_; rotate_left; focus (intro W hSw; (try dsimp only at hSw); obtain ⟨hSb, hxM, hxT, hxV⟩ := hSw; obtain ⟨⟨iM0, iM1, iM2, iM3, iM4, iM5, iM6, iM7, iM8⟩, _, _⟩ := hxM; obtain ⟨⟨iT0, iT1, iT2⟩, _, _⟩ := hxT; obtain ⟨⟨iV0, iV1, iV2⟩, _, _⟩ := hxV; go_simp; try (with_reducible rfl))); (try simp only [Act.put, List.getElem_toArray, List.getElem_cons_succ, List.getElem_cons_zero, List.setIfInBounds_toArray, List.set_cons_zero, List.set_cons_succ])
          (refine wpAnyH_take (i := 6) (v := ?_) rfl (by kernel_rfl) (by kernel_rfl) (by kernel_rfl) (fun _ _ _ h => h) (Or.inl ⟨rfl, ?_⟩) (by assumption) ?_; rotate_left; focus (intro W hSw; (try dsimp only at hSw); obtain ⟨hSb, hxM, hxT, hxV⟩ := hSw; obtain ⟨⟨iM0, iM1, iM2, iM3, iM4, iM5, iM6, iM7, iM8⟩, _, _⟩ := hxM; obtain ⟨⟨iT0, iT1, iT2⟩, _, _⟩ := hxT; obtain ⟨⟨iV0, iV1, iV2⟩, _, _⟩ := hxV; go_simp; try (with_reducible rfl))); (try simp only [Act.put, List.getElem_toArray, List.getElem_cons_succ, List.getElem_cons_zero, List.setIfInBounds_toArray, List.set_cons_zero, List.set_cons_succ])
          (refine wpAnyH_take (i := 7) (v := ?_) rfl (by kernel_rfl) (by kernel_rfl) (by kernel_rfl) (fun _ _ _ h => h) (Or.inl ⟨rfl, ?_⟩) (by assumption) ?_; rotate_left; focus (intro W hSw; (try dsimp only at hSw); obtain ⟨hSb, hxM, hxT, hxV⟩ := hSw; obtain ⟨⟨iM0, iM1, iM2, iM3, iM4, iM5, iM6, iM7, iM8⟩, _, _⟩ := hxM; obtain ⟨⟨iT0, iT1, iT2⟩, _, _⟩ := hxT; obtain ⟨⟨iV0, iV1, iV2⟩, _, _⟩ := hxV; go_simp; try (with_reducible rfl))); (try simp only [Act.put, List.getElem_toArray, List.getElem_cons_succ, List.getElem_cons_zero, List.setIfInBounds_toArray, List.set_cons_zero, List.set_cons_succ])
          refine wpAnyH_ready (rs := [9]) (by kernel_rfl) (by simp) ?_; refine AllReadyH.cons rfl (fun K hK => ?_) AllReadyH.nil
          obtain ⟨⟨a0, a1, a2⟩, ⟨f0, f1, f2⟩, az⟩ := HU.out; go_simp; clear a0 f0 a1 f1 a2 f2 az
          have HM := Lib.hid (((HM.out.far ⟨GU, 0, none⟩ (.int .i64 A) (by show GM ≠ GU; exact ne_M_U)).far ⟨GU, 1, none⟩ (.int .i64 B) (by show GM ≠ GU; exact ne_M_U)).far ⟨GU, 2, none⟩ (.int .i64 C) (by show GM ≠ GU; exact ne_M_U))
          have HT := Lib.hid (((HT.out.far ⟨GU, 0, none⟩ (.int .i64 A) (by show GT ≠ GU; exact ne_T_U)).far ⟨GU, 1, none⟩ (.int .i64 B) (by show GT ≠ GU; exact ne_T_U)).far ⟨GU, 2, none⟩ (.int .i64 C) (by show GT ≠ GU; exact ne_T_U))
          have HV := Lib.hid (((HV.out.far ⟨GU, 0, none⟩ (.int .i64 A) (by show GV ≠ GU; exact ne_V_U)).far ⟨GU, 1, none⟩ (.int .i64 B) (by show GV ≠ GU; exact ne_V_U)).far ⟨GU, 2, none⟩ (.int .i64 C) (by show GV ≠ GU; exact ne_V_U))
          have HU := Lib.hid (((HU.out.set0 A).set1 B).set2 C)
          refine hK.out _ _ ⟨(Below.setCell (Below.setCell (Below.setCell hHeld.1 (p := ⟨GU, 0, none⟩) le_U _) (p := ⟨GU, 1, none⟩) le_U _) (p := ⟨GU, 2, none⟩) le_U _), HM.out, HT.out, HV.out⟩ (fun hHeld2 => ?_); (clear hHeld; rename _ => hHeld; clear hK K; have hHeld : (fun W => Below w.heap.size w W ∧ Bk9 W GM x0 x1 x2 x3 x4 x5 x6 x7 x8 ∧ Bk3 W GT x9 x10 x11 ∧ Bk3 W GV A B C) _ := hHeld); (try simp only [Act.put, List.getElem_toArray, List.getElem_cons_succ, List.getElem_cons_zero, List.setIfInBounds_toArray, List.set_cons_zero, List.set_cons_succ])
          obtain ⟨ywr50x4, hwx⟩ : ∃ wx, ((ywr50x3.setCell ⟨GU, 0, none⟩ (.int .i64 A)).setCell ⟨GU, 1, none⟩ (.int .i64 B)).setCell ⟨GU, 2, none⟩ (.int .i64 C) = wx := ⟨_, rfl⟩; rw [hwx] at HM HT HV HU hHeld ⊢; clear hwx
          (refine wpAnyH_take (i := 10) (v := ?_) rfl (by kernel_rfl) (by kernel_rfl) (by kernel_rfl) (fun _ _ _ h => h) (Or.inl ⟨rfl, ?_⟩) (by assumption) ?_; rotate_left; focus (intro W hSw; (try dsimp only at hSw); obtain ⟨hSb, hxM, hxT, hxV⟩ := hSw; obtain ⟨⟨iM0, iM1, iM2, iM3, iM4, iM5, iM6, iM7, iM8⟩, _, _⟩ := hxM; obtain ⟨⟨iT0, iT1, iT2⟩, _, _⟩ := hxT; obtain ⟨⟨iV0, iV1, iV2⟩, _, _⟩ := hxV; go_simp; try (with_reducible rfl))); (try simp only [Act.put, List.getElem_toArray, List.getElem_cons_succ, List.getElem_cons_zero, List.setIfInBounds_toArray, List.set_cons_zero, List.set_cons_succ])
          refine wpAnyH_done (by kernel_rfl) ?_ _
          have HB := Lib.hid (hHeld.1)
          clear hHeld
          obtain ⟨⟨qM0, qM1, qM2, qM3, qM4, qM5, qM6, qM7, qM8⟩, ⟨fM0, fM1, fM2, fM3, fM4, fM5, fM6, fM7, fM8⟩, zM⟩ := HM.out
          obtain ⟨⟨qT0, qT1, qT2⟩, ⟨fT0, fT1, fT2⟩, zT⟩ := HT.out
          obtain ⟨⟨qV0, qV1, qV2⟩, ⟨fV0, fV1, fV2⟩, zV⟩ := HV.out
          obtain ⟨⟨qU0, qU1, qU2⟩, ⟨fU0, fU1, fU2⟩, zU⟩ := HU.out
          go_wp2_with fail
          go_at_call 21
          refine (eqTriple_same _ _ _ _).mono ?_
          rintro e w101 ⟨rfl, hb⟩
          clear qM0 fM0 qM1 fM1 qM2 fM2 qM3 fM3 qM4 fM4 qM5 fM5 qM6 fM6 qM7 fM7 qM8 fM8 zM qT0 fT0 qT1 fT1 qT2 fT2 zT qV0 fV0 qV1 fV1 qV2 fV2 zV qU0 fU0 qU1 fU1 qU2 fU2 zU
          have HM := Lib.hid (HM.out.below hb)
          have HT := Lib.hid (HT.out.below hb)
          have HV := Lib.hid (HV.out.below hb)
          have HU := Lib.hid (HU.out.below hb)
          have HB := Lib.hid (below_after hb HB.out)
          clear hb
          obtain ⟨⟨qM0, qM1, qM2, qM3, qM4, qM5, qM6, qM7, qM8⟩, ⟨fM0, fM1, fM2, fM3, fM4, fM5, fM6, fM7, fM8⟩, zM⟩ := HM.out
          obtain ⟨⟨qT0, qT1, qT2⟩, ⟨fT0, fT1, fT2⟩, zT⟩ := HT.out
          obtain ⟨⟨qV0, qV1, qV2⟩, ⟨fV0, fV1, fV2⟩, zV⟩ := HV.out
          obtain ⟨⟨qU0, qU1, qU2⟩, ⟨fU0, fU1, fU2⟩, zU⟩ := HU.out
          go_wp2_with fail
          go_ret
          have hb := HB.out
          exact ⟨rfl, by (repeat' (first | (with_reducible exact Below.refl _ _) | (with_reducible refine Below.alloc ?_ ?_ _) | (with_reducible refine Below.setCell ?_ ?_ _) | (with_reducible refine Below.drew ?_) | (with_reducible refine below_drewN ?_ _) | (with_reducible assumption) | (with_reducible refine below_after (by with_reducible assumption) ?_) | go_size))⟩
      · skip
        go_simp; obtain ⟨GV, hGV⟩ : ∃ G, ywr0x1.heap.size = G := ⟨_, rfl⟩; have le_V : w.heap.size ≤ GV := by rw [← hGV]; exact Below.size hHeld.1
        have ne_V_M : GV ≠ GM := by have := HM.out.2.2; omega
        have ne_M_V : GM ≠ GV := Ne.symm ne_V_M
        have ne_V_T : GV ≠ GT := by have := HT.out.2.2; omega
        have ne_T_V : GT ≠ GV := Ne.symm ne_V_T
        have HM := Lib.hid (HM.out.below ((Below.refl _ _).alloc (Nat.le_refl _) (.cells #[.int .i64 0, .int .i64 0, .int .i64 0] 24))); have HT := Lib.hid (HT.out.below ((Below.refl _ _).alloc (Nat.le_refl _) (.cells #[.int .i64 0, .int .i64 0, .int .i64 0] 24))); skip
        have HV : Hid (Bk3 (ywr0x1.alloc (.cells #[.int .i64 0, .int .i64 0, .int .i64 0] 24)) GV 0 0 0) := by rw [← hGV]; exact bk3_new ywr0x1 0 0 0 _
        refine hK.out _ _ ⟨Below.alloc hHeld.1 (Below.size hHeld.1) _, HM.out, HT.out⟩ (fun hHeld2 => ?_); (clear hHeld; rename _ => hHeld; clear hK K; have hHeld : (fun W => Below w.heap.size w W ∧ Bk9 W GM x0 x1 x2 x3 x4 x5 x6 x7 x8 ∧ Bk3 W GT x9 x10 x11) _ := hHeld); (try simp only [Act.put, List.getElem_toArray, List.getElem_cons_succ, List.getElem_cons_zero, List.setIfInBounds_toArray, List.set_cons_zero, List.set_cons_succ])
        rw [hGV]; clear hGV; obtain ⟨ywr0x2, hwx⟩ : ∃ wx, ywr0x1.alloc (.cells #[.int .i64 0, .int .i64 0, .int .i64 0] 24) = wx := ⟨_, rfl⟩; rw [hwx] at HM HT HV hHeld ⊢; clear hwx
        refine wpAnyH_ready (rs := [4]) (by kernel_rfl) (by simp) ?_; refine AllReadyH.cons rfl (fun K hK => ?_) AllReadyH.nil
        go_simp; (go_at_call 38; refine (HS.out _).mono ?_; rintro en ywr0x3 ⟨rfl, hb2⟩); have HM := Lib.hid (HM.out.below hb2); have HT := Lib.hid (HT.out.below hb2); have HV := Lib.hid (HV.out.below hb2); refine hK.out _ _ ⟨below_after hb2 hHeld.1, HM.out, HT.out⟩ (fun hHeld2 => ?_); clear hb2; (clear hHeld; rename _ => hHeld; clear hK K; have hHeld : (fun W => Below w.heap.size w W ∧ Bk9 W GM x0 x1 x2 x3 x4 x5 x6 x7 x8 ∧ Bk3 W GT x9 x10 x11) _ := hHeld); (try simp only [Act.put, List.getElem_toArray, List.getElem_cons_succ, List.getElem_cons_zero, List.setIfInBounds_toArray, List.set_cons_zero, List.set_cons_succ])
        (refine wpAnyH_take (i := 5) (v := ?_) rfl (by kernel_rfl) (by kernel_rfl) (by kernel_rfl) (fun _ _ _ h => h) (Or.inl ⟨rfl, ?_⟩) (by assumption) ?_; rotate_left; focus (intro W hSw; (try dsimp only at hSw); obtain ⟨hSb, hxM, hxT⟩ := hSw; obtain ⟨⟨iM0, iM1, iM2, iM3, iM4, iM5, iM6, iM7, iM8⟩, _, _⟩ := hxM; obtain ⟨⟨iT0, iT1, iT2⟩, _, _⟩ := hxT; go_simp; try (with_reducible rfl))); (try simp only [Act.put, List.getElem_toArray, List.getElem_cons_succ, List.getElem_cons_zero, List.setIfInBounds_toArray, List.set_cons_zero, List.set_cons_succ])
        (refine wpAnyH_take (i := 6) (v := ?_) rfl (by kernel_rfl) (by kernel_rfl) (by kernel_rfl) (fun _ _ _ h => h) (Or.inl ⟨rfl, ?_⟩) (by assumption) ?_; rotate_left; focus (intro W hSw; (try dsimp only at hSw); obtain ⟨hSb, hxM, hxT⟩ := hSw; obtain ⟨⟨iM0, iM1, iM2, iM3, iM4, iM5, iM6, iM7, iM8⟩, _, _⟩ := hxM; obtain ⟨⟨iT0, iT1, iT2⟩, _, _⟩ := hxT; go_simp; try (with_reducible rfl))); (try simp only [Act.put, List.getElem_toArray, List.getElem_cons_succ, List.getElem_cons_zero, List.setIfInBounds_toArray, List.set_cons_zero, List.set_cons_succ])
        (refine wpAnyH_take (i := 7) (v := ?_) rfl (by kernel_rfl) (by kernel_rfl) (by kernel_rfl) (fun _ _ _ h => h) (Or.inl ⟨rfl, ?_⟩) (by assumption) ?_; rotate_left; focus (intro W hSw; (try dsimp only at hSw); obtain ⟨hSb, hxM, hxT⟩ := hSw; obtain ⟨⟨iM0, iM1, iM2, iM3, iM4, iM5, iM6, iM7, iM8⟩, _, _⟩ := hxM; obtain ⟨⟨iT0, iT1, iT2⟩, _, _⟩ := hxT; go_simp; try (with_reducible rfl))); (try simp only [Act.put, List.getElem_toArray, List.getElem_cons_succ, List.getElem_cons_zero, List.setIfInBounds_toArray, List.set_cons_zero, List.set_cons_succ])
        refine wpAnyH_ready (rs := [9]) (by kernel_rfl) (by simp) ?_; refine AllReadyH.cons rfl (fun K hK => ?_) AllReadyH.nil
        obtain ⟨⟨a0, a1, a2⟩, ⟨f0, f1, f2⟩, az⟩ := HV.out; go_simp; clear a0 f0 a1 f1 a2 f2 az
        have HM := Lib.hid (((HM.out.far ⟨GV, 0, none⟩ (.int .i64 A) (by show GM ≠ GV; exact ne_M_V)).far ⟨GV, 1, none⟩ (.int .i64 B) (by show GM ≠ GV; exact ne_M_V)).far ⟨GV, 2, none⟩ (.int .i64 C) (by show GM ≠ GV; exact ne_M_V))
        have HT := Lib.hid (((HT.out.far ⟨GV, 0, none⟩ (.int .i64 A) (by show GT ≠ GV; exact ne_T_V)).far ⟨GV, 1, none⟩ (.int .i64 B) (by show GT ≠ GV; exact ne_T_V)).far ⟨GV, 2, none⟩ (.int .i64 C) (by show GT ≠ GV; exact ne_T_V))
        have HV := Lib.hid (((HV.out.set0 A).set1 B).set2 C)
        refine hK.out _ _ ⟨(Below.setCell (Below.setCell (Below.setCell hHeld.1 (p := ⟨GV, 0, none⟩) le_V _) (p := ⟨GV, 1, none⟩) le_V _) (p := ⟨GV, 2, none⟩) le_V _), HM.out, HT.out⟩ (fun hHeld2 => ?_); (clear hHeld; rename _ => hHeld; clear hK K; have hHeld : (fun W => Below w.heap.size w W ∧ Bk9 W GM x0 x1 x2 x3 x4 x5 x6 x7 x8 ∧ Bk3 W GT x9 x10 x11) _ := hHeld); (try simp only [Act.put, List.getElem_toArray, List.getElem_cons_succ, List.getElem_cons_zero, List.setIfInBounds_toArray, List.set_cons_zero, List.set_cons_succ])
        obtain ⟨ywr0x4, hwx⟩ : ∃ wx, ((ywr0x3.setCell ⟨GV, 0, none⟩ (.int .i64 A)).setCell ⟨GV, 1, none⟩ (.int .i64 B)).setCell ⟨GV, 2, none⟩ (.int .i64 C) = wx := ⟨_, rfl⟩; rw [hwx] at HM HT HV hHeld ⊢; clear hwx
        (refine wpAnyH_take (i := 10) (v := ?_) rfl (by kernel_rfl) (by kernel_rfl) (by kernel_rfl) (fun _ _ _ h => h) (Or.inl ⟨rfl, ?_⟩) (by assumption) ?_; rotate_left; focus (intro W hSw; (try dsimp only at hSw); obtain ⟨hSb, hxM, hxT⟩ := hSw; obtain ⟨⟨iM0, iM1, iM2, iM3, iM4, iM5, iM6, iM7, iM8⟩, _, _⟩ := hxM; obtain ⟨⟨iT0, iT1, iT2⟩, _, _⟩ := hxT; go_simp; try (with_reducible rfl))); (try simp only [Act.put, List.getElem_toArray, List.getElem_cons_succ, List.getElem_cons_zero, List.setIfInBounds_toArray, List.set_cons_zero, List.set_cons_succ])
        refine wpAnyH_done (by kernel_rfl) ?_ _
        have HB := Lib.hid (hHeld.1)
        clear hHeld
        go_wp2_with fail
        refine wp_region_held_drew (S := fun W => Below w.heap.size w W ∧ Bk9 W GM x0 x1 x2 x3 x4 x5 x6 x7 x8 ∧ Bk3 W GT x9 x10 x11 ∧ Bk3 W GV A B C) (by kernel_rfl) ?_ (fun hHeld => ?_); focus ((try dsimp only); exact ⟨Below.drew HB.out, HM.out.below (Below.drew (Below.refl _ _)), HT.out.below (Below.drew (Below.refl _ _)), HV.out.below (Below.drew (Below.refl _ _))⟩)
        have HM := Lib.hid (HM.out.below (Below.drew (Below.refl _ _)))
        have HT := Lib.hid (HT.out.below (Below.drew (Below.refl _ _)))
        have HV := Lib.hid (HV.out.below (Below.drew (Below.refl _ _)))
        have hHeld : (fun W => Below w.heap.size w W ∧ Bk9 W GM x0 x1 x2 x3 x4 x5 x6 x7 x8 ∧ Bk3 W GT x9 x10 x11 ∧ Bk3 W GV A B C) _ := hHeld
        obtain ⟨wD50, hwD50⟩ : ∃ wD, ywr0x4.drew = wD := ⟨_, rfl⟩
        rw [hwD50] at hHeld HM HT HV ⊢
        clear hwD50
        (refine wpAnyH_take (i := 0) (v := ?_) rfl (by kernel_rfl) (by kernel_rfl) (by kernel_rfl) (fun _ _ _ h => h) (Or.inl ⟨rfl, ?_⟩) (by assumption) ?_; rotate_left; focus (intro W hSw; (try dsimp only at hSw); obtain ⟨hSb, hxM, hxT, hxV⟩ := hSw; obtain ⟨⟨iM0, iM1, iM2, iM3, iM4, iM5, iM6, iM7, iM8⟩, _, _⟩ := hxM; obtain ⟨⟨iT0, iT1, iT2⟩, _, _⟩ := hxT; obtain ⟨⟨iV0, iV1, iV2⟩, _, _⟩ := hxV; go_simp; try (with_reducible rfl))); (try simp only [Act.put, List.getElem_toArray, List.getElem_cons_succ, List.getElem_cons_zero, List.setIfInBounds_toArray, List.set_cons_zero, List.set_cons_succ])
        (refine wpAnyH_take (i := 2) (v := ?_) rfl (by kernel_rfl) (by kernel_rfl) (by kernel_rfl) (fun _ _ _ h => h) (Or.inl ⟨rfl, ?_⟩) (by assumption) ?_; rotate_left; focus (intro W hSw; (try dsimp only at hSw); obtain ⟨hSb, hxM, hxT, hxV⟩ := hSw; obtain ⟨⟨iM0, iM1, iM2, iM3, iM4, iM5, iM6, iM7, iM8⟩, _, _⟩ := hxM; obtain ⟨⟨iT0, iT1, iT2⟩, _, _⟩ := hxT; obtain ⟨⟨iV0, iV1, iV2⟩, _, _⟩ := hxV; go_simp; try (with_reducible rfl))); (try simp only [Act.put, List.getElem_toArray, List.getElem_cons_succ, List.getElem_cons_zero, List.setIfInBounds_toArray, List.set_cons_zero, List.set_cons_succ])
        refine wpAnyH_ready (rs := [1, 8]) (by kernel_rfl) (by simp) ?_; refine AllReadyH.cons rfl (fun K hK => ?_) (AllReadyH.cons rfl (fun K hK => ?_) AllReadyH.nil)
        · skip
          go_simp; (go_at_call 39; refine (toSquare_any _ _ _ _ _ _ _ _ _ _).mono ?_; rintro en ywr50x0 ⟨rfl, hb2⟩); have HM := Lib.hid (HM.out.below hb2); have HT := Lib.hid (HT.out.below hb2); have HV := Lib.hid (HV.out.below hb2); refine hK.out _ _ ⟨below_after hb2 hHeld.1, HM.out, HT.out, HV.out⟩ (fun hHeld2 => ?_); clear hb2; (clear hHeld; rename _ => hHeld; clear hK K; have hHeld : (fun W => Below w.heap.size w W ∧ Bk9 W GM x0 x1 x2 x3 x4 x5 x6 x7 x8 ∧ Bk3 W GT x9 x10 x11 ∧ Bk3 W GV A B C) _ := hHeld); (try simp only [Act.put, List.getElem_toArray, List.getElem_cons_succ, List.getElem_cons_zero, List.setIfInBounds_toArray, List.set_cons_zero, List.set_cons_succ])
          refine wpAnyH_ready (rs := [3, 8]) (by kernel_rfl) (by simp) ?_; refine AllReadyH.cons rfl (fun K hK => ?_) (AllReadyH.cons rfl (fun K hK => ?_) AllReadyH.nil)
          · skip
            go_simp; (go_at_call 17; refine (toTriple_any _ _ _ _).mono ?_; rintro en ywr50x1 ⟨rfl, hb2⟩); have HM := Lib.hid (HM.out.below hb2); have HT := Lib.hid (HT.out.below hb2); have HV := Lib.hid (HV.out.below hb2); refine hK.out _ _ ⟨below_after hb2 hHeld.1, HM.out, HT.out, HV.out⟩ (fun hHeld2 => ?_); clear hb2; (clear hHeld; rename _ => hHeld; clear hK K; have hHeld : (fun W => Below w.heap.size w W ∧ Bk9 W GM x0 x1 x2 x3 x4 x5 x6 x7 x8 ∧ Bk3 W GT x9 x10 x11 ∧ Bk3 W GV A B C) _ := hHeld); (try simp only [Act.put, List.getElem_toArray, List.getElem_cons_succ, List.getElem_cons_zero, List.setIfInBounds_toArray, List.set_cons_zero, List.set_cons_succ])
            refine wpAnyH_ready (rs := [4, 8]) (by kernel_rfl) (by simp) ?_; refine AllReadyH.cons rfl (fun K hK => ?_) (AllReadyH.cons rfl (fun K hK => ?_) AllReadyH.nil)
            · skip
              go_simp; (go_at_call 40; refine (HI.out _).mono ?_; rintro en ywr50x2 ⟨rfl, hb2⟩); have HM := Lib.hid (HM.out.below hb2); have HT := Lib.hid (HT.out.below hb2); have HV := Lib.hid (HV.out.below hb2); refine hK.out _ _ ⟨below_after hb2 hHeld.1, HM.out, HT.out, HV.out⟩ (fun hHeld2 => ?_); clear hb2; (clear hHeld; rename _ => hHeld; clear hK K; have hHeld : (fun W => Below w.heap.size w W ∧ Bk9 W GM x0 x1 x2 x3 x4 x5 x6 x7 x8 ∧ Bk3 W GT x9 x10 x11 ∧ Bk3 W GV A B C) _ := hHeld); (try simp only [Act.put, List.getElem_toArray, List.getElem_cons_succ, List.getElem_cons_zero, List.setIfInBounds_toArray, List.set_cons_zero, List.set_cons_succ])
              (refine wpAnyH_take (i := 5) (v := ?_) rfl (by kernel_rfl) (by kernel_rfl) (by kernel_rfl) (fun _ _ _ h => h) (Or.inl ⟨rfl, ?_⟩) (by assumption) ?_; rotate_left; focus (intro W hSw; (try dsimp only at hSw); obtain ⟨hSb, hxM, hxT, hxV⟩ := hSw; obtain ⟨⟨iM0, iM1, iM2, iM3, iM4, iM5, iM6, iM7, iM8⟩, _, _⟩ := hxM; obtain ⟨⟨iT0, iT1, iT2⟩, _, _⟩ := hxT; obtain ⟨⟨iV0, iV1, iV2⟩, _, _⟩ := hxV; go_simp; try (with_reducible rfl))); (try simp only [Act.put, List.getElem_toArray, List.getElem_cons_succ, List.getElem_cons_zero, List.setIfInBounds_toArray, List.set_cons_zero, List.set_cons_succ])
              (refine wpAnyH_take (i := 6) (v := ?_) rfl (by kernel_rfl) (by kernel_rfl) (by kernel_rfl) (fun _ _ _ h => h) (Or.inl ⟨rfl, ?_⟩) (by assumption) ?_; rotate_left; focus (intro W hSw; (try dsimp only at hSw); obtain ⟨hSb, hxM, hxT, hxV⟩ := hSw; obtain ⟨⟨iM0, iM1, iM2, iM3, iM4, iM5, iM6, iM7, iM8⟩, _, _⟩ := hxM; obtain ⟨⟨iT0, iT1, iT2⟩, _, _⟩ := hxT; obtain ⟨⟨iV0, iV1, iV2⟩, _, _⟩ := hxV; go_simp; try (with_reducible rfl))); (try simp only [Act.put, List.getElem_toArray, List.getElem_cons_succ, List.getElem_cons_zero, List.setIfInBounds_toArray, List.set_cons_zero, List.set_cons_succ])
              (refine wpAnyH_take (i := 7) (v := ?_) rfl (by kernel_rfl) (by kernel_rfl) (by kernel_rfl) (fun _ _ _ h => h) (Or.inl ⟨rfl, ?_⟩) (by assumption) ?_; rotate_left; focus (intro W hSw; (try dsimp only at hSw); obtain ⟨hSb, hxM, hxT, hxV⟩ := hSw; obtain ⟨⟨iM0, iM1, iM2, iM3, iM4, iM5, iM6, iM7, iM8⟩, _, _⟩ := hxM; obtain ⟨⟨iT0, iT1, iT2⟩, _, _⟩ := hxT; obtain ⟨⟨iV0, iV1, iV2⟩, _, _⟩ := hxV; go_simp; try (with_reducible rfl))); (try simp only [Act.put, List.getElem_toArray, List.getElem_cons_succ, List.getElem_cons_zero, List.setIfInBounds_toArray, List.set_cons_zero, List.set_cons_succ])
              refine wpAnyH_ready (rs := [8]) (by kernel_rfl) (by simp) ?_; refine AllReadyH.cons rfl (fun K hK => ?_) AllReadyH.nil
              go_simp; obtain ⟨GU, hGU⟩ : ∃ G, ywr50x2.heap.size = G := ⟨_, rfl⟩; have le_U : w.heap.size ≤ GU := by rw [← hGU]; exact Below.size hHeld.1
              have ne_U_M : GU ≠ GM := by have := HM.out.2.2; omega
              have ne_M_U : GM ≠ GU := Ne.symm ne_U_M
              have ne_U_T : GU ≠ GT := by have := HT.out.2.2; omega
              have ne_T_U : GT ≠ GU := Ne.symm ne_U_T
              have ne_U_V : GU ≠ GV := by have := HV.out.2.2; omega
              have ne_V_U : GV ≠ GU := Ne.symm ne_U_V
              have HM := Lib.hid (HM.out.below ((Below.refl _ _).alloc (Nat.le_refl _) (.cells #[.int .i64 0, .int .i64 0, .int .i64 0] 24))); have HT := Lib.hid (HT.out.below ((Below.refl _ _).alloc (Nat.le_refl _) (.cells #[.int .i64 0, .int .i64 0, .int .i64 0] 24))); have HV := Lib.hid (HV.out.below ((Below.refl _ _).alloc (Nat.le_refl _) (.cells #[.int .i64 0, .int .i64 0, .int .i64 0] 24))); skip
              have HU : Hid (Bk3 (ywr50x2.alloc (.cells #[.int .i64 0, .int .i64 0, .int .i64 0] 24)) GU 0 0 0) := by rw [← hGU]; exact bk3_new ywr50x2 0 0 0 _
              refine hK.out _ _ ⟨Below.alloc hHeld.1 (Below.size hHeld.1) _, HM.out, HT.out, HV.out⟩ (fun hHeld2 => ?_); (clear hHeld; rename _ => hHeld; clear hK K; have hHeld : (fun W => Below w.heap.size w W ∧ Bk9 W GM x0 x1 x2 x3 x4 x5 x6 x7 x8 ∧ Bk3 W GT x9 x10 x11 ∧ Bk3 W GV A B C) _ := hHeld); (try simp only [Act.put, List.getElem_toArray, List.getElem_cons_succ, List.getElem_cons_zero, List.setIfInBounds_toArray, List.set_cons_zero, List.set_cons_succ])
              rw [hGU]; clear hGU; obtain ⟨ywr50x3, hwx⟩ : ∃ wx, ywr50x2.alloc (.cells #[.int .i64 0, .int .i64 0, .int .i64 0] 24) = wx := ⟨_, rfl⟩; rw [hwx] at HM HT HV HU hHeld ⊢; clear hwx
              refine wpAnyH_ready (rs := [9]) (by kernel_rfl) (by simp) ?_; refine AllReadyH.cons rfl (fun K hK => ?_) AllReadyH.nil
              obtain ⟨⟨a0, a1, a2⟩, ⟨f0, f1, f2⟩, az⟩ := HU.out; go_simp; clear a0 f0 a1 f1 a2 f2 az
              have HM := Lib.hid (((HM.out.far ⟨GU, 0, none⟩ (.int .i64 A) (by show GM ≠ GU; exact ne_M_U)).far ⟨GU, 1, none⟩ (.int .i64 B) (by show GM ≠ GU; exact ne_M_U)).far ⟨GU, 2, none⟩ (.int .i64 C) (by show GM ≠ GU; exact ne_M_U))
              have HT := Lib.hid (((HT.out.far ⟨GU, 0, none⟩ (.int .i64 A) (by show GT ≠ GU; exact ne_T_U)).far ⟨GU, 1, none⟩ (.int .i64 B) (by show GT ≠ GU; exact ne_T_U)).far ⟨GU, 2, none⟩ (.int .i64 C) (by show GT ≠ GU; exact ne_T_U))
              have HV := Lib.hid (((HV.out.far ⟨GU, 0, none⟩ (.int .i64 A) (by show GV ≠ GU; exact ne_V_U)).far ⟨GU, 1, none⟩ (.int .i64 B) (by show GV ≠ GU; exact ne_V_U)).far ⟨GU, 2, none⟩ (.int .i64 C) (by show GV ≠ GU; exact ne_V_U))
              have HU := Lib.hid (((HU.out.set0 A).set1 B).set2 C)
              refine hK.out _ _ ⟨(Below.setCell (Below.setCell (Below.setCell hHeld.1 (p := ⟨GU, 0, none⟩) le_U _) (p := ⟨GU, 1, none⟩) le_U _) (p := ⟨GU, 2, none⟩) le_U _), HM.out, HT.out, HV.out⟩ (fun hHeld2 => ?_); (clear hHeld; rename _ => hHeld; clear hK K; have hHeld : (fun W => Below w.heap.size w W ∧ Bk9 W GM x0 x1 x2 x3 x4 x5 x6 x7 x8 ∧ Bk3 W GT x9 x10 x11 ∧ Bk3 W GV A B C) _ := hHeld); (try simp only [Act.put, List.getElem_toArray, List.getElem_cons_succ, List.getElem_cons_zero, List.setIfInBounds_toArray, List.set_cons_zero, List.set_cons_succ])
              obtain ⟨ywr50x4, hwx⟩ : ∃ wx, ((ywr50x3.setCell ⟨GU, 0, none⟩ (.int .i64 A)).setCell ⟨GU, 1, none⟩ (.int .i64 B)).setCell ⟨GU, 2, none⟩ (.int .i64 C) = wx := ⟨_, rfl⟩; rw [hwx] at HM HT HV HU hHeld ⊢; clear hwx
              (refine wpAnyH_take (i := 10) (v := ?_) rfl (by kernel_rfl) (by kernel_rfl) (by kernel_rfl) (fun _ _ _ h => h) (Or.inl ⟨rfl, ?_⟩) (by assumption) ?_; rotate_left; focus (intro W hSw; (try dsimp only at hSw); obtain ⟨hSb, hxM, hxT, hxV⟩ := hSw; obtain ⟨⟨iM0, iM1, iM2, iM3, iM4, iM5, iM6, iM7, iM8⟩, _, _⟩ := hxM; obtain ⟨⟨iT0, iT1, iT2⟩, _, _⟩ := hxT; obtain ⟨⟨iV0, iV1, iV2⟩, _, _⟩ := hxV; go_simp; try (with_reducible rfl))); (try simp only [Act.put, List.getElem_toArray, List.getElem_cons_succ, List.getElem_cons_zero, List.setIfInBounds_toArray, List.set_cons_zero, List.set_cons_succ])
              refine wpAnyH_done (by kernel_rfl) ?_ _
              have HB := Lib.hid (hHeld.1)
              clear hHeld
              obtain ⟨⟨qM0, qM1, qM2, qM3, qM4, qM5, qM6, qM7, qM8⟩, ⟨fM0, fM1, fM2, fM3, fM4, fM5, fM6, fM7, fM8⟩, zM⟩ := HM.out
              obtain ⟨⟨qT0, qT1, qT2⟩, ⟨fT0, fT1, fT2⟩, zT⟩ := HT.out
              obtain ⟨⟨qV0, qV1, qV2⟩, ⟨fV0, fV1, fV2⟩, zV⟩ := HV.out
              obtain ⟨⟨qU0, qU1, qU2⟩, ⟨fU0, fU1, fU2⟩, zU⟩ := HU.out
              go_wp2_with fail
              go_at_call 21
              refine (eqTriple_same _ _ _ _).mono ?_
              rintro e w101 ⟨rfl, hb⟩
              clear qM0 fM0 qM1 fM1 qM2 fM2 qM3 fM3 qM4 fM4 qM5 fM5 qM6 fM6 qM7 fM7 qM8 fM8 zM qT0 fT0 qT1 fT1 qT2 fT2 zT qV0 fV0 qV1 fV1 qV2 fV2 zV qU0 fU0 qU1 fU1 qU2 fU2 zU
              have HM := Lib.hid (HM.out.below hb)
              have HT := Lib.hid (HT.out.below hb)
              have HV := Lib.hid (HV.out.below hb)
              have HU := Lib.hid (HU.out.below hb)
              have HB := Lib.hid (below_after hb HB.out)
              clear hb
              obtain ⟨⟨qM0, qM1, qM2, qM3, qM4, qM5, qM6, qM7, qM8⟩, ⟨fM0, fM1, fM2, fM3, fM4, fM5, fM6, fM7, fM8⟩, zM⟩ := HM.out
              obtain ⟨⟨qT0, qT1, qT2⟩, ⟨fT0, fT1, fT2⟩, zT⟩ := HT.out
              obtain ⟨⟨qV0, qV1, qV2⟩, ⟨fV0, fV1, fV2⟩, zV⟩ := HV.out
              obtain ⟨⟨qU0, qU1, qU2⟩, ⟨fU0, fU1, fU2⟩, zU⟩ := HU.out
              go_wp2_with fail
              go_ret
              have hb := HB.out
              exact ⟨rfl, by (repeat' (first | (with_reducible exact Below.refl _ _) | (with_reducible refine Below.alloc ?_ ?_ _) | (with_reducible refine Below.setCell ?_ ?_ _) | (with_reducible refine Below.drew ?_) | (with_reducible refine below_drewN ?_ _) | (with_reducible assumption) | (with_reducible refine below_after (by with_reducible assumption) ?_) | go_size))⟩
            · skip
              go_simp; obtain ⟨GU, hGU⟩ : ∃ G, ywr50x1.heap.size = G := ⟨_, rfl⟩; have le_U : w.heap.size ≤ GU := by rw [← hGU]; exact Below.size hHeld.1
              have ne_U_M : GU ≠ GM := by have := HM.out.2.2; omega
              have ne_M_U : GM ≠ GU := Ne.symm ne_U_M
              have ne_U_T : GU ≠ GT := by have := HT.out.2.2; omega
              have ne_T_U : GT ≠ GU := Ne.symm ne_U_T
              have ne_U_V : GU ≠ GV := by have := HV.out.2.2; omega
              have ne_V_U : GV ≠ GU := Ne.symm ne_U_V
              have HM := Lib.hid (HM.out.below ((Below.refl _ _).alloc (Nat.le_refl _) (.cells #[.int .i64 0, .int .i64 0, .int .i64 0] 24))); have HT := Lib.hid (HT.out.below ((Below.refl _ _).alloc (Nat.le_refl _) (.cells #[.int .i64 0, .int .i64 0, .int .i64 0] 24))); have HV := Lib.hid (HV.out.below ((Below.refl _ _).alloc (Nat.le_refl _) (.cells #[.int .i64 0, .int .i64 0, .int .i64 0] 24))); skip
              have HU : Hid (Bk3 (ywr50x1.alloc (.cells #[.int .i64 0, .int .i64 0, .int .i64 0] 24)) GU 0 0 0) := by rw [← hGU]; exact bk3_new ywr50x1 0 0 0 _
              refine hK.out _ _ ⟨Below.alloc hHeld.1 (Below.size hHeld.1) _, HM.out, HT.out, HV.out⟩ (fun hHeld2 => ?_); (clear hHeld; rename _ => hHeld; clear hK K; have hHeld : (fun W => Below w.heap.size w W ∧ Bk9 W GM x0 x1 x2 x3 x4 x5 x6 x7 x8 ∧ Bk3 W GT x9 x10 x11 ∧ Bk3 W GV A B C) _ := hHeld); (try simp only [Act.put, List.getElem_toArray, List.getElem_cons_succ, List.getElem_cons_zero, List.setIfInBounds_toArray, List.set_cons_zero, List.set_cons_succ])
              rw [hGU]; clear hGU; obtain ⟨ywr50x2, hwx⟩ : ∃ wx, ywr50x1.alloc (.cells #[.int .i64 0, .int .i64 0, .int .i64 0] 24) = wx := ⟨_, rfl⟩; rw [hwx] at HM HT HV HU hHeld ⊢; clear hwx
              refine wpAnyH_ready (rs := [4]) (by kernel_rfl) (by simp) ?_; refine AllReadyH.cons rfl (fun K hK => ?_) AllReadyH.nil
              go_simp; (go_at_call 40; refine (HI.out _).mono ?_; rintro en ywr50x3 ⟨rfl, hb2⟩); have HM := Lib.hid (HM.out.below hb2); have HT := Lib.hid (HT.out.below hb2); have HV := Lib.hid (HV.out.below hb2); have HU := Lib.hid (HU.out.below hb2); refine hK.out _ _ ⟨below_after hb2 hHeld.1, HM.out, HT.out, HV.out⟩ (fun hHeld2 => ?_); clear hb2; (clear hHeld; rename _ => hHeld; clear hK K; have hHeld : (fun W => Below w.heap.size w W ∧ Bk9 W GM x0 x1 x2 x3 x4 x5 x6 x7 x8 ∧ Bk3 W GT x9 x10 x11 ∧ Bk3 W GV A B C) _ := hHeld); (try simp only [Act.put, List.getElem_toArray, List.getElem_cons_succ, List.getElem_cons_zero, List.setIfInBounds_toArray, List.set_cons_zero, List.set_cons_succ])
              (refine wpAnyH_take (i := 5) (v := ?_) rfl (by kernel_rfl) (by kernel_rfl) (by kernel_rfl) (fun _ _ _ h => h) (Or.inl ⟨rfl, ?_⟩) (by assumption) ?_; rotate_left; focus (intro W hSw; (try dsimp only at hSw); obtain ⟨hSb, hxM, hxT, hxV⟩ := hSw; obtain ⟨⟨iM0, iM1, iM2, iM3, iM4, iM5, iM6, iM7, iM8⟩, _, _⟩ := hxM; obtain ⟨⟨iT0, iT1, iT2⟩, _, _⟩ := hxT; obtain ⟨⟨iV0, iV1, iV2⟩, _, _⟩ := hxV; go_simp; try (with_reducible rfl))); (try simp only [Act.put, List.getElem_toArray, List.getElem_cons_succ, List.getElem_cons_zero, List.setIfInBounds_toArray, List.set_cons_zero, List.set_cons_succ])
              (refine wpAnyH_take (i := 6) (v := ?_) rfl (by kernel_rfl) (by kernel_rfl) (by kernel_rfl) (fun _ _ _ h => h) (Or.inl ⟨rfl, ?_⟩) (by assumption) ?_; rotate_left; focus (intro W hSw; (try dsimp only at hSw); obtain ⟨hSb, hxM, hxT, hxV⟩ := hSw; obtain ⟨⟨iM0, iM1, iM2, iM3, iM4, iM5, iM6, iM7, iM8⟩, _, _⟩ := hxM; obtain ⟨⟨iT0, iT1, iT2⟩, _, _⟩ := hxT; obtain ⟨⟨iV0, iV1, iV2⟩, _, _⟩ := hxV; go_simp; try (with_reducible rfl))); (try simp only [Act.put, List.getElem_toArray, List.getElem_cons_succ, List.getElem_cons_zero, List.setIfInBounds_toArray, List.set_cons_zero, List.set_cons_succ])
              (refine wpAnyH_take (i := 7) (v := ?_) rfl (by kernel_rfl) (by kernel_rfl) (by kernel_rfl) (fun _ _ _ h => h) (Or.inl ⟨rfl, ?_⟩) (by assumption) ?_; rotate_left; focus (intro W hSw; (try dsimp only at hSw); obtain ⟨hSb, hxM, hxT, hxV⟩ := hSw; obtain ⟨⟨iM0, iM1, iM2, iM3, iM4, iM5, iM6, iM7, iM8⟩, _, _⟩ := hxM; obtain ⟨⟨iT0, iT1, iT2⟩, _, _⟩ := hxT; obtain ⟨⟨iV0, iV1, iV2⟩, _, _⟩ := hxV; go_simp; try (with_reducible rfl))); (try simp only [Act.put, List.getElem_toArray, List.getElem_cons_succ, List.getElem_cons_zero, List.setIfInBounds_toArray, List.set_cons_zero, List.set_cons_succ])
              refine wpAnyH_ready (rs := [9]) (by kernel_rfl) (by simp) ?_; refine AllReadyH.cons rfl (fun K hK => ?_) AllReadyH.nil
              obtain ⟨⟨a0, a1, a2⟩, ⟨f0, f1, f2⟩, az⟩ := HU.out; go_simp; clear a0 f0 a1 f1 a2 f2 az
              have HM := Lib.hid (((HM.out.far ⟨GU, 0, none⟩ (.int .i64 A) (by show GM ≠ GU; exact ne_M_U)).far ⟨GU, 1, none⟩ (.int .i64 B) (by show GM ≠ GU; exact ne_M_U)).far ⟨GU, 2, none⟩ (.int .i64 C) (by show GM ≠ GU; exact ne_M_U))
              have HT := Lib.hid (((HT.out.far ⟨GU, 0, none⟩ (.int .i64 A) (by show GT ≠ GU; exact ne_T_U)).far ⟨GU, 1, none⟩ (.int .i64 B) (by show GT ≠ GU; exact ne_T_U)).far ⟨GU, 2, none⟩ (.int .i64 C) (by show GT ≠ GU; exact ne_T_U))
              have HV := Lib.hid (((HV.out.far ⟨GU, 0, none⟩ (.int .i64 A) (by show GV ≠ GU; exact ne_V_U)).far ⟨GU, 1, none⟩ (.int .i64 B) (by show GV ≠ GU; exact ne_V_U)).far ⟨GU, 2, none⟩ (.int .i64 C) (by show GV ≠ GU; exact ne_V_U))
              have HU := Lib.hid (((HU.out.set0 A).set1 B).set2 C)
              refine hK.out _ _ ⟨(Below.setCell (Below.setCell (Below.setCell hHeld.1 (p := ⟨GU, 0, none⟩) le_U _) (p := ⟨GU, 1, none⟩) le_U _) (p := ⟨GU, 2, none⟩) le_U _), HM.out, HT.out, HV.out⟩ (fun hHeld2 => ?_); (clear hHeld; rename _ => hHeld; clear hK K; have hHeld : (fun W => Below w.heap.size w W ∧ Bk9 W GM x0 x1 x2 x3 x4 x5 x6 x7 x8 ∧ Bk3 W GT x9 x10 x11 ∧ Bk3 W GV A B C) _ := hHeld); (try simp only [Act.put, List.getElem_toArray, List.getElem_cons_succ, List.getElem_cons_zero, List.setIfInBounds_toArray, List.set_cons_zero, List.set_cons_succ])
              obtain ⟨ywr50x4, hwx⟩ : ∃ wx, ((ywr50x3.setCell ⟨GU, 0, none⟩ (.int .i64 A)).setCell ⟨GU, 1, none⟩ (.int .i64 B)).setCell ⟨GU, 2, none⟩ (.int .i64 C) = wx := ⟨_, rfl⟩; rw [hwx] at HM HT HV HU hHeld ⊢; clear hwx
              (refine wpAnyH_take (i := 10) (v := ?_) rfl (by kernel_rfl) (by kernel_rfl) (by kernel_rfl) (fun _ _ _ h => h) (Or.inl ⟨rfl, ?_⟩) (by assumption) ?_; rotate_left; focus (intro W hSw; (try dsimp only at hSw); obtain ⟨hSb, hxM, hxT, hxV⟩ := hSw; obtain ⟨⟨iM0, iM1, iM2, iM3, iM4, iM5, iM6, iM7, iM8⟩, _, _⟩ := hxM; obtain ⟨⟨iT0, iT1, iT2⟩, _, _⟩ := hxT; obtain ⟨⟨iV0, iV1, iV2⟩, _, _⟩ := hxV; go_simp; try (with_reducible rfl))); (try simp only [Act.put, List.getElem_toArray, List.getElem_cons_succ, List.getElem_cons_zero, List.setIfInBounds_toArray, List.set_cons_zero, List.set_cons_succ])
              refine wpAnyH_done (by kernel_rfl) ?_ _
              have HB := Lib.hid (hHeld.1)
              clear hHeld
              obtain ⟨⟨qM0, qM1, qM2, qM3, qM4, qM5, qM6, qM7, qM8⟩, ⟨fM0, fM1, fM2, fM3, fM4, fM5, fM6, fM7, fM8⟩, zM⟩ := HM.out
              obtain ⟨⟨qT0, qT1, qT2⟩, ⟨fT0, fT1, fT2⟩, zT⟩ := HT.out
              obtain ⟨⟨qV0, qV1, qV2⟩, ⟨fV0, fV1, fV2⟩, zV⟩ := HV.out
              obtain ⟨⟨qU0, qU1, qU2⟩, ⟨fU0, fU1, fU2⟩, zU⟩ := HU.out
              go_wp2_with fail
              go_at_call 21
              refine (eqTriple_same _ _ _ _).mono ?_
              rintro e w101 ⟨rfl, hb⟩
              clear qM0 fM0 qM1 fM1 qM2 fM2 qM3 fM3 qM4 fM4 qM5 fM5 qM6 fM6 qM7 fM7 qM8 fM8 zM qT0 fT0 qT1 fT1 qT2 fT2 zT qV0 fV0 qV1 fV1 qV2 fV2 zV qU0 fU0 qU1 fU1 qU2 fU2 zU
              have HM := Lib.hid (HM.out.below hb)
              have HT := Lib.hid (HT.out.below hb)
              have HV := Lib.hid (HV.out.below hb)
              have HU := Lib.hid (HU.out.below hb)
              have HB := Lib.hid (below_after hb HB.out)
              clear hb
              obtain ⟨⟨qM0, qM1, qM2, qM3, qM4, qM5, qM6, qM7, qM8⟩, ⟨fM0, fM1, fM2, fM3, fM4, fM5, fM6, fM7, fM8⟩, zM⟩ := HM.out
              obtain ⟨⟨qT0, qT1, qT2⟩, ⟨fT0, fT1, fT2⟩, zT⟩ := HT.out
              obtain ⟨⟨qV0, qV1, qV2⟩, ⟨fV0, fV1, fV2⟩, zV⟩ := HV.out
              obtain ⟨⟨qU0, qU1, qU2⟩, ⟨fU0, fU1, fU2⟩, zU⟩ := HU.out
              go_wp2_with fail
              go_ret
              have hb := HB.out
              exact ⟨rfl, by (repeat' (first | (with_reducible exact Below.refl _ _) | (with_reducible refine Below.alloc ?_ ?_ _) | (with_reducible refine Below.setCell ?_ ?_ _) | (with_reducible refine Below.drew ?_) | (with_reducible refine below_drewN ?_ _) | (with_reducible assumption) | (with_reducible refine below_after (by with_reducible assumption) ?_) | go_size))⟩
          · skip
            go_simp; obtain ⟨GU, hGU⟩ : ∃ G, ywr50x0.heap.size = G := ⟨_, rfl⟩; have le_U : w.heap.size ≤ GU := by rw [← hGU]; exact Below.size hHeld.1
            have ne_U_M : GU ≠ GM := by have := HM.out.2.2; omega
            have ne_M_U : GM ≠ GU := Ne.symm ne_U_M
            have ne_U_T : GU ≠ GT := by have := HT.out.2.2; omega
            have ne_T_U : GT ≠ GU := Ne.symm ne_U_T
            have ne_U_V : GU ≠ GV := by have := HV.out.2.2; omega
            have ne_V_U : GV ≠ GU := Ne.symm ne_U_V
            have HM := Lib.hid (HM.out.below ((Below.refl _ _).alloc (Nat.le_refl _) (.cells #[.int .i64 0, .int .i64 0, .int .i64 0] 24))); have HT := Lib.hid (HT.out.below ((Below.refl _ _).alloc (Nat.le_refl _) (.cells #[.int .i64 0, .int .i64 0, .int .i64 0] 24))); have HV := Lib.hid (HV.out.below ((Below.refl _ _).alloc (Nat.le_refl _) (.cells #[.int .i64 0, .int .i64 0, .int .i64 0] 24))); skip
            have HU : Hid (Bk3 (ywr50x0.alloc (.cells #[.int .i64 0, .int .i64 0, .int .i64 0] 24)) GU 0 0 0) := by rw [← hGU]; exact bk3_new ywr50x0 0 0 0 _
            refine hK.out _ _ ⟨Below.alloc hHeld.1 (Below.size hHeld.1) _, HM.out, HT.out, HV.out⟩ (fun hHeld2 => ?_); (clear hHeld; rename _ => hHeld; clear hK K; have hHeld : (fun W => Below w.heap.size w W ∧ Bk9 W GM x0 x1 x2 x3 x4 x5 x6 x7 x8 ∧ Bk3 W GT x9 x10 x11 ∧ Bk3 W GV A B C) _ := hHeld); (try simp only [Act.put, List.getElem_toArray, List.getElem_cons_succ, List.getElem_cons_zero, List.setIfInBounds_toArray, List.set_cons_zero, List.set_cons_succ])
            rw [hGU]; clear hGU; obtain ⟨ywr50x1, hwx⟩ : ∃ wx, ywr50x0.alloc (.cells #[.int .i64 0, .int .i64 0, .int .i64 0] 24) = wx := ⟨_, rfl⟩; rw [hwx] at HM HT HV HU hHeld ⊢; clear hwx
            refine wpAnyH_ready (rs := [3]) (by kernel_rfl) (by simp) ?_; refine AllReadyH.cons rfl (fun K hK => ?_) AllReadyH.nil
            go_simp; (go_at_call 17; refine (toTriple_any _ _ _ _).mono ?_; rintro en ywr50x2 ⟨rfl, hb2⟩); have HM := Lib.hid (HM.out.below hb2); have HT := Lib.hid (HT.out.below hb2); have HV := Lib.hid (HV.out.below hb2); have HU := Lib.hid (HU.out.below hb2); refine hK.out _ _ ⟨below_after hb2 hHeld.1, HM.out, HT.out, HV.out⟩ (fun hHeld2 => ?_); clear hb2; (clear hHeld; rename _ => hHeld; clear hK K; have hHeld : (fun W => Below w.heap.size w W ∧ Bk9 W GM x0 x1 x2 x3 x4 x5 x6 x7 x8 ∧ Bk3 W GT x9 x10 x11 ∧ Bk3 W GV A B C) _ := hHeld); (try simp only [Act.put, List.getElem_toArray, List.getElem_cons_succ, List.getElem_cons_zero, List.setIfInBounds_toArray, List.set_cons_zero, List.set_cons_succ])
            refine wpAnyH_ready (rs := [4]) (by kernel_rfl) (by simp) ?_; refine AllReadyH.cons rfl (fun K hK => ?_) AllReadyH.nil
            go_simp; (go_at_call 40; refine (HI.out _).mono ?_; rintro en ywr50x3 ⟨rfl, hb2⟩); have HM := Lib.hid (HM.out.below hb2); have HT := Lib.hid (HT.out.below hb2); have HV := Lib.hid (HV.out.below hb2); have HU := Lib.hid (HU.out.below hb2); refine hK.out _ _ ⟨below_after hb2 hHeld.1, HM.out, HT.out, HV.out⟩ (fun hHeld2 => ?_); clear hb2; (clear hHeld; rename _ => hHeld; clear hK K; have hHeld : (fun W => Below w.heap.size w W ∧ Bk9 W GM x0 x1 x2 x3 x4 x5 x6 x7 x8 ∧ Bk3 W GT x9 x10 x11 ∧ Bk3 W GV A B C) _ := hHeld); (try simp only [Act.put, List.getElem_toArray, List.getElem_cons_succ, List.getElem_cons_zero, List.setIfInBounds_toArray, List.set_cons_zero, List.set_cons_succ])
            (refine wpAnyH_take (i := 5) (v := ?_) rfl (by kernel_rfl) (by kernel_rfl) (by kernel_rfl) (fun _ _ _ h => h) (Or.inl ⟨rfl, ?_⟩) (by assumption) ?_; rotate_left; focus (intro W hSw; (try dsimp only at hSw); obtain ⟨hSb, hxM, hxT, hxV⟩ := hSw; obtain ⟨⟨iM0, iM1, iM2, iM3, iM4, iM5, iM6, iM7, iM8⟩, _, _⟩ := hxM; obtain ⟨⟨iT0, iT1, iT2⟩, _, _⟩ := hxT; obtain ⟨⟨iV0, iV1, iV2⟩, _, _⟩ := hxV; go_simp; try (with_reducible rfl))); (try simp only [Act.put, List.getElem_toArray, List.getElem_cons_succ, List.getElem_cons_zero, List.setIfInBounds_toArray, List.set_cons_zero, List.set_cons_succ])
            (refine wpAnyH_take (i := 6) (v := ?_) rfl (by kernel_rfl) (by kernel_rfl) (by kernel_rfl) (fun _ _ _ h => h) (Or.inl ⟨rfl, ?_⟩) (by assumption) ?_; rotate_left; focus (intro W hSw; (try dsimp only at hSw); obtain ⟨hSb, hxM, hxT, hxV⟩ := hSw; obtain ⟨⟨iM0, iM1, iM2, iM3, iM4, iM5, iM6, iM7, iM8⟩, _, _⟩ := hxM; obtain ⟨⟨iT0, iT1, iT2⟩, _, _⟩ := hxT; obtain ⟨⟨iV0, iV1, iV2⟩, _, _⟩ := hxV; go_simp; try (with_reducible rfl))); (try simp only [Act.put, List.getElem_toArray, List.getElem_cons_succ, List.getElem_cons_zero, List.setIfInBounds_toArray, List.set_cons_zero, List.set_cons_succ])
            (refine wpAnyH_take (i := 7) (v := ?_) rfl (by kernel_rfl) (by kernel_rfl) (by kernel_rfl) (fun _ _ _ h => h) (Or.inl ⟨rfl, ?_⟩) (by assumption) ?_; rotate_left; focus (intro W hSw; (try dsimp only at hSw); obtain ⟨hSb, hxM, hxT, hxV⟩ := hSw; obtain ⟨⟨iM0, iM1, iM2, iM3, iM4, iM5, iM6, iM7, iM8⟩, _, _⟩ := hxM; obtain ⟨⟨iT0, iT1, iT2⟩, _, _⟩ := hxT; obtain ⟨⟨iV0, iV1, iV2⟩, _, _⟩ := hxV; go_simp; try (with_reducible rfl))); (try simp only [Act.put, List.getElem_toArray, List.getElem_cons_succ, List.getElem_cons_zero, List.setIfInBounds_toArray, List.set_cons_zero, List.set_cons_succ])
            refine wpAnyH_ready (rs := [9]) (by kernel_rfl) (by simp) ?_; refine AllReadyH.cons rfl (fun K hK => ?_) AllReadyH.nil
            obtain ⟨⟨a0, a1, a2⟩, ⟨f0, f1, f2⟩, az⟩ := HU.out; go_simp; clear a0 f0 a1 f1 a2 f2 az
            have HM := Lib.hid (((HM.out.far ⟨GU, 0, none⟩ (.int .i64 A) (by show GM ≠ GU; exact ne_M_U)).far ⟨GU, 1, none⟩ (.int .i64 B) (by show GM ≠ GU; exact ne_M_U)).far ⟨GU, 2, none⟩ (.int .i64 C) (by show GM ≠ GU; exact ne_M_U))
            have HT := Lib.hid (((HT.out.far ⟨GU, 0, none⟩ (.int .i64 A) (by show GT ≠ GU; exact ne_T_U)).far ⟨GU, 1, none⟩ (.int .i64 B) (by show GT ≠ GU; exact ne_T_U)).far ⟨GU, 2, none⟩ (.int .i64 C) (by show GT ≠ GU; exact ne_T_U))
            have HV := Lib.hid (((HV.out.far ⟨GU, 0, none⟩ (.int .i64 A) (by show GV ≠ GU; exact ne_V_U)).far ⟨GU, 1, none⟩ (.int .i64 B) (by show GV ≠ GU; exact ne_V_U)).far ⟨GU, 2, none⟩ (.int .i64 C) (by show GV ≠ GU; exact ne_V_U))
            have HU := Lib.hid (((HU.out.set0 A).set1 B).set2 C)
            refine hK.out _ _ ⟨(Below.setCell (Below.setCell (Below.setCell hHeld.1 (p := ⟨GU, 0, none⟩) le_U _) (p := ⟨GU, 1, none⟩) le_U _) (p := ⟨GU, 2, none⟩) le_U _), HM.out, HT.out, HV.out⟩ (fun hHeld2 => ?_); (clear hHeld; rename _ => hHeld; clear hK K; have hHeld : (fun W => Below w.heap.size w W ∧ Bk9 W GM x0 x1 x2 x3 x4 x5 x6 x7 x8 ∧ Bk3 W GT x9 x10 x11 ∧ Bk3 W GV A B C) _ := hHeld); (try simp only [Act.put, List.getElem_toArray, List.getElem_cons_succ, List.getElem_cons_zero, List.setIfInBounds_toArray, List.set_cons_zero, List.set_cons_succ])
            obtain ⟨ywr50x4, hwx⟩ : ∃ wx, ((ywr50x3.setCell ⟨GU, 0, none⟩ (.int .i64 A)).setCell ⟨GU, 1, none⟩ (.int .i64 B)).setCell ⟨GU, 2, none⟩ (.int .i64 C) = wx := ⟨_, rfl⟩; rw [hwx] at HM HT HV HU hHeld ⊢; clear hwx
            (refine wpAnyH_take (i := 10) (v := ?_) rfl (by kernel_rfl) (by kernel_rfl) (by kernel_rfl) (fun _ _ _ h => h) (Or.inl ⟨rfl, ?_⟩) (by assumption) ?_; rotate_left; focus (intro W hSw; (try dsimp only at hSw); obtain ⟨hSb, hxM, hxT, hxV⟩ := hSw; obtain ⟨⟨iM0, iM1, iM2, iM3, iM4, iM5, iM6, iM7, iM8⟩, _, _⟩ := hxM; obtain ⟨⟨iT0, iT1, iT2⟩, _, _⟩ := hxT; obtain ⟨⟨iV0, iV1, iV2⟩, _, _⟩ := hxV; go_simp; try (with_reducible rfl))); (try simp only [Act.put, List.getElem_toArray, List.getElem_cons_succ, List.getElem_cons_zero, List.setIfInBounds_toArray, List.set_cons_zero, List.set_cons_succ])
            refine wpAnyH_done (by kernel_rfl) ?_ _
            have HB := Lib.hid (hHeld.1)
            clear hHeld
            obtain ⟨⟨qM0, qM1, qM2, qM3, qM4, qM5, qM6, qM7, qM8⟩, ⟨fM0, fM1, fM2, fM3, fM4, fM5, fM6, fM7, fM8⟩, zM⟩ := HM.out
            obtain ⟨⟨qT0, qT1, qT2⟩, ⟨fT0, fT1, fT2⟩, zT⟩ := HT.out
            obtain ⟨⟨qV0, qV1, qV2⟩, ⟨fV0, fV1, fV2⟩, zV⟩ := HV.out
            obtain ⟨⟨qU0, qU1, qU2⟩, ⟨fU0, fU1, fU2⟩, zU⟩ := HU.out
            go_wp2_with fail
            go_at_call 21
            refine (eqTriple_same _ _ _ _).mono ?_
            rintro e w101 ⟨rfl, hb⟩
            clear qM0 fM0 qM1 fM1 qM2 fM2 qM3 fM3 qM4 fM4 qM5 fM5 qM6 fM6 qM7 fM7 qM8 fM8 zM qT0 fT0 qT1 fT1 qT2 fT2 zT qV0 fV0 qV1 fV1 qV2 fV2 zV qU0 fU0 qU1 fU1 qU2 fU2 zU
            have HM := Lib.hid (HM.out.below hb)
            have HT := Lib.hid (HT.out.below hb)
            have HV := Lib.hid (HV.out.below hb)
            have HU := Lib.hid (HU.out.below hb)
            have HB := Lib.hid (below_after hb HB.out)
            clear hb
            obtain ⟨⟨qM0, qM1, qM2, qM3, qM4, qM5, qM6, qM7, qM8⟩, ⟨fM0, fM1, fM2, fM3, fM4, fM5, fM6, fM7, fM8⟩, zM⟩ := HM.out
            obtain ⟨⟨qT0, qT1, qT2⟩, ⟨fT0, fT1, fT2⟩, zT⟩ := HT.out
            obtain ⟨⟨qV0, qV1, qV2⟩, ⟨fV0, fV1, fV2⟩, zV⟩ := HV.out
            obtain ⟨⟨qU0, qU1, qU2⟩, ⟨fU0, fU1, fU2⟩, zU⟩ := HU.out
            go_wp2_with fail
            go_ret
            have hb := HB.out
            exact ⟨rfl, by (repeat' (first | (with_reducible exact Below.refl _ _) | (with_reducible refine Below.alloc ?_ ?_ _) | (with_reducible refine Below.setCell ?_ ?_ _) | (with_reducible refine Below.drew ?_) | (with_reducible refine below_drewN ?_ _) | (with_reducible assumption) | (with_reducible refine below_after (by with_reducible assumption) ?_) | go_size))⟩
        · skip
          go_simp; obtain ⟨GU, hGU⟩ : ∃ G, wD50.heap.size = G := ⟨_, rfl⟩; have le_U : w.heap.size ≤ GU := by rw [← hGU]; exact Below.size hHeld.1
          have ne_U_M : GU ≠ GM := by have := HM.out.2.2; omega
          have ne_M_U : GM ≠ GU := Ne.symm ne_U_M
          have ne_U_T : GU ≠ GT := by have := HT.out.2.2; omega
          have ne_T_U : GT ≠ GU := Ne.symm ne_U_T
          have ne_U_V : GU ≠ GV := by have := HV.out.2.2; omega
          have ne_V_U : GV ≠ GU := Ne.symm ne_U_V
          have HM := Lib.hid (HM.out.below ((Below.refl _ _).alloc (Nat.le_refl _) (.cells #[.int .i64 0, .int .i64 0, .int .i64 0] 24))); have HT := Lib.hid (HT.out.below ((Below.refl _ _).alloc (Nat.le_refl _) (.cells #[.int .i64 0, .int .i64 0, .int .i64 0] 24))); have HV := Lib.hid (HV.out.below ((Below.refl _ _).alloc (Nat.le_refl _) (.cells #[.int .i64 0, .int .i64 0, .int .i64 0] 24))); skip
          have HU : Hid (Bk3 (wD50.alloc (.cells #[.int .i64 0, .int .i64 0, .int .i64 0] 24)) GU 0 0 0) := by rw [← hGU]; exact bk3_new wD50 0 0 0 _
          refine hK.out _ _ ⟨Below.alloc hHeld.1 (Below.size hHeld.1) _, HM.out, HT.out, HV.out⟩ (fun hHeld2 => ?_); (clear hHeld; rename _ => hHeld; clear hK K; have hHeld : (fun W => Below w.heap.size w W ∧ Bk9 W GM x0 x1 x2 x3 x4 x5 x6 x7 x8 ∧ Bk3 W GT x9 x10 x11 ∧ Bk3 W GV A B C) _ := hHeld); (try simp only [Act.put, List.getElem_toArray, List.getElem_cons_succ, List.getElem_cons_zero, List.setIfInBounds_toArray, List.set_cons_zero, List.set_cons_succ])
          rw [hGU]; clear hGU; obtain ⟨ywr50x0, hwx⟩ : ∃ wx, wD50.alloc (.cells #[.int .i64 0, .int .i64 0, .int .i64 0] 24) = wx := ⟨_, rfl⟩; rw [hwx] at HM HT HV HU hHeld ⊢; clear hwx
          refine wpAnyH_ready (rs := [1]) (by kernel_rfl) (by simp) ?_; refine AllReadyH.cons rfl (fun K hK => ?_) AllReadyH.nil
          go_simp; (go_at_call 39; refine (toSquare_any _ _ _ _ _ _ _ _ _ _).mono ?_; rintro en ywr50x1 ⟨rfl, hb2⟩); have HM := Lib.hid (HM.out.below hb2); have HT := Lib.hid (HT.out.below hb2); have HV := Lib.hid (HV.out.below hb2); have HU := Lib.hid (HU.out.below hb2); refine hK.out _ _ ⟨below_after hb2 hHeld.1, HM.out, HT.out, HV.out⟩ (fun hHeld2 => ?_); clear hb2; (clear hHeld; rename _ => hHeld; clear hK K; have hHeld : (fun W => Below w.heap.size w W ∧ Bk9 W GM x0 x1 x2 x3 x4 x5 x6 x7 x8 ∧ Bk3 W GT x9 x10 x11 ∧ Bk3 W GV A B C) _ := hHeld); (try simp only [Act.put, List.getElem_toArray, List.getElem_cons_succ, List.getElem_cons_zero, List.setIfInBounds_toArray, List.set_cons_zero, List.set_cons_succ])
          refine wpAnyH_ready (rs := [3]) (by kernel_rfl) (by simp) ?_; refine AllReadyH.cons rfl (fun K hK => ?_) AllReadyH.nil
          go_simp; (go_at_call 17; refine (toTriple_any _ _ _ _).mono ?_; rintro en ywr50x2 ⟨rfl, hb2⟩); have HM := Lib.hid (HM.out.below hb2); have HT := Lib.hid (HT.out.below hb2); have HV := Lib.hid (HV.out.below hb2); have HU := Lib.hid (HU.out.below hb2); refine hK.out _ _ ⟨below_after hb2 hHeld.1, HM.out, HT.out, HV.out⟩ (fun hHeld2 => ?_); clear hb2; (clear hHeld; rename _ => hHeld; clear hK K; have hHeld : (fun W => Below w.heap.size w W ∧ Bk9 W GM x0 x1 x2 x3 x4 x5 x6 x7 x8 ∧ Bk3 W GT x9 x10 x11 ∧ Bk3 W GV A B C) _ := hHeld); (try simp only [Act.put, List.getElem_toArray, List.getElem_cons_succ, List.getElem_cons_zero, List.setIfInBounds_toArray, List.set_cons_zero, List.set_cons_succ])
          refine wpAnyH_ready (rs := [4]) (by kernel_rfl) (by simp) ?_; refine AllReadyH.cons rfl (fun K hK => ?_) AllReadyH.nil
          go_simp; (go_at_call 40; refine (HI.out _).mono ?_; rintro en ywr50x3 ⟨rfl, hb2⟩); have HM := Lib.hid (HM.out.below hb2); have HT := Lib.hid (HT.out.below hb2); have HV := Lib.hid (HV.out.below hb2); have HU := Lib.hid (HU.out.below hb2); refine hK.out _ _ ⟨below_after hb2 hHeld.1, HM.out, HT.out, HV.out⟩ (fun hHeld2 => ?_); clear hb2; (clear hHeld; rename _ => hHeld; clear hK K; have hHeld : (fun W => Below w.heap.size w W ∧ Bk9 W GM x0 x1 x2 x3 x4 x5 x6 x7 x8 ∧ Bk3 W GT x9 x10 x11 ∧ Bk3 W GV A B C) _ := hHeld); (try simp only [Act.put, List.getElem_toArray, List.getElem_cons_succ, List.getElem_cons_zero, List.setIfInBounds_toArray, List.set_cons_zero, List.set_cons_succ])
          (refine wpAnyH_take (i := 5) (v := ?_) rfl (by kernel_rfl) (by kernel_rfl) (by kernel_rfl) (fun _ _ _ h => h) (Or.inl ⟨rfl, ?_⟩) (by assumption) ?_; rotate_left; focus (intro W hSw; (try dsimp only at hSw); obtain ⟨hSb, hxM, hxT, hxV⟩ := hSw; obtain ⟨⟨iM0, iM1, iM2, iM3, iM4, iM5, iM6, iM7, iM8⟩, _, _⟩ := hxM; obtain ⟨⟨iT0, iT1, iT2⟩, _, _⟩ := hxT; obtain ⟨⟨iV0, iV1, iV2⟩, _, _⟩ := hxV; go_simp; try (with_reducible rfl))); (try simp only [Act.put, List.getElem_toArray, List.getElem_cons_succ, List.getElem_cons_zero, List.setIfInBounds_toArray, List.set_cons_zero, List.set_cons_succ])
          (refine wpAnyH_take (i := 6) (v := ?_) rfl (by kernel_rfl) (by kernel_rfl) (by kernel_rfl) (fun _ _ _ h => h) (Or.inl ⟨rfl, ?_⟩) (by assumption) ?_; rotate_left; focus (intro W hSw; (try dsimp only at hSw); obtain ⟨hSb, hxM, hxT, hxV⟩ := hSw; obtain ⟨⟨iM0, iM1, iM2, iM3, iM4, iM5, iM6, iM7, iM8⟩, _, _⟩ := hxM; obtain ⟨⟨iT0, iT1, iT2⟩, _, _⟩ := hxT; obtain ⟨⟨iV0, iV1, iV2⟩, _, _⟩ := hxV; go_simp; try (with_reducible rfl))); (try simp only [Act.put, List.getElem_toArray, List.getElem_cons_succ, List.getElem_cons_zero, List.setIfInBounds_toArray, List.set_cons_zero, List.set_cons_succ])
          (refine wpAnyH_take (i := 7) (v := ?_) rfl (by kernel_rfl) (by kernel_rfl) (by kernel_rfl) (fun _ _ _ h => h) (Or.inl ⟨rfl, ?_⟩) (by assumption) ?_; rotate_left; focus (intro W hSw; (try dsimp only at hSw); obtain ⟨hSb, hxM, hxT, hxV⟩ := hSw; obtain ⟨⟨iM0, iM1, iM2, iM3, iM4, iM5, iM6, iM7, iM8⟩, _, _⟩ := hxM; obtain ⟨⟨iT0, iT1, iT2⟩, _, _⟩ := hxT; obtain ⟨⟨iV0, iV1, iV2⟩, _, _⟩ := hxV; go_simp; try (with_reducible rfl))); (try simp only [Act.put, List.getElem_toArray, List.getElem_cons_succ, List.getElem_cons_zero, List.setIfInBounds_toArray, List.set_cons_zero, List.set_cons_succ])
          refine wpAnyH_ready (rs := [9]) (by kernel_rfl) (by simp) ?_; refine AllReadyH.cons rfl (fun K hK => ?_) AllReadyH.nil
          obtain ⟨⟨a0, a1, a2⟩, ⟨f0, f1, f2⟩, az⟩ := HU.out; go_simp; clear a0 f0 a1 f1 a2 f2 az
          have HM := Lib.hid (((HM.out.far ⟨GU, 0, none⟩ (.int .i64 A) (by show GM ≠ GU; exact ne_M_U)).far ⟨GU, 1, none⟩ (.int .i64 B) (by show GM ≠ GU; exact ne_M_U)).far ⟨GU, 2, none⟩ (.int .i64 C) (by show GM ≠ GU; exact ne_M_U))
          have HT := Lib.hid (((HT.out.far ⟨GU, 0, none⟩ (.int .i64 A) (by show GT ≠ GU; exact ne_T_U)).far ⟨GU, 1, none⟩ (.int .i64 B) (by show GT ≠ GU; exact ne_T_U)).far ⟨GU, 2, none⟩ (.int .i64 C) (by show GT ≠ GU; exact ne_T_U))
          have HV := Lib.hid (((HV.out.far ⟨GU, 0, none⟩ (.int .i64 A) (by show GV ≠ GU; exact ne_V_U)).far ⟨GU, 1, none⟩ (.int .i64 B) (by show GV ≠ GU; exact ne_V_U)).far ⟨GU, 2, none⟩ (.int .i64 C) (by show GV ≠ GU; exact ne_V_U))
          have HU := Lib.hid (((HU.out.set0 A).set1 B).set2 C)
          refine hK.out _ _ ⟨(Below.setCell (Below.setCell (Below.setCell hHeld.1 (p := ⟨GU, 0, none⟩) le_U _) (p := ⟨GU, 1, none⟩) le_U _) (p := ⟨GU, 2, none⟩) le_U _), HM.out, HT.out, HV.out⟩ (fun hHeld2 => ?_); (clear hHeld; rename _ => hHeld; clear hK K; have hHeld : (fun W => Below w.heap.size w W ∧ Bk9 W GM x0 x1 x2 x3 x4 x5 x6 x7 x8 ∧ Bk3 W GT x9 x10 x11 ∧ Bk3 W GV A B C) _ := hHeld); (try simp only [Act.put, List.getElem_toArray, List.getElem_cons_succ, List.getElem_cons_zero, List.setIfInBounds_toArray, List.set_cons_zero, List.set_cons_succ])
          obtain ⟨ywr50x4, hwx⟩ : ∃ wx, ((ywr50x3.setCell ⟨GU, 0, none⟩ (.int .i64 A)).setCell ⟨GU, 1, none⟩ (.int .i64 B)).setCell ⟨GU, 2, none⟩ (.int .i64 C) = wx := ⟨_, rfl⟩; rw [hwx] at HM HT HV HU hHeld ⊢; clear hwx
          (refine wpAnyH_take (i := 10) (v := ?_) rfl (by kernel_rfl) (by kernel_rfl) (by kernel_rfl) (fun _ _ _ h => h) (Or.inl ⟨rfl, ?_⟩) (by assumption) ?_; rotate_left; focus (intro W hSw; (try dsimp only at hSw); obtain ⟨hSb, hxM, hxT, hxV⟩ := hSw; obtain ⟨⟨iM0, iM1, iM2, iM3, iM4, iM5, iM6, iM7, iM8⟩, _, _⟩ := hxM; obtain ⟨⟨iT0, iT1, iT2⟩, _, _⟩ := hxT; obtain ⟨⟨iV0, iV1, iV2⟩, _, _⟩ := hxV; go_simp; try (with_reducible rfl))); (try simp only [Act.put, List.getElem_toArray, List.getElem_cons_succ, List.getElem_cons_zero, List.setIfInBounds_toArray, List.set_cons_zero, List.set_cons_succ])
          refine wpAnyH_done (by kernel_rfl) ?_ _
          have HB := Lib.hid (hHeld.1)
          clear hHeld
          obtain ⟨⟨qM0, qM1, qM2, qM3, qM4, qM5, qM6, qM7, qM8⟩, ⟨fM0, fM1, fM2, fM3, fM4, fM5, fM6, fM7, fM8⟩, zM⟩ := HM.out
          obtain ⟨⟨qT0, qT1, qT2⟩, ⟨fT0, fT1, fT2⟩, zT⟩ := HT.out
          obtain ⟨⟨qV0, qV1, qV2⟩, ⟨fV0, fV1, fV2⟩, zV⟩ := HV.out
          obtain ⟨⟨qU0, qU1, qU2⟩, ⟨fU0, fU1, fU2⟩, zU⟩ := HU.out
          go_wp2_with fail
          go_at_call 21
          refine (eqTriple_same _ _ _ _).mono ?_
          rintro e w101 ⟨rfl, hb⟩
          clear qM0 fM0 qM1 fM1 qM2 fM2 qM3 fM3 qM4 fM4 qM5 fM5 qM6 fM6 qM7 fM7 qM8 fM8 zM qT0 fT0 qT1 fT1 qT2 fT2 zT qV0 fV0 qV1 fV1 qV2 fV2 zV qU0 fU0 qU1 fU1 qU2 fU2 zU
          have HM := Lib.hid (HM.out.below hb)
          have HT := Lib.hid (HT.out.below hb)
          have HV := Lib.hid (HV.out.below hb)
          have HU := Lib.hid (HU.out.below hb)
          have HB := Lib.hid (below_after hb HB.out)
          clear hb
          obtain ⟨⟨qM0, qM1, qM2, qM3, qM4, qM5, qM6, qM7, qM8⟩, ⟨fM0, fM1, fM2, fM3, fM4, fM5, fM6, fM7, fM8⟩, zM⟩ := HM.out
          obtain ⟨⟨qT0, qT1, qT2⟩, ⟨fT0, fT1, fT2⟩, zT⟩ := HT.out
          obtain ⟨⟨qV0, qV1, qV2⟩, ⟨fV0, fV1, fV2⟩, zV⟩ := HV.out
          obtain ⟨⟨qU0, qU1, qU2⟩, ⟨fU0, fU1, fU2⟩, zU⟩ := HU.out
          go_wp2_with fail
          go_ret
          have hb := HB.out
          exact ⟨rfl, by (repeat' (first | (with_reducible exact Below.refl _ _) | (with_reducible refine Below.alloc ?_ ?_ _) | (with_reducible refine Below.setCell ?_ ?_ _) | (with_reducible refine Below.drew ?_) | (with_reducible refine below_drewN ?_ _) | (with_reducible assumption) | (with_reducible refine below_after (by with_reducible assumption) ?_) | go_size))⟩
    · skip
      go_simp; obtain ⟨GV, hGV⟩ : ∃ G, ywr0x0.heap.size = G := ⟨_, rfl⟩; have le_V : w.heap.size ≤ GV := by rw [← hGV]; exact Below.size hHeld.1
      have ne_V_M : GV ≠ GM := by have := HM.out.2.2; omega
      have ne_M_V : GM ≠ GV := Ne.symm ne_V_M
      have ne_V_T : GV ≠ GT := by have := HT.out.2.2; omega
      have ne_T_V : GT ≠ GV := Ne.symm ne_V_T
      have HM := Lib.hid (HM.out.below ((Below.refl _ _).alloc (Nat.le_refl _) (.cells #[.int .i64 0, .int .i64 0, .int .i64 0] 24))); have HT := Lib.hid (HT.out.below ((Below.refl _ _).alloc (Nat.le_refl _) (.cells #[.int .i64 0, .int .i64 0, .int .i64 0] 24))); skip
      have HV : Hid (Bk3 (ywr0x0.alloc (.cells #[.int .i64 0, .int .i64 0, .int .i64 0] 24)) GV 0 0 0) := by rw [← hGV]; exact bk3_new ywr0x0 0 0 0 _
      refine hK.out _ _ ⟨Below.alloc hHeld.1 (Below.size hHeld.1) _, HM.out, HT.out⟩ (fun hHeld2 => ?_); (clear hHeld; rename _ => hHeld; clear hK K; have hHeld : (fun W => Below w.heap.size w W ∧ Bk9 W GM x0 x1 x2 x3 x4 x5 x6 x7 x8 ∧ Bk3 W GT x9 x10 x11) _ := hHeld); (try simp only [Act.put, List.getElem_toArray, List.getElem_cons_succ, List.getElem_cons_zero, List.setIfInBounds_toArray, List.set_cons_zero, List.set_cons_succ])
      rw [hGV]; clear hGV; obtain ⟨ywr0x1, hwx⟩ : ∃ wx, ywr0x0.alloc (.cells #[.int .i64 0, .int .i64 0, .int .i64 0] 24) = wx := ⟨_, rfl⟩; rw [hwx] at HM HT HV hHeld ⊢; clear hwx
      refine wpAnyH_ready (rs := [3]) (by kernel_rfl) (by simp) ?_; refine AllReadyH.cons rfl (fun K hK => ?_) AllReadyH.nil
      go_simp; (go_at_call 17; refine (toTriple_any _ _ _ _).mono ?_; rintro en ywr0x2 ⟨rfl, hb2⟩); have HM := Lib.hid (HM.out.below hb2); have HT := Lib.hid (HT.out.below hb2); have HV := Lib.hid (HV.out.below hb2); refine hK.out _ _ ⟨below_after hb2 hHeld.1, HM.out, HT.out⟩ (fun hHeld2 => ?_); clear hb2; (clear hHeld; rename _ => hHeld; clear hK K; have hHeld : (fun W => Below w.heap.size w W ∧ Bk9 W GM x0 x1 x2 x3 x4 x5 x6 x7 x8 ∧ Bk3 W GT x9 x10 x11) _ := hHeld); (try simp only [Act.put, List.getElem_toArray, List.getElem_cons_succ, List.getElem_cons_zero, List.setIfInBounds_toArray, List.set_cons_zero, List.set_cons_succ])
      refine wpAnyH_ready (rs := [4]) (by kernel_rfl) (by simp) ?_; refine AllReadyH.cons rfl (fun K hK => ?_) AllReadyH.nil
      go_simp; (go_at_call 38; refine (HS.out _).mono ?_; rintro en ywr0x3 ⟨rfl, hb2⟩); have HM := Lib.hid (HM.out.below hb2); have HT := Lib.hid (HT.out.below hb2); have HV := Lib.hid (HV.out.below hb2); refine hK.out _ _ ⟨below_after hb2 hHeld.1, HM.out, HT.out⟩ (fun hHeld2 => ?_); clear hb2; (clear hHeld; rename _ => hHeld; clear hK K; have hHeld : (fun W => Below w.heap.size w W ∧ Bk9 W GM x0 x1 x2 x3 x4 x5 x6 x7 x8 ∧ Bk3 W GT x9 x10 x11) _ := hHeld); (try simp only [Act.put, List.getElem_toArray, List.getElem_cons_succ, List.getElem_cons_zero, List.setIfInBounds_toArray, List.set_cons_zero, List.set_cons_succ])
      (refine wpAnyH_take (i := 5) (v := ?_) rfl (by kernel_rfl) (by kernel_rfl) (by kernel_rfl) (fun _ _ _ h => h) (Or.inl ⟨rfl, ?_⟩) (by assumption) ?_; rotate_left; focus (intro W hSw; (try dsimp only at hSw); obtain ⟨hSb, hxM, hxT⟩ := hSw; obtain ⟨⟨iM0, iM1, iM2, iM3, iM4, iM5, iM6, iM7, iM8⟩, _, _⟩ := hxM; obtain ⟨⟨iT0, iT1, iT2⟩, _, _⟩ := hxT; go_simp; try (with_reducible rfl))); (try simp only [Act.put, List.getElem_toArray, List.getElem_cons_succ, List.getElem_cons_zero, List.setIfInBounds_toArray, List.set_cons_zero, List.set_cons_succ])
      (refine wpAnyH_take (i := 6) (v := ?_) rfl (by kernel_rfl) (by kernel_rfl) (by kernel_rfl) (fun _ _ _ h => h) (Or.inl ⟨rfl, ?_⟩) (by assumption) ?_; rotate_left; focus (intro W hSw; (try dsimp only at hSw); obtain ⟨hSb, hxM, hxT⟩ := hSw; obtain ⟨⟨iM0, iM1, iM2, iM3, iM4, iM5, iM6, iM7, iM8⟩, _, _⟩ := hxM; obtain ⟨⟨iT0, iT1, iT2⟩, _, _⟩ := hxT; go_simp; try (with_reducible rfl))); (try simp only [Act.put, List.getElem_toArray, List.getElem_cons_succ, List.getElem_cons_zero, List.setIfInBounds_toArray, List.set_cons_zero, List.set_cons_succ])
      (refine wpAnyH_take (i := 7) (v := ?_) rfl (by kernel_rfl) (by kernel_rfl) (by kernel_rfl) (fun _ _ _ h => h) (Or.inl ⟨rfl, ?_⟩) (by assumption) ?_; rotate_left; focus (intro W hSw; (try dsimp only at hSw); obtain ⟨hSb, hxM, hxT⟩ := hSw; obtain ⟨⟨iM0, iM1, iM2, iM3, iM4, iM5, iM6, iM7, iM8⟩, _, _⟩ := hxM; obtain ⟨⟨iT0, iT1, iT2⟩, _, _⟩ := hxT; go_simp; try (with_reducible rfl))); (try simp only [Act.put, List.getElem_toArray, List.getElem_cons_succ, List.getElem_cons_zero, List.setIfInBounds_toArray, List.set_cons_zero, List.set_cons_succ])
      refine wpAnyH_ready (rs := [9]) (by kernel_rfl) (by simp) ?_; refine AllReadyH.cons rfl (fun K hK => ?_) AllReadyH.nil
      obtain ⟨⟨a0, a1, a2⟩, ⟨f0, f1, f2⟩, az⟩ := HV.out; go_simp; clear a0 f0 a1 f1 a2 f2 az
      have HM := Lib.hid (((HM.out.far ⟨GV, 0, none⟩ (.int .i64 A) (by show GM ≠ GV; exact ne_M_V)).far ⟨GV, 1, none⟩ (.int .i64 B) (by show GM ≠ GV; exact ne_M_V)).far ⟨GV, 2, none⟩ (.int .i64 C) (by show GM ≠ GV; exact ne_M_V))
      have HT := Lib.hid (((HT.out.far ⟨GV, 0, none⟩ (.int .i64 A) (by show GT ≠ GV; exact ne_T_V)).far ⟨GV, 1, none⟩ (.int .i64 B) (by show GT ≠ GV; exact ne_T_V)).far ⟨GV, 2, none⟩ (.int .i64 C) (by show GT ≠ GV; exact ne_T_V))
      have HV := Lib.hid (((HV.out.set0 A).set1 B).set2 C)
      refine hK.out _ _ ⟨(Below.setCell (Below.setCell (Below.setCell hHeld.1 (p := ⟨GV, 0, none⟩) le_V _) (p := ⟨GV, 1, none⟩) le_V _) (p := ⟨GV, 2, none⟩) le_V _), HM.out, HT.out⟩ (fun hHeld2 => ?_); (clear hHeld; rename _ => hHeld; clear hK K; have hHeld : (fun W => Below w.heap.size w W ∧ Bk9 W GM x0 x1 x2 x3 x4 x5 x6 x7 x8 ∧ Bk3 W GT x9 x10 x11) _ := hHeld); (try simp only [Act.put, List.getElem_toArray, List.getElem_cons_succ, List.getElem_cons_zero, List.setIfInBounds_toArray, List.set_cons_zero, List.set_cons_succ])
      obtain ⟨ywr0x4, hwx⟩ : ∃ wx, ((ywr0x3.setCell ⟨GV, 0, none⟩ (.int .i64 A)).setCell ⟨GV, 1, none⟩ (.int .i64 B)).setCell ⟨GV, 2, none⟩ (.int .i64 C) = wx := ⟨_, rfl⟩; rw [hwx] at HM HT HV hHeld ⊢; clear hwx
      (refine wpAnyH_take (i := 10) (v := ?_) rfl (by kernel_rfl) (by kernel_rfl) (by kernel_rfl) (fun _ _ _ h => h) (Or.inl ⟨rfl, ?_⟩) (by assumption) ?_; rotate_left; focus (intro W hSw; (try dsimp only at hSw); obtain ⟨hSb, hxM, hxT⟩ := hSw; obtain ⟨⟨iM0, iM1, iM2, iM3, iM4, iM5, iM6, iM7, iM8⟩, _, _⟩ := hxM; obtain ⟨⟨iT0, iT1, iT2⟩, _, _⟩ := hxT; go_simp; try (with_reducible rfl))); (try simp only [Act.put, List.getElem_toArray, List.getElem_cons_succ, List.getElem_cons_zero, List.setIfInBounds_toArray, List.set_cons_zero, List.set_cons_succ])
      refine wpAnyH_done (by kernel_rfl) ?_ _
      have HB := Lib.hid (hHeld.1)
      clear hHeld
      go_wp2_with fail
      refine wp_region_held_drew (S := fun W => Below w.heap.size w W ∧ Bk9 W GM x0 x1 x2 x3 x4 x5 x6 x7 x8 ∧ Bk3 W GT x9 x10 x11 ∧ Bk3 W GV A B C) (by kernel_rfl) ?_ (fun hHeld => ?_); focus ((try dsimp only); exact ⟨Below.drew HB.out, HM.out.below (Below.drew (Below.refl _ _)), HT.out.below (Below.drew (Below.refl _ _)), HV.out.below (Below.drew (Below.refl _ _))⟩)
      have HM := Lib.hid (HM.out.below (Below.drew (Below.refl _ _)))
      have HT := Lib.hid (HT.out.below (Below.drew (Below.refl _ _)))
      have HV := Lib.hid (HV.out.below (Below.drew (Below.refl _ _)))
      have hHeld : (fun W => Below w.heap.size w W ∧ Bk9 W GM x0 x1 x2 x3 x4 x5 x6 x7 x8 ∧ Bk3 W GT x9 x10 x11 ∧ Bk3 W GV A B C) _ := hHeld
      obtain ⟨wD50, hwD50⟩ : ∃ wD, ywr0x4.drew = wD := ⟨_, rfl⟩
      rw [hwD50] at hHeld HM HT HV ⊢
      clear hwD50
      (refine wpAnyH_take (i := 0) (v := ?_) rfl (by kernel_rfl) (by kernel_rfl) (by kernel_rfl) (fun _ _ _ h => h) (Or.inl ⟨rfl, ?_⟩) (by assumption) ?_; rotate_left; focus (intro W hSw; (try dsimp only at hSw); obtain ⟨hSb, hxM, hxT, hxV⟩ := hSw; obtain ⟨⟨iM0, iM1, iM2, iM3, iM4, iM5, iM6, iM7, iM8⟩, _, _⟩ := hxM; obtain ⟨⟨iT0, iT1, iT2⟩, _, _⟩ := hxT; obtain ⟨⟨iV0, iV1, iV2⟩, _, _⟩ := hxV; go_simp; try (with_reducible rfl))); (try simp only [Act.put, List.getElem_toArray, List.getElem_cons_succ, List.getElem_cons_zero, List.setIfInBounds_toArray, List.set_cons_zero, List.set_cons_succ])
      (refine wpAnyH_take (i := 2) (v := ?_) rfl (by kernel_rfl) (by kernel_rfl) (by kernel_rfl) (fun _ _ _ h => h) (Or.inl ⟨rfl, ?_⟩) (by assumption) ?_; rotate_left; focus (intro W hSw; (try dsimp only at hSw); obtain ⟨hSb, hxM, hxT, hxV⟩ := hSw; obtain ⟨⟨iM0, iM1, iM2, iM3, iM4, iM5, iM6, iM7, iM8⟩, _, _⟩ := hxM; obtain ⟨⟨iT0, iT1, iT2⟩, _, _⟩ := hxT; obtain ⟨⟨iV0, iV1, iV2⟩, _, _⟩ := hxV; go_simp; try (with_reducible rfl))); (try simp only [Act.put, List.getElem_toArray, List.getElem_cons_succ, List.getElem_cons_zero, List.setIfInBounds_toArray, List.set_cons_zero, List.set_cons_succ])
      refine wpAnyH_ready (rs := [1, 8]) (by kernel_rfl) (by simp) ?_; refine AllReadyH.cons rfl (fun K hK => ?_) (AllReadyH.cons rfl (fun K hK => ?_) AllReadyH.nil)
      · skip
        go_simp; (go_at_call 39; refine (toSquare_any _ _ _ _ _ _ _ _ _ _).mono ?_; rintro en ywr50x0 ⟨rfl, hb2⟩); have HM := Lib.hid (HM.out.below hb2); have HT := Lib.hid (HT.out.below hb2); have HV := Lib.hid (HV.out.below hb2); refine hK.out _ _ ⟨below_after hb2 hHeld.1, HM.out, HT.out, HV.out⟩ (fun hHeld2 => ?_); clear hb2; (clear hHeld; rename _ => hHeld; clear hK K; have hHeld : (fun W => Below w.heap.size w W ∧ Bk9 W GM x0 x1 x2 x3 x4 x5 x6 x7 x8 ∧ Bk3 W GT x9 x10 x11 ∧ Bk3 W GV A B C) _ := hHeld); (try simp only [Act.put, List.getElem_toArray, List.getElem_cons_succ, List.getElem_cons_zero, List.setIfInBounds_toArray, List.set_cons_zero, List.set_cons_succ])
        refine wpAnyH_ready (rs := [3, 8]) (by kernel_rfl) (by simp) ?_; refine AllReadyH.cons rfl (fun K hK => ?_) (AllReadyH.cons rfl (fun K hK => ?_) AllReadyH.nil)
        · skip
          go_simp; (go_at_call 17; refine (toTriple_any _ _ _ _).mono ?_; rintro en ywr50x1 ⟨rfl, hb2⟩); have HM := Lib.hid (HM.out.below hb2); have HT := Lib.hid (HT.out.below hb2); have HV := Lib.hid (HV.out.below hb2); refine hK.out _ _ ⟨below_after hb2 hHeld.1, HM.out, HT.out, HV.out⟩ (fun hHeld2 => ?_); clear hb2; (clear hHeld; rename _ => hHeld; clear hK K; have hHeld : (fun W => Below w.heap.size w W ∧ Bk9 W GM x0 x1 x2 x3 x4 x5 x6 x7 x8 ∧ Bk3 W GT x9 x10 x11 ∧ Bk3 W GV A B C) _ := hHeld); (try simp only [Act.put, List.getElem_toArray, List.getElem_cons_succ, List.getElem_cons_zero, List.setIfInBounds_toArray, List.set_cons_zero, List.set_cons_succ])
          refine wpAnyH_ready (rs := [4, 8]) (by kernel_rfl) (by simp) ?_; refine AllReadyH.cons rfl (fun K hK => ?_) (AllReadyH.cons rfl (fun K hK => ?_) AllReadyH.nil)
          · skip
            go_simp; (go_at_call 40; refine (HI.out _).mono ?_; rintro en ywr50x2 ⟨rfl, hb2⟩); have HM := Lib.hid (HM.out.below hb2); have HT := Lib.hid (HT.out.below hb2); have HV := Lib.hid (HV.out.below hb2); refine hK.out _ _ ⟨below_after hb2 hHeld.1, HM.out, HT.out, HV.out⟩ (fun hHeld2 => ?_); clear hb2; (clear hHeld; rename _ => hHeld; clear hK K; have hHeld : (fun W => Below w.heap.size w W ∧ Bk9 W GM x0 x1 x2 x3 x4 x5 x6 x7 x8 ∧ Bk3 W GT x9 x10 x11 ∧ Bk3 W GV A B C) _ := hHeld); (try simp only [Act.put, List.getElem_toArray, List.getElem_cons_succ, List.getElem_cons_zero, List.setIfInBounds_toArray, List.set_cons_zero, List.set_cons_succ])
            (refine wpAnyH_take (i := 5) (v := ?_) rfl (by kernel_rfl) (by kernel_rfl) (by kernel_rfl) (fun _ _ _ h => h) (Or.inl ⟨rfl, ?_⟩) (by assumption) ?_; rotate_left; focus (intro W hSw; (try dsimp only at hSw); obtain ⟨hSb, hxM, hxT, hxV⟩ := hSw; obtain ⟨⟨iM0, iM1, iM2, iM3, iM4, iM5, iM6, iM7, iM8⟩, _, _⟩ := hxM; obtain ⟨⟨iT0, iT1, iT2⟩, _, _⟩ := hxT; obtain ⟨⟨iV0, iV1, iV2⟩, _, _⟩ := hxV; go_simp; try (with_reducible rfl))); (try simp only [Act.put, List.getElem_toArray, List.getElem_cons_succ, List.getElem_cons_zero, List.setIfInBounds_toArray, List.set_cons_zero, List.set_cons_succ])
            (refine wpAnyH_take (i := 6) (v := ?_) rfl (by kernel_rfl) (by kernel_rfl) (by kernel_rfl) (fun _ _ _ h => h) (Or.inl ⟨rfl, ?_⟩) (by assumption) ?_; rotate_left; focus (intro W hSw; (try dsimp only at hSw); obtain ⟨hSb, hxM, hxT, hxV⟩ := hSw; obtain ⟨⟨iM0, iM1, iM2, iM3, iM4, iM5, iM6, iM7, iM8⟩, _, _⟩ := hxM; obtain ⟨⟨iT0, iT1, iT2⟩, _, _⟩ := hxT; obtain ⟨⟨iV0, iV1, iV2⟩, _, _⟩ := hxV; go_simp; try (with_reducible rfl))); (try simp only [Act.put, List.getElem_toArray, List.getElem_cons_succ, List.getElem_cons_zero, List.setIfInBounds_toArray, List.set_cons_zero, List.set_cons_succ])
            (refine wpAnyH_take (i := 7) (v := ?_) rfl (by kernel_rfl) (by kernel_rfl) (by kernel_rfl) (fun _ _ _ h => h) (Or.inl ⟨rfl, ?_⟩) (by assumption) ?_; rotate_left; focus (intro W hSw; (try dsimp only at hSw); obtain ⟨hSb, hxM, hxT, hxV⟩ := hSw; obtain ⟨⟨iM0, iM1, iM2, iM3, iM4, iM5, iM6, iM7, iM8⟩, _, _⟩ := hxM; obtain ⟨⟨iT0, iT1, iT2⟩, _, _⟩ := hxT; obtain ⟨⟨iV0, iV1, iV2⟩, _, _⟩ := hxV; go_simp; try (with_reducible rfl))); (try simp only [Act.put, List.getElem_toArray, List.getElem_cons_succ, List.getElem_cons_zero, List.setIfInBounds_toArray, List.set_cons_zero, List.set_cons_succ])
            refine wpAnyH_ready (rs := [8]) (by kernel_rfl) (by simp) ?_; refine AllReadyH.cons rfl (fun K hK => ?_) AllReadyH.nil
            go_simp; obtain ⟨GU, hGU⟩ : ∃ G, ywr50x2.heap.size = G := ⟨_, rfl⟩; have le_U : w.heap.size ≤ GU := by rw [← hGU]; exact Below.size hHeld.1
            have ne_U_M : GU ≠ GM := by have := HM.out.2.2; omega
            have ne_M_U : GM ≠ GU := Ne.symm ne_U_M
            have ne_U_T : GU ≠ GT := by have := HT.out.2.2; omega
            have ne_T_U : GT ≠ GU := Ne.symm ne_U_T
            have ne_U_V : GU ≠ GV := by have := HV.out.2.2; omega
            have ne_V_U : GV ≠ GU := Ne.symm ne_U_V
            have HM := Lib.hid (HM.out.below ((Below.refl _ _).alloc (Nat.le_refl _) (.cells #[.int .i64 0, .int .i64 0, .int .i64 0] 24))); have HT := Lib.hid (HT.out.below ((Below.refl _ _).alloc (Nat.le_refl _) (.cells #[.int .i64 0, .int .i64 0, .int .i64 0] 24))); have HV := Lib.hid (HV.out.below ((Below.refl _ _).alloc (Nat.le_refl _) (.cells #[.int .i64 0, .int .i64 0, .int .i64 0] 24))); skip
            have HU : Hid (Bk3 (ywr50x2.alloc (.cells #[.int .i64 0, .int .i64 0, .int .i64 0] 24)) GU 0 0 0) := by rw [← hGU]; exact bk3_new ywr50x2 0 0 0 _
            refine hK.out _ _ ⟨Below.alloc hHeld.1 (Below.size hHeld.1) _, HM.out, HT.out, HV.out⟩ (fun hHeld2 => ?_); (clear hHeld; rename _ => hHeld; clear hK K; have hHeld : (fun W => Below w.heap.size w W ∧ Bk9 W GM x0 x1 x2 x3 x4 x5 x6 x7 x8 ∧ Bk3 W GT x9 x10 x11 ∧ Bk3 W GV A B C) _ := hHeld); (try simp only [Act.put, List.getElem_toArray, List.getElem_cons_succ, List.getElem_cons_zero, List.setIfInBounds_toArray, List.set_cons_zero, List.set_cons_succ])
            rw [hGU]; clear hGU; obtain ⟨ywr50x3, hwx⟩ : ∃ wx, ywr50x2.alloc (.cells #[.int .i64 0, .int .i64 0, .int .i64 0] 24) = wx := ⟨_, rfl⟩; rw [hwx] at HM HT HV HU hHeld ⊢; clear hwx
            refine wpAnyH_ready (rs := [9]) (by kernel_rfl) (by simp) ?_; refine AllReadyH.cons rfl (fun K hK => ?_) AllReadyH.nil
            obtain ⟨⟨a0, a1, a2⟩, ⟨f0, f1, f2⟩, az⟩ := HU.out; go_simp; clear a0 f0 a1 f1 a2 f2 az
            have HM := Lib.hid (((HM.out.far ⟨GU, 0, none⟩ (.int .i64 A) (by show GM ≠ GU; exact ne_M_U)).far ⟨GU, 1, none⟩ (.int .i64 B) (by show GM ≠ GU; exact ne_M_U)).far ⟨GU, 2, none⟩ (.int .i64 C) (by show GM ≠ GU; exact ne_M_U))
            have HT := Lib.hid (((HT.out.far ⟨GU, 0, none⟩ (.int .i64 A) (by show GT ≠ GU; exact ne_T_U)).far ⟨GU, 1, none⟩ (.int .i64 B) (by show GT ≠ GU; exact ne_T_U)).far ⟨GU, 2, none⟩ (.int .i64 C) (by show GT ≠ GU; exact ne_T_U))
            have HV := Lib.hid (((HV.out.far ⟨GU, 0, none⟩ (.int .i64 A) (by show GV ≠ GU; exact ne_V_U)).far ⟨GU, 1, none⟩ (.int .i64 B) (by show GV ≠ GU; exact ne_V_U)).far ⟨GU, 2, none⟩ (.int .i64 C) (by show GV ≠ GU; exact ne_V_U))
            have HU := Lib.hid (((HU.out.set0 A).set1 B).set2 C)
            refine hK.out _ _ ⟨(Below.setCell (Below.setCell (Below.setCell hHeld.1 (p := ⟨GU, 0, none⟩) le_U _) (p := ⟨GU, 1, none⟩) le_U _) (p := ⟨GU, 2, none⟩) le_U _), HM.out, HT.out, HV.out⟩ (fun hHeld2 => ?_); (clear hHeld; rename _ => hHeld; clear hK K; have hHeld : (fun W => Below w.heap.size w W ∧ Bk9 W GM x0 x1 x2 x3 x4 x5 x6 x7 x8 ∧ Bk3 W GT x9 x10 x11 ∧ Bk3 W GV A B C) _ := hHeld); (try simp only [Act.put, List.getElem_toArray, List.getElem_cons_succ, List.getElem_cons_zero, List.setIfInBounds_toArray, List.set_cons_zero, List.set_cons_succ])
            obtain ⟨ywr50x4, hwx⟩ : ∃ wx, ((ywr50x3.setCell ⟨GU, 0, none⟩ (.int .i64 A)).setCell ⟨GU, 1, none⟩ (.int .i64 B)).setCell ⟨GU, 2, none⟩ (.int .i64 C) = wx := ⟨_, rfl⟩; rw [hwx] at HM HT HV HU hHeld ⊢; clear hwx
            (refine wpAnyH_take (i := 10) (v := ?_) rfl (by kernel_rfl) (by kernel_rfl) (by kernel_rfl) (fun _ _ _ h => h) (Or.inl ⟨rfl, ?_⟩) (by assumption) ?_; rotate_left; focus (intro W hSw; (try dsimp only at hSw); obtain ⟨hSb, hxM, hxT, hxV⟩ := hSw; obtain ⟨⟨iM0, iM1, iM2, iM3, iM4, iM5, iM6, iM7, iM8⟩, _, _⟩ := hxM; obtain ⟨⟨iT0, iT1, iT2⟩, _, _⟩ := hxT; obtain ⟨⟨iV0, iV1, iV2⟩, _, _⟩ := hxV; go_simp; try (with_reducible rfl))); (try simp only [Act.put, List.getElem_toArray, List.getElem_cons_succ, List.getElem_cons_zero, List.setIfInBounds_toArray, List.set_cons_zero, List.set_cons_succ])
            refine wpAnyH_done (by kernel_rfl) ?_ _
            have HB := Lib.hid (hHeld.1)
            clear hHeld
            obtain ⟨⟨qM0, qM1, qM2, qM3, qM4, qM5, qM6, qM7, qM8⟩, ⟨fM0, fM1, fM2, fM3, fM4, fM5, fM6, fM7, fM8⟩, zM⟩ := HM.out
            obtain ⟨⟨qT0, qT1, qT2⟩, ⟨fT0, fT1, fT2⟩, zT⟩ := HT.out
            obtain ⟨⟨qV0, qV1, qV2⟩, ⟨fV0, fV1, fV2⟩, zV⟩ := HV.out
            obtain ⟨⟨qU0, qU1, qU2⟩, ⟨fU0, fU1, fU2⟩, zU⟩ := HU.out
            go_wp2_with fail
            go_at_call 21
            refine (eqTriple_same _ _ _ _).mono ?_
            rintro e w101 ⟨rfl, hb⟩
            clear qM0 fM0 qM1 fM1 qM2 fM2 qM3 fM3 qM4 fM4 qM5 fM5 qM6 fM6 qM7 fM7 qM8 fM8 zM qT0 fT0 qT1 fT1 qT2 fT2 zT qV0 fV0 qV1 fV1 qV2 fV2 zV qU0 fU0 qU1 fU1 qU2 fU2 zU
            have HM := Lib.hid (HM.out.below hb)
            have HT := Lib.hid (HT.out.below hb)
            have HV := Lib.hid (HV.out.below hb)
            have HU := Lib.hid (HU.out.below hb)
            have HB := Lib.hid (below_after hb HB.out)
            clear hb
            obtain ⟨⟨qM0, qM1, qM2, qM3, qM4, qM5, qM6, qM7, qM8⟩, ⟨fM0, fM1, fM2, fM3, fM4, fM5, fM6, fM7, fM8⟩, zM⟩ := HM.out
            obtain ⟨⟨qT0, qT1, qT2⟩, ⟨fT0, fT1, fT2⟩, zT⟩ := HT.out
            obtain ⟨⟨qV0, qV1, qV2⟩, ⟨fV0, fV1, fV2⟩, zV⟩ := HV.out
            obtain ⟨⟨qU0, qU1, qU2⟩, ⟨fU0, fU1, fU2⟩, zU⟩ := HU.out
            go_wp2_with fail
            go_ret
            have hb := HB.out
            exact ⟨rfl, by (repeat' (first | (with_reducible exact Below.refl _ _) | (with_reducible refine Below.alloc ?_ ?_ _) | (with_reducible refine Below.setCell ?_ ?_ _) | (with_reducible refine Below.drew ?_) | (with_reducible refine below_drewN ?_ _) | (with_reducible assumption) | (with_reducible refine below_after (by with_reducible assumption) ?_) | go_size))⟩
          · skip
            go_simp; obtain ⟨GU, hGU⟩ : ∃ G, ywr50x1.heap.size = G := ⟨_, rfl⟩; have le_U : w.heap.size ≤ GU := by rw [← hGU]; exact Below.size hHeld.1
            have ne_U_M : GU ≠ GM := by have := HM.out.2.2; omega
            have ne_M_U : GM ≠ GU := Ne.symm ne_U_M
            have ne_U_T : GU ≠ GT := by have := HT.out.2.2; omega
            have ne_T_U : GT ≠ GU := Ne.symm ne_U_T
            have ne_U_V : GU ≠ GV := by have := HV.out.2.2; omega
            have ne_V_U : GV ≠ GU := Ne.symm ne_U_V
            have HM := Lib.hid (HM.out.below ((Below.refl _ _).alloc (Nat.le_refl _) (.cells #[.int .i64 0, .int .i64 0, .int .i64 0] 24))); have HT := Lib.hid (HT.out.below ((Below.refl _ _).alloc (Nat.le_refl _) (.cells #[.int .i64 0, .int .i64 0, .int .i64 0] 24))); have HV := Lib.hid (HV.out.below ((Below.refl _ _).alloc (Nat.le_refl _) (.cells #[.int .i64 0, .int .i64 0, .int .i64 0] 24))); skip
            have HU : Hid (Bk3 (ywr50x1.alloc (.cells #[.int .i64 0, .int .i64 0, .int .i64 0] 24)) GU 0 0 0) := by rw [← hGU]; exact bk3_new ywr50x1 0 0 0 _
            refine hK.out _ _ ⟨Below.alloc hHeld.1 (Below.size hHeld.1) _, HM.out, HT.out, HV.out⟩ (fun hHeld2 => ?_); (clear hHeld; rename _ => hHeld; clear hK K; have hHeld : (fun W => Below w.heap.size w W ∧ Bk9 W GM x0 x1 x2 x3 x4 x5 x6 x7 x8 ∧ Bk3 W GT x9 x10 x11 ∧ Bk3 W GV A B C) _ := hHeld); (try simp only [Act.put, List.getElem_toArray, List.getElem_cons_succ, List.getElem_cons_zero, List.setIfInBounds_toArray, List.set_cons_zero, List.set_cons_succ])
            rw [hGU]; clear hGU; obtain ⟨ywr50x2, hwx⟩ : ∃ wx, ywr50x1.alloc (.cells #[.int .i64 0, .int .i64 0, .int .i64 0] 24) = wx := ⟨_, rfl⟩; rw [hwx] at HM HT HV HU hHeld ⊢; clear hwx
            refine wpAnyH_ready (rs := [4]) (by kernel_rfl) (by simp) ?_; refine AllReadyH.cons rfl (fun K hK => ?_) AllReadyH.nil
            go_simp; (go_at_call 40; refine (HI.out _).mono ?_; rintro en ywr50x3 ⟨rfl, hb2⟩); have HM := Lib.hid (HM.out.below hb2); have HT := Lib.hid (HT.out.below hb2); have HV := Lib.hid (HV.out.below hb2); have HU := Lib.hid (HU.out.below hb2); refine hK.out _ _ ⟨below_after hb2 hHeld.1, HM.out, HT.out, HV.out⟩ (fun hHeld2 => ?_); clear hb2; (clear hHeld; rename _ => hHeld; clear hK K; have hHeld : (fun W => Below w.heap.size w W ∧ Bk9 W GM x0 x1 x2 x3 x4 x5 x6 x7 x8 ∧ Bk3 W GT x9 x10 x11 ∧ Bk3 W GV A B C) _ := hHeld); (try simp only [Act.put, List.getElem_toArray, List.getElem_cons_succ, List.getElem_cons_zero, List.setIfInBounds_toArray, List.set_cons_zero, List.set_cons_succ])
            (refine wpAnyH_take (i := 5) (v := ?_) rfl (by kernel_rfl) (by kernel_rfl) (by kernel_rfl) (fun _ _ _ h => h) (Or.inl ⟨rfl, ?_⟩) (by assumption) ?_; rotate_left; focus (intro W hSw; (try dsimp only at hSw); obtain ⟨hSb, hxM, hxT, hxV⟩ := hSw; obtain ⟨⟨iM0, iM1, iM2, iM3, iM4, iM5, iM6, iM7, iM8⟩, _, _⟩ := hxM; obtain ⟨⟨iT0, iT1, iT2⟩, _, _⟩ := hxT; obtain ⟨⟨iV0, iV1, iV2⟩, _, _⟩ := hxV; go_simp; try (with_reducible rfl))); (try simp only [Act.put, List.getElem_toArray, List.getElem_cons_succ, List.getElem_cons_zero, List.setIfInBounds_toArray, List.set_cons_zero, List.set_cons_succ])
            (refine wpAnyH_take (i := 6) (v := ?_) rfl (by kernel_rfl) (by kernel_rfl) (by kernel_rfl) (fun _ _ _ h => h) (Or.inl ⟨rfl, ?_⟩) (by assumption) ?_; rotate_left; focus (intro W hSw; (try dsimp only at hSw); obtain ⟨hSb, hxM, hxT, hxV⟩ := hSw; obtain ⟨⟨iM0, iM1, iM2, iM3, iM4, iM5, iM6, iM7, iM8⟩, _, _⟩ := hxM; obtain ⟨⟨iT0, iT1, iT2⟩, _, _⟩ := hxT; obtain ⟨⟨iV0, iV1, iV2⟩, _, _⟩ := hxV; go_simp; try (with_reducible rfl))); (try simp only [Act.put, List.getElem_toArray, List.getElem_cons_succ, List.getElem_cons_zero, List.setIfInBounds_toArray, List.set_cons_zero, List.set_cons_succ])
            (refine wpAnyH_take (i := 7) (v := ?_) rfl (by kernel_rfl) (by kernel_rfl) (by kernel_rfl) (fun _ _ _ h => h) (Or.inl ⟨rfl, ?_⟩) (by assumption) ?_; rotate_left; focus (intro W hSw; (try dsimp only at hSw); obtain ⟨hSb, hxM, hxT, hxV⟩ := hSw; obtain ⟨⟨iM0, iM1, iM2, iM3, iM4, iM5, iM6, iM7, iM8⟩, _, _⟩ := hxM; obtain ⟨⟨iT0, iT1, iT2⟩, _, _⟩ := hxT; obtain ⟨⟨iV0, iV1, iV2⟩, _, _⟩ := hxV; go_simp; try (with_reducible rfl))); (try simp only [Act.put, List.getElem_toArray, List.getElem_cons_succ, List.getElem_cons_zero, List.setIfInBounds_toArray, List.set_cons_zero, List.set_cons_succ])
            refine wpAnyH_ready (rs := [9]) (by kernel_rfl) (by simp) ?_; refine AllReadyH.cons rfl (fun K hK => ?_) AllReadyH.nil
            obtain ⟨⟨a0, a1, a2⟩, ⟨f0, f1, f2⟩, az⟩ := HU.out; go_simp; clear a0 f0 a1 f1 a2 f2 az
            have HM := Lib.hid (((HM.out.far ⟨GU, 0, none⟩ (.int .i64 A) (by show GM ≠ GU; exact ne_M_U)).far ⟨GU, 1, none⟩ (.int .i64 B) (by show GM ≠ GU; exact ne_M_U)).far ⟨GU, 2, none⟩ (.int .i64 C) (by show GM ≠ GU; exact ne_M_U))
            have HT := Lib.hid (((HT.out.far ⟨GU, 0, none⟩ (.int .i64 A) (by show GT ≠ GU; exact ne_T_U)).far ⟨GU, 1, none⟩ (.int .i64 B) (by show GT ≠ GU; exact ne_T_U)).far ⟨GU, 2, none⟩ (.int .i64 C) (by show GT ≠ GU; exact ne_T_U))
            have HV := Lib.hid (((HV.out.far ⟨GU, 0, none⟩ (.int .i64 A) (by show GV ≠ GU; exact ne_V_U)).far ⟨GU, 1, none⟩ (.int .i64 B) (by show GV ≠ GU; exact ne_V_U)).far ⟨GU, 2, none⟩ (.int .i64 C) (by show GV ≠ GU; exact ne_V_U))
            have HU := Lib.hid (((HU.out.set0 A).set1 B).set2 C)
            refine hK.out _ _ ⟨(Below.setCell (Below.setCell (Below.setCell hHeld.1 (p := ⟨GU, 0, none⟩) le_U _) (p := ⟨GU, 1, none⟩) le_U _) (p := ⟨GU, 2, none⟩) le_U _), HM.out, HT.out, HV.out⟩ (fun hHeld2 => ?_); (clear hHeld; rename _ => hHeld; clear hK K; have hHeld : (fun W => Below w.heap.size w W ∧ Bk9 W GM x0 x1 x2 x3 x4 x5 x6 x7 x8 ∧ Bk3 W GT x9 x10 x11 ∧ Bk3 W GV A B C) _ := hHeld); (try simp only [Act.put, List.getElem_toArray, List.getElem_cons_succ, List.getElem_cons_zero, List.setIfInBounds_toArray, List.set_cons_zero, List.set_cons_succ])
            obtain ⟨ywr50x4, hwx⟩ : ∃ wx, ((ywr50x3.setCell ⟨GU, 0, none⟩ (.int .i64 A)).setCell ⟨GU, 1, none⟩ (.int .i64 B)).setCell ⟨GU, 2, none⟩ (.int .i64 C) = wx := ⟨_, rfl⟩; rw [hwx] at HM HT HV HU hHeld ⊢; clear hwx
            (refine wpAnyH_take (i := 10) (v := ?_) rfl (by kernel_rfl) (by kernel_rfl) (by kernel_rfl) (fun _ _ _ h => h) (Or.inl ⟨rfl, ?_⟩) (by assumption) ?_; rotate_left; focus (intro W hSw; (try dsimp only at hSw); obtain ⟨hSb, hxM, hxT, hxV⟩ := hSw; obtain ⟨⟨iM0, iM1, iM2, iM3, iM4, iM5, iM6, iM7, iM8⟩, _, _⟩ := hxM; obtain ⟨⟨iT0, iT1, iT2⟩, _, _⟩ := hxT; obtain ⟨⟨iV0, iV1, iV2⟩, _, _⟩ := hxV; go_simp; try (with_reducible rfl))); (try simp only [Act.put, List.getElem_toArray, List.getElem_cons_succ, List.getElem_cons_zero, List.setIfInBounds_toArray, List.set_cons_zero, List.set_cons_succ])
            refine wpAnyH_done (by kernel_rfl) ?_ _
            have HB := Lib.hid (hHeld.1)
            clear hHeld
            obtain ⟨⟨qM0, qM1, qM2, qM3, qM4, qM5, qM6, qM7, qM8⟩, ⟨fM0, fM1, fM2, fM3, fM4, fM5, fM6, fM7, fM8⟩, zM⟩ := HM.out
            obtain ⟨⟨qT0, qT1, qT2⟩, ⟨fT0, fT1, fT2⟩, zT⟩ := HT.out
            obtain ⟨⟨qV0, qV1, qV2⟩, ⟨fV0, fV1, fV2⟩, zV⟩ := HV.out
            obtain ⟨⟨qU0, qU1, qU2⟩, ⟨fU0, fU1, fU2⟩, zU⟩ := HU.out
            go_wp2_with fail
            go_at_call 21
            refine (eqTriple_same _ _ _ _).mono ?_
            rintro e w101 ⟨rfl, hb⟩
            clear qM0 fM0 qM1 fM1 qM2 fM2 qM3 fM3 qM4 fM4 qM5 fM5 qM6 fM6 qM7 fM7 qM8 fM8 zM qT0 fT0 qT1 fT1 qT2 fT2 zT qV0 fV0 qV1 fV1 qV2 fV2 zV qU0 fU0 qU1 fU1 qU2 fU2 zU
            have HM := Lib.hid (HM.out.below hb)
            have HT := Lib.hid (HT.out.below hb)
            have HV := Lib.hid (HV.out.below hb)
            have HU := Lib.hid (HU.out.below hb)
            have HB := Lib.hid (below_after hb HB.out)
            clear hb
            obtain ⟨⟨qM0, qM1, qM2, qM3, qM4, qM5, qM6, qM7, qM8⟩, ⟨fM0, fM1, fM2, fM3, fM4, fM5, fM6, fM7, fM8⟩, zM⟩ := HM.out
            obtain ⟨⟨qT0, qT1, qT2⟩, ⟨fT0, fT1, fT2⟩, zT⟩ := HT.out
            obtain ⟨⟨qV0, qV1, qV2⟩, ⟨fV0, fV1, fV2⟩, zV⟩ := HV.out
            obtain ⟨⟨qU0, qU1, qU2⟩, ⟨fU0, fU1, fU2⟩, zU⟩ := HU.out
            go_wp2_with fail
            go_ret
            have hb := HB.out
            exact ⟨rfl, by (repeat' (first | (with_reducible exact Below.refl _ _) | (with_reducible refine Below.alloc ?_ ?_ _) | (with_reducible refine Below.setCell ?_ ?_ _) | (with_reducible refine Below.drew ?_) | (with_reducible refine below_drewN ?_ _) | (with_reducible assumption) | (with_reducible refine below_after (by with_reducible assumption) ?_) | go_size))⟩
        · skip
          go_simp; obtain ⟨GU, hGU⟩ : ∃ G, ywr50x0.heap.size = G := ⟨_, rfl⟩; have le_U : w.heap.size ≤ GU := by rw [← hGU]; exact Below.size hHeld.1
          have ne_U_M : GU ≠ GM := by have := HM.out.2.2; omega
          have ne_M_U : GM ≠ GU := Ne.symm ne_U_M
          have ne_U_T : GU ≠ GT := by have := HT.out.2.2; omega
          have ne_T_U : GT ≠ GU := Ne.symm ne_U_T
          have ne_U_V : GU ≠ GV := by have := HV.out.2.2; omega
          have ne_V_U : GV ≠ GU := Ne.symm ne_U_V
          have HM := Lib.hid (HM.out.below ((Below.refl _ _).alloc (Nat.le_refl _) (.cells #[.int .i64 0, .int .i64 0, .int .i64 0] 24))); have HT := Lib.hid (HT.out.below ((Below.refl _ _).alloc (Nat.le_refl _) (.cells #[.int .i64 0, .int .i64 0, .int .i64 0] 24))); have HV := Lib.hid (HV.out.below ((Below.refl _ _).alloc (Nat.le_refl _) (.cells #[.int .i64 0, .int .i64 0, .int .i64 0] 24))); skip
          have HU : Hid (Bk3 (ywr50x0.alloc (.cells #[.int .i64 0, .int .i64 0, .int .i64 0] 24)) GU 0 0 0) := by rw [← hGU]; exact bk3_new ywr50x0 0 0 0 _
          refine hK.out _ _ ⟨Below.alloc hHeld.1 (Below.size hHeld.1) _, HM.out, HT.out, HV.out⟩ (fun hHeld2 => ?_); (clear hHeld; rename _ => hHeld; clear hK K; have hHeld : (fun W => Below w.heap.size w W ∧ Bk9 W GM x0 x1 x2 x3 x4 x5 x6 x7 x8 ∧ Bk3 W GT x9 x10 x11 ∧ Bk3 W GV A B C) _ := hHeld); (try simp only [Act.put, List.getElem_toArray, List.getElem_cons_succ, List.getElem_cons_zero, List.setIfInBounds_toArray, List.set_cons_zero, List.set_cons_succ])
          rw [hGU]; clear hGU; obtain ⟨ywr50x1, hwx⟩ : ∃ wx, ywr50x0.alloc (.cells #[.int .i64 0, .int .i64 0, .int .i64 0] 24) = wx := ⟨_, rfl⟩; rw [hwx] at HM HT HV HU hHeld ⊢; clear hwx
          refine wpAnyH_ready (rs := [3]) (by kernel_rfl) (by simp) ?_; refine AllReadyH.cons rfl (fun K hK => ?_) AllReadyH.nil
          go_simp; (go_at_call 17; refine (toTriple_any _ _ _ _).mono ?_; rintro en ywr50x2 ⟨rfl, hb2⟩); have HM := Lib.hid (HM.out.below hb2); have HT := Lib.hid (HT.out.below hb2); have HV := Lib.hid (HV.out.below hb2); have HU := Lib.hid (HU.out.below hb2); refine hK.out _ _ ⟨below_after hb2 hHeld.1, HM.out, HT.out, HV.out⟩ (fun hHeld2 => ?_); clear hb2; (clear hHeld; rename _ => hHeld; clear hK K; have hHeld : (fun W => Below w.heap.size w W ∧ Bk9 W GM x0 x1 x2 x3 x4 x5 x6 x7 x8 ∧ Bk3 W GT x9 x10 x11 ∧ Bk3 W GV A B C) _ := hHeld); (try simp only [Act.put, List.getElem_toArray, List.getElem_cons_succ, List.getElem_cons_zero, List.setIfInBounds_toArray, List.set_cons_zero, List.set_cons_succ])
          refine wpAnyH_ready (rs := [4]) (by kernel_rfl) (by simp) ?_; refine AllReadyH.cons rfl (fun K hK => ?_) AllReadyH.nil
          go_simp; (go_at_call 40; refine (HI.out _).mono ?_; rintro en ywr50x3 ⟨rfl, hb2⟩); have HM := Lib.hid (HM.out.below hb2); have HT := Lib.hid (HT.out.below hb2); have HV := Lib.hid (HV.out.below hb2); have HU := Lib.hid (HU.out.below hb2); refine hK.out _ _ ⟨below_after hb2 hHeld.1, HM.out, HT.out, HV.out⟩ (fun hHeld2 => ?_); clear hb2; (clear hHeld; rename _ => hHeld; clear hK K; have hHeld : (fun W => Below w.heap.size w W ∧ Bk9 W GM x0 x1 x2 x3 x4 x5 x6 x7 x8 ∧ Bk3 W GT x9 x10 x11 ∧ Bk3 W GV A B C) _ := hHeld); (try simp only [Act.put, List.getElem_toArray, List.getElem_cons_succ, List.getElem_cons_zero, List.setIfInBounds_toArray, List.set_cons_zero, List.set_cons_succ])
          (refine wpAnyH_take (i := 5) (v := ?_) rfl (by kernel_rfl) (by kernel_rfl) (by kernel_rfl) (fun _ _ _ h => h) (Or.inl ⟨rfl, ?_⟩) (by assumption) ?_; rotate_left; focus (intro W hSw; (try dsimp only at hSw); obtain ⟨hSb, hxM, hxT, hxV⟩ := hSw; obtain ⟨⟨iM0, iM1, iM2, iM3, iM4, iM5, iM6, iM7, iM8⟩, _, _⟩ := hxM; obtain ⟨⟨iT0, iT1, iT2⟩, _, _⟩ := hxT; obtain ⟨⟨iV0, iV1, iV2⟩, _, _⟩ := hxV; go_simp; try (with_reducible rfl))); (try simp only [Act.put, List.getElem_toArray, List.getElem_cons_succ, List.getElem_cons_zero, List.setIfInBounds_toArray, List.set_cons_zero, List.set_cons_succ])
          (refine wpAnyH_take (i := 6) (v := ?_) rfl (by kernel_rfl) (by kernel_rfl) (by kernel_rfl) (fun _ _ _ h => h) (Or.inl ⟨rfl, ?_⟩) (by assumption) ?_; rotate_left; focus (intro W hSw; (try dsimp only at hSw); obtain ⟨hSb, hxM, hxT, hxV⟩ := hSw; obtain ⟨⟨iM0, iM1, iM2, iM3, iM4, iM5, iM6, iM7, iM8⟩, _, _⟩ := hxM; obtain ⟨⟨iT0, iT1, iT2⟩, _, _⟩ := hxT; obtain ⟨⟨iV0, iV1, iV2⟩, _, _⟩ := hxV; go_simp; try (with_reducible rfl))); (try simp only [Act.put, List.getElem_toArray, List.getElem_cons_succ, List.getElem_cons_zero, List.setIfInBounds_toArray, List.set_cons_zero, List.set_cons_succ])
          (refine wpAnyH_take (i := 7) (v := ?_) rfl (by kernel_rfl) (by kernel_rfl) (by kernel_rfl) (fun _ _ _ h => h) (Or.inl ⟨rfl, ?_⟩) (by assumption) ?_; rotate_left; focus (intro W hSw; (try dsimp only at hSw); obtain ⟨hSb, hxM, hxT, hxV⟩ := hSw; obtain ⟨⟨iM0, iM1, iM2, iM3, iM4, iM5, iM6, iM7, iM8⟩, _, _⟩ := hxM; obtain ⟨⟨iT0, iT1, iT2⟩, _, _⟩ := hxT; obtain ⟨⟨iV0, iV1, iV2⟩, _, _⟩ := hxV; go_simp; try (with_reducible rfl))); (try simp only [Act.put, List.getElem_toArray, List.getElem_cons_succ, List.getElem_cons_zero, List.setIfInBounds_toArray, List.set_cons_zero, List.set_cons_succ])
          refine wpAnyH_ready (rs := [9]) (by kernel_rfl) (by simp) ?_; refine AllReadyH.cons rfl (fun K hK => ?_) AllReadyH.nil
          obtain ⟨⟨a0, a1, a2⟩, ⟨f0, f1, f2⟩, az⟩ := HU.out; go_simp; clear a0 f0 a1 f1 a2 f2 az
          have HM := Lib.hid (((HM.out.far ⟨GU, 0, none⟩ (.int .i64 A) (by show GM ≠ GU; exact ne_M_U)).far ⟨GU, 1, none⟩ (.int .i64 B) (by show GM ≠ GU; exact ne_M_U)).far ⟨GU, 2, none⟩ (.int .i64 C) (by show GM ≠ GU; exact ne_M_U))
          have HT := Lib.hid (((HT.out.far ⟨GU, 0, none⟩ (.int .i64 A) (by show GT ≠ GU; exact ne_T_U)).far ⟨GU, 1, none⟩ (.int .i64 B) (by show GT ≠ GU; exact ne_T_U)).far ⟨GU, 2, none⟩ (.int .i64 C) (by show GT ≠ GU; exact ne_T_U))
          have HV := Lib.hid (((HV.out.far ⟨GU, 0, none⟩ (.int .i64 A) (by show GV ≠ GU; exact ne_V_U)).far ⟨GU, 1, none⟩ (.int .i64 B) (by show GV ≠ GU; exact ne_V_U)).far ⟨GU, 2, none⟩ (.int .i64 C) (by show GV ≠ GU; exact ne_V_U))
          have HU := Lib.hid (((HU.out.set0 A).set1 B).set2 C)
          refine hK.out _ _ ⟨(Below.setCell (Below.setCell (Below.setCell hHeld.1 (p := ⟨GU, 0, none⟩) le_U _) (p := ⟨GU, 1, none⟩) le_U _) (p := ⟨GU, 2, none⟩) le_U _), HM.out, HT.out, HV.out⟩ (fun hHeld2 => ?_); (clear hHeld; rename _ => hHeld; clear hK K; have hHeld : (fun W => Below w.heap.size w W ∧ Bk9 W GM x0 x1 x2 x3 x4 x5 x6 x7 x8 ∧ Bk3 W GT x9 x10 x11 ∧ Bk3 W GV A B C) _ := hHeld); (try simp only [Act.put, List.getElem_toArray, List.getElem_cons_succ, List.getElem_cons_zero, List.setIfInBounds_toArray, List.set_cons_zero, List.set_cons_succ])
          obtain ⟨ywr50x4, hwx⟩ : ∃ wx, ((ywr50x3.setCell ⟨GU, 0, none⟩ (.int .i64 A)).setCell ⟨GU, 1, none⟩ (.int .i64 B)).setCell ⟨GU, 2, none⟩ (.int .i64 C) = wx := ⟨_, rfl⟩; rw [hwx] at HM HT HV HU hHeld ⊢; clear hwx
          (refine wpAnyH_take (i := 10) (v := ?_) rfl (by kernel_rfl) (by kernel_rfl) (by kernel_rfl) (fun _ _ _ h => h) (Or.inl ⟨rfl, ?_⟩) (by assumption) ?_; rotate_left; focus (intro W hSw; (try dsimp only at hSw); obtain ⟨hSb, hxM, hxT, hxV⟩ := hSw; obtain ⟨⟨iM0, iM1, iM2, iM3, iM4, iM5, iM6, iM7, iM8⟩, _, _⟩ := hxM; obtain ⟨⟨iT0, iT1, iT2⟩, _, _⟩ := hxT; obtain ⟨⟨iV0, iV1, iV2⟩, _, _⟩ := hxV; go_simp; try (with_reducible rfl))); (try simp only [Act.put, List.getElem_toArray, List.getElem_cons_succ, List.getElem_cons_zero, List.setIfInBounds_toArray, List.set_cons_zero, List.set_cons_succ])
          refine wpAnyH_done (by kernel_rfl) ?_ _
          have HB := Lib.hid (hHeld.1)
          clear hHeld
          obtain ⟨⟨qM0, qM1, qM2, qM3, qM4, qM5, qM6, qM7, qM8⟩, ⟨fM0, fM1, fM2, fM3, fM4, fM5, fM6, fM7, fM8⟩, zM⟩ := HM.out
          obtain ⟨⟨qT0, qT1, qT2⟩, ⟨fT0, fT1, fT2⟩, zT⟩ := HT.out
          obtain ⟨⟨qV0, qV1, qV2⟩, ⟨fV0, fV1, fV2⟩, zV⟩ := HV.out
          obtain ⟨⟨qU0, qU1, qU2⟩, ⟨fU0, fU1, fU2⟩, zU⟩ := HU.out
          go_wp2_with fail
          go_at_call 21
          refine (eqTriple_same _ _ _ _).mono ?_
          rintro e w101 ⟨rfl, hb⟩
          clear qM0 fM0 qM1 fM1 qM2 fM2 qM3 fM3 qM4 fM4 qM5 fM5 qM6 fM6 qM7 fM7 qM8 fM8 zM qT0 fT0 qT1 fT1 qT2 fT2 zT qV0 fV0 qV1 fV1 qV2 fV2 zV qU0 fU0 qU1 fU1 qU2 fU2 zU
          have HM := Lib.hid (HM.out.below hb)
          have HT := Lib.hid (HT.out.below hb)
          have HV := Lib.hid (HV.out.below hb)
          have HU := Lib.hid (HU.out.below hb)
          have HB := Lib.hid (below_after hb HB.out)
          clear hb
          obtain ⟨⟨qM0, qM1, qM2, qM3, qM4, qM5, qM6, qM7, qM8⟩, ⟨fM0, fM1, fM2, fM3, fM4, fM5, fM6, fM7, fM8⟩, zM⟩ := HM.out
          obtain ⟨⟨qT0, qT1, qT2⟩, ⟨fT0, fT1, fT2⟩, zT⟩ := HT.out
          obtain ⟨⟨qV0, qV1, qV2⟩, ⟨fV0, fV1, fV2⟩, zV⟩ := HV.out
          obtain ⟨⟨qU0, qU1, qU2⟩, ⟨fU0, fU1, fU2⟩, zU⟩ := HU.out
          go_wp2_with fail
          go_ret
          have hb := HB.out
          exact ⟨rfl, by (repeat' (first | (with_reducible exact Below.refl _ _) | (with_reducible refine Below.alloc ?_ ?_ _) | (with_reducible refine Below.setCell ?_ ?_ _) | (with_reducible refine Below.drew ?_) | (with_reducible refine below_drewN ?_ _) | (with_reducible assumption) | (with_reducible refine below_after (by with_reducible assumption) ?_) | go_size))⟩
      · skip
        go_simp; obtain ⟨GU, hGU⟩ : ∃ G, wD50.heap.size = G := ⟨_, rfl⟩; have le_U : w.heap.size ≤ GU := by rw [← hGU]; exact Below.size hHeld.1
        have ne_U_M : GU ≠ GM := by have := HM.out.2.2; omega
        have ne_M_U : GM ≠ GU := Ne.symm ne_U_M
        have ne_U_T : GU ≠ GT := by have := HT.out.2.2; omega
        have ne_T_U : GT ≠ GU := Ne.symm ne_U_T
        have ne_U_V : GU ≠ GV := by have := HV.out.2.2; omega
        have ne_V_U : GV ≠ GU := Ne.symm ne_U_V
        have HM := Lib.hid (HM.out.below ((Below.refl _ _).alloc (Nat.le_refl _) (.cells #[.int .i64 0, .int .i64 0, .int .i64 0] 24))); have HT := Lib.hid (HT.out.below ((Below.refl _ _).alloc (Nat.le_refl _) (.cells #[.int .i64 0, .int .i64 0, .int .i64 0] 24))); have HV := Lib.hid (HV.out.below ((Below.refl _ _).alloc (Nat.le_refl _) (.cells #[.int .i64 0, .int .i64 0, .int .i64 0] 24))); skip
        have HU : Hid (Bk3 (wD50.alloc (.cells #[.int .i64 0, .int .i64 0, .int .i64 0] 24)) GU 0 0 0) := by rw [← hGU]; exact bk3_new wD50 0 0 0 _
        refine hK.out _ _ ⟨Below.alloc hHeld.1 (Below.size hHeld.1) _, HM.out, HT.out, HV.out⟩ (fun hHeld2 => ?_); (clear hHeld; rename _ => hHeld; clear hK K; have hHeld : (fun W => Below w.heap.size w W ∧ Bk9 W GM x0 x1 x2 x3 x4 x5 x6 x7 x8 ∧ Bk3 W GT x9 x10 x11 ∧ Bk3 W GV A B C) _ := hHeld); (try simp only [Act.put, List.getElem_toArray, List.getElem_cons_succ, List.getElem_cons_zero, List.setIfInBounds_toArray, List.set_cons_zero, List.set_cons_succ])
        rw [hGU]; clear hGU; obtain ⟨ywr50x0, hwx⟩ : ∃ wx, wD50.alloc (.cells #[.int .i64 0, .int .i64 0, .int .i64 0] 24) = wx := ⟨_, rfl⟩; rw [hwx] at HM HT HV HU hHeld ⊢; clear hwx
        refine wpAnyH_ready (rs := [1]) (by kernel_rfl) (by simp) ?_; refine AllReadyH.cons rfl (fun K hK => ?_) AllReadyH.nil
        go_simp; (go_at_call 39; refine (toSquare_any _ _ _ _ _ _ _ _ _ _).mono ?_; rintro en ywr50x1 ⟨rfl, hb2⟩); have HM := Lib.hid (HM.out.below hb2); have HT := Lib.hid (HT.out.below hb2); have HV := Lib.hid (HV.out.below hb2); have HU := Lib.hid (HU.out.below hb2); refine hK.out _ _ ⟨below_after hb2 hHeld.1, HM.out, HT.out, HV.out⟩ (fun hHeld2 => ?_); clear hb2; (clear hHeld; rename _ => hHeld; clear hK K; have hHeld : (fun W => Below w.heap.size w W ∧ Bk9 W GM x0 x1 x2 x3 x4 x5 x6 x7 x8 ∧ Bk3 W GT x9 x10 x11 ∧ Bk3 W GV A B C) _ := hHeld); (try simp only [Act.put, List.getElem_toArray, List.getElem_cons_succ, List.getElem_cons_zero, List.setIfInBounds_toArray, List.set_cons_zero, List.set_cons_succ])
        refine wpAnyH_ready (rs := [3]) (by kernel_rfl) (by simp) ?_; refine AllReadyH.cons rfl (fun K hK => ?_) AllReadyH.nil
        go_simp; (go_at_call 17; refine (toTriple_any _ _ _ _).mono ?_; rintro en ywr50x2 ⟨rfl, hb2⟩); have HM := Lib.hid (HM.out.below hb2); have HT := Lib.hid (HT.out.below hb2); have HV := Lib.hid (HV.out.below hb2); have HU := Lib.hid (HU.out.below hb2); refine hK.out _ _ ⟨below_after hb2 hHeld.1, HM.out, HT.out, HV.out⟩ (fun hHeld2 => ?_); clear hb2; (clear hHeld; rename _ => hHeld; clear hK K; have hHeld : (fun W => Below w.heap.size w W ∧ Bk9 W GM x0 x1 x2 x3 x4 x5 x6 x7 x8 ∧ Bk3 W GT x9 x10 x11 ∧ Bk3 W GV A B C) _ := hHeld); (try simp only [Act.put, List.getElem_toArray, List.getElem_cons_succ, List.getElem_cons_zero, List.setIfInBounds_toArray, List.set_cons_zero, List.set_cons_succ])
        refine wpAnyH_ready (rs := [4]) (by kernel_rfl) (by simp) ?_; refine AllReadyH.cons rfl (fun K hK => ?_) AllReadyH.nil
        go_simp; (go_at_call 40; refine (HI.out _).mono ?_; rintro en ywr50x3 ⟨rfl, hb2⟩); have HM := Lib.hid (HM.out.below hb2); have HT := Lib.hid (HT.out.below hb2); have HV := Lib.hid (HV.out.below hb2); have HU := Lib.hid (HU.out.below hb2); refine hK.out _ _ ⟨below_after hb2 hHeld.1, HM.out, HT.out, HV.out⟩ (fun hHeld2 => ?_); clear hb2; (clear hHeld; rename _ => hHeld; clear hK K; have hHeld : (fun W => Below w.heap.size w W ∧ Bk9 W GM x0 x1 x2 x3 x4 x5 x6 x7 x8 ∧ Bk3 W GT x9 x10 x11 ∧ Bk3 W GV A B C) _ := hHeld); (try simp only [Act.put, List.getElem_toArray, List.getElem_cons_succ, List.getElem_cons_zero, List.setIfInBounds_toArray, List.set_cons_zero, List.set_cons_succ])
        (refine wpAnyH_take (i := 5) (v := ?_) rfl (by kernel_rfl) (by kernel_rfl) (by kernel_rfl) (fun _ _ _ h => h) (Or.inl ⟨rfl, ?_⟩) (by assumption) ?_; rotate_left; focus (intro W hSw; (try dsimp only at hSw); obtain ⟨hSb, hxM, hxT, hxV⟩ := hSw; obtain ⟨⟨iM0, iM1, iM2, iM3, iM4, iM5, iM6, iM7, iM8⟩, _, _⟩ := hxM; obtain ⟨⟨iT0, iT1, iT2⟩, _, _⟩ := hxT; obtain ⟨⟨iV0, iV1, iV2⟩, _, _⟩ := hxV; go_simp; try (with_reducible rfl))); (try simp only [Act.put, List.getElem_toArray, List.getElem_cons_succ, List.getElem_cons_zero, List.setIfInBounds_toArray, List.set_cons_zero, List.set_cons_succ])
        (refine wpAnyH_take (i := 6) (v := ?_) rfl (by kernel_rfl) (by kernel_rfl) (by kernel_rfl) (fun _ _ _ h => h) (Or.inl ⟨rfl, ?_⟩) (by assumption) ?_; rotate_left; focus (intro W hSw; (try dsimp only at hSw); obtain ⟨hSb, hxM, hxT, hxV⟩ := hSw; obtain ⟨⟨iM0, iM1, iM2, iM3, iM4, iM5, iM6, iM7, iM8⟩, _, _⟩ := hxM; obtain ⟨⟨iT0, iT1, iT2⟩, _, _⟩ := hxT; obtain ⟨⟨iV0, iV1, iV2⟩, _, _⟩ := hxV; go_simp; try (with_reducible rfl))); (try simp only [Act.put, List.getElem_toArray, List.getElem_cons_succ, List.getElem_cons_zero, List.setIfInBounds_toArray, List.set_cons_zero, List.set_cons_succ])
        (refine wpAnyH_take (i := 7) (v := ?_) rfl (by kernel_rfl) (by kernel_rfl) (by kernel_rfl) (fun _ _ _ h => h) (Or.inl ⟨rfl, ?_⟩) (by assumption) ?_; rotate_left; focus (intro W hSw; (try dsimp only at hSw); obtain ⟨hSb, hxM, hxT, hxV⟩ := hSw; obtain ⟨⟨iM0, iM1, iM2, iM3, iM4, iM5, iM6, iM7, iM8⟩, _, _⟩ := hxM; obtain ⟨⟨iT0, iT1, iT2⟩, _, _⟩ := hxT; obtain ⟨⟨iV0, iV1, iV2⟩, _, _⟩ := hxV; go_simp; try (with_reducible rfl))); (try simp only [Act.put, List.getElem_toArray, List.getElem_cons_succ, List.getElem_cons_zero, List.setIfInBounds_toArray, List.set_cons_zero, List.set_cons_succ])
        refine wpAnyH_ready (rs := [9]) (by kernel_rfl) (by simp) ?_; refine AllReadyH.cons rfl (fun K hK => ?_) AllReadyH.nil
        obtain ⟨⟨a0, a1, a2⟩, ⟨f0, f1, f2⟩, az⟩ := HU.out; go_simp; clear a0 f0 a1 f1 a2 f2 az
        have HM := Lib.hid (((HM.out.far ⟨GU, 0, none⟩ (.int .i64 A) (by show GM ≠ GU; exact ne_M_U)).far ⟨GU, 1, none⟩ (.int .i64 B) (by show GM ≠ GU; exact ne_M_U)).far ⟨GU, 2, none⟩ (.int .i64 C) (by show GM ≠ GU; exact ne_M_U))
        have HT := Lib.hid (((HT.out.far ⟨GU, 0, none⟩ (.int .i64 A) (by show GT ≠ GU; exact ne_T_U)).far ⟨GU, 1, none⟩ (.int .i64 B) (by show GT ≠ GU; exact ne_T_U)).far ⟨GU, 2, none⟩ (.int .i64 C) (by show GT ≠ GU; exact ne_T_U))
        have HV := Lib.hid (((HV.out.far ⟨GU, 0, none⟩ (.int .i64 A) (by show GV ≠ GU; exact ne_V_U)).far ⟨GU, 1, none⟩ (.int .i64 B) (by show GV ≠ GU; exact ne_V_U)).far ⟨GU, 2, none⟩ (.int .i64 C) (by show GV ≠ GU; exact ne_V_U))
        have HU := Lib.hid (((HU.out.set0 A).set1 B).set2 C)
        refine hK.out _ _ ⟨(Below.setCell (Below.setCell (Below.setCell hHeld.1 (p := ⟨GU, 0, none⟩) le_U _) (p := ⟨GU, 1, none⟩) le_U _) (p := ⟨GU, 2, none⟩) le_U _), HM.out, HT.out, HV.out⟩ (fun hHeld2 => ?_); (clear hHeld; rename _ => hHeld; clear hK K; have hHeld : (fun W => Below w.heap.size w W ∧ Bk9 W GM x0 x1 x2 x3 x4 x5 x6 x7 x8 ∧ Bk3 W GT x9 x10 x11 ∧ Bk3 W GV A B C) _ := hHeld); (try simp only [Act.put, List.getElem_toArray, List.getElem_cons_succ, List.getElem_cons_zero, List.setIfInBounds_toArray, List.set_cons_zero, List.set_cons_succ])
        obtain ⟨ywr50x4, hwx⟩ : ∃ wx, ((ywr50x3.setCell ⟨GU, 0, none⟩ (.int .i64 A)).setCell ⟨GU, 1, none⟩ (.int .i64 B)).setCell ⟨GU, 2, none⟩ (.int .i64 C) = wx := ⟨_, rfl⟩; rw [hwx] at HM HT HV HU hHeld ⊢; clear hwx
        (refine wpAnyH_take (i := 10) (v := ?_) rfl (by kernel_rfl) (by kernel_rfl) (by kernel_rfl) (fun _ _ _ h => h) (Or.inl ⟨rfl, ?_⟩) (by assumption) ?_; rotate_left; focus (intro W hSw; (try dsimp only at hSw); obtain ⟨hSb, hxM, hxT, hxV⟩ := hSw; obtain ⟨⟨iM0, iM1, iM2, iM3, iM4, iM5, iM6, iM7, iM8⟩, _, _⟩ := hxM; obtain ⟨⟨iT0, iT1, iT2⟩, _, _⟩ := hxT; obtain ⟨⟨iV0, iV1, iV2⟩, _, _⟩ := hxV; go_simp; try (with_reducible rfl))); (try simp only [Act.put, List.getElem_toArray, List.getElem_cons_succ, List.getElem_cons_zero, List.setIfInBounds_toArray, List.set_cons_zero, List.set_cons_succ])
        refine wpAnyH_done (by kernel_rfl) ?_ _
        have HB := Lib.hid (hHeld.1)
        clear hHeld
        obtain ⟨⟨qM0, qM1, qM2, qM3, qM4, qM5, qM6, qM7, qM8⟩, ⟨fM0, fM1, fM2, fM3, fM4, fM5, fM6, fM7, fM8⟩, zM⟩ := HM.out
        obtain ⟨⟨qT0, qT1, qT2⟩, ⟨fT0, fT1, fT2⟩, zT⟩ := HT.out
        obtain ⟨⟨qV0, qV1, qV2⟩, ⟨fV0, fV1, fV2⟩, zV⟩ := HV.out
        obtain ⟨⟨qU0, qU1, qU2⟩, ⟨fU0, fU1, fU2⟩, zU⟩ := HU.out
        go_wp2_with fail
        go_at_call 21
        refine (eqTriple_same _ _ _ _).mono ?_
        rintro e w101 ⟨rfl, hb⟩
        clear qM0 fM0 qM1 fM1 qM2 fM2 qM3 fM3 qM4 fM4 qM5 fM5 qM6 fM6 qM7 fM7 qM8 fM8 zM qT0 fT0 qT1 fT1 qT2 fT2 zT qV0 fV0 qV1 fV1 qV2 fV2 zV qU0 fU0 qU1 fU1 qU2 fU2 zU
        have HM := Lib.hid (HM.out.below hb)
        have HT := Lib.hid (HT.out.below hb)
        have HV := Lib.hid (HV.out.below hb)
        have HU := Lib.hid (HU.out.below hb)
        have HB := Lib.hid (below_after hb HB.out)
        clear hb
        obtain ⟨⟨qM0, qM1, qM2, qM3, qM4, qM5, qM6, qM7, qM8⟩, ⟨fM0, fM1, fM2, fM3, fM4, fM5, fM6, fM7, fM8⟩, zM⟩ := HM.out
        obtain ⟨⟨qT0, qT1, qT2⟩, ⟨fT0, fT1, fT2⟩, zT⟩ := HT.out
        obtain ⟨⟨qV0, qV1, qV2⟩, ⟨fV0, fV1, fV2⟩, zV⟩ := HV.out
        obtain ⟨⟨qU0, qU1, qU2⟩, ⟨fU0, fU1, fU2⟩, zU⟩ := HU.out
        go_wp2_with fail
        go_ret
        have hb := HB.out
        exact ⟨rfl, by (repeat' (first | (with_reducible exact Below.refl _ _) | (with_reducible refine Below.alloc ?_ ?_ _) | (with_reducible refine Below.setCell ?_ ?_ _) | (with_reducible refine Below.drew ?_) | (with_reducible refine below_drewN ?_ _) | (with_reducible assumption) | (with_reducible refine below_after (by with_reducible assumption) ?_) | go_size))⟩
  · skip
    go_simp; obtain ⟨GV, hGV⟩ : ∃ G, wD0.heap.size = G := ⟨_, rfl⟩; have le_V : w.heap.size ≤ GV := by rw [← hGV]; exact Below.size hHeld.1
    have ne_V_M : GV ≠ GM := by have := HM.out.2.2; omega
    have ne_M_V : GM ≠ GV := Ne.symm ne_V_M
    have ne_V_T : GV ≠ GT := by have := HT.out.2.2; omega
    have ne_T_V : GT ≠ GV := Ne.symm ne_V_T
    have HM := Lib.hid (HM.out.below ((Below.refl _ _).alloc (Nat.le_refl _) (.cells #[.int .i64 0, .int .i64 0, .int .i64 0] 24))); have HT := Lib.hid (HT.out.below ((Below.refl _ _).alloc (Nat.le_refl _) (.cells #[.int .i64 0, .int .i64 0, .int .i64 0] 24))); skip
    have HV : Hid (Bk3 (wD0.alloc (.cells #[.int .i64 0, .int .i64 0, .int .i64 0] 24)) GV 0 0 0) := by rw [← hGV]; exact bk3_new wD0 0 0 0 _
    refine hK.out _ _ ⟨Below.alloc hHeld.1 (Below.size hHeld.1) _, HM.out, HT.out⟩ (fun hHeld2 => ?_); (clear hHeld; rename _ => hHeld; clear hK K; have hHeld : (fun W => Below w.heap.size w W ∧ Bk9 W GM x0 x1 x2 x3 x4 x5 x6 x7 x8 ∧ Bk3 W GT x9 x10 x11) _ := hHeld); (try simp only [Act.put, List.getElem_toArray, List.getElem_cons_succ, List.getElem_cons_zero, List.setIfInBounds_toArray, List.set_cons_zero, List.set_cons_succ])
    rw [hGV]; clear hGV; obtain ⟨ywr0x0, hwx⟩ : ∃ wx, wD0.alloc (.cells #[.int .i64 0, .int .i64 0, .int .i64 0] 24) = wx := ⟨_, rfl⟩; rw [hwx] at HM HT HV hHeld ⊢; clear hwx
    refine wpAnyH_ready (rs := [1]) (by kernel_rfl) (by simp) ?_; refine AllReadyH.cons rfl (fun K hK => ?_) AllReadyH.nil
    go_simp; (go_at_call 39; refine (toSquare_any _ _ _ _ _ _ _ _ _ _).mono ?_; rintro en ywr0x1 ⟨rfl, hb2⟩); have HM := Lib.hid (HM.out.below hb2); have HT := Lib.hid (HT.out.below hb2); have HV := Lib.hid (HV.out.below hb2); refine hK.out _ _ ⟨below_after hb2 hHeld.1, HM.out, HT.out⟩ (fun hHeld2 => ?_); clear hb2; (clear hHeld; rename _ => hHeld; clear hK K; have hHeld : (fun W => Below w.heap.size w W ∧ Bk9 W GM x0 x1 x2 x3 x4 x5 x6 x7 x8 ∧ Bk3 W GT x9 x10 x11) _ := hHeld); (try simp only [Act.put, List.getElem_toArray, List.getElem_cons_succ, List.getElem_cons_zero, List.setIfInBounds_toArray, List.set_cons_zero, List.set_cons_succ])
    refine wpAnyH_ready (rs := [3]) (by kernel_rfl) (by simp) ?_; refine AllReadyH.cons rfl (fun K hK => ?_) AllReadyH.nil
    go_simp; (go_at_call 17; refine (toTriple_any _ _ _ _).mono ?_; rintro en ywr0x2 ⟨rfl, hb2⟩); have HM := Lib.hid (HM.out.below hb2); have HT := Lib.hid (HT.out.below hb2); have HV := Lib.hid (HV.out.below hb2); refine hK.out _ _ ⟨below_after hb2 hHeld.1, HM.out, HT.out⟩ (fun hHeld2 => ?_); clear hb2; (clear hHeld; rename _ => hHeld; clear hK K; have hHeld : (fun W => Below w.heap.size w W ∧ Bk9 W GM x0 x1 x2 x3 x4 x5 x6 x7 x8 ∧ Bk3 W GT x9 x10 x11) _ := hHeld); (try simp only [Act.put, List.getElem_toArray, List.getElem_cons_succ, List.getElem_cons_zero, List.setIfInBounds_toArray, List.set_cons_zero, List.set_cons_succ])
    refine wpAnyH_ready (rs := [4]) (by kernel_rfl) (by simp) ?_; refine AllReadyH.cons rfl (fun K hK => ?_) AllReadyH.nil
    go_simp; (go_at_call 38; refine (HS.out _).mono ?_; rintro en ywr0x3 ⟨rfl, hb2⟩); have HM := Lib.hid (HM.out.below hb2); have HT := Lib.hid (HT.out.below hb2); have HV := Lib.hid (HV.out.below hb2); refine hK.out _ _ ⟨below_after hb2 hHeld.1, HM.out, HT.out⟩ (fun hHeld2 => ?_); clear hb2; (clear hHeld; rename _ => hHeld; clear hK K; have hHeld : (fun W => Below w.heap.size w W ∧ Bk9 W GM x0 x1 x2 x3 x4 x5 x6 x7 x8 ∧ Bk3 W GT x9 x10 x11) _ := hHeld); (try simp only [Act.put, List.getElem_toArray, List.getElem_cons_succ, List.getElem_cons_zero, List.setIfInBounds_toArray, List.set_cons_zero, List.set_cons_succ])
    (refine wpAnyH_take (i := 5) (v := ?_) rfl (by kernel_rfl) (by kernel_rfl) (by kernel_rfl) (fun _ _ _ h => h) (Or.inl ⟨rfl, ?_⟩) (by assumption) ?_; rotate_left; focus (intro W hSw; (try dsimp only at hSw); obtain ⟨hSb, hxM, hxT⟩ := hSw; obtain ⟨⟨iM0, iM1, iM2, iM3, iM4, iM5, iM6, iM7, iM8⟩, _, _⟩ := hxM; obtain ⟨⟨iT0, iT1, iT2⟩, _, _⟩ := hxT; go_simp; try (with_reducible rfl))); (try simp only [Act.put, List.getElem_toArray, List.getElem_cons_succ, List.getElem_cons_zero, List.setIfInBounds_toArray, List.set_cons_zero, List.set_cons_succ])
    (refine wpAnyH_take (i := 6) (v := ?_) rfl (by kernel_rfl) (by kernel_rfl) (by kernel_rfl) (fun _ _ _ h => h) (Or.inl ⟨rfl, ?_⟩) (by assumption) ?_; rotate_left; focus (intro W hSw; (try dsimp only at hSw); obtain ⟨hSb, hxM, hxT⟩ := hSw; obtain ⟨⟨iM0, iM1, iM2, iM3, iM4, iM5, iM6, iM7, iM8⟩, _, _⟩ := hxM; obtain ⟨⟨iT0, iT1, iT2⟩, _, _⟩ := hxT; go_simp; try (with_reducible rfl))); (try simp only [Act.put, List.getElem_toArray, List.getElem_cons_succ, List.getElem_cons_zero, List.setIfInBounds_toArray, List.set_cons_zero, List.set_cons_succ])
    (refine wpAnyH_take (i := 7) (v := ?_) rfl (by kernel_rfl) (by kernel_rfl) (by kernel_rfl) (fun _ _ _ h => h) (Or.inl ⟨rfl, ?_⟩) (by assumption) ?_; rotate_left; focus (intro W hSw; (try dsimp only at hSw); obtain ⟨hSb, hxM, hxT⟩ := hSw; obtain ⟨⟨iM0, iM1, iM2, iM3, iM4, iM5, iM6, iM7, iM8⟩, _, _⟩ := hxM; obtain ⟨⟨iT0, iT1, iT2⟩, _, _⟩ := hxT; go_simp; try (with_reducible rfl))); (try simp only [Act.put, List.getElem_toArray, List.getElem_cons_succ, List.getElem_cons_zero, List.setIfInBounds_toArray, List.set_cons_zero, List.set_cons_succ])
    refine wpAnyH_ready (rs := [9]) (by kernel_rfl) (by simp) ?_; refine AllReadyH.cons rfl (fun K hK => ?_) AllReadyH.nil
    obtain ⟨⟨a0, a1, a2⟩, ⟨f0, f1, f2⟩, az⟩ := HV.out; go_simp; clear a0 f0 a1 f1 a2 f2 az
    have HM := Lib.hid (((HM.out.far ⟨GV, 0, none⟩ (.int .i64 A) (by show GM ≠ GV; exact ne_M_V)).far ⟨GV, 1, none⟩ (.int .i64 B) (by show GM ≠ GV; exact ne_M_V)).far ⟨GV, 2, none⟩ (.int .i64 C) (by show GM ≠ GV; exact ne_M_V))
    have HT := Lib.hid (((HT.out.far ⟨GV, 0, none⟩ (.int .i64 A) (by show GT ≠ GV; exact ne_T_V)).far ⟨GV, 1, none⟩ (.int .i64 B) (by show GT ≠ GV; exact ne_T_V)).far ⟨GV, 2, none⟩ (.int .i64 C) (by show GT ≠ GV; exact ne_T_V))
    have HV := Lib.hid (((HV.out.set0 A).set1 B).set2 C)
    refine hK.out _ _ ⟨(Below.setCell (Below.setCell (Below.setCell hHeld.1 (p := ⟨GV, 0, none⟩) le_V _) (p := ⟨GV, 1, none⟩) le_V _) (p := ⟨GV, 2, none⟩) le_V _), HM.out, HT.out⟩ (fun hHeld2 => ?_); (clear hHeld; rename _ => hHeld; clear hK K; have hHeld : (fun W => Below w.heap.size w W ∧ Bk9 W GM x0 x1 x2 x3 x4 x5 x6 x7 x8 ∧ Bk3 W GT x9 x10 x11) _ := hHeld); (try simp only [Act.put, List.getElem_toArray, List.getElem_cons_succ, List.getElem_cons_zero, List.setIfInBounds_toArray, List.set_cons_zero, List.set_cons_succ])
    obtain ⟨ywr0x4, hwx⟩ : ∃ wx, ((ywr0x3.setCell ⟨GV, 0, none⟩ (.int .i64 A)).setCell ⟨GV, 1, none⟩ (.int .i64 B)).setCell ⟨GV, 2, none⟩ (.int .i64 C) = wx := ⟨_, rfl⟩; rw [hwx] at HM HT HV hHeld ⊢; clear hwx
    (refine wpAnyH_take (i := 10) (v := ?_) rfl (by kernel_rfl) (by kernel_rfl) (by kernel_rfl) (fun _ _ _ h => h) (Or.inl ⟨rfl, ?_⟩) (by assumption) ?_; rotate_left; focus (intro W hSw; (try dsimp only at hSw); obtain ⟨hSb, hxM, hxT⟩ := hSw; obtain ⟨⟨iM0, iM1, iM2, iM3, iM4, iM5, iM6, iM7, iM8⟩, _, _⟩ := hxM; obtain ⟨⟨iT0, iT1, iT2⟩, _, _⟩ := hxT; go_simp; try (with_reducible rfl))); (try simp only [Act.put, List.getElem_toArray, List.getElem_cons_succ, List.getElem_cons_zero, List.setIfInBounds_toArray, List.set_cons_zero, List.set_cons_succ])
    refine wpAnyH_done (by kernel_rfl) ?_ _
    have HB := Lib.hid (hHeld.1)
    clear hHeld
    go_wp2_with fail
    refine wp_region_held_drew (S := fun W => Below w.heap.size w W ∧ Bk9 W GM x0 x1 x2 x3 x4 x5 x6 x7 x8 ∧ Bk3 W GT x9 x10 x11 ∧ Bk3 W GV A B C) (by kernel_rfl) ?_ (fun hHeld => ?_); focus ((try dsimp only); exact ⟨Below.drew HB.out, HM.out.below (Below.drew (Below.refl _ _)), HT.out.below (Below.drew (Below.refl _ _)), HV.out.below (Below.drew (Below.refl _ _))⟩)
    have HM := Lib.hid (HM.out.below (Below.drew (Below.refl _ _)))
    have HT := Lib.hid (HT.out.below (Below.drew (Below.refl _ _)))
    have HV := Lib.hid (HV.out.below (Below.drew (Below.refl _ _)))
    have hHeld : (fun W => Below w.heap.size w W ∧ Bk9 W GM x0 x1 x2 x3 x4 x5 x6 x7 x8 ∧ Bk3 W GT x9 x10 x11 ∧ Bk3 W GV A B C) _ := hHeld
    obtain ⟨wD50, hwD50⟩ : ∃ wD, ywr0x4.drew = wD := ⟨_, rfl⟩
    rw [hwD50] at hHeld HM HT HV ⊢
    clear hwD50
    (refine wpAnyH_take (i := 0) (v := ?_) rfl (by kernel_rfl) (by kernel_rfl) (by kernel_rfl) (fun _ _ _ h => h) (Or.inl ⟨rfl, ?_⟩) (by assumption) ?_; rotate_left; focus (intro W hSw; (try dsimp only at hSw); obtain ⟨hSb, hxM, hxT, hxV⟩ := hSw; obtain ⟨⟨iM0, iM1, iM2, iM3, iM4, iM5, iM6, iM7, iM8⟩, _, _⟩ := hxM; obtain ⟨⟨iT0, iT1, iT2⟩, _, _⟩ := hxT; obtain ⟨⟨iV0, iV1, iV2⟩, _, _⟩ := hxV; go_simp; try (with_reducible rfl))); (try simp only [Act.put, List.getElem_toArray, List.getElem_cons_succ, List.getElem_cons_zero, List.setIfInBounds_toArray, List.set_cons_zero, List.set_cons_succ])
    (refine wpAnyH_take (i := 2) (v := ?_) rfl (by kernel_rfl) (by kernel_rfl) (by kernel_rfl) (fun _ _ _ h => h) (Or.inl ⟨rfl, ?_⟩) (by assumption) ?_; rotate_left; focus (intro W hSw; (try dsimp only at hSw); obtain ⟨hSb, hxM, hxT, hxV⟩ := hSw; obtain ⟨⟨iM0, iM1, iM2, iM3, iM4, iM5, iM6, iM7, iM8⟩, _, _⟩ := hxM; obtain ⟨⟨iT0, iT1, iT2⟩, _, _⟩ := hxT; obtain ⟨⟨iV0, iV1, iV2⟩, _, _⟩ := hxV; go_simp; try (with_reducible rfl))); (try simp only [Act.put, List.getElem_toArray, List.getElem_cons_succ, List.getElem_cons_zero, List.setIfInBounds_toArray, List.set_cons_zero, List.set_cons_succ])
    refine wpAnyH_ready (rs := [1, 8]) (by kernel_rfl) (by simp) ?_; refine AllReadyH.cons rfl (fun K hK => ?_) (AllReadyH.cons rfl (fun K hK => ?_) AllReadyH.nil)
    · skip
      go_simp; (go_at_call 39; refine (toSquare_any _ _ _ _ _ _ _ _ _ _).mono ?_; rintro en ywr50x0 ⟨rfl, hb2⟩); have HM := Lib.hid (HM.out.below hb2); have HT := Lib.hid (HT.out.below hb2); have HV := Lib.hid (HV.out.below hb2); refine hK.out _ _ ⟨below_after hb2 hHeld.1, HM.out, HT.out, HV.out⟩ (fun hHeld2 => ?_); clear hb2; (clear hHeld; rename _ => hHeld; clear hK K; have hHeld : (fun W => Below w.heap.size w W ∧ Bk9 W GM x0 x1 x2 x3 x4 x5 x6 x7 x8 ∧ Bk3 W GT x9 x10 x11 ∧ Bk3 W GV A B C) _ := hHeld); (try simp only [Act.put, List.getElem_toArray, List.getElem_cons_succ, List.getElem_cons_zero, List.setIfInBounds_toArray, List.set_cons_zero, List.set_cons_succ])
      refine wpAnyH_ready (rs := [3, 8]) (by kernel_rfl) (by simp) ?_; refine AllReadyH.cons rfl (fun K hK => ?_) (AllReadyH.cons rfl (fun K hK => ?_) AllReadyH.nil)
      · skip
        go_simp; (go_at_call 17; refine (toTriple_any _ _ _ _).mono ?_; rintro en ywr50x1 ⟨rfl, hb2⟩); have HM := Lib.hid (HM.out.below hb2); have HT := Lib.hid (HT.out.below hb2); have HV := Lib.hid (HV.out.below hb2); refine hK.out _ _ ⟨below_after hb2 hHeld.1, HM.out, HT.out, HV.out⟩ (fun hHeld2 => ?_); clear hb2; (clear hHeld; rename _ => hHeld; clear hK K; have hHeld : (fun W => Below w.heap.size w W ∧ Bk9 W GM x0 x1 x2 x3 x4 x5 x6 x7 x8 ∧ Bk3 W GT x9 x10 x11 ∧ Bk3 W GV A B C) _ := hHeld); (try simp only [Act.put, List.getElem_toArray, List.getElem_cons_succ, List.getElem_cons_zero, List.setIfInBounds_toArray, List.set_cons_zero, List.set_cons_succ])
        refine wpAnyH_ready (rs := [4, 8]) (by kernel_rfl) (by simp) ?_; refine AllReadyH.cons rfl (fun K hK => ?_) (AllReadyH.cons rfl (fun K hK => ?_) AllReadyH.nil)
        · skip
          go_simp; (go_at_call 40; refine (HI.out _).mono ?_; rintro en ywr50x2 ⟨rfl, hb2⟩); have HM := Lib.hid (HM.out.below hb2); have HT := Lib.hid (HT.out.below hb2); have HV := Lib.hid (HV.out.below hb2); refine hK.out _ _ ⟨below_after hb2 hHeld.1, HM.out, HT.out, HV.out⟩ (fun hHeld2 => ?_); clear hb2; (clear hHeld; rename _ => hHeld; clear hK K; have hHeld : (fun W => Below w.heap.size w W ∧ Bk9 W GM x0 x1 x2 x3 x4 x5 x6 x7 x8 ∧ Bk3 W GT x9 x10 x11 ∧ Bk3 W GV A B C) _ := hHeld); (try simp only [Act.put, List.getElem_toArray, List.getElem_cons_succ, List.getElem_cons_zero, List.setIfInBounds_toArray, List.set_cons_zero, List.set_cons_succ])
          (refine wpAnyH_take (i := 5) (v := ?_) rfl (by kernel_rfl) (by kernel_rfl) (by kernel_rfl) (fun _ _ _ h => h) (Or.inl ⟨rfl, ?_⟩) (by assumption) ?_; rotate_left; focus (intro W hSw; (try dsimp only at hSw); obtain ⟨hSb, hxM, hxT, hxV⟩ := hSw; obtain ⟨⟨iM0, iM1, iM2, iM3, iM4, iM5, iM6, iM7, iM8⟩, _, _⟩ := hxM; obtain ⟨⟨iT0, iT1, iT2⟩, _, _⟩ := hxT; obtain ⟨⟨iV0, iV1, iV2⟩, _, _⟩ := hxV; go_simp; try (with_reducible rfl))); (try simp only [Act.put, List.getElem_toArray, List.getElem_cons_succ, List.getElem_cons_zero, List.setIfInBounds_toArray, List.set_cons_zero, List.set_cons_succ])
          (refine wpAnyH_take (i := 6) (v := ?_) rfl (by kernel_rfl) (by kernel_rfl) (by kernel_rfl) (fun _ _ _ h => h) (Or.inl ⟨rfl, ?_⟩) (by assumption) ?_; rotate_left; focus (intro W hSw; (try dsimp only at hSw); obtain ⟨hSb, hxM, hxT, hxV⟩ := hSw; obtain ⟨⟨iM0, iM1, iM2, iM3, iM4, iM5, iM6, iM7, iM8⟩, _, _⟩ := hxM; obtain ⟨⟨iT0, iT1, iT2⟩, _, _⟩ := hxT; obtain ⟨⟨iV0, iV1, iV2⟩, _, _⟩ := hxV; go_simp; try (with_reducible rfl))); (try simp only [Act.put, List.getElem_toArray, List.getElem_cons_succ, List.getElem_cons_zero, List.setIfInBounds_toArray, List.set_cons_zero, List.set_cons_succ])
          (refine wpAnyH_take (i := 7) (v := ?_) rfl (by kernel_rfl) (by kernel_rfl) (by kernel_rfl) (fun _ _ _ h => h) (Or.inl ⟨rfl, ?_⟩) (by assumption) ?_; rotate_left; focus (intro W hSw; (try dsimp only at hSw); obtain ⟨hSb, hxM, hxT, hxV⟩ := hSw; obtain ⟨⟨iM0, iM1, iM2, iM3, iM4, iM5, iM6, iM7, iM8⟩, _, _⟩ := hxM; obtain ⟨⟨iT0, iT1, iT2⟩, _, _⟩ := hxT; obtain ⟨⟨iV0, iV1, iV2⟩, _, _⟩ := hxV; go_simp; try (with_reducible rfl))); (try simp only [Act.put, List.getElem_toArray, List.getElem_cons_succ, List.getElem_cons_zero, List.setIfInBounds_toArray, List.set_cons_zero, List.set_cons_succ])
          refine wpAnyH_ready (rs := [8]) (by kernel_rfl) (by simp) ?_; refine AllReadyH.cons rfl (fun K hK => ?_) AllReadyH.nil
          go_simp; obtain ⟨GU, hGU⟩ : ∃ G, ywr50x2.heap.size = G := ⟨_, rfl⟩; have le_U : w.heap.size ≤ GU := by rw [← hGU]; exact Below.size hHeld.1
          have ne_U_M : GU ≠ GM := by have := HM.out.2.2; omega
          have ne_M_U : GM ≠ GU := Ne.symm ne_U_M
          have ne_U_T : GU ≠ GT := by have := HT.out.2.2; omega
          have ne_T_U : GT ≠ GU := Ne.symm ne_U_T
          have ne_U_V : GU ≠ GV := by have := HV.out.2.2; omega
          have ne_V_U : GV ≠ GU := Ne.symm ne_U_V
          have HM := Lib.hid (HM.out.below ((Below.refl _ _).alloc (Nat.le_refl _) (.cells #[.int .i64 0, .int .i64 0, .int .i64 0] 24))); have HT := Lib.hid (HT.out.below ((Below.refl _ _).alloc (Nat.le_refl _) (.cells #[.int .i64 0, .int .i64 0, .int .i64 0] 24))); have HV := Lib.hid (HV.out.below ((Below.refl _ _).alloc (Nat.le_refl _) (.cells #[.int .i64 0, .int .i64 0, .int .i64 0] 24))); skip
          have HU : Hid (Bk3 (ywr50x2.alloc (.cells #[.int .i64 0, .int .i64 0, .int .i64 0] 24)) GU 0 0 0) := by rw [← hGU]; exact bk3_new ywr50x2 0 0 0 _
          refine hK.out _ _ ⟨Below.alloc hHeld.1 (Below.size hHeld.1) _, HM.out, HT.out, HV.out⟩ (fun hHeld2 => ?_); (clear hHeld; rename _ => hHeld; clear hK K; have hHeld : (fun W => Below w.heap.size w W ∧ Bk9 W GM x0 x1 x2 x3 x4 x5 x6 x7 x8 ∧ Bk3 W GT x9 x10 x11 ∧ Bk3 W GV A B C) _ := hHeld); (try simp only [Act.put, List.getElem_toArray, List.getElem_cons_succ, List.getElem_cons_zero, List.setIfInBounds_toArray, List.set_cons_zero, List.set_cons_succ])
          rw [hGU]; clear hGU; obtain ⟨ywr50x3, hwx⟩ : ∃ wx, ywr50x2.alloc (.cells #[.int .i64 0, .int .i64 0, .int .i64 0] 24) = wx := ⟨_, rfl⟩; rw [hwx] at HM HT HV HU hHeld ⊢; clear hwx
          refine wpAnyH_ready (rs := [9]) (by kernel_rfl) (by simp) ?_; refine AllReadyH.cons rfl (fun K hK => ?_) AllReadyH.nil
          obtain ⟨⟨a0, a1, a2⟩, ⟨f0, f1, f2⟩, az⟩ := HU.out; go_simp; clear a0 f0 a1 f1 a2 f2 az
          have HM := Lib.hid (((HM.out.far ⟨GU, 0, none⟩ (.int .i64 A) (by show GM ≠ GU; exact ne_M_U)).far ⟨GU, 1, none⟩ (.int .i64 B) (by show GM ≠ GU; exact ne_M_U)).far ⟨GU, 2, none⟩ (.int .i64 C) (by show GM ≠ GU; exact ne_M_U))
          have HT := Lib.hid (((HT.out.far ⟨GU, 0, none⟩ (.int .i64 A) (by show GT ≠ GU; exact ne_T_U)).far ⟨GU, 1, none⟩ (.int .i64 B) (by show GT ≠ GU; exact ne_T_U)).far ⟨GU, 2, none⟩ (.int .i64 C) (by show GT ≠ GU; exact ne_T_U))
          have HV := Lib.hid (((HV.out.far ⟨GU, 0, none⟩ (.int .i64 A) (by show GV ≠ GU; exact ne_V_U)).far ⟨GU, 1, none⟩ (.int .i64 B) (by show GV ≠ GU; exact ne_V_U)).far ⟨GU, 2, none⟩ (.int .i64 C) (by show GV ≠ GU; exact ne_V_U))
          have HU := Lib.hid (((HU.out.set0 A).set1 B).set2 C)
          refine hK.out _ _ ⟨(Below.setCell (Below.setCell (Below.setCell hHeld.1 (p := ⟨GU, 0, none⟩) le_U _) (p := ⟨GU, 1, none⟩) le_U _) (p := ⟨GU, 2, none⟩) le_U _), HM.out, HT.out, HV.out⟩ (fun hHeld2 => ?_); (clear hHeld; rename _ => hHeld; clear hK K; have hHeld : (fun W => Below w.heap.size w W ∧ Bk9 W GM x0 x1 x2 x3 x4 x5 x6 x7 x8 ∧ Bk3 W GT x9 x10 x11 ∧ Bk3 W GV A B C) _ := hHeld); (try simp only [Act.put, List.getElem_toArray, List.getElem_cons_succ, List.getElem_cons_zero, List.setIfInBounds_toArray, List.set_cons_zero, List.set_cons_succ])
          obtain ⟨ywr50x4, hwx⟩ : ∃ wx, ((ywr50x3.setCell ⟨GU, 0, none⟩ (.int .i64 A)).setCell ⟨GU, 1, none⟩ (.int .i64 B)).setCell ⟨GU, 2, none⟩ (.int .i64 C) = wx := ⟨_, rfl⟩; rw [hwx] at HM HT HV HU hHeld ⊢; clear hwx
          (refine wpAnyH_take (i := 10) (v := ?_) rfl (by kernel_rfl) (by kernel_rfl) (by kernel_rfl) (fun _ _ _ h => h) (Or.inl ⟨rfl, ?_⟩) (by assumption) ?_; rotate_left; focus (intro W hSw; (try dsimp only at hSw); obtain ⟨hSb, hxM, hxT, hxV⟩ := hSw; obtain ⟨⟨iM0, iM1, iM2, iM3, iM4, iM5, iM6, iM7, iM8⟩, _, _⟩ := hxM; obtain ⟨⟨iT0, iT1, iT2⟩, _, _⟩ := hxT; obtain ⟨⟨iV0, iV1, iV2⟩, _, _⟩ := hxV; go_simp; try (with_reducible rfl))); (try simp only [Act.put, List.getElem_toArray, List.getElem_cons_succ, List.getElem_cons_zero, List.setIfInBounds_toArray, List.set_cons_zero, List.set_cons_succ])
          refine wpAnyH_done (by kernel_rfl) ?_ _
          have HB := Lib.hid (hHeld.1)
          clear hHeld
          obtain ⟨⟨qM0, qM1, qM2, qM3, qM4, qM5, qM6, qM7, qM8⟩, ⟨fM0, fM1, fM2, fM3, fM4, fM5, fM6, fM7, fM8⟩, zM⟩ := HM.out
          obtain ⟨⟨qT0, qT1, qT2⟩, ⟨fT0, fT1, fT2⟩, zT⟩ := HT.out
          obtain ⟨⟨qV0, qV1, qV2⟩, ⟨fV0, fV1, fV2⟩, zV⟩ := HV.out
          obtain ⟨⟨qU0, qU1, qU2⟩, ⟨fU0, fU1, fU2⟩, zU⟩ := HU.out
          go_wp2_with fail
          go_at_call 21
          refine (eqTriple_same _ _ _ _).mono ?_
          rintro e w101 ⟨rfl, hb⟩
          clear qM0 fM0 qM1 fM1 qM2 fM2 qM3 fM3 qM4 fM4 qM5 fM5 qM6 fM6 qM7 fM7 qM8 fM8 zM qT0 fT0 qT1 fT1 qT2 fT2 zT qV0 fV0 qV1 fV1 qV2 fV2 zV qU0 fU0 qU1 fU1 qU2 fU2 zU
          have HM := Lib.hid (HM.out.below hb)
          have HT := Lib.hid (HT.out.below hb)
          have HV := Lib.hid (HV.out.below hb)
          have HU := Lib.hid (HU.out.below hb)
          have HB := Lib.hid (below_after hb HB.out)
          clear hb
          obtain ⟨⟨qM0, qM1, qM2, qM3, qM4, qM5, qM6, qM7, qM8⟩, ⟨fM0, fM1, fM2, fM3, fM4, fM5, fM6, fM7, fM8⟩, zM⟩ := HM.out
          obtain ⟨⟨qT0, qT1, qT2⟩, ⟨fT0, fT1, fT2⟩, zT⟩ := HT.out
          obtain ⟨⟨qV0, qV1, qV2⟩, ⟨fV0, fV1, fV2⟩, zV⟩ := HV.out
          obtain ⟨⟨qU0, qU1, qU2⟩, ⟨fU0, fU1, fU2⟩, zU⟩ := HU.out
          go_wp2_with fail
          go_ret
          have hb := HB.out
          exact ⟨rfl, by (repeat' (first | (with_reducible exact Below.refl _ _) | (with_reducible refine Below.alloc ?_ ?_ _) | (with_reducible refine Below.setCell ?_ ?_ _) | (with_reducible refine Below.drew ?_) | (with_reducible refine below_drewN ?_ _) | (with_reducible assumption) | (with_reducible refine below_after (by with_reducible assumption) ?_) | go_size))⟩
        · skip
          go_simp; obtain ⟨GU, hGU⟩ : ∃ G, ywr50x1.heap.size = G := ⟨_, rfl⟩; have le_U : w.heap.size ≤ GU := by rw [← hGU]; exact Below.size hHeld.1
          have ne_U_M : GU ≠ GM := by have := HM.out.2.2; omega
          have ne_M_U : GM ≠ GU := Ne.symm ne_U_M
          have ne_U_T : GU ≠ GT := by have := HT.out.2.2; omega
          have ne_T_U : GT ≠ GU := Ne.symm ne_U_T
          have ne_U_V : GU ≠ GV := by have := HV.out.2.2; omega
          have ne_V_U : GV ≠ GU := Ne.symm ne_U_V
          have HM := Lib.hid (HM.out.below ((Below.refl _ _).alloc (Nat.le_refl _) (.cells #[.int .i64 0, .int .i64 0, .int .i64 0] 24))); have HT := Lib.hid (HT.out.below ((Below.refl _ _).alloc (Nat.le_refl _) (.cells #[.int .i64 0, .int .i64 0, .int .i64 0] 24))); have HV := Lib.hid (HV.out.below ((Below.refl _ _).alloc (Nat.le_refl _) (.cells #[.int .i64 0, .int .i64 0, .int .i64 0] 24))); skip
          have HU : Hid (Bk3 (ywr50x1.alloc (.cells #[.int .i64 0, .int .i64 0, .int .i64 0] 24)) GU 0 0 0) := by rw [← hGU]; exact bk3_new ywr50x1 0 0 0 _
          refine hK.out _ _ ⟨Below.alloc hHeld.1 (Below.size hHeld.1) _, HM.out, HT.out, HV.out⟩ (fun hHeld2 => ?_); (clear hHeld; rename _ => hHeld; clear hK K; have hHeld : (fun W => Below w.heap.size w W ∧ Bk9 W GM x0 x1 x2 x3 x4 x5 x6 x7 x8 ∧ Bk3 W GT x9 x10 x11 ∧ Bk3 W GV A B C) _ := hHeld); (try simp only [Act.put, List.getElem_toArray, List.getElem_cons_succ, List.getElem_cons_zero, List.setIfInBounds_toArray, List.set_cons_zero, List.set_cons_succ])
          rw [hGU]; clear hGU; obtain ⟨ywr50x2, hwx⟩ : ∃ wx, ywr50x1.alloc (.cells #[.int .i64 0, .int .i64 0, .int .i64 0] 24) = wx := ⟨_, rfl⟩; rw [hwx] at HM HT HV HU hHeld ⊢; clear hwx
          refine wpAnyH_ready (rs := [4]) (by kernel_rfl) (by simp) ?_; refine AllReadyH.cons rfl (fun K hK => ?_) AllReadyH.nil
          go_simp; (go_at_call 40; refine (HI.out _).mono ?_; rintro en ywr50x3 ⟨rfl, hb2⟩); have HM := Lib.hid (HM.out.below hb2); have HT := Lib.hid (HT.out.below hb2); have HV := Lib.hid (HV.out.below hb2); have HU := Lib.hid (HU.out.below hb2); refine hK.out _ _ ⟨below_after hb2 hHeld.1, HM.out, HT.out, HV.out⟩ (fun hHeld2 => ?_); clear hb2; (clear hHeld; rename _ => hHeld; clear hK K; have hHeld : (fun W => Below w.heap.size w W ∧ Bk9 W GM x0 x1 x2 x3 x4 x5 x6 x7 x8 ∧ Bk3 W GT x9 x10 x11 ∧ Bk3 W GV A B C) _ := hHeld); (try simp only [Act.put, List.getElem_toArray, List.getElem_cons_succ, List.getElem_cons_zero, List.setIfInBounds_toArray, List.set_cons_zero, List.set_cons_succ])
          (refine wpAnyH_take (i := 5) (v := ?_) rfl (by kernel_rfl) (by kernel_rfl) (by kernel_rfl) (fun _ _ _ h => h) (Or.inl ⟨rfl, ?_⟩) (by assumption) ?_; rotate_left; focus (intro W hSw; (try dsimp only at hSw); obtain ⟨hSb, hxM, hxT, hxV⟩ := hSw; obtain ⟨⟨iM0, iM1, iM2, iM3, iM4, iM5, iM6, iM7, iM8⟩, _, _⟩ := hxM; obtain ⟨⟨iT0, iT1, iT2⟩, _, _⟩ := hxT; obtain ⟨⟨iV0, iV1, iV2⟩, _, _⟩ := hxV; go_simp; try (with_reducible rfl))); (try simp only [Act.put, List.getElem_toArray, List.getElem_cons_succ, List.getElem_cons_zero, List.setIfInBounds_toArray, List.set_cons_zero, List.set_cons_succ])
          (refine wpAnyH_take (i := 6) (v := ?_) rfl (by kernel_rfl) (by kernel_rfl) (by kernel_rfl) (fun _ _ _ h => h) (Or.inl ⟨rfl, ?_⟩) (by assumption) ?_; rotate_left; focus (intro W hSw; (try dsimp only at hSw); obtain ⟨hSb, hxM, hxT, hxV⟩ := hSw; obtain ⟨⟨iM0, iM1, iM2, iM3, iM4, iM5, iM6, iM7, iM8⟩, _, _⟩ := hxM; obtain ⟨⟨iT0, iT1, iT2⟩, _, _⟩ := hxT; obtain ⟨⟨iV0, iV1, iV2⟩, _, _⟩ := hxV; go_simp; try (with_reducible rfl))); (try simp only [Act.put, List.getElem_toArray, List.getElem_cons_succ, List.getElem_cons_zero, List.setIfInBounds_toArray, List.set_cons_zero, List.set_cons_succ])
          (refine wpAnyH_take (i := 7) (v := ?_) rfl (by kernel_rfl) (by kernel_rfl) (by kernel_rfl) (fun _ _ _ h => h) (Or.inl ⟨rfl, ?_⟩) (by assumption) ?_; rotate_left; focus (intro W hSw; (try dsimp only at hSw); obtain ⟨hSb, hxM, hxT, hxV⟩ := hSw; obtain ⟨⟨iM0, iM1, iM2, iM3, iM4, iM5, iM6, iM7, iM8⟩, _, _⟩ := hxM; obtain ⟨⟨iT0, iT1, iT2⟩, _, _⟩ := hxT; obtain ⟨⟨iV0, iV1, iV2⟩, _, _⟩ := hxV; go_simp; try (with_reducible rfl))); (try simp only [Act.put, List.getElem_toArray, List.getElem_cons_succ, List.getElem_cons_zero, List.setIfInBounds_toArray, List.set_cons_zero, List.set_cons_succ])
          refine wpAnyH_ready (rs := [9]) (by kernel_rfl) (by simp) ?_; refine AllReadyH.cons rfl (fun K hK => ?_) AllReadyH.nil
          obtain ⟨⟨a0, a1, a2⟩, ⟨f0, f1, f2⟩, az⟩ := HU.out; go_simp; clear a0 f0 a1 f1 a2 f2 az
          have HM := Lib.hid (((HM.out.far ⟨GU, 0, none⟩ (.int .i64 A) (by show GM ≠ GU; exact ne_M_U)).far ⟨GU, 1, none⟩ (.int .i64 B) (by show GM ≠ GU; exact ne_M_U)).far ⟨GU, 2, none⟩ (.int .i64 C) (by show GM ≠ GU; exact ne_M_U))
          have HT := Lib.hid (((HT.out.far ⟨GU, 0, none⟩ (.int .i64 A) (by show GT ≠ GU; exact ne_T_U)).far ⟨GU, 1, none⟩ (.int .i64 B) (by show GT ≠ GU; exact ne_T_U)).far ⟨GU, 2, none⟩ (.int .i64 C) (by show GT ≠ GU; exact ne_T_U))
          have HV := Lib.hid (((HV.out.far ⟨GU, 0, none⟩ (.int .i64 A) (by show GV ≠ GU; exact ne_V_U)).far ⟨GU, 1, none⟩ (.int .i64 B) (by show GV ≠ GU; exact ne_V_U)).far ⟨GU, 2, none⟩ (.int .i64 C) (by show GV ≠ GU; exact ne_V_U))
          have HU := Lib.hid (((HU.out.set0 A).set1 B).set2 C)
          refine hK.out _ _ ⟨(Below.setCell (Below.setCell (Below.setCell hHeld.1 (p := ⟨GU, 0, none⟩) le_U _) (p := ⟨GU, 1, none⟩) le_U _) (p := ⟨GU, 2, none⟩) le_U _), HM.out, HT.out, HV.out⟩ (fun hHeld2 => ?_); (clear hHeld; rename _ => hHeld; clear hK K; have hHeld : (fun W => Below w.heap.size w W ∧ Bk9 W GM x0 x1 x2 x3 x4 x5 x6 x7 x8 ∧ Bk3 W GT x9 x10 x11 ∧ Bk3 W GV A B C) _ := hHeld); (try simp only [Act.put, List.getElem_toArray, List.getElem_cons_succ, List.getElem_cons_zero, List.setIfInBounds_toArray, List.set_cons_zero, List.set_cons_succ])
          obtain ⟨ywr50x4, hwx⟩ : ∃ wx, ((ywr50x3.setCell ⟨GU, 0, none⟩ (.int .i64 A)).setCell ⟨GU, 1, none⟩ (.int .i64 B)).setCell ⟨GU, 2, none⟩ (.int .i64 C) = wx := ⟨_, rfl⟩; rw [hwx] at HM HT HV HU hHeld ⊢; clear hwx
          (refine wpAnyH_take (i := 10) (v := ?_) rfl (by kernel_rfl) (by kernel_rfl) (by kernel_rfl) (fun _ _ _ h => h) (Or.inl ⟨rfl, ?_⟩) (by assumption) ?_; rotate_left; focus (intro W hSw; (try dsimp only at hSw); obtain ⟨hSb, hxM, hxT, hxV⟩ := hSw; obtain ⟨⟨iM0, iM1, iM2, iM3, iM4, iM5, iM6, iM7, iM8⟩, _, _⟩ := hxM; obtain ⟨⟨iT0, iT1, iT2⟩, _, _⟩ := hxT; obtain ⟨⟨iV0, iV1, iV2⟩, _, _⟩ := hxV; go_simp; try (with_reducible rfl))); (try simp only [Act.put, List.getElem_toArray, List.getElem_cons_succ, List.getElem_cons_zero, List.setIfInBounds_toArray, List.set_cons_zero, List.set_cons_succ])
          refine wpAnyH_done (by kernel_rfl) ?_ _
          have HB := Lib.hid (hHeld.1)
          clear hHeld
          obtain ⟨⟨qM0, qM1, qM2, qM3, qM4, qM5, qM6, qM7, qM8⟩, ⟨fM0, fM1, fM2, fM3, fM4, fM5, fM6, fM7, fM8⟩, zM⟩ := HM.out
          obtain ⟨⟨qT0, qT1, qT2⟩, ⟨fT0, fT1, fT2⟩, zT⟩ := HT.out
          obtain ⟨⟨qV0, qV1, qV2⟩, ⟨fV0, fV1, fV2⟩, zV⟩ := HV.out
          obtain ⟨⟨qU0, qU1, qU2⟩, ⟨fU0, fU1, fU2⟩, zU⟩ := HU.out
          go_wp2_with fail
          go_at_call 21
          refine (eqTriple_same _ _ _ _).mono ?_
          rintro e w101 ⟨rfl, hb⟩
          clear qM0 fM0 qM1 fM1 qM2 fM2 qM3 fM3 qM4 fM4 qM5 fM5 qM6 fM6 qM7 fM7 qM8 fM8 zM qT0 fT0 qT1 fT1 qT2 fT2 zT qV0 fV0 qV1 fV1 qV2 fV2 zV qU0 fU0 qU1 fU1 qU2 fU2 zU
          have HM := Lib.hid (HM.out.below hb)
          have HT := Lib.hid (HT.out.below hb)
          have HV := Lib.hid (HV.out.below hb)
          have HU := Lib.hid (HU.out.below hb)
          have HB := Lib.hid (below_after hb HB.out)
          clear hb
          obtain ⟨⟨qM0, qM1, qM2, qM3, qM4, qM5, qM6, qM7, qM8⟩, ⟨fM0, fM1, fM2, fM3, fM4, fM5, fM6, fM7, fM8⟩, zM⟩ := HM.out
          obtain ⟨⟨qT0, qT1, qT2⟩, ⟨fT0, fT1, fT2⟩, zT⟩ := HT.out
          obtain ⟨⟨qV0, qV1, qV2⟩, ⟨fV0, fV1, fV2⟩, zV⟩ := HV.out
          obtain ⟨⟨qU0, qU1, qU2⟩, ⟨fU0, fU1, fU2⟩, zU⟩ := HU.out
          go_wp2_with fail
          go_ret
          have hb := HB.out
          exact ⟨rfl, by (repeat' (first | (with_reducible exact Below.refl _ _) | (with_reducible refine Below.alloc ?_ ?_ _) | (with_reducible refine Below.setCell ?_ ?_ _) | (with_reducible refine Below.drew ?_) | (with_reducible refine below_drewN ?_ _) | (with_reducible assumption) | (with_reducible refine below_after (by with_reducible assumption) ?_) | go_size))⟩
      · skip
        go_simp; obtain ⟨GU, hGU⟩ : ∃ G, ywr50x0.heap.size = G := ⟨_, rfl⟩; have le_U : w.heap.size ≤ GU := by rw [← hGU]; exact Below.size hHeld.1
        have ne_U_M : GU ≠ GM := by have := HM.out.2.2; omega
        have ne_M_U : GM ≠ GU := Ne.symm ne_U_M
        have ne_U_T : GU ≠ GT := by have := HT.out.2.2; omega
        have ne_T_U : GT ≠ GU := Ne.symm ne_U_T
        have ne_U_V : GU ≠ GV := by have := HV.out.2.2; omega
        have ne_V_U : GV ≠ GU := Ne.symm ne_U_V
        have HM := Lib.hid (HM.out.below ((Below.refl _ _).alloc (Nat.le_refl _) (.cells #[.int .i64 0, .int .i64 0, .int .i64 0] 24))); have HT := Lib.hid (HT.out.below ((Below.refl _ _).alloc (Nat.le_refl _) (.cells #[.int .i64 0, .int .i64 0, .int .i64 0] 24))); have HV := Lib.hid (HV.out.below ((Below.refl _ _).alloc (Nat.le_refl _) (.cells #[.int .i64 0, .int .i64 0, .int .i64 0] 24))); skip
        have HU : Hid (Bk3 (ywr50x0.alloc (.cells #[.int .i64 0, .int .i64 0, .int .i64 0] 24)) GU 0 0 0) := by rw [← hGU]; exact bk3_new ywr50x0 0 0 0 _
        refine hK.out _ _ ⟨Below.alloc hHeld.1 (Below.size hHeld.1) _, HM.out, HT.out, HV.out⟩ (fun hHeld2 => ?_); (clear hHeld; rename _ => hHeld; clear hK K; have hHeld : (fun W => Below w.heap.size w W ∧ Bk9 W GM x0 x1 x2 x3 x4 x5 x6 x7 x8 ∧ Bk3 W GT x9 x10 x11 ∧ Bk3 W GV A B C) _ := hHeld); (try simp only [Act.put, List.getElem_toArray, List.getElem_cons_succ, List.getElem_cons_zero, List.setIfInBounds_toArray, List.set_cons_zero, List.set_cons_succ])
        rw [hGU]; clear hGU; obtain ⟨ywr50x1, hwx⟩ : ∃ wx, ywr50x0.alloc (.cells #[.int .i64 0, .int .i64 0, .int .i64 0] 24) = wx := ⟨_, rfl⟩; rw [hwx] at HM HT HV HU hHeld ⊢; clear hwx
        refine wpAnyH_ready (rs := [3]) (by kernel_rfl) (by simp) ?_; refine AllReadyH.cons rfl (fun K hK => ?_) AllReadyH.nil
        go_simp; (go_at_call 17; refine (toTriple_any _ _ _ _).mono ?_; rintro en ywr50x2 ⟨rfl, hb2⟩); have HM := Lib.hid (HM.out.below hb2); have HT := Lib.hid (HT.out.below hb2); have HV := Lib.hid (HV.out.below hb2); have HU := Lib.hid (HU.out.below hb2); refine hK.out _ _ ⟨below_after hb2 hHeld.1, HM.out, HT.out, HV.out⟩ (fun hHeld2 => ?_); clear hb2; (clear hHeld; rename _ => hHeld; clear hK K; have hHeld : (fun W => Below w.heap.size w W ∧ Bk9 W GM x0 x1 x2 x3 x4 x5 x6 x7 x8 ∧ Bk3 W GT x9 x10 x11 ∧ Bk3 W GV A B C) _ := hHeld); (try simp only [Act.put, List.getElem_toArray, List.getElem_cons_succ, List.getElem_cons_zero, List.setIfInBounds_toArray, List.set_cons_zero, List.set_cons_succ])
        refine wpAnyH_ready (rs := [4]) (by kernel_rfl) (by simp) ?_; refine AllReadyH.cons rfl (fun K hK => ?_) AllReadyH.nil
        go_simp; (go_at_call 40; refine (HI.out _).mono ?_; rintro en ywr50x3 ⟨rfl, hb2⟩); have HM := Lib.hid (HM.out.below hb2); have HT := Lib.hid (HT.out.below hb2); have HV := Lib.hid (HV.out.below hb2); have HU := Lib.hid (HU.out.below hb2); refine hK.out _ _ ⟨below_after hb2 hHeld.1, HM.out, HT.out, HV.out⟩ (fun hHeld2 => ?_); clear hb2; (clear hHeld; rename _ => hHeld; clear hK K; have hHeld : (fun W => Below w.heap.size w W ∧ Bk9 W GM x0 x1 x2 x3 x4 x5 x6 x7 x8 ∧ Bk3 W GT x9 x10 x11 ∧ Bk3 W GV A B C) _ := hHeld); (try simp only [Act.put, List.getElem_toArray, List.getElem_cons_succ, List.getElem_cons_zero, List.setIfInBounds_toArray, List.set_cons_zero, List.set_cons_succ])
        (refine wpAnyH_take (i := 5) (v := ?_) rfl (by kernel_rfl) (by kernel_rfl) (by kernel_rfl) (fun _ _ _ h => h) (Or.inl ⟨rfl, ?_⟩) (by assumption) ?_; rotate_left; focus (intro W hSw; (try dsimp only at hSw); obtain ⟨hSb, hxM, hxT, hxV⟩ := hSw; obtain ⟨⟨iM0, iM1, iM2, iM3, iM4, iM5, iM6, iM7, iM8⟩, _, _⟩ := hxM; obtain ⟨⟨iT0, iT1, iT2⟩, _, _⟩ := hxT; obtain ⟨⟨iV0, iV1, iV2⟩, _, _⟩ := hxV; go_simp; try (with_reducible rfl))); (try simp only [Act.put, List.getElem_toArray, List.getElem_cons_succ, List.getElem_cons_zero, List.setIfInBounds_toArray, List.set_cons_zero, List.set_cons_succ])
        (refine wpAnyH_take (i := 6) (v := ?_) rfl (by kernel_rfl) (by kernel_rfl) (by kernel_rfl) (fun _ _ _ h => h) (Or.inl ⟨rfl, ?_⟩) (by assumption) ?_; rotate_left; focus (intro W hSw; (try dsimp only at hSw); obtain ⟨hSb, hxM, hxT, hxV⟩ := hSw; obtain ⟨⟨iM0, iM1, iM2, iM3, iM4, iM5, iM6, iM7, iM8⟩, _, _⟩ := hxM; obtain ⟨⟨iT0, iT1, iT2⟩, _, _⟩ := hxT; obtain ⟨⟨iV0, iV1, iV2⟩, _, _⟩ := hxV; go_simp; try (with_reducible rfl))); (try simp only [Act.put, List.getElem_toArray, List.getElem_cons_succ, List.getElem_cons_zero, List.setIfInBounds_toArray, List.set_cons_zero, List.set_cons_succ])
        (refine wpAnyH_take (i := 7) (v := ?_) rfl (by kernel_rfl) (by kernel_rfl) (by kernel_rfl) (fun _ _ _ h => h) (Or.inl ⟨rfl, ?_⟩) (by assumption) ?_; rotate_left; focus (intro W hSw; (try dsimp only at hSw); obtain ⟨hSb, hxM, hxT, hxV⟩ := hSw; obtain ⟨⟨iM0, iM1, iM2, iM3, iM4, iM5, iM6, iM7, iM8⟩, _, _⟩ := hxM; obtain ⟨⟨iT0, iT1, iT2⟩, _, _⟩ := hxT; obtain ⟨⟨iV0, iV1, iV2⟩, _, _⟩ := hxV; go_simp; try (with_reducible rfl))); (try simp only [Act.put, List.getElem_toArray, List.getElem_cons_succ, List.getElem_cons_zero, List.setIfInBounds_toArray, List.set_cons_zero, List.set_cons_succ])
        refine wpAnyH_ready (rs := [9]) (by kernel_rfl) (by simp) ?_; refine AllReadyH.cons rfl (fun K hK => ?_) AllReadyH.nil
        obtain ⟨⟨a0, a1, a2⟩, ⟨f0, f1, f2⟩, az⟩ := HU.out; go_simp; clear a0 f0 a1 f1 a2 f2 az
        have HM := Lib.hid (((HM.out.far ⟨GU, 0, none⟩ (.int .i64 A) (by show GM ≠ GU; exact ne_M_U)).far ⟨GU, 1, none⟩ (.int .i64 B) (by show GM ≠ GU; exact ne_M_U)).far ⟨GU, 2, none⟩ (.int .i64 C) (by show GM ≠ GU; exact ne_M_U))
        have HT := Lib.hid (((HT.out.far ⟨GU, 0, none⟩ (.int .i64 A) (by show GT ≠ GU; exact ne_T_U)).far ⟨GU, 1, none⟩ (.int .i64 B) (by show GT ≠ GU; exact ne_T_U)).far ⟨GU, 2, none⟩ (.int .i64 C) (by show GT ≠ GU; exact ne_T_U))
        have HV := Lib.hid (((HV.out.far ⟨GU, 0, none⟩ (.int .i64 A) (by show GV ≠ GU; exact ne_V_U)).far ⟨GU, 1, none⟩ (.int .i64 B) (by show GV ≠ GU; exact ne_V_U)).far ⟨GU, 2, none⟩ (.int .i64 C) (by show GV ≠ GU; exact ne_V_U))
        have HU := Lib.hid (((HU.out.set0 A).set1 B).set2 C)
        refine hK.out _ _ ⟨(Below.setCell (Below.setCell (Below.setCell hHeld.1 (p := ⟨GU, 0, none⟩) le_U _) (p := ⟨GU, 1, none⟩) le_U _) (p := ⟨GU, 2, none⟩) le_U _), HM.out, HT.out, HV.out⟩ (fun hHeld2 => ?_); (clear hHeld; rename _ => hHeld; clear hK K; have hHeld : (fun W => Below w.heap.size w W ∧ Bk9 W GM x0 x1 x2 x3 x4 x5 x6 x7 x8 ∧ Bk3 W GT x9 x10 x11 ∧ Bk3 W GV A B C) _ := hHeld); (try simp only [Act.put, List.getElem_toArray, List.getElem_cons_succ, List.getElem_cons_zero, List.setIfInBounds_toArray, List.set_cons_zero, List.set_cons_succ])
        obtain ⟨ywr50x4, hwx⟩ : ∃ wx, ((ywr50x3.setCell ⟨GU, 0, none⟩ (.int .i64 A)).setCell ⟨GU, 1, none⟩ (.int .i64 B)).setCell ⟨GU, 2, none⟩ (.int .i64 C) = wx := ⟨_, rfl⟩; rw [hwx] at HM HT HV HU hHeld ⊢; clear hwx
        (refine wpAnyH_take (i := 10) (v := ?_) rfl (by kernel_rfl) (by kernel_rfl) (by kernel_rfl) (fun _ _ _ h => h) (Or.inl ⟨rfl, ?_⟩) (by assumption) ?_; rotate_left; focus (intro W hSw; (try dsimp only at hSw); obtain ⟨hSb, hxM, hxT, hxV⟩ := hSw; obtain ⟨⟨iM0, iM1, iM2, iM3, iM4, iM5, iM6, iM7, iM8⟩, _, _⟩ := hxM; obtain ⟨⟨iT0, iT1, iT2⟩, _, _⟩ := hxT; obtain ⟨⟨iV0, iV1, iV2⟩, _, _⟩ := hxV; go_simp; try (with_reducible rfl))); (try simp only [Act.put, List.getElem_toArray, List.getElem_cons_succ, List.getElem_cons_zero, List.setIfInBounds_toArray, List.set_cons_zero, List.set_cons_succ])
        refine wpAnyH_done (by kernel_rfl) ?_ _
        have HB := Lib.hid (hHeld.1)
        clear hHeld
        obtain ⟨⟨qM0, qM1, qM2, qM3, qM4, qM5, qM6, qM7, qM8⟩, ⟨fM0, fM1, fM2, fM3, fM4, fM5, fM6, fM7, fM8⟩, zM⟩ := HM.out
        obtain ⟨⟨qT0, qT1, qT2⟩, ⟨fT0, fT1, fT2⟩, zT⟩ := HT.out
        obtain ⟨⟨qV0, qV1, qV2⟩, ⟨fV0, fV1, fV2⟩, zV⟩ := HV.out
        obtain ⟨⟨qU0, qU1, qU2⟩, ⟨fU0, fU1, fU2⟩, zU⟩ := HU.out
        go_wp2_with fail
        go_at_call 21
        refine (eqTriple_same _ _ _ _).mono ?_
        rintro e w101 ⟨rfl, hb⟩
        clear qM0 fM0 qM1 fM1 qM2 fM2 qM3 fM3 qM4 fM4 qM5 fM5 qM6 fM6 qM7 fM7 qM8 fM8 zM qT0 fT0 qT1 fT1 qT2 fT2 zT qV0 fV0 qV1 fV1 qV2 fV2 zV qU0 fU0 qU1 fU1 qU2 fU2 zU
        have HM := Lib.hid (HM.out.below hb)
        have HT := Lib.hid (HT.out.below hb)
        have HV := Lib.hid (HV.out.below hb)
        have HU := Lib.hid (HU.out.below hb)
        have HB := Lib.hid (below_after hb HB.out)
        clear hb
        obtain ⟨⟨qM0, qM1, qM2, qM3, qM4, qM5, qM6, qM7, qM8⟩, ⟨fM0, fM1, fM2, fM3, fM4, fM5, fM6, fM7, fM8⟩, zM⟩ := HM.out
        obtain ⟨⟨qT0, qT1, qT2⟩, ⟨fT0, fT1, fT2⟩, zT⟩ := HT.out
        obtain ⟨⟨qV0, qV1, qV2⟩, ⟨fV0, fV1, fV2⟩, zV⟩ := HV.out
        obtain ⟨⟨qU0, qU1, qU2⟩, ⟨fU0, fU1, fU2⟩, zU⟩ := HU.out
        go_wp2_with fail
        go_ret
        have hb := HB.out
        exact ⟨rfl, by (repeat' (first | (with_reducible exact Below.refl _ _) | (with_reducible refine Below.alloc ?_ ?_ _) | (with_reducible refine Below.setCell ?_ ?_ _) | (with_reducible refine Below.drew ?_) | (with_reducible refine below_drewN ?_ _) | (with_reducible assumption) | (with_reducible refine below_after (by with_reducible assumption) ?_) | go_size))⟩
    · skip
      go_simp; obtain ⟨GU, hGU⟩ : ∃ G, wD50.heap.size = G := ⟨_, rfl⟩; have le_U : w.heap.size ≤ GU := by rw [← hGU]; exact Below.size hHeld.1
      have ne_U_M : GU ≠ GM := by have := HM.out.2.2; omega
      have ne_M_U : GM ≠ GU := Ne.symm ne_U_M
      have ne_U_T : GU ≠ GT := by have := HT.out.2.2; omega
      have ne_T_U : GT ≠ GU := Ne.symm ne_U_T
      have ne_U_V : GU ≠ GV := by have := HV.out.2.2; omega
      have ne_V_U : GV ≠ GU := Ne.symm ne_U_V
      have HM := Lib.hid (HM.out.below ((Below.refl _ _).alloc (Nat.le_refl _) (.cells #[.int .i64 0, .int .i64 0, .int .i64 0] 24))); have HT := Lib.hid (HT.out.below ((Below.refl _ _).alloc (Nat.le_refl _) (.cells #[.int .i64 0, .int .i64 0, .int .i64 0] 24))); have HV := Lib.hid (HV.out.below ((Below.refl _ _).alloc (Nat.le_refl _) (.cells #[.int .i64 0, .int .i64 0, .int .i64 0] 24))); skip
      have HU : Hid (Bk3 (wD50.alloc (.cells #[.int .i64 0, .int .i64 0, .int .i64 0] 24)) GU 0 0 0) := by rw [← hGU]; exact bk3_new wD50 0 0 0 _
      refine hK.out _ _ ⟨Below.alloc hHeld.1 (Below.size hHeld.1) _, HM.out, HT.out, HV.out⟩ (fun hHeld2 => ?_); (clear hHeld; rename _ => hHeld; clear hK K; have hHeld : (fun W => Below w.heap.size w W ∧ Bk9 W GM x0 x1 x2 x3 x4 x5 x6 x7 x8 ∧ Bk3 W GT x9 x10 x11 ∧ Bk3 W GV A B C) _ := hHeld); (try simp only [Act.put, List.getElem_toArray, List.getElem_cons_succ, List.getElem_cons_zero, List.setIfInBounds_toArray, List.set_cons_zero, List.set_cons_succ])
      rw [hGU]; clear hGU; obtain ⟨ywr50x0, hwx⟩ : ∃ wx, wD50.alloc (.cells #[.int .i64 0, .int .i64 0, .int .i64 0] 24) = wx := ⟨_, rfl⟩; rw [hwx] at HM HT HV HU hHeld ⊢; clear hwx
      refine wpAnyH_ready (rs := [1]) (by kernel_rfl) (by simp) ?_; refine AllReadyH.cons rfl (fun K hK => ?_) AllReadyH.nil
      go_simp; (go_at_call 39; refine (toSquare_any _ _ _ _ _ _ _ _ _ _).mono ?_; rintro en ywr50x1 ⟨rfl, hb2⟩); have HM := Lib.hid (HM.out.below hb2); have HT := Lib.hid (HT.out.below hb2); have HV := Lib.hid (HV.out.below hb2); have HU := Lib.hid (HU.out.below hb2); refine hK.out _ _ ⟨below_after hb2 hHeld.1, HM.out, HT.out, HV.out⟩ (fun hHeld2 => ?_); clear hb2; (clear hHeld; rename _ => hHeld; clear hK K; have hHeld : (fun W => Below w.heap.size w W ∧ Bk9 W GM x0 x1 x2 x3 x4 x5 x6 x7 x8 ∧ Bk3 W GT x9 x10 x11 ∧ Bk3 W GV A B C) _ := hHeld); (try simp only [Act.put, List.getElem_toArray, List.getElem_cons_succ, List.getElem_cons_zero, List.setIfInBounds_toArray, List.set_cons_zero, List.set_cons_succ])
      refine wpAnyH_ready (rs := [3]) (by kernel_rfl) (by simp) ?_; refine AllReadyH.cons rfl (fun K hK => ?_) AllReadyH.nil
      go_simp; (go_at_call 17; refine (toTriple_any _ _ _ _).mono ?_; rintro en ywr50x2 ⟨rfl, hb2⟩); have HM := Lib.hid (HM.out.below hb2); have HT := Lib.hid (HT.out.below hb2); have HV := Lib.hid (HV.out.below hb2); have HU := Lib.hid (HU.out.below hb2); refine hK.out _ _ ⟨below_after hb2 hHeld.1, HM.out, HT.out, HV.out⟩ (fun hHeld2 => ?_); clear hb2; (clear hHeld; rename _ => hHeld; clear hK K; have hHeld : (fun W => Below w.heap.size w W ∧ Bk9 W GM x0 x1 x2 x3 x4 x5 x6 x7 x8 ∧ Bk3 W GT x9 x10 x11 ∧ Bk3 W GV A B C) _ := hHeld); (try simp only [Act.put, List.getElem_toArray, List.getElem_cons_succ, List.getElem_cons_zero, List.setIfInBounds_toArray, List.set_cons_zero, List.set_cons_succ])
      refine wpAnyH_ready (rs := [4]) (by kernel_rfl) (by simp) ?_; refine AllReadyH.cons rfl (fun K hK => ?_) AllReadyH.nil
      go_simp; (go_at_call 40; refine (HI.out _).mono ?_; rintro en ywr50x3 ⟨rfl, hb2⟩); have HM := Lib.hid (HM.out.below hb2); have HT := Lib.hid (HT.out.below hb2); have HV := Lib.hid (HV.out.below hb2); have HU := Lib.hid (HU.out.below hb2); refine hK.out _ _ ⟨below_after hb2 hHeld.1, HM.out, HT.out, HV.out⟩ (fun hHeld2 => ?_); clear hb2; (clear hHeld; rename _ => hHeld; clear hK K; have hHeld : (fun W => Below w.heap.size w W ∧ Bk9 W GM x0 x1 x2 x3 x4 x5 x6 x7 x8 ∧ Bk3 W GT x9 x10 x11 ∧ Bk3 W GV A B C) _ := hHeld); (try simp only [Act.put, List.getElem_toArray, List.getElem_cons_succ, List.getElem_cons_zero, List.setIfInBounds_toArray, List.set_cons_zero, List.set_cons_succ])
      (refine wpAnyH_take (i := 5) (v := ?_) rfl (by kernel_rfl) (by kernel_rfl) (by kernel_rfl) (fun _ _ _ h => h) (Or.inl ⟨rfl, ?_⟩) (by assumption) ?_; rotate_left; focus (intro W hSw; (try dsimp only at hSw); obtain ⟨hSb, hxM, hxT, hxV⟩ := hSw; obtain ⟨⟨iM0, iM1, iM2, iM3, iM4, iM5, iM6, iM7, iM8⟩, _, _⟩ := hxM; obtain ⟨⟨iT0, iT1, iT2⟩, _, _⟩ := hxT; obtain ⟨⟨iV0, iV1, iV2⟩, _, _⟩ := hxV; go_simp; try (with_reducible rfl))); (try simp only [Act.put, List.getElem_toArray, List.getElem_cons_succ, List.getElem_cons_zero, List.setIfInBounds_toArray, List.set_cons_zero, List.set_cons_succ])
      (refine wpAnyH_take (i := 6) (v := ?_) rfl (by kernel_rfl) (by kernel_rfl) (by kernel_rfl) (fun _ _ _ h => h) (Or.inl ⟨rfl, ?_⟩) (by assumption) ?_; rotate_left; focus (intro W hSw; (try dsimp only at hSw); obtain ⟨hSb, hxM, hxT, hxV⟩ := hSw; obtain ⟨⟨iM0, iM1, iM2, iM3, iM4, iM5, iM6, iM7, iM8⟩, _, _⟩ := hxM; obtain ⟨⟨iT0, iT1, iT2⟩, _, _⟩ := hxT; obtain ⟨⟨iV0, iV1, iV2⟩, _, _⟩ := hxV; go_simp; try (with_reducible rfl))); (try simp only [Act.put, List.getElem_toArray, List.getElem_cons_succ, List.getElem_cons_zero, List.setIfInBounds_toArray, List.set_cons_zero, List.set_cons_succ])
      (refine wpAnyH_take (i := 7) (v := ?_) rfl (by kernel_rfl) (by kernel_rfl) (by kernel_rfl) (fun _ _ _ h => h) (Or.inl ⟨rfl, ?_⟩) (by assumption) ?_; rotate_left; focus (intro W hSw; (try dsimp only at hSw); obtain ⟨hSb, hxM, hxT, hxV⟩ := hSw; obtain ⟨⟨iM0, iM1, iM2, iM3, iM4, iM5, iM6, iM7, iM8⟩, _, _⟩ := hxM; obtain ⟨⟨iT0, iT1, iT2⟩, _, _⟩ := hxT; obtain ⟨⟨iV0, iV1, iV2⟩, _, _⟩ := hxV; go_simp; try (with_reducible rfl))); (try simp only [Act.put, List.getElem_toArray, List.getElem_cons_succ, List.getElem_cons_zero, List.setIfInBounds_toArray, List.set_cons_zero, List.set_cons_succ])
      refine wpAnyH_ready (rs := [9]) (by kernel_rfl) (by simp) ?_; refine AllReadyH.cons rfl (fun K hK => ?_) AllReadyH.nil
      obtain ⟨⟨a0, a1, a2⟩, ⟨f0, f1, f2⟩, az⟩ := HU.out; go_simp; clear a0 f0 a1 f1 a2 f2 az
      have HM := Lib.hid (((HM.out.far ⟨GU, 0, none⟩ (.int .i64 A) (by show GM ≠ GU; exact ne_M_U)).far ⟨GU, 1, none⟩ (.int .i64 B) (by show GM ≠ GU; exact ne_M_U)).far ⟨GU, 2, none⟩ (.int .i64 C) (by show GM ≠ GU; exact ne_M_U))
      have HT := Lib.hid (((HT.out.far ⟨GU, 0, none⟩ (.int .i64 A) (by show GT ≠ GU; exact ne_T_U)).far ⟨GU, 1, none⟩ (.int .i64 B) (by show GT ≠ GU; exact ne_T_U)).far ⟨GU, 2, none⟩ (.int .i64 C) (by show GT ≠ GU; exact ne_T_U))
      have HV := Lib.hid (((HV.out.far ⟨GU, 0, none⟩ (.int .i64 A) (by show GV ≠ GU; exact ne_V_U)).far ⟨GU, 1, none⟩ (.int .i64 B) (by show GV ≠ GU; exact ne_V_U)).far ⟨GU, 2, none⟩ (.int .i64 C) (by show GV ≠ GU; exact ne_V_U))
      have HU := Lib.hid (((HU.out.set0 A).set1 B).set2 C)
      refine hK.out _ _ ⟨(Below.setCell (Below.setCell (Below.setCell hHeld.1 (p := ⟨GU, 0, none⟩) le_U _) (p := ⟨GU, 1, none⟩) le_U _) (p := ⟨GU, 2, none⟩) le_U _), HM.out, HT.out, HV.out⟩ (fun hHeld2 => ?_); (clear hHeld; rename _ => hHeld; clear hK K; have hHeld : (fun W => Below w.heap.size w W ∧ Bk9 W GM x0 x1 x2 x3 x4 x5 x6 x7 x8 ∧ Bk3 W GT x9 x10 x11 ∧ Bk3 W GV A B C) _ := hHeld); (try simp only [Act.put, List.getElem_toArray, List.getElem_cons_succ, List.getElem_cons_zero, List.setIfInBounds_toArray, List.set_cons_zero, List.set_cons_succ])
      obtain ⟨ywr50x4, hwx⟩ : ∃ wx, ((ywr50x3.setCell ⟨GU, 0, none⟩ (.int .i64 A)).setCell ⟨GU, 1, none⟩ (.int .i64 B)).setCell ⟨GU, 2, none⟩ (.int .i64 C) = wx := ⟨_, rfl⟩; rw [hwx] at HM HT HV HU hHeld ⊢; clear hwx
      (refine wpAnyH_take (i := 10) (v := ?_) rfl (by kernel_rfl) (by kernel_rfl) (by kernel_rfl) (fun _ _ _ h => h) (Or.inl ⟨rfl, ?_⟩) (by assumption) ?_; rotate_left; focus (intro W hSw; (try dsimp only at hSw); obtain ⟨hSb, hxM, hxT, hxV⟩ := hSw; obtain ⟨⟨iM0, iM1, iM2, iM3, iM4, iM5, iM6, iM7, iM8⟩, _, _⟩ := hxM; obtain ⟨⟨iT0, iT1, iT2⟩, _, _⟩ := hxT; obtain ⟨⟨iV0, iV1, iV2⟩, _, _⟩ := hxV; go_simp; try (with_reducible rfl))); (try simp only [Act.put, List.getElem_toArray, List.getElem_cons_succ, List.getElem_cons_zero, List.setIfInBounds_toArray, List.set_cons_zero, List.set_cons_succ])
      refine wpAnyH_done (by kernel_rfl) ?_ _
      have HB := Lib.hid (hHeld.1)
      clear hHeld
      obtain ⟨⟨qM0, qM1, qM2, qM3, qM4, qM5, qM6, qM7, qM8⟩, ⟨fM0, fM1, fM2, fM3, fM4, fM5, fM6, fM7, fM8⟩, zM⟩ := HM.out
      obtain ⟨⟨qT0, qT1, qT2⟩, ⟨fT0, fT1, fT2⟩, zT⟩ := HT.out
      obtain ⟨⟨qV0, qV1, qV2⟩, ⟨fV0, fV1, fV2⟩, zV⟩ := HV.out
      obtain ⟨⟨qU0, qU1, qU2⟩, ⟨fU0, fU1, fU2⟩, zU⟩ := HU.out
      go_wp2_with fail
      go_at_call 21
      refine (eqTriple_same _ _ _ _).mono ?_
      rintro e w101 ⟨rfl, hb⟩
      clear qM0 fM0 qM1 fM1 qM2 fM2 qM3 fM3 qM4 fM4 qM5 fM5 qM6 fM6 qM7 fM7 qM8 fM8 zM qT0 fT0 qT1 fT1 qT2 fT2 zT qV0 fV0 qV1 fV1 qV2 fV2 zV qU0 fU0 qU1 fU1 qU2 fU2 zU
      have HM := Lib.hid (HM.out.below hb)
      have HT := Lib.hid (HT.out.below hb)
      have HV := Lib.hid (HV.out.below hb)
      have HU := Lib.hid (HU.out.below hb)
      have HB := Lib.hid (below_after hb HB.out)
      clear hb
      obtain ⟨⟨qM0, qM1, qM2, qM3, qM4, qM5, qM6, qM7, qM8⟩, ⟨fM0, fM1, fM2, fM3, fM4, fM5, fM6, fM7, fM8⟩, zM⟩ := HM.out
      obtain ⟨⟨qT0, qT1, qT2⟩, ⟨fT0, fT1, fT2⟩, zT⟩ := HT.out
      obtain ⟨⟨qV0, qV1, qV2⟩, ⟨fV0, fV1, fV2⟩, zV⟩ := HV.out
      obtain ⟨⟨qU0, qU1, qU2⟩, ⟨fU0, fU1, fU2⟩, zU⟩ := HU.out
      go_wp2_with fail
      go_ret
      have hb := HB.out
      exact ⟨rfl, by (repeat' (first | (with_reducible exact Below.refl _ _) | (with_reducible refine Below.alloc ?_ ?_ _) | (with_reducible refine Below.setCell ?_ ?_ _) | (with_reducible refine Below.drew ?_) | (with_reducible refine below_drewN ?_ _) | (with_reducible assumption) | (with_reducible refine below_after (by with_reducible assumption) ?_) | go_size))⟩
end Go.Proofs.Ytbgifgfegndlkaa
